/- Names are there once; what one unit of each kind is worth. Plain mathematics. -/
import Derived.Test.YtdmpeagnbpdidaaDoorKwC
namespace Go.Proofs.YtdmpeagnbpdidaaDoor
set_option linter.unusedVariables false

theorem kgo_once : ∀ {l acc : List Kd.K}, Kd.kindsGo acc l = 0 → ∀ (i : Nat) k, l[i]? = some k → ((acc ++ l.take i).any fun a => a.name == k.name) = false
  | [], _, _, i, k, hk => by simp at hk
  | x :: l, acc, h, i, k, hk => by
    unfold Kd.kindsGo at h
    split at h
    · rename_i h0
      cases i with
      | zero =>
        simp at hk
        subst hk
        unfold Kd.kindFault at h0
        split at h0
        · split at h0
          · omega
          · rename_i hn
            simpa using hn
        · omega
      | succ i =>
        have := kgo_once h i k (by simpa using hk)
        simpa using this
    · rename_i h0
      exact absurd h h0
theorem names_once {ks : List KV} (h : Kd.kindsFault (ks.map KV.k) = 0) {i j : Nat} {a b : KV} (hi : ks[i]? = some a) (hj : ks[j]? = some b) (e : a.k.name = b.k.name) : i = j := by
  have key : ∀ {i j : Nat} {a b : KV}, ks[i]? = some a → ks[j]? = some b → a.k.name = b.k.name → ¬ i < j := by
    intro i j a b hi hj e hlt
    unfold Kd.kindsFault at h
    split at h
    · omega
    · have h1 := kgo_once h j b.k (by rw [List.getElem?_map, hj]; rfl)
      rw [List.nil_append, List.any_eq_false] at h1
      have h2 := h1 a.k (by
        rw [List.mem_iff_getElem?]
        exact ⟨i, by rw [List.getElem?_take, if_pos hlt, List.getElem?_map, hi]; rfl⟩)
      rw [e] at h2
      simp at h2
  have h1 := key hi hj e
  have h2 := key hj hi e.symm
  omega

def mkU (i : Nat) (k : KV) : UnV := ⟨0, 2, i, 0, k.n0, 0, 0, 0⟩
/-- one unit of each of the first kinds. -/
def Us (ks : List KV) (us : List UnV) : Prop := us.length ≤ ks.length ∧ ∀ (i : Nat) u, us[i]? = some u → ∃ k, ks[i]? = some k ∧ u = mkU i k
theorem Us.nil (ks : List KV) : Us ks [] := ⟨by simp, fun i u h => by simp at h⟩
theorem Us.snoc {ks : List KV} {us : List UnV} {k : KV} (h : Us ks us) (hk : ks[us.length]? = some k) : Us ks (us ++ [mkU us.length k]) := by
  refine ⟨?_, fun i u hi => ?_⟩
  · have := (List.getElem?_eq_some_iff.1 hk).1
    simp
    omega
  · rw [List.getElem?_append] at hi
    split at hi
    · exact h.2 i u hi
    · rename_i hl
      have hz : i - us.length = 0 := by
        have := (List.getElem?_eq_some_iff.1 hi).1
        simp at this
        omega
      rw [hz] at hi
      simp at hi
      have : i = us.length := by omega
      subst this
      exact ⟨k, hk, hi.symm⟩
def price (ks : List KV) (n : Nat) : Int := (ks.take n).foldl (fun s k => s + k.n5) 0
theorem price_next {ks : List KV} {n : Nat} {k : KV} (h : ks[n]? = some k) : price ks (n + 1) = price ks n + k.n5 := by
  obtain ⟨hi, e⟩ := List.getElem?_eq_some_iff.1 h
  unfold price
  rw [List.take_succ_eq_append_getElem hi, List.foldl_append, e]
  rfl
theorem Us.good {ks : List KV} {us : List UnV} (h : Us ks us) (hk : ∀ k ∈ ks, 0 < k.n0) : us.any (unBad ks) = false := by
  rw [List.any_eq_false]
  intro u hu
  obtain ⟨i, hi⟩ := List.mem_iff_getElem?.1 hu
  obtain ⟨k, e, rfl⟩ := h.2 i u hi
  unfold unBad
  have := hk k (List.mem_of_getElem? e)
  rw [show (mkU i k).kind = (i : Int) from rfl, kindAt_nat, e]
  have h9 : ¬ ((mkU i k).player < 0 ∨ 3 < (mkU i k).player ∨ (mkU i k).life < 0 ∨ k.n0 < (mkU i k).life) := by
    show ¬ ((2 : Int) < 0 ∨ (3 : Int) < 2 ∨ k.n0 < 0 ∨ k.n0 < k.n0)
    omega
  simp only [decide_eq_true_eq]
  exact h9
theorem Us.worth {ks : List KV} {us : List UnV} (h : Us ks us) (hk : ∀ k ∈ ks, 0 < k.n0) : ∀ n, n ≤ us.length → worthOf ks (us.take n) 2 = price ks n ∧ worthOf ks (us.take n) 0 = 0 ∧ worthOf ks (us.take n) 3 = 0
  | 0, _ => by simp [worthOf, price]
  | n + 1, hn => by
    obtain ⟨h1, h2, h3⟩ := h.worth hk n (by omega)
    obtain ⟨u, e⟩ : ∃ u, us[n]? = some u := ⟨_, List.getElem?_eq_getElem (by omega)⟩
    obtain ⟨k, ek, rfl⟩ := h.2 n u e
    have h0 := hk k (List.mem_of_getElem? ek)
    have hw : worthOne ks (mkU n k) = k.n5 := by
      unfold worthOne
      rw [show (mkU n k).kind = (n : Int) from rfl, kindAt_nat, ek]
      simp only [mkU]
      exact Int.mul_tdiv_cancel _ (by omega)
    have hp : (mkU n k).player = 2 := rfl
    rw [worthOf_next e, worthOf_next e, worthOf_next e, hp, hw, h1, h2, h3, price_next ek]
    exact ⟨rfl, rfl, rfl⟩
theorem price_bound {ks : List KV} (hk : ∀ k ∈ ks, 0 ≤ k.n5 ∧ k.n5 ≤ 1000) : ∀ n, n ≤ ks.length → 0 ≤ price ks n ∧ price ks n ≤ 1000 * n
  | 0, _ => by simp [price]
  | n + 1, h => by
    obtain ⟨k, e⟩ : ∃ k, ks[n]? = some k := ⟨_, List.getElem?_eq_getElem (by omega)⟩
    have a := price_bound hk n (by omega)
    have b := hk k (List.mem_of_getElem? e)
    rw [price_next e]
    omega
end Go.Proofs.YtdmpeagnbpdidaaDoor
