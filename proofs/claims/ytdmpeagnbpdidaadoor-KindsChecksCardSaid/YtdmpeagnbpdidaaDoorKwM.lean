/- What units are worth. Plain mathematics. -/
import Derived.Test.YtdmpeagnbpdidaaDoorKdA
import Derived.Test.YtdmpeagnbpdidaaDoorUnA
namespace Go.Proofs.YtdmpeagnbpdidaaDoor
set_option linter.unusedVariables false

/-- the kind of a number; whether a unit is none. -/
def kindAt (ks : List KV) (n : Int) : Option KV := if n < 0 then none else ks[n.toNat]?
def unBad (ks : List KV) (u : UnV) : Bool := match kindAt ks u.kind with
  | none => true
  | some k => decide (u.player < 0 ∨ 3 < u.player ∨ u.life < 0 ∨ k.n0 < u.life)
def worthOne (ks : List KV) (u : UnV) : Int := match kindAt ks u.kind with
  | none => 0
  | some k => (k.n5 * u.life).tdiv k.n0
/-- the sum of a player. -/
def worthOf (ks : List KV) (us : List UnV) (j : Int) : Int := us.foldl (fun s u => if u.player = j then s + worthOne ks u else s) 0
def worths (ks : List KV) (us : List UnV) : List Int := [worthOf ks us 0, worthOf ks us 1, worthOf ks us 2, worthOf ks us 3]

theorem kindAt_nat (ks : List KV) (i : Nat) : kindAt ks (i : Int) = ks[i]? := by
  unfold kindAt
  rw [if_neg (by omega)]
  rfl
theorem worthOf_next {ks : List KV} {us : List UnV} {n : Nat} {u : UnV} (h : us[n]? = some u) (j : Int) : worthOf ks (us.take (n + 1)) j = if u.player = j then worthOf ks (us.take n) j + worthOne ks u else worthOf ks (us.take n) j := by
  obtain ⟨hi, e⟩ := List.getElem?_eq_some_iff.1 h
  unfold worthOf
  rw [List.take_succ_eq_append_getElem hi, List.foldl_append, e]
  rfl
theorem unBad_kind {ks : List KV} {u : UnV} (h : unBad ks u = false) : ∃ (i : Nat) (k : KV), u.kind = i ∧ ks[i]? = some k ∧ 0 ≤ u.player ∧ u.player ≤ 3 ∧ 0 ≤ u.life ∧ u.life ≤ k.n0 ∧ worthOne ks u = (k.n5 * u.life).tdiv k.n0 := by
  unfold unBad at h
  cases hk : kindAt ks u.kind with
  | none => rw [hk] at h; cases h
  | some k =>
    rw [hk] at h
    have h2 := of_decide_eq_false h
    unfold kindAt at hk
    split at hk
    · cases hk
    · refine ⟨u.kind.toNat, k, by omega, hk, by omega, by omega, by omega, by omega, ?_⟩
      unfold worthOne kindAt
      rw [if_neg (by assumption), hk]
/-- each part is from 0 to 1000. -/
theorem part_le {p l m : Int} (h1 : 0 ≤ p) (h2 : p ≤ 1000) (h3 : 0 ≤ l) (h4 : l ≤ m) (h5 : 0 < m) : 0 ≤ (p * l).tdiv m ∧ (p * l).tdiv m ≤ 1000 := by
  have h6 : 0 ≤ p * l := Int.mul_nonneg h1 h3
  rw [Int.tdiv_eq_ediv_of_nonneg h6]
  refine ⟨Int.ediv_nonneg h6 (by omega), ?_⟩
  have h7 : p * l ≤ 1000 * m := Int.mul_le_mul h2 h4 h3 (by decide)
  calc p * l / m ≤ 1000 * m / m := Int.ediv_le_ediv h5 h7
    _ = 1000 := Int.mul_ediv_cancel _ (by omega)
theorem worthOf_bound {ks : List KV} (hk : ∀ k ∈ ks, 0 ≤ k.n5 ∧ k.n5 ≤ 1000 ∧ 0 < k.n0) {us : List UnV} (hu : us.any (unBad ks) = false) (j : Int) : ∀ n, n ≤ us.length → 0 ≤ worthOf ks (us.take n) j ∧ worthOf ks (us.take n) j ≤ 1000 * n
  | 0, _ => by simp [worthOf]
  | n + 1, h => by
    have ih := worthOf_bound hk hu j n (by omega)
    obtain ⟨u, e⟩ : ∃ u, us[n]? = some u := ⟨_, List.getElem?_eq_getElem (by omega)⟩
    have hb : unBad ks u = false := by
      rw [List.any_eq_false] at hu
      have := hu u (List.mem_of_getElem? e)
      simpa using this
    obtain ⟨i, k, _, h2, _, _, h5, h6, h7⟩ := unBad_kind hb
    have h8 := hk k (List.mem_of_getElem? h2)
    have h9 := part_le h8.1 h8.2.1 h5 h6 h8.2.2
    rw [worthOf_next e, h7]
    split <;> omega
end Go.Proofs.YtdmpeagnbpdidaaDoor
