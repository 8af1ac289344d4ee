/- What is wrong with two cells; what may be reached, said twice: plain mathematics. -/
import Derived.Test.YtogdaegnpoknlaaDoorPwM
import Derived.Test.YtogdaegnpoknlaaDoorFdMath
namespace Go.Proofs.YtogdaegnpoknlaaDoor
open Wy

theorem ask_one_or {F : Int} {n : Nat} {x : Int} : Fd.askFault F n [x] = if F ≠ 0 then F else if 0 ≤ x ∧ x < (n : Int) then 0 else 6 := by
  unfold Fd.askFault
  simp
theorem ask_two_or {F : Int} {n : Nat} {a b : Int} : Fd.askFault F n [a, b] = if F ≠ 0 then F else if (0 ≤ a ∧ a < (n : Int)) ∧ (0 ≤ b ∧ b < (n : Int)) then 0 else 6 := by
  unfold Fd.askFault
  simp
theorem ask_two {F : Int} {n : Nat} {a b : Int} : Fd.askFault F n [a, b] = if Fd.askFault F n [b] ≠ 0 then Fd.askFault F n [b] else Fd.askFault F n [a] := by
  rw [ask_one_or, ask_one_or, ask_two_or]
  repeat' split
  all_goals omega
theorem ask_ok {W H : Int} {gs os : List Int} {x : Int} (h : Fd.askFault (Fd.fault W H gs os) gs.length [x] = 0) : ∃ W' H' a : Nat, W = W' ∧ H = H' ∧ x = a ∧ Fd.Good W' H' gs os ∧ a < W' * H' := by
  rw [ask_one_or] at h
  split at h
  · rename_i hF
    exact absurd h hF
  · rename_i hF
    split at h
    · rename_i hx
      obtain ⟨W', H', h1, h2, G⟩ := Fd.fault_zero (W := W) (H := H) (gs := gs) (os := os) (by omega)
      refine ⟨W', H', x.toNat, h1, h2, by omega, G, ?_⟩
      rw [← G.gl]
      omega
    · omega

theorem reach_same {nb : Nat → List Int} {s : Nat → Int} {a n : Nat} {l ds : List Int} (E : Even nb (fun _ j => s j) n) (hl : IsFar nb (fun i _ => s i) a n l) (hd : ds.length = n) (h : ∀ (i : Nat) d, ds[i]? = some d → Least nb (fun _ j => s j) i a d) (ha : a < n) : ds = l := by
  apply List.ext_getElem?
  intro i
  by_cases hi : i < n
  · have h1 : i < ds.length := by omega
    have h2 : i < l.length := by rw [hl.1]; exact hi
    rw [List.getElem?_eq_getElem h1, List.getElem?_eq_getElem h2]
    have k1 := h i _ (List.getElem?_eq_getElem h1)
    have k2 := (hl.2 i _ (List.getElem?_eq_getElem h2)).turn E hi ha
    rw [k1.uniq k2]
  · rw [List.getElem?_eq_none (by omega), List.getElem?_eq_none (by rw [hl.1]; omega)]
theorem rch_cong {l l' : List Int} {m : Int} : ∀ {k : Nat}, (∀ i, i < k → l.getD i 0 = l'.getD i 0) → rch l m k = rch l' m k
  | 0, _ => rfl
  | k + 1, h => by rw [rch_succ, rch_succ, rch_cong (fun i hi => h i (by omega)), h k (by omega)]
theorem rch_snoc {ds : List Int} {m d : Int} {k : Nat} (hk : ds.length = k) : rch (ds ++ [d]) m (k + 1) = rch ds m k ++ (if 0 ≤ d ∧ d ≤ m then [(k : Int)] else []) := by
  rw [rch_succ]
  have e : (ds ++ [d]).getD k 0 = d := by rw [List.getD_eq_getElem?_getD, List.getElem?_append_right (by omega), hk, Nat.sub_self]; rfl
  rw [e, rch_cong (l' := ds) fun i hi => by rw [List.getD_eq_getElem?_getD, List.getD_eq_getElem?_getD, List.getElem?_append_left (by omega)]]
end Go.Proofs.YtogdaegnpoknlaaDoor
