/- Fields: plain mathematics. -/
namespace Go.Proofs.YthccneiafofakaaDoor.Fd

/-- what is wrong with a cell. -/
def cellFault (g o : Int) : Int := if g < 0 ∨ 3 < g ∨ o < 0 ∨ 1000000 < o then 1 else if 0 < o ∧ g ≠ 0 then 7 else 0
def cellsFault : List Int → List Int → Int
  | g :: gs, o :: os => if cellFault g o = 0 then cellsFault gs os else cellFault g o
  | _, _ => 0
/-- what is wrong with a field. -/
def fault (W H : Int) (gs os : List Int) : Int :=
  if W < 1 ∨ 12 < W ∨ H < 1 ∨ 12 < H then 1 else if (gs.length : Int) ≠ W * H ∨ (os.length : Int) ≠ W * H then 3 else cellsFault gs os

/-- a field with which nothing is wrong. -/
structure Good (W H : Nat) (gs os : List Int) : Prop where
  w1 : 1 ≤ W
  w2 : W ≤ 12
  h1 : 1 ≤ H
  h2 : H ≤ 12
  gl : gs.length = W * H
  ol : os.length = W * H
  cell : ∀ (i : Nat) g o, gs[i]? = some g → os[i]? = some o → 0 ≤ g ∧ g ≤ 3 ∧ 0 ≤ o ∧ o ≤ 1000000 ∧ (0 < o → g = 0)

theorem cellFault_zero {g o : Int} (h : cellFault g o = 0) : 0 ≤ g ∧ g ≤ 3 ∧ 0 ≤ o ∧ o ≤ 1000000 ∧ (0 < o → g = 0) := by
  unfold cellFault at h
  split at h
  · omega
  · split at h
    · omega
    · omega
theorem cellsFault_zero : ∀ (gs os : List Int), cellsFault gs os = 0 → ∀ (i : Nat) g o, gs[i]? = some g → os[i]? = some o → cellFault g o = 0
  | [], _, _, i, g, o, h1, _ => by simp at h1
  | _ :: _, [], _, i, g, o, _, h2 => by simp at h2
  | g0 :: gs, o0 :: os, h, i, g, o, h1, h2 => by
    unfold cellsFault at h
    split at h
    · rename_i hc
      cases i with
      | zero => simp at h1 h2; subst h1; subst h2; exact hc
      | succ i => exact cellsFault_zero gs os h i g o (by simpa using h1) (by simpa using h2)
    · rename_i hc
      exact absurd h hc
theorem cellsFault_range (gs os : List Int) : cellsFault gs os = 0 ∨ cellsFault gs os = 1 ∨ cellsFault gs os = 7 := by
  induction gs generalizing os with
  | nil => left; unfold cellsFault; rfl
  | cons g gs ih =>
    cases os with
    | nil => left; unfold cellsFault; rfl
    | cons o os =>
      unfold cellsFault
      split
      · exact ih os
      · unfold cellFault
        split
        · right; left; rfl
        · split
          · right; right; rfl
          · left; rfl
theorem fault_range (W H : Int) (gs os : List Int) : fault W H gs os = 0 ∨ fault W H gs os = 1 ∨ fault W H gs os = 3 ∨ fault W H gs os = 7 := by
  unfold fault
  split
  · omega
  · split
    · omega
    · have := cellsFault_range gs os; omega
theorem fault_zero {W H : Int} {gs os : List Int} (h : fault W H gs os = 0) : ∃ W' H' : Nat, W = W' ∧ H = H' ∧ Good W' H' gs os := by
  unfold fault at h
  split at h
  · omega
  · split at h
    · omega
    · rename_i h1 h2
      refine ⟨W.toNat, H.toNat, by omega, by omega, by omega, by omega, by omega, by omega, ?_, ?_, fun i g o hg ho => cellFault_zero (cellsFault_zero gs os h i g o hg ho)⟩
      · have e : ((W.toNat * H.toNat : Nat) : Int) = W * H := by rw [Int.natCast_mul, Int.toNat_of_nonneg (by omega), Int.toNat_of_nonneg (by omega)]
        omega
      · have e : ((W.toNat * H.toNat : Nat) : Int) = W * H := by rw [Int.natCast_mul, Int.toNat_of_nonneg (by omega), Int.toNat_of_nonneg (by omega)]
        omega
theorem cellFault_of {g o : Int} (h : 0 ≤ g ∧ g ≤ 3 ∧ 0 ≤ o ∧ o ≤ 1000000 ∧ (0 < o → g = 0)) : cellFault g o = 0 := by
  unfold cellFault
  rw [if_neg (by omega), if_neg (by omega)]
theorem cellsFault_of : ∀ (gs os : List Int), (∀ (i : Nat) g o, gs[i]? = some g → os[i]? = some o → cellFault g o = 0) → cellsFault gs os = 0
  | [], _, _ => by unfold cellsFault; rfl
  | _ :: _, [], _ => by unfold cellsFault; rfl
  | g :: gs, o :: os, h => by
    unfold cellsFault
    rw [if_pos (h 0 g o rfl rfl)]
    exact cellsFault_of gs os fun i g' o' h1 h2 => h (i + 1) g' o' (by simpa using h1) (by simpa using h2)
theorem fault_good {W H : Nat} {gs os : List Int} (h : Good W H gs os) : fault W H gs os = 0 := by
  have e : ((W * H : Nat) : Int) = (W : Int) * H := Int.natCast_mul _ _
  have := h.gl; have := h.ol; have := h.w1; have := h.w2; have := h.h1; have := h.h2
  unfold fault
  rw [if_neg (by omega), if_neg (by omega)]
  exact cellsFault_of gs os fun i g o h1 h2 => cellFault_of (h.cell i g o h1 h2)
theorem Good.pos {W H : Nat} {gs os : List Int} (h : Good W H gs os) : 1 ≤ W * H ∧ W * H ≤ 144 := by
  have h1 := Nat.mul_le_mul h.w1 h.h1
  have h2 := Nat.mul_le_mul h.w2 h.h2
  omega
theorem cellsFault_drop (gs os : List Int) (k : Nat) (g o : Int) (hg : gs[k]? = some g) (ho : os[k]? = some o) :
    cellsFault (gs.drop k) (os.drop k) = if cellFault g o = 0 then cellsFault (gs.drop (k + 1)) (os.drop (k + 1)) else cellFault g o := by
  obtain ⟨h1, e1⟩ := List.getElem?_eq_some_iff.1 hg
  obtain ⟨h2, e2⟩ := List.getElem?_eq_some_iff.1 ho
  rw [List.drop_eq_getElem_cons h1, List.drop_eq_getElem_cons h2, e1, e2]
  rfl

/-- the fault of a cell's number. -/
def askFault (F : Int) (n : Nat) (xs : List Int) : Int := if F ≠ 0 then F else if xs.all (fun x => decide (0 ≤ x ∧ x < n)) then 0 else 6

/-- the cells beside one. -/
def near (W H a : Nat) : List Int :=
  (if 0 < a / W then [(a : Int) - W] else []) ++ ((if 0 < a % W then [(a : Int) - 1] else []) ++ ((if a % W + 1 < W then [(a : Int) + 1] else []) ++ (if a / W + 1 < H then [(a : Int) + W] else [])))

/-- how far it is onto a ground. -/
def onto (g : Int) (flies : Bool) : Int := if g = 1 then 0 else if g = 2 then (if flies then 1 else 0) else if g = 3 then (if flies then 1 else 2) else 1
end Go.Proofs.YthccneiafofakaaDoor.Fd
