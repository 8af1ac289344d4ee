/- A land: the cells beside each, and how far it is onto each. -/
import Derived.Test.YtogdaegnpoknlaaDoorFdOwn
namespace Go.Proofs.YtogdaegnpoknlaaDoor
open Go.RowKit
set_option linter.unusedVariables false

/-- v is a slice of n lists: the i-th is nb i. -/
def Bs (w : World) (v : Value) (n : Nat) (nb : Nat → List Int) : Prop := ∃ x c, v = .slice (some x) n c ∧ n ≤ c ∧ c ≤ 9223372036854775807 ∧ ∀ i, i < n → ∃ u, w.cell? (x.add i) = some u ∧ Ro w u (nb i)
theorem Bs.below {w w' : World} {v : Value} {n : Nat} {nb : Nat → List Int} (h : Bs w v n nb) (hb : Below w.heap.size w w') : Bs w' v n nb := by
  obtain ⟨x, c, h1, h2, h3, h4⟩ := h
  refine ⟨x, c, h1, h2, h3, fun i hi => ?_⟩
  obtain ⟨u, hu, hr⟩ := h4 i hi
  have := cell_lt hu
  exact ⟨u, by rw [hb.cell (p := x.add i) this]; exact hu, hr.below hb⟩
/-- v is a land. -/
def Ld (w : World) (v : Value) (n : Nat) (nb : Nat → List Int) (ss : List Int) : Prop := ∃ u1 u2, v = .agg #[u1, u2] ∧ Bs w u1 n nb ∧ Ro w u2 ss ∧ ss.length = n
theorem Ld.below {w w' : World} {v : Value} {n : Nat} {nb : Nat → List Int} {ss : List Int} (h : Ld w v n nb ss) (hb : Below w.heap.size w w') : Ld w' v n nb ss := by
  obtain ⟨u1, u2, h1, h2, h3, h4⟩ := h
  exact ⟨u1, u2, h1, h2.below hb, h3.below hb, h4⟩

/-- a land in a box. -/
structure Bl (w : World) (z : Nat) (u1 u2 : Value) : Prop where
  c0 : w.cell? ⟨z, 0, none⟩ = some u1
  c1 : w.cell? ⟨z, 1, none⟩ = some u2
theorem Bl.lt {w : World} {z : Nat} {u1 u2 : Value} (h : Bl w z u1 u2) : z < w.heap.size := cell_lt h.c0
theorem Bl.mk' {w : World} {z : Nat} (u1 u2 : Value) (hz : w.heap.size = z) : Bl (w.alloc (.cells #[u1, u2] 46)) z u1 u2 := by
  subst hz
  exact ⟨by simp, by simp⟩
theorem Bl.below {w w' : World} {z B : Nat} {u1 u2 : Value} (h : Bl w z u1 u2) (hb : Below B w w') (hz : z < B) : Bl w' z u1 u2 :=
  ⟨by rw [hb.cell (p := ⟨z, 0, none⟩) hz]; exact h.c0, by rw [hb.cell (p := ⟨z, 1, none⟩) hz]; exact h.c1⟩
theorem Bl.kp {w w' : World} {z b : Nat} {u1 u2 : Value} (h : Bl w z u1 u2) (hk : Kp b w w') (hz : z ≠ b) : Bl w' z u1 u2 := by
  have e := hk.block z h.lt hz
  exact ⟨by rw [World.cell?_of_block (w := w) (a := ⟨z, 0, none⟩) e]; exact h.c0, by rw [World.cell?_of_block (w := w) (a := ⟨z, 1, none⟩) e]; exact h.c1⟩
end Go.Proofs.YtogdaegnpoknlaaDoor
