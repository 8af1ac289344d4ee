/- api.Job: records in memory. -/
import Derived.Test.YthccneiafofakaaDoorIntsR
namespace Go.Proofs.YthccneiafofakaaDoor
open Go.RowKit
set_option linter.unusedVariables false

structure JbV where
  player : Int
  unit : Int
  kind : Int
  left : Int
def JbV.val (k : JbV) : Value := .agg #[.int .i64 k.player, .int .i64 k.unit, .int .i64 k.kind, .int .i64 k.left]
/-- its cells, from an address on. -/
structure Jbc (w : World) (y : Addr) (k : JbV) : Prop where
  c0 : w.cell? y = some (.int .i64 k.player)
  c1 : w.cell? ⟨y.block, y.off + 1, none⟩ = some (.int .i64 k.unit)
  c2 : w.cell? ⟨y.block, y.off + 2, none⟩ = some (.int .i64 k.kind)
  c3 : w.cell? ⟨y.block, y.off + 3, none⟩ = some (.int .i64 k.left)
theorem Jbc.lt {w : World} {y : Addr} {k : JbV} (h : Jbc w y k) : y.block < w.heap.size := cell_lt h.c0
theorem Jbc.below {w w' : World} {y : Addr} {k : JbV} {B : Nat} (h : Jbc w y k) (hb : Below B w w') (hy : y.block < B) : Jbc w' y k :=
  ⟨by rw [hb.cell (p := y) hy]; exact h.c0, by rw [hb.cell (p := ⟨y.block, y.off + 1, none⟩) hy]; exact h.c1, by rw [hb.cell (p := ⟨y.block, y.off + 2, none⟩) hy]; exact h.c2, by rw [hb.cell (p := ⟨y.block, y.off + 3, none⟩) hy]; exact h.c3⟩
/-- v is a slice of them. -/
def Jbl (w : World) (v : Value) (ks : List JbV) : Prop := ∃ a c, v = .slice a ks.length c ∧ ks.length ≤ c ∧ c ≤ 9223372036854775807 ∧ (ks ≠ [] → ∃ x, a = some x ∧ x.block < w.heap.size ∧ ∀ (i : Nat) k, ks[i]? = some k → Jbc w (x.add (i * 4)) k)
theorem Jbl.below {w w' : World} {v : Value} {ks : List JbV} (h : Jbl w v ks) (hb : Below w.heap.size w w') : Jbl w' v ks := by
  obtain ⟨a, c, h1, h2, h3, h4⟩ := h
  refine ⟨a, c, h1, h2, h3, fun hn => ?_⟩
  obtain ⟨x, e, hx, hk⟩ := h4 hn
  exact ⟨x, e, Nat.lt_of_lt_of_le hx hb.size, fun i k hi => (hk i k hi).below hb (by rw [add_block]; exact hx)⟩
theorem Jbc.mk' {w : World} {z : Nat} (k : JbV) (hz : w.heap.size = z) : Jbc (w.alloc (.cells #[.int .i64 k.player, .int .i64 k.unit, .int .i64 k.kind, .int .i64 k.left] 105)) ⟨z, 0, none⟩ k := by
  subst hz
  constructor <;> simp
end Go.Proofs.YthccneiafofakaaDoor
