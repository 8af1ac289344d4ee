/- A kind in a block. -/
import Derived.Test.YtkceccajamdbjaaDoorKdA
import Derived.Test.YtkceccajamdbjaaDoorKeep
namespace Go.Proofs.YtkceccajamdbjaaDoor
open Go.RowKit
set_option linter.unusedVariables false

/-- block b is a kind. -/
def Kb (w : World) (b : Nat) (k : KV) : Prop := w.heap[b]? = some (.cells #[.string k.b, .int .i64 k.n0, .int .i64 k.n1, .int .i64 k.n2, .int .i64 k.n3, .int .i64 k.n4, .int .i64 k.n5, .int .i64 k.n6, .int .i64 k.n7, .bool k.f, .bool k.t] 28 (0, 0))
theorem Kb.mk' (w : World) (k : KV) : Kb (w.alloc (.cells #[.string k.b, .int .i64 k.n0, .int .i64 k.n1, .int .i64 k.n2, .int .i64 k.n3, .int .i64 k.n4, .int .i64 k.n5, .int .i64 k.n6, .int .i64 k.n7, .bool k.f, .bool k.t] 28)) w.heap.size k := by
  unfold Kb
  rw [heap_alloc_new]
theorem Kb.cells {w : World} {b : Nat} {k : KV} (h : Kb w b k) : w.cell? ⟨b, 0, none⟩ = some (.string k.b) ∧ w.cell? ⟨b, 1, none⟩ = some (.int .i64 k.n0) ∧ w.cell? ⟨b, 2, none⟩ = some (.int .i64 k.n1) ∧ w.cell? ⟨b, 3, none⟩ = some (.int .i64 k.n2) ∧ w.cell? ⟨b, 4, none⟩ = some (.int .i64 k.n3) ∧ w.cell? ⟨b, 5, none⟩ = some (.int .i64 k.n4) ∧ w.cell? ⟨b, 6, none⟩ = some (.int .i64 k.n5) ∧ w.cell? ⟨b, 7, none⟩ = some (.int .i64 k.n6) ∧ w.cell? ⟨b, 8, none⟩ = some (.int .i64 k.n7) ∧ w.cell? ⟨b, 9, none⟩ = some (.bool k.f) ∧ w.cell? ⟨b, 10, none⟩ = some (.bool k.t) := by
  unfold Kb at h
  refine ⟨?_, ?_, ?_, ?_, ?_, ?_, ?_, ?_, ?_, ?_, ?_⟩ <;> simp [World.cell?, h]
theorem Kb.thaw {w : World} {b : Nat} {k : KV} (h : Kb w b k) (i : Nat) : w.frozen? ⟨b, i, none⟩ = false := by
  unfold Kb at h
  simp [World.frozen?, h]
theorem Kb.below {w w' : World} {b B : Nat} {k : KV} (h : Kb w b k) (hb : Below B w w') (hB : b < B) : Kb w' b k := by
  unfold Kb at *
  rw [hb.block b hB]; exact h
theorem Kb.lt {w : World} {b : Nat} {k : KV} (h : Kb w b k) : b < w.heap.size := lt_of_block h
/-- the world behind a store. -/
def kset (w : World) (b : Nat) (k : KV) : World := (((((((((((w.setCell ⟨b, 0, none⟩ (.string k.b)).setCell ⟨b, 1, none⟩ (.int .i64 k.n0)).setCell ⟨b, 2, none⟩ (.int .i64 k.n1)).setCell ⟨b, 3, none⟩ (.int .i64 k.n2)).setCell ⟨b, 4, none⟩ (.int .i64 k.n3)).setCell ⟨b, 5, none⟩ (.int .i64 k.n4)).setCell ⟨b, 6, none⟩ (.int .i64 k.n5)).setCell ⟨b, 7, none⟩ (.int .i64 k.n6)).setCell ⟨b, 8, none⟩ (.int .i64 k.n7)).setCell ⟨b, 9, none⟩ (.bool k.f)).setCell ⟨b, 10, none⟩ (.bool k.t))
theorem Kb.s0 {w : World} {b : Nat} {k : KV} (h : Kb w b k) (x : ByteArray) : Kb (w.setCell ⟨b, 0, none⟩ (.string x)) b { k with b := x } := heap_setCell_same w b 0 _ _ (.string x) h
theorem Kb.s1 {w : World} {b : Nat} {k : KV} (h : Kb w b k) (x : Int) : Kb (w.setCell ⟨b, 1, none⟩ (.int .i64 x)) b { k with n0 := x } := heap_setCell_same w b 1 _ _ (.int .i64 x) h
theorem Kb.s2 {w : World} {b : Nat} {k : KV} (h : Kb w b k) (x : Int) : Kb (w.setCell ⟨b, 2, none⟩ (.int .i64 x)) b { k with n1 := x } := heap_setCell_same w b 2 _ _ (.int .i64 x) h
theorem Kb.s3 {w : World} {b : Nat} {k : KV} (h : Kb w b k) (x : Int) : Kb (w.setCell ⟨b, 3, none⟩ (.int .i64 x)) b { k with n2 := x } := heap_setCell_same w b 3 _ _ (.int .i64 x) h
theorem Kb.s4 {w : World} {b : Nat} {k : KV} (h : Kb w b k) (x : Int) : Kb (w.setCell ⟨b, 4, none⟩ (.int .i64 x)) b { k with n3 := x } := heap_setCell_same w b 4 _ _ (.int .i64 x) h
theorem Kb.s5 {w : World} {b : Nat} {k : KV} (h : Kb w b k) (x : Int) : Kb (w.setCell ⟨b, 5, none⟩ (.int .i64 x)) b { k with n4 := x } := heap_setCell_same w b 5 _ _ (.int .i64 x) h
theorem Kb.s6 {w : World} {b : Nat} {k : KV} (h : Kb w b k) (x : Int) : Kb (w.setCell ⟨b, 6, none⟩ (.int .i64 x)) b { k with n5 := x } := heap_setCell_same w b 6 _ _ (.int .i64 x) h
theorem Kb.s7 {w : World} {b : Nat} {k : KV} (h : Kb w b k) (x : Int) : Kb (w.setCell ⟨b, 7, none⟩ (.int .i64 x)) b { k with n6 := x } := heap_setCell_same w b 7 _ _ (.int .i64 x) h
theorem Kb.s8 {w : World} {b : Nat} {k : KV} (h : Kb w b k) (x : Int) : Kb (w.setCell ⟨b, 8, none⟩ (.int .i64 x)) b { k with n7 := x } := heap_setCell_same w b 8 _ _ (.int .i64 x) h
theorem Kb.s9 {w : World} {b : Nat} {k : KV} (h : Kb w b k) (x : Bool) : Kb (w.setCell ⟨b, 9, none⟩ (.bool x)) b { k with f := x } := heap_setCell_same w b 9 _ _ (.bool x) h
theorem Kb.s10 {w : World} {b : Nat} {k : KV} (h : Kb w b k) (x : Bool) : Kb (w.setCell ⟨b, 10, none⟩ (.bool x)) b { k with t := x } := heap_setCell_same w b 10 _ _ (.bool x) h
theorem Kb.put {w : World} {b : Nat} {k0 : KV} (h : Kb w b k0) (k : KV) : Kb (kset w b k) b k := (((((((((((h.s0 k.b).s1 k.n0).s2 k.n1).s3 k.n2).s4 k.n3).s5 k.n4).s6 k.n5).s7 k.n6).s8 k.n7).s9 k.f).s10 k.t)
theorem kset_below {B b : Nat} {w W : World} (k : KV) (h : Below B w W) (hb : B ≤ b) : Below B w (kset W b k) := by
  unfold kset
  exact (((((((((((h.setCell (p := ⟨b, 0, none⟩) hb _).setCell (p := ⟨b, 1, none⟩) hb _).setCell (p := ⟨b, 2, none⟩) hb _).setCell (p := ⟨b, 3, none⟩) hb _).setCell (p := ⟨b, 4, none⟩) hb _).setCell (p := ⟨b, 5, none⟩) hb _).setCell (p := ⟨b, 6, none⟩) hb _).setCell (p := ⟨b, 7, none⟩) hb _).setCell (p := ⟨b, 8, none⟩) hb _).setCell (p := ⟨b, 9, none⟩) hb _).setCell (p := ⟨b, 10, none⟩) hb _)
end Go.Proofs.YtkceccajamdbjaaDoor
