/- What marchsame.Field answers of two fields that are the same. -/
import Derived.Test.YtefepjiajgoomaaDoorFdB
import Derived.Test.YtefepjiajgoomaaDoorInts
namespace Go.Proofs.YtefepjiajgoomaaDoor
open Go.RowKit
set_option linter.unusedVariables false

set_option maxHeartbeats 1000000 in
theorem same_field (u v : Value) (W H : Int) (gs os : List Int) (w : World) (hu : Fl w u W H gs os) (hv : Fl w v W H gs os) :
    Calls Tryd.prog 56 #[u, v] w fun e w' => e = .returned (.bool true) ∧ Below w.heap.size w w' := by
  obtain ⟨a1, a2, rfl, ha1, ha2⟩ := hu
  obtain ⟨b1, b2, rfl, hb1, hb2⟩ := hv
  have A1 : Hid (Ro w a1 gs) := ha1
  have A2 : Hid (Ro w a2 os) := ha2
  have B1 : Hid (Ro w b1 gs) := hb1
  have B2 : Hid (Ro w b2 os) := hb2
  clear ha1 ha2 hb1 hb2
  go_enter Tryd.func56, Tryd.ntmps56
  go_wp2_with fail
  have K0 : Below w.heap.size w ((w.alloc (Obj.cells #[.int .i64 W, .int .i64 H, a1, a2] 45)).alloc (Obj.cells #[.int .i64 W, .int .i64 H, b1, b2] 45)) := ((Below.refl _ _).alloc (Nat.le_refl _) _).alloc (by simp) _
  have X0 := (Bf.mk' (w := w) W H a1 a2 rfl).below ((Below.refl _ _).alloc (Nat.le_refl _) (Obj.cells #[.int .i64 W, .int .i64 H, b1, b2] 45)) (by simp)
  have Y0 := Bf.mk' (w := w.alloc (Obj.cells #[.int .i64 W, .int .i64 H, a1, a2] 45)) (z := w.heap.size + 1) W H b1 b2 (by simp)
  generalize (w.alloc (Obj.cells #[.int .i64 W, .int .i64 H, a1, a2] 45)).alloc (Obj.cells #[.int .i64 W, .int .i64 H, b1, b2] 45) = w0 at *
  refine (ints_any _ _ gs gs _ (A1.out.below K0) (B1.out.below K0)).mono ?_
  rintro e w1 ⟨rfl, q1, hq1⟩
  rw [decide_eq_true rfl]
  have k1 : Below w0.heap.size w0 w1 := by rw [hq1]; exact below_drewN (Below.refl _ _) _
  have K1 : Below w.heap.size w w1 := K0.trans (k1.mono K0.size)
  have X1 : Hid (Bf w1 w.heap.size W H a1 a2) := X0.below k1 X0.lt
  have Y1 : Hid (Bf w1 (w.heap.size + 1) W H b1 b2) := Y0.below k1 Y0.lt
  clear hq1 k1 X0 Y0 K0
  obtain ⟨x0, x1, x2, x3⟩ := X1.out
  obtain ⟨y0, y1, y2, y3⟩ := Y1.out
  have K1' : Hid (Below w.heap.size w w1) := K1
  clear K1
  go_wp2_with fail
  refine (ints_any _ _ os os _ (A2.out.below K1'.out) (B2.out.below K1'.out)).mono ?_
  rintro e w2 ⟨rfl, q2, hq2⟩
  rw [decide_eq_true rfl]
  have k2 : Below w1.heap.size w1 w2 := by rw [hq2]; exact below_drewN (Below.refl _ _) _
  have K2 : Hid (Below w.heap.size w w2) := K1'.out.trans (k2.mono K1'.out.size)
  have X2 : Hid (Bf w2 w.heap.size W H a1 a2) := X1.out.below k2 X1.out.lt
  have Y2 : Hid (Bf w2 (w.heap.size + 1) W H b1 b2) := Y1.out.below k2 Y1.out.lt
  clear hq2 k2 x0 x1 x2 x3 y0 y1 y2 y3 X1 Y1 K1'
  obtain ⟨x0, x1, x2, x3⟩ := X2.out
  obtain ⟨y0, y1, y2, y3⟩ := Y2.out
  go_wp2
  go_ret
  exact ⟨rfl, K2⟩
end Go.Proofs.YtefepjiajgoomaaDoor
