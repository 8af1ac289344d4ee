/- The walk of PathFinds. -/
import Derived.Test.YtogdaegnpoknlaaDoorPwP
import Derived.Test.YtogdaegnpoknlaaDoorPwX
import Derived.Test.YtogdaegnpoknlaaDoorPwZ
import Derived.Test.YtogdaegnpoknlaaDoorRfX
import Derived.Test.YtogdaegnpoknlaaDoorRfA
import Derived.Test.YtogdaegnpoknlaaDoorSame
import Derived.Test.YtogdaegnpoknlaaDoorFdArgs
import Derived.Test.YtogdaegnpoknlaaDoorFdLaid
import Derived.ProofKit
import Derived.OpenShut
import Derived.IntWalk
namespace Go.Proofs.YtogdaegnpoknlaaDoor.pathFinds
open Go.RowKit Wy
set_option linter.unusedVariables false

theorem Ro.nil (w : World) : Ro w (.slice none 0 0) [] := ⟨none, 0, rfl, Nat.le_refl _, by omega, fun h => absurd rfl h⟩


set_option maxRecDepth 100000 in
set_option maxHeartbeats 16000000 in
theorem walk_a (v : Value) (W H : Int) (gs os : List Int) (a t m F Ff : Int) (fl : Bool) (w : World) (hf : Fl w v W H gs os) (hg : Et w) (hs : Sd w) (hF : Fd.askFault (Fd.fault W H gs os) gs.length [t] = F) (h0 : F ≠ 0) (hFf : Fd.askFault (Fd.fault W H gs os) gs.length [a] = Ff) (hf0 : Ff ≠ 0) :
    Calls Tryd.prog 3 #[v, .int .i64 a, .int .i64 t, .int .i64 m, .bool fl] w fun e w' => e = .returned (.bool true) ∧ Below w.heap.size w w' := by
  have F0 : Hid (Fl w v W H gs os) := hf
  have G0 : Hid (Et w) := hg
  have S0 : Hid (Sd w) := hs
  have HF : Hid (Fd.askFault (Fd.fault W H gs os) gs.length [t] = F) := hF
  have H2 : Hid (Fd.askFault (Fd.fault W H gs os) gs.length [(a : Int), t] = F) := by unfold Hid; rw [ask_two, if_pos (by rw [hF]; exact h0), hF]
  have hq : (F == 0) = false := by simpa using h0
  have Hf : Hid (Fd.askFault (Fd.fault W H gs os) gs.length [a] = Ff) := hFf
  have hr : (Ff == 0) = false := by simpa using hf0
  have Hf0 : Hid (Ff ≠ 0) := hf0
  clear hF hFf
  obtain ⟨u1, u2, rfl, ⟨a1, c, rfl, c1, c2, -⟩, ⟨b1, d, rfl, d1, d2, -⟩⟩ := hf
  clear hg hs
  go_enter Tryd.func3, Tryd.ntmps3
  go_wp2_with fail
  have X0 : Hid (Bf _ w.heap.size W H (Value.slice a1 gs.length c) (Value.slice b1 os.length d)) := Bf.mk' (w := w) W H (Value.slice a1 gs.length c) (Value.slice b1 os.length d) rfl
  have B0 : Hid (Below w.heap.size w (w.alloc (Obj.cells #[Value.int IntKind.i64 W, Value.int IntKind.i64 H, Value.slice a1 gs.length c, Value.slice b1 os.length d] 24))) := (Below.refl _ _).alloc (Nat.le_refl _) _
  generalize w.alloc (Obj.cells #[Value.int IntKind.i64 W, Value.int IntKind.i64 H, Value.slice a1 gs.length c, Value.slice b1 os.length d] 24) = w0 at *
  obtain ⟨x0, x1, x2, x3⟩ := X0.out
  skip
  refine (ref_cell _ W H gs os t _ (F0.out.below B0.out)).mono ?_
  rintro e w1 ⟨rfl, k1⟩
  have B1 : Hid (Below w.heap.size w w1) := B0.out.trans (k1.mono B0.out.size)
  have X1 : Hid (Bf w1 w.heap.size W H (.slice a1 gs.length c) (.slice b1 os.length d)) := X0.out.below k1 X0.out.lt
  clear k1 x0 x1 x2 x3 B0 X0
  rw [HF.out]
  have H0 : Hid (F ≠ 0) := h0
  obtain ⟨x0, x1, x2, x3⟩ := X1.out
  go_wp2_with fail
  refine (Far_bad _ W H gs os t F fl _ (F0.out.below B1.out) (S0.out.below B1.out) HF.out H0.out).mono ?_
  rintro e w2 ⟨rfl, k2⟩
  have B2 : Hid (Below w.heap.size w w2) := B1.out.trans (k2.mono B1.out.size)
  have X2 : Hid (Bf w2 w.heap.size W H (.slice a1 gs.length c) (.slice b1 os.length d)) := X1.out.below k2 X1.out.lt
  clear k2 x0 x1 x2 x3 B1 X1
  obtain ⟨x0, x1, x2, x3⟩ := X2.out
  go_wp2_with fail
  refine (er_same _ _ _ (Er.no H0.out) (G0.out.below B2.out)).mono ?_
  rintro e w3 ⟨rfl, k3⟩
  have B3 : Hid (Below w.heap.size w w3) := B2.out.trans (k3.mono B2.out.size)
  have X3 : Hid (Bf w3 w.heap.size W H (.slice a1 gs.length c) (.slice b1 os.length d)) := X2.out.below k3 X2.out.lt
  clear k3 x0 x1 x2 x3 B2 X2
  obtain ⟨x0, x1, x2, x3⟩ := X3.out
  go_wp2_with fail
  refine (ints_like _ _ [] _ (Ro.nil _) (Ro.nil _)).mono ?_
  rintro e w4 ⟨rfl, k4⟩
  have B4 : Hid (Below w.heap.size w w4) := B3.out.trans (k4.mono B3.out.size)
  have X4 : Hid (Bf w4 w.heap.size W H (.slice a1 gs.length c) (.slice b1 os.length d)) := X3.out.below k4 X3.out.lt
  clear k4 x0 x1 x2 x3 B3 X3
  obtain ⟨x0, x1, x2, x3⟩ := X4.out
  go_wp2_with fail
  refine (Next_bad _ W H gs os (a : Int) t F fl _ (F0.out.below B4.out) (S0.out.below B4.out) H2.out H0.out).mono ?_
  rintro e w5 ⟨rfl, k5⟩
  have B5 : Hid (Below w.heap.size w w5) := B4.out.trans (k5.mono B4.out.size)
  have X5 : Hid (Bf w5 w.heap.size W H (.slice a1 gs.length c) (.slice b1 os.length d)) := X4.out.below k5 X4.out.lt
  clear k5 x0 x1 x2 x3 B4 X4
  obtain ⟨x0, x1, x2, x3⟩ := X5.out
  go_wp2_with fail
  refine (er_same _ _ _ (Er.no H0.out) (G0.out.below B5.out)).mono ?_
  rintro e w6 ⟨rfl, k6⟩
  have B6 : Hid (Below w.heap.size w w6) := B5.out.trans (k6.mono B5.out.size)
  have X6 : Hid (Bf w6 w.heap.size W H (.slice a1 gs.length c) (.slice b1 os.length d)) := X5.out.below k6 X5.out.lt
  clear k6 x0 x1 x2 x3 B5 X5
  obtain ⟨x0, x1, x2, x3⟩ := X6.out
  go_wp2_with fail
  refine (Path_bad _ W H gs os (a : Int) t F fl _ (F0.out.below B6.out) (S0.out.below B6.out) H2.out H0.out).mono ?_
  rintro e w7 ⟨rfl, k7⟩
  have B7 : Hid (Below w.heap.size w w7) := B6.out.trans (k7.mono B6.out.size)
  have X7 : Hid (Bf w7 w.heap.size W H (.slice a1 gs.length c) (.slice b1 os.length d)) := X6.out.below k7 X6.out.lt
  clear k7 x0 x1 x2 x3 B6 X6
  obtain ⟨x0, x1, x2, x3⟩ := X7.out
  go_wp2_with fail
  refine (er_same _ _ _ (Er.no H0.out) (G0.out.below B7.out)).mono ?_
  rintro e w8 ⟨rfl, k8⟩
  have B8 : Hid (Below w.heap.size w w8) := B7.out.trans (k8.mono B7.out.size)
  have X8 : Hid (Bf w8 w.heap.size W H (.slice a1 gs.length c) (.slice b1 os.length d)) := X7.out.below k8 X7.out.lt
  clear k8 x0 x1 x2 x3 B7 X7
  obtain ⟨x0, x1, x2, x3⟩ := X8.out
  go_wp2_with fail
  refine (ints_like _ _ [] _ (Ro.nil _) (Ro.nil _)).mono ?_
  rintro e w9 ⟨rfl, k9⟩
  have B9 : Hid (Below w.heap.size w w9) := B8.out.trans (k9.mono B8.out.size)
  have X9 : Hid (Bf w9 w.heap.size W H (.slice a1 gs.length c) (.slice b1 os.length d)) := X8.out.below k9 X8.out.lt
  clear k9 x0 x1 x2 x3 B8 X8
  obtain ⟨x0, x1, x2, x3⟩ := X9.out
  go_wp2_with fail
  refine (ref_cell _ W H gs os (a : Int) _ (F0.out.below B9.out)).mono ?_
  rintro e w10 ⟨rfl, k10⟩
  have B10 : Hid (Below w.heap.size w w10) := B9.out.trans (k10.mono B9.out.size)
  have X10 : Hid (Bf w10 w.heap.size W H (.slice a1 gs.length c) (.slice b1 os.length d)) := X9.out.below k10 X9.out.lt
  clear k10 x0 x1 x2 x3 B9 X9
  rw [Hf.out]
  obtain ⟨x0, x1, x2, x3⟩ := X10.out
  go_wp2_with fail
  go_loopw [25, 26] (fun v i W' => v = .slice none 0 0 ∧ i = .int .i64 0 ∧ W' = w10) (fun _ _ _ => 0)
  case atStart => exact ⟨rfl, rfl, rfl⟩
  case round =>
    obtain ⟨rfl, rfl, rfl⟩ := hrel
    clear x0 x1 x2 x3
    obtain ⟨x0, x1, x2, x3⟩ := X10.out
    go_wp2_with fail
    refine (Reach_bad _ W H gs os a m Ff fl _ (F0.out.below B10.out) (S0.out.below B10.out) Hf.out Hf0.out).mono ?_
    rintro e w11 ⟨rfl, k11⟩
    have B11 : Hid (Below w.heap.size w w11) := B10.out.trans (k11.mono B10.out.size)
    have X11 : Hid (Bf w11 w.heap.size W H (.slice a1 gs.length c) (.slice b1 os.length d)) := X10.out.below k11 X10.out.lt
    clear k11 x0 x1 x2 x3 B10 X10
    obtain ⟨x0, x1, x2, x3⟩ := X11.out
    go_wp2_with fail
    refine (er_same _ _ _ (Er.no Hf0.out) (G0.out.below B11.out)).mono ?_
    rintro e w12 ⟨rfl, k12⟩
    have B12 : Hid (Below w.heap.size w w12) := B11.out.trans (k12.mono B11.out.size)
    have X12 : Hid (Bf w12 w.heap.size W H (.slice a1 gs.length c) (.slice b1 os.length d)) := X11.out.below k12 X11.out.lt
    clear k12 x0 x1 x2 x3 B11 X11
    obtain ⟨x0, x1, x2, x3⟩ := X12.out
    go_wp2_with fail
    refine (ints_like _ _ [] _ (Ro.nil _) (Ro.nil _)).mono ?_
    rintro e w13 ⟨rfl, k13⟩
    have B13 : Hid (Below w.heap.size w w13) := B12.out.trans (k13.mono B12.out.size)
    have X13 : Hid (Bf w13 w.heap.size W H (.slice a1 gs.length c) (.slice b1 os.length d)) := X12.out.below k13 X12.out.lt
    clear k13 x0 x1 x2 x3 B12 X12
    go_wp2
    go_ret
    exact ⟨rfl, B13⟩

set_option maxRecDepth 100000 in
set_option maxHeartbeats 16000000 in
theorem walk_b (v : Value) (W H : Nat) (gs os : List Int) (a : Nat) (t m F : Int) (fl : Bool) (w : World) (hf : Fl w v W H gs os) (hg : Et w) (hs : Sd w) (hF : Fd.askFault (Fd.fault W H gs os) gs.length [t] = F) (h0 : F ≠ 0) (G : Fd.Good W H gs os) (ha : a < W * H) :
    Calls Tryd.prog 3 #[v, .int .i64 (a : Nat), .int .i64 t, .int .i64 m, .bool fl] w fun e w' => e = .returned (.bool true) ∧ Below w.heap.size w w' := by
  have F0 : Hid (Fl w v W H gs os) := hf
  have G0 : Hid (Et w) := hg
  have S0 : Hid (Sd w) := hs
  have HF : Hid (Fd.askFault (Fd.fault W H gs os) gs.length [t] = F) := hF
  have H2 : Hid (Fd.askFault (Fd.fault W H gs os) gs.length [(a : Int), t] = F) := by unfold Hid; rw [ask_two, if_pos (by rw [hF]; exact h0), hF]
  have hq : (F == 0) = false := by simpa using h0
  have HA : Hid (a < W * H) := ha
  have HG : Hid (Fd.Good W H gs os) := G
  have Hf : Hid (Fd.askFault (Fd.fault W H gs os) gs.length [(a : Int)] = 0) := by unfold Hid; rw [ask_one_or, Fd.fault_good G, if_neg (by decide), if_pos (by rw [G.gl]; omega)]
  clear ha G hF
  obtain ⟨u1, u2, rfl, ⟨a1, c, rfl, c1, c2, -⟩, ⟨b1, d, rfl, d1, d2, -⟩⟩ := hf
  clear hg hs
  go_enter Tryd.func3, Tryd.ntmps3
  go_wp2_with fail
  have X0 : Hid (Bf _ w.heap.size W H (Value.slice a1 gs.length c) (Value.slice b1 os.length d)) := Bf.mk' (w := w) W H (Value.slice a1 gs.length c) (Value.slice b1 os.length d) rfl
  have B0 : Hid (Below w.heap.size w (w.alloc (Obj.cells #[Value.int IntKind.i64 W, Value.int IntKind.i64 H, Value.slice a1 gs.length c, Value.slice b1 os.length d] 24))) := (Below.refl _ _).alloc (Nat.le_refl _) _
  generalize w.alloc (Obj.cells #[Value.int IntKind.i64 W, Value.int IntKind.i64 H, Value.slice a1 gs.length c, Value.slice b1 os.length d] 24) = w0 at *
  obtain ⟨x0, x1, x2, x3⟩ := X0.out
  skip
  refine (ref_cell _ W H gs os t _ (F0.out.below B0.out)).mono ?_
  rintro e w1 ⟨rfl, k1⟩
  have B1 : Hid (Below w.heap.size w w1) := B0.out.trans (k1.mono B0.out.size)
  have X1 : Hid (Bf w1 w.heap.size W H (.slice a1 gs.length c) (.slice b1 os.length d)) := X0.out.below k1 X0.out.lt
  clear k1 x0 x1 x2 x3 B0 X0
  rw [HF.out]
  have H0 : Hid (F ≠ 0) := h0
  obtain ⟨x0, x1, x2, x3⟩ := X1.out
  go_wp2_with fail
  refine (Far_bad _ W H gs os t F fl _ (F0.out.below B1.out) (S0.out.below B1.out) HF.out H0.out).mono ?_
  rintro e w2 ⟨rfl, k2⟩
  have B2 : Hid (Below w.heap.size w w2) := B1.out.trans (k2.mono B1.out.size)
  have X2 : Hid (Bf w2 w.heap.size W H (.slice a1 gs.length c) (.slice b1 os.length d)) := X1.out.below k2 X1.out.lt
  clear k2 x0 x1 x2 x3 B1 X1
  obtain ⟨x0, x1, x2, x3⟩ := X2.out
  go_wp2_with fail
  refine (er_same _ _ _ (Er.no H0.out) (G0.out.below B2.out)).mono ?_
  rintro e w3 ⟨rfl, k3⟩
  have B3 : Hid (Below w.heap.size w w3) := B2.out.trans (k3.mono B2.out.size)
  have X3 : Hid (Bf w3 w.heap.size W H (.slice a1 gs.length c) (.slice b1 os.length d)) := X2.out.below k3 X2.out.lt
  clear k3 x0 x1 x2 x3 B2 X2
  obtain ⟨x0, x1, x2, x3⟩ := X3.out
  go_wp2_with fail
  refine (ints_like _ _ [] _ (Ro.nil _) (Ro.nil _)).mono ?_
  rintro e w4 ⟨rfl, k4⟩
  have B4 : Hid (Below w.heap.size w w4) := B3.out.trans (k4.mono B3.out.size)
  have X4 : Hid (Bf w4 w.heap.size W H (.slice a1 gs.length c) (.slice b1 os.length d)) := X3.out.below k4 X3.out.lt
  clear k4 x0 x1 x2 x3 B3 X3
  obtain ⟨x0, x1, x2, x3⟩ := X4.out
  go_wp2_with fail
  refine (Next_bad _ W H gs os (a : Int) t F fl _ (F0.out.below B4.out) (S0.out.below B4.out) H2.out H0.out).mono ?_
  rintro e w5 ⟨rfl, k5⟩
  have B5 : Hid (Below w.heap.size w w5) := B4.out.trans (k5.mono B4.out.size)
  have X5 : Hid (Bf w5 w.heap.size W H (.slice a1 gs.length c) (.slice b1 os.length d)) := X4.out.below k5 X4.out.lt
  clear k5 x0 x1 x2 x3 B4 X4
  obtain ⟨x0, x1, x2, x3⟩ := X5.out
  go_wp2_with fail
  refine (er_same _ _ _ (Er.no H0.out) (G0.out.below B5.out)).mono ?_
  rintro e w6 ⟨rfl, k6⟩
  have B6 : Hid (Below w.heap.size w w6) := B5.out.trans (k6.mono B5.out.size)
  have X6 : Hid (Bf w6 w.heap.size W H (.slice a1 gs.length c) (.slice b1 os.length d)) := X5.out.below k6 X5.out.lt
  clear k6 x0 x1 x2 x3 B5 X5
  obtain ⟨x0, x1, x2, x3⟩ := X6.out
  go_wp2_with fail
  refine (Path_bad _ W H gs os (a : Int) t F fl _ (F0.out.below B6.out) (S0.out.below B6.out) H2.out H0.out).mono ?_
  rintro e w7 ⟨rfl, k7⟩
  have B7 : Hid (Below w.heap.size w w7) := B6.out.trans (k7.mono B6.out.size)
  have X7 : Hid (Bf w7 w.heap.size W H (.slice a1 gs.length c) (.slice b1 os.length d)) := X6.out.below k7 X6.out.lt
  clear k7 x0 x1 x2 x3 B6 X6
  obtain ⟨x0, x1, x2, x3⟩ := X7.out
  go_wp2_with fail
  refine (er_same _ _ _ (Er.no H0.out) (G0.out.below B7.out)).mono ?_
  rintro e w8 ⟨rfl, k8⟩
  have B8 : Hid (Below w.heap.size w w8) := B7.out.trans (k8.mono B7.out.size)
  have X8 : Hid (Bf w8 w.heap.size W H (.slice a1 gs.length c) (.slice b1 os.length d)) := X7.out.below k8 X7.out.lt
  clear k8 x0 x1 x2 x3 B7 X7
  obtain ⟨x0, x1, x2, x3⟩ := X8.out
  go_wp2_with fail
  refine (ints_like _ _ [] _ (Ro.nil _) (Ro.nil _)).mono ?_
  rintro e w9 ⟨rfl, k9⟩
  have B9 : Hid (Below w.heap.size w w9) := B8.out.trans (k9.mono B8.out.size)
  have X9 : Hid (Bf w9 w.heap.size W H (.slice a1 gs.length c) (.slice b1 os.length d)) := X8.out.below k9 X8.out.lt
  clear k9 x0 x1 x2 x3 B8 X8
  obtain ⟨x0, x1, x2, x3⟩ := X9.out
  go_wp2_with fail
  refine (ref_cell _ W H gs os (a : Int) _ (F0.out.below B9.out)).mono ?_
  rintro e w10 ⟨rfl, k10⟩
  have B10 : Hid (Below w.heap.size w w10) := B9.out.trans (k10.mono B9.out.size)
  have X10 : Hid (Bf w10 w.heap.size W H (.slice a1 gs.length c) (.slice b1 os.length d)) := X9.out.below k10 X9.out.lt
  clear k10 x0 x1 x2 x3 B9 X9
  rw [Hf.out]
  by_cases hm : m < 0 ∨ 1000000 < m
  · have hmm := hm
    rcases hm with hm | hm
    · have hm1 := hm
      obtain ⟨x0, x1, x2, x3⟩ := X10.out
      go_wp2_with fail
      go_loopw [25, 26] (fun v i W' => v = .slice none 0 0 ∧ i = .int .i64 0 ∧ W' = w10) (fun _ _ _ => 0)
      case atStart => exact ⟨rfl, rfl, rfl⟩
      case round =>
        obtain ⟨rfl, rfl, rfl⟩ := hrel
        clear x0 x1 x2 x3
        obtain ⟨x0, x1, x2, x3⟩ := X10.out
        go_wp2_with fail
        refine (Reach_range _ W H gs os a m fl _ (F0.out.below B10.out) (S0.out.below B10.out) HG.out HA.out (.inl hm1)).mono ?_
        rintro e w11 ⟨rfl, k11⟩
        have B11 : Hid (Below w.heap.size w w11) := B10.out.trans (k11.mono B10.out.size)
        have X11 : Hid (Bf w11 w.heap.size W H (.slice a1 gs.length c) (.slice b1 os.length d)) := X10.out.below k11 X10.out.lt
        clear k11 x0 x1 x2 x3 B10 X10
        obtain ⟨x0, x1, x2, x3⟩ := X11.out
        go_wp2_with fail
        refine (er_same _ _ _ (Er.no (by decide)) (G0.out.below B11.out)).mono ?_
        rintro e w12 ⟨rfl, k12⟩
        have B12 : Hid (Below w.heap.size w w12) := B11.out.trans (k12.mono B11.out.size)
        have X12 : Hid (Bf w12 w.heap.size W H (.slice a1 gs.length c) (.slice b1 os.length d)) := X11.out.below k12 X11.out.lt
        clear k12 x0 x1 x2 x3 B11 X11
        obtain ⟨x0, x1, x2, x3⟩ := X12.out
        go_wp2_with fail
        refine (ints_like _ _ [] _ (Ro.nil _) (Ro.nil _)).mono ?_
        rintro e w13 ⟨rfl, k13⟩
        have B13 : Hid (Below w.heap.size w w13) := B12.out.trans (k13.mono B12.out.size)
        have X13 : Hid (Bf w13 w.heap.size W H (.slice a1 gs.length c) (.slice b1 os.length d)) := X12.out.below k13 X12.out.lt
        clear k13 x0 x1 x2 x3 B12 X12
        go_wp2
        go_ret
        exact ⟨rfl, B13⟩
    · have hm1 := hm
      have hm2 : ¬ m < 0 := by omega
      obtain ⟨x0, x1, x2, x3⟩ := X10.out
      go_wp2_with fail
      go_loopw [25, 26] (fun v i W' => v = .slice none 0 0 ∧ i = .int .i64 0 ∧ W' = w10) (fun _ _ _ => 0)
      case atStart => exact ⟨rfl, rfl, rfl⟩
      case round =>
        obtain ⟨rfl, rfl, rfl⟩ := hrel
        clear x0 x1 x2 x3
        obtain ⟨x0, x1, x2, x3⟩ := X10.out
        go_wp2_with fail
        refine (Reach_range _ W H gs os a m fl _ (F0.out.below B10.out) (S0.out.below B10.out) HG.out HA.out (.inr hm1)).mono ?_
        rintro e w11 ⟨rfl, k11⟩
        have B11 : Hid (Below w.heap.size w w11) := B10.out.trans (k11.mono B10.out.size)
        have X11 : Hid (Bf w11 w.heap.size W H (.slice a1 gs.length c) (.slice b1 os.length d)) := X10.out.below k11 X10.out.lt
        clear k11 x0 x1 x2 x3 B10 X10
        obtain ⟨x0, x1, x2, x3⟩ := X11.out
        go_wp2_with fail
        refine (er_same _ _ _ (Er.no (by decide)) (G0.out.below B11.out)).mono ?_
        rintro e w12 ⟨rfl, k12⟩
        have B12 : Hid (Below w.heap.size w w12) := B11.out.trans (k12.mono B11.out.size)
        have X12 : Hid (Bf w12 w.heap.size W H (.slice a1 gs.length c) (.slice b1 os.length d)) := X11.out.below k12 X11.out.lt
        clear k12 x0 x1 x2 x3 B11 X11
        obtain ⟨x0, x1, x2, x3⟩ := X12.out
        go_wp2_with fail
        refine (ints_like _ _ [] _ (Ro.nil _) (Ro.nil _)).mono ?_
        rintro e w13 ⟨rfl, k13⟩
        have B13 : Hid (Below w.heap.size w w13) := B12.out.trans (k13.mono B12.out.size)
        have X13 : Hid (Bf w13 w.heap.size W H (.slice a1 gs.length c) (.slice b1 os.length d)) := X12.out.below k13 X12.out.lt
        clear k13 x0 x1 x2 x3 B12 X12
        go_wp2
        go_ret
        exact ⟨rfl, B13⟩
  · have hm0 : 0 ≤ m := by omega
    have hm1 : m ≤ 1000000 := by omega
    clear hm
    have m2 : ¬ m < 0 := by omega
    have m3 : ¬ 1000000 < m := by omega
    obtain ⟨x0, x1, x2, x3⟩ := X10.out
    go_wp2_with fail
    clear x0 x1 x2 x3
    go_loopw [25, 26] (fun v i W' => ∃ (k : Nat) (ds : List Int), k ≤ gs.length ∧ i = .int .i64 (k : Nat) ∧ ds.length = k ∧ (∀ (i : Nat) d, ds[i]? = some d → Least (Fd.near W H) (fun _ j => (gs.map fun g => Fd.onto g fl).getD j 0) i a d) ∧ Ow W' w10.heap.size v (rch ds m k) ∧ Below w10.heap.size w10 W') (fun _ i _ => gs.length - (intOf i).toNat)
    case atStart => exact ⟨0, [], Nat.zero_le _, rfl, rfl, fun i d h => by simp at h, Ow.nil _ _, Below.refl _ _⟩
    case round =>
      obtain ⟨k, ds, hk, rfl, hds, hle, ho, hb⟩ := hrel
      have O : Hid (Ow wr w10.heap.size u25 (rch ds m k)) := ho
      have Lq : Hid (ds.length = k ∧ ∀ (i : Nat) d, ds[i]? = some d → Least (Fd.near W H) (fun _ j => (gs.map fun g => Fd.onto g fl).getD j 0) i a d) := ⟨hds, hle⟩
      have BB : Hid (Below w10.heap.size w10 wr) := hb
      have BX : Hid (Bf wr w.heap.size W H (.slice a1 gs.length c) (.slice b1 os.length d)) := X10.out.below hb X10.out.lt
      have BW : Hid (Below w.heap.size w wr) := B10.out.trans (hb.mono B10.out.size)
      clear hds hle ho hb
      by_cases h0 : k = gs.length
      · subst h0
        clear X10 B10
        obtain ⟨x0, x1, x2, x3⟩ := BX.out
        go_wp2_with fail
        refine (Reach_ok _ W H gs os a m fl _ (F0.out.below BW.out) (S0.out.below BW.out) HG.out HA.out hm0 hm1).mono ?_
        rintro e v1 ⟨u, l', rfl, hf, hu, k1⟩
        have C1 : Hid (Below w.heap.size w v1) := BW.out.trans (k1.mono BW.out.size)
        have O1 : Hid (Ow v1 w10.heap.size u25 (rch ds m gs.length)) := O.out.below k1
        have U1 : Hid (Ro v1 u (rch ds m gs.length)) := by
          have e : ds = l' := reach_same (E := even_to HG.out.w1 gs fl) hf (by rw [Lq.out.1, HG.out.gl]) Lq.out.2 HA.out
          rw [e, HG.out.gl]
          exact hu
        clear k1 hf hu x0 x1 x2 x3 O BW BX
        go_wp2_with fail
        refine (er_same _ _ _ Er.nil (G0.out.below C1.out)).mono ?_
        rintro e v2 ⟨rfl, k2⟩
        have C2 : Hid (Below w.heap.size w v2) := C1.out.trans (k2.mono C1.out.size)
        have O2 : Hid (Ow v2 w10.heap.size u25 (rch ds m gs.length)) := O1.out.below k2
        have U2 : Hid (Ro v2 u (rch ds m gs.length)) := U1.out.below k2
        clear k2 C1 O1 U1
        go_wp2_with fail
        refine (ints_like _ _ _ _ U2.out O2.out.ro).mono ?_
        rintro e v3 ⟨rfl, k3⟩
        have C3 : Hid (Below w.heap.size w v3) := C2.out.trans (k3.mono C2.out.size)
        clear k3 C2 O2 U2
        go_wp2
        go_ret
        exact ⟨rfl, C3⟩
      · have hkl : k < gs.length := by omega
        have hkn : Hid (k < W * H) := by unfold Hid; rw [← HG.out.gl]; exact hkl
        have gle : gs.length ≤ 144 := by rw [HG.out.gl]; exact HG.out.pos.2
        have aln : a < W * H := HA.out
        obtain ⟨x0, x1, x2, x3⟩ := BX.out
        go_wp2_with fail
        refine (ref_to _ W H gs os k fl _ (F0.out.below BW.out) HG.out hkn.out (even_to HG.out.w1 gs fl)).mono ?_
        rintro e v1 ⟨g, l', rfl, hbz, hbk, ⟨hf, hfl⟩, k1⟩
        have O1 : Hid (Ow v1 w10.heap.size u25 (rch ds m k)) := O.out.below k1
        have B1 : Hid (Below w10.heap.size w10 v1) := BB.out.trans (k1.mono BB.out.size)
        have el := get_some hf.1 HA.out
        have ca := hbk.cell el
        have Ls : Hid (Least (Fd.near W H) (fun _ j => (gs.map fun g => Fd.onto g fl).getD j 0) k a (l'.getD a 0)) := hf.2 a _ el
        generalize l'.getD a 0 = y at *
        have Lr : Hid ((rch ds m k).length ≤ 1000000) := Nat.le_trans (rch_len ds m k) (by omega)
        have Es : Hid (rch (ds ++ [y]) m (k + 1) = rch ds m k ++ (if 0 ≤ y ∧ y ≤ m then [(k : Int)] else [])) := rch_snoc Lq.out.1
        have Ln : Hid ((ds ++ [y]).length = k + 1 ∧ ∀ (i : Nat) d, (ds ++ [y])[i]? = some d → Least (Fd.near W H) (fun _ j => (gs.map fun g => Fd.onto g fl).getD j 0) i a d) := by
          refine ⟨by simp [Lq.out.1], fun i d hi => ?_⟩
          rw [List.getElem?_append] at hi
          split at hi
          · exact Lq.out.2 i d hi
          · rename_i hi2
            have hi3 : i - ds.length = 0 := by
              rcases Nat.eq_zero_or_pos (i - ds.length) with h | h
              · exact h
              · rw [List.getElem?_eq_none (by simp; omega)] at hi; cases hi
            rw [hi3] at hi
            simp at hi
            subst hi
            have : i = k := by have := Lq.out.1; omega
            subst this
            exact Ls.out
        clear hbz hbk hf hfl k1 el Ls O BB BX BW x0 x1 x2 x3 Lq
        generalize rch ds m k = rs at *
        by_cases h1 : 0 ≤ y
        · by_cases h2 : y ≤ m
          · have h9 := h2
            have Es' : Hid (rch (ds ++ [y]) m (k + 1) = rs ++ [(k : Int)]) := by
              have := Es.out
              rw [if_pos ⟨h1, h2⟩] at this
              exact this
            have ba : Below v1.heap.size v1 (v1.alloc (Obj.cells #[.int .i64 (k : Nat)] 3)) := (Below.refl _ _).alloc (Nat.le_refl _) _
            have O5 : Hid (Ow (v1.alloc (Obj.cells #[.int .i64 (k : Nat)] 3)) w10.heap.size u25 rs) := O1.out.below ba
            have B5 : Hid (Below w10.heap.size w10 (v1.alloc (Obj.cells #[.int .i64 (k : Nat)] 3))) := B1.out.trans (ba.mono B1.out.size)
            have Cd : Hid ((v1.alloc (Obj.cells #[.int .i64 (k : Nat)] 3)).cell? ⟨v1.heap.size, 0, none⟩ = some (.int .i64 (k : Nat))) := by unfold Hid; simp
            clear ba Es O1 B1
            go_wp2_with (at_builtin; refine app_int _ rfl _ _ rfl w10.heap.size _ rs rfl O5.out ⟨v1.heap.size, 0, none⟩ (k : Nat) rfl Cd.out Lr.out B5.out.size ?_)
            intro g6 cap6 v6 o6 gr6 at6 lt6
            have O6 : Hid (Ow v6 w10.heap.size (.slice (some ⟨g6, 0, none⟩) (rs.length + 1) cap6) (rs ++ [(k : Int)])) := o6
            have B6 : Hid (Below w10.heap.size w10 v6) := B5.out.trans ((Below.refl _ _).grown gr6 B5.out.size (fun k hk => (O5.out.block k hk).1))
            clear o6 gr6 at6 lt6 O5 B5 Cd
            go_wp2
            go_round
            case rel => exact ⟨k + 1, ds ++ [y], by omega, by go_num, Ln.out.1, Ln.out.2, by rw [Es'.out]; exact O6, B6⟩
            case measure => simp [intOf]; omega
          · have h9 := h2
            have Es' : Hid (rch (ds ++ [y]) m (k + 1) = rs) := by
              have := Es.out
              rw [if_neg (by omega), List.append_nil] at this
              exact this
            clear Es
            go_wp2
            go_round
            case rel => exact ⟨k + 1, ds ++ [y], by omega, by go_num, Ln.out.1, Ln.out.2, by rw [Es'.out]; exact O1, B1⟩
            case measure => simp [intOf]; omega
        · have h9 := h1
          have Es' : Hid (rch (ds ++ [y]) m (k + 1) = rs) := by
            have := Es.out
            rw [if_neg (by omega), List.append_nil] at this
            exact this
          clear Es
          go_wp2
          go_round
          case rel => exact ⟨k + 1, ds ++ [y], by omega, by go_num, Ln.out.1, Ln.out.2, by rw [Es'.out]; exact O1, B1⟩
          case measure => simp [intOf]; omega

set_option maxRecDepth 100000 in
set_option maxHeartbeats 16000000 in
theorem walk_c (v : Value) (W H : Nat) (gs os : List Int) (a : Int) (t : Nat) (m Ff : Int) (fl : Bool) (w : World) (hf : Fl w v W H gs os) (hg : Et w) (hs : Sd w) (G : Fd.Good W H gs os) (ht : t < W * H) (hFf : Fd.askFault (Fd.fault W H gs os) gs.length [a] = Ff) (hf0 : Ff ≠ 0) :
    Calls Tryd.prog 3 #[v, .int .i64 a, .int .i64 (t : Nat), .int .i64 m, .bool fl] w fun e w' => e = .returned (.bool true) ∧ Below w.heap.size w w' := by
  have F0 : Hid (Fl w v W H gs os) := hf
  have G0 : Hid (Et w) := hg
  have S0 : Hid (Sd w) := hs
  have HF : Hid (Fd.askFault (Fd.fault W H gs os) gs.length [(t : Int)] = 0) := by unfold Hid; rw [ask_one_or, Fd.fault_good G, if_neg (by decide), if_pos (by rw [G.gl]; omega)]
  have HG : Hid (Fd.Good W H gs os) := G
  have HT : Hid (t < W * H) := ht
  have N0 : W * H ≤ 144 := G.pos.2
  have H2 : Hid (Fd.askFault (Fd.fault W H gs os) gs.length [a, (t : Int)] = Ff) := by unfold Hid; rw [ask_two, if_neg (by rw [HF.out]; decide)]; exact hFf
  have Hf : Hid (Fd.askFault (Fd.fault W H gs os) gs.length [a] = Ff) := hFf
  have hr : (Ff == 0) = false := by simpa using hf0
  have Hf0 : Hid (Ff ≠ 0) := hf0
  clear G ht hFf
  obtain ⟨u1, u2, rfl, ⟨a1, c, rfl, c1, c2, -⟩, ⟨b1, d, rfl, d1, d2, -⟩⟩ := hf
  clear hg hs
  go_enter Tryd.func3, Tryd.ntmps3
  go_wp2_with fail
  have X0 : Hid (Bf _ w.heap.size W H (Value.slice a1 gs.length c) (Value.slice b1 os.length d)) := Bf.mk' (w := w) W H (Value.slice a1 gs.length c) (Value.slice b1 os.length d) rfl
  have B0 : Hid (Below w.heap.size w (w.alloc (Obj.cells #[Value.int IntKind.i64 W, Value.int IntKind.i64 H, Value.slice a1 gs.length c, Value.slice b1 os.length d] 24))) := (Below.refl _ _).alloc (Nat.le_refl _) _
  generalize w.alloc (Obj.cells #[Value.int IntKind.i64 W, Value.int IntKind.i64 H, Value.slice a1 gs.length c, Value.slice b1 os.length d] 24) = w0 at *
  obtain ⟨x0, x1, x2, x3⟩ := X0.out
  skip
  refine (ref_cell _ W H gs os (t : Nat) _ (F0.out.below B0.out)).mono ?_
  rintro e w1 ⟨rfl, k1⟩
  have B1 : Hid (Below w.heap.size w w1) := B0.out.trans (k1.mono B0.out.size)
  have X1 : Hid (Bf w1 w.heap.size W H (.slice a1 gs.length c) (.slice b1 os.length d)) := X0.out.below k1 X0.out.lt
  clear k1 x0 x1 x2 x3 B0 X0
  rw [HF.out]
  obtain ⟨x0, x1, x2, x3⟩ := X1.out
  go_wp2_with fail
  refine (ref_to _ W H gs os t fl _ (F0.out.below B1.out) HG.out HT.out (even_to HG.out.w1 gs fl)).mono ?_
  rintro e w2 ⟨g, l, rfl, hbz, hbk, hfar, k2⟩
  have B2 : Hid (Below w.heap.size w w2) := B1.out.trans (k2.mono B1.out.size)
  have X2 : Hid (Bf w2 w.heap.size W H (.slice a1 gs.length c) (.slice b1 os.length d)) := X1.out.below k2 X1.out.lt
  have K2 : Hid (Bk w2 g l #[]) := hbk
  have FA : Hid (IsFar (Fd.near W H) (fun _ j => (gs.map fun g => Fd.onto g fl).getD j 0) t (W * H) l ∧ Flat l) := hfar
  have U2 : Hid (Ro w2 (.slice (some ⟨g, 0, none⟩) (W * H) (W * H)) l) := by
    have := hbk.ro (c := W * H) (by rw [hfar.1.1]; exact Nat.le_refl _) (by omega)
    rw [hfar.1.1] at this
    exact this
  clear hbz hbk hfar
  clear k2 x0 x1 x2 x3 B1 X1
  obtain ⟨x0, x1, x2, x3⟩ := X2.out
  go_wp2_with fail
  refine (Far_ok _ W H gs os t fl _ (F0.out.below B2.out) (S0.out.below B2.out) HG.out HT.out).mono ?_
  rintro e w3 ⟨uu, l2, rfl, hu2, hf2, k3⟩
  have B3 : Hid (Below w.heap.size w w3) := B2.out.trans (k3.mono B2.out.size)
  have X3 : Hid (Bf w3 w.heap.size W H (.slice a1 gs.length c) (.slice b1 os.length d)) := X2.out.below k3 X2.out.lt
  have K3 : Hid (Bk w3 g l #[]) := K2.out.below k3
  have U3 : Hid (Ro w3 (.slice (some ⟨g, 0, none⟩) (W * H) (W * H)) l) := U2.out.below k3
  have V3 : Hid (Ro w3 uu l) := by rw [FA.out.1.uniq hf2.1]; exact hu2
  clear hu2 hf2
  clear k3 x0 x1 x2 x3 B2 X2 K2 U2
  obtain ⟨x0, x1, x2, x3⟩ := X3.out
  go_wp2_with fail
  refine (er_same _ _ _ Er.nil (G0.out.below B3.out)).mono ?_
  rintro e w4 ⟨rfl, k4⟩
  have B4 : Hid (Below w.heap.size w w4) := B3.out.trans (k4.mono B3.out.size)
  have X4 : Hid (Bf w4 w.heap.size W H (.slice a1 gs.length c) (.slice b1 os.length d)) := X3.out.below k4 X3.out.lt
  have K4 : Hid (Bk w4 g l #[]) := K3.out.below k4
  have U4 : Hid (Ro w4 (.slice (some ⟨g, 0, none⟩) (W * H) (W * H)) l) := U3.out.below k4
  have V4 : Hid (Ro w4 uu l) := V3.out.below k4
  clear k4 x0 x1 x2 x3 B3 X3 K3 U3 V3
  obtain ⟨x0, x1, x2, x3⟩ := X4.out
  go_wp2_with fail
  refine (ints_like _ _ _ _ V4.out U4.out).mono ?_
  rintro e w5 ⟨rfl, k5⟩
  have B5 : Hid (Below w.heap.size w w5) := B4.out.trans (k5.mono B4.out.size)
  have X5 : Hid (Bf w5 w.heap.size W H (.slice a1 gs.length c) (.slice b1 os.length d)) := X4.out.below k5 X4.out.lt
  have K5 : Hid (Bk w5 g l #[]) := K4.out.below k5
  have U5 : Hid (Ro w5 (.slice (some ⟨g, 0, none⟩) (W * H) (W * H)) l) := U4.out.below k5
  have V5 : Hid (Ro w5 uu l) := V4.out.below k5
  clear k5 x0 x1 x2 x3 B4 X4 K4 U4 V4
  clear V5
  obtain ⟨x0, x1, x2, x3⟩ := X5.out
  go_wp2_with fail
  refine (ref_cell _ W H gs os (a : Int) _ (F0.out.below B5.out)).mono ?_
  rintro e w6 ⟨rfl, k6⟩
  have B6 : Hid (Below w.heap.size w w6) := B5.out.trans (k6.mono B5.out.size)
  have X6 : Hid (Bf w6 w.heap.size W H (.slice a1 gs.length c) (.slice b1 os.length d)) := X5.out.below k6 X5.out.lt
  have K6 : Hid (Bk w6 g l #[]) := K5.out.below k6
  have U6 : Hid (Ro w6 (.slice (some ⟨g, 0, none⟩) (W * H) (W * H)) l) := U5.out.below k6
  clear k6 x0 x1 x2 x3 B5 X5 K5 U5
  rw [Hf.out]
  obtain ⟨x0, x1, x2, x3⟩ := X6.out
  go_wp2_with fail
  refine (Next_bad _ W H gs os a (t : Int) Ff fl _ (F0.out.below B6.out) (S0.out.below B6.out) H2.out Hf0.out).mono ?_
  rintro e w7 ⟨rfl, k7⟩
  have B7 : Hid (Below w.heap.size w w7) := B6.out.trans (k7.mono B6.out.size)
  have X7 : Hid (Bf w7 w.heap.size W H (.slice a1 gs.length c) (.slice b1 os.length d)) := X6.out.below k7 X6.out.lt
  have K7 : Hid (Bk w7 g l #[]) := K6.out.below k7
  have U7 : Hid (Ro w7 (.slice (some ⟨g, 0, none⟩) (W * H) (W * H)) l) := U6.out.below k7
  clear k7 x0 x1 x2 x3 B6 X6 K6 U6
  obtain ⟨x0, x1, x2, x3⟩ := X7.out
  go_wp2_with fail
  refine (er_same _ _ _ (Er.no Hf0.out) (G0.out.below B7.out)).mono ?_
  rintro e w8 ⟨rfl, k8⟩
  have B8 : Hid (Below w.heap.size w w8) := B7.out.trans (k8.mono B7.out.size)
  have X8 : Hid (Bf w8 w.heap.size W H (.slice a1 gs.length c) (.slice b1 os.length d)) := X7.out.below k8 X7.out.lt
  have K8 : Hid (Bk w8 g l #[]) := K7.out.below k8
  have U8 : Hid (Ro w8 (.slice (some ⟨g, 0, none⟩) (W * H) (W * H)) l) := U7.out.below k8
  clear k8 x0 x1 x2 x3 B7 X7 K7 U7
  obtain ⟨x0, x1, x2, x3⟩ := X8.out
  go_wp2_with fail
  refine (Path_bad _ W H gs os a (t : Int) Ff fl _ (F0.out.below B8.out) (S0.out.below B8.out) H2.out Hf0.out).mono ?_
  rintro e w9 ⟨rfl, k9⟩
  have B9 : Hid (Below w.heap.size w w9) := B8.out.trans (k9.mono B8.out.size)
  have X9 : Hid (Bf w9 w.heap.size W H (.slice a1 gs.length c) (.slice b1 os.length d)) := X8.out.below k9 X8.out.lt
  have K9 : Hid (Bk w9 g l #[]) := K8.out.below k9
  have U9 : Hid (Ro w9 (.slice (some ⟨g, 0, none⟩) (W * H) (W * H)) l) := U8.out.below k9
  clear k9 x0 x1 x2 x3 B8 X8 K8 U8
  obtain ⟨x0, x1, x2, x3⟩ := X9.out
  go_wp2_with fail
  refine (er_same _ _ _ (Er.no Hf0.out) (G0.out.below B9.out)).mono ?_
  rintro e w10 ⟨rfl, k10⟩
  have B10 : Hid (Below w.heap.size w w10) := B9.out.trans (k10.mono B9.out.size)
  have X10 : Hid (Bf w10 w.heap.size W H (.slice a1 gs.length c) (.slice b1 os.length d)) := X9.out.below k10 X9.out.lt
  have K10 : Hid (Bk w10 g l #[]) := K9.out.below k10
  have U10 : Hid (Ro w10 (.slice (some ⟨g, 0, none⟩) (W * H) (W * H)) l) := U9.out.below k10
  clear k10 x0 x1 x2 x3 B9 X9 K9 U9
  obtain ⟨x0, x1, x2, x3⟩ := X10.out
  go_wp2_with fail
  refine (ints_like _ _ [] _ (Ro.nil _) (Ro.nil _)).mono ?_
  rintro e w11 ⟨rfl, k11⟩
  have B11 : Hid (Below w.heap.size w w11) := B10.out.trans (k11.mono B10.out.size)
  have X11 : Hid (Bf w11 w.heap.size W H (.slice a1 gs.length c) (.slice b1 os.length d)) := X10.out.below k11 X10.out.lt
  have K11 : Hid (Bk w11 g l #[]) := K10.out.below k11
  have U11 : Hid (Ro w11 (.slice (some ⟨g, 0, none⟩) (W * H) (W * H)) l) := U10.out.below k11
  clear k11 x0 x1 x2 x3 B10 X10 K10 U10
  obtain ⟨x0, x1, x2, x3⟩ := X11.out
  go_wp2_with fail
  refine (ref_cell _ W H gs os a _ (F0.out.below B11.out)).mono ?_
  rintro e w12 ⟨rfl, k12⟩
  have B12 : Hid (Below w.heap.size w w12) := B11.out.trans (k12.mono B11.out.size)
  have X12 : Hid (Bf w12 w.heap.size W H (.slice a1 gs.length c) (.slice b1 os.length d)) := X11.out.below k12 X11.out.lt
  have K12 : Hid (Bk w12 g l #[]) := K11.out.below k12
  have U12 : Hid (Ro w12 (.slice (some ⟨g, 0, none⟩) (W * H) (W * H)) l) := U11.out.below k12
  clear k12 x0 x1 x2 x3 B11 X11 K11 U11
  rw [Hf.out]
  obtain ⟨x0, x1, x2, x3⟩ := X12.out
  go_wp2_with fail
  go_loopw [25, 26] (fun v i W' => v = .slice none 0 0 ∧ i = .int .i64 0 ∧ W' = w12) (fun _ _ _ => 0)
  case atStart => exact ⟨rfl, rfl, rfl⟩
  case round =>
    obtain ⟨rfl, rfl, rfl⟩ := hrel
    clear x0 x1 x2 x3
    obtain ⟨x0, x1, x2, x3⟩ := X12.out
    go_wp2_with fail
    refine (Reach_bad _ W H gs os a m Ff fl _ (F0.out.below B12.out) (S0.out.below B12.out) Hf.out Hf0.out).mono ?_
    rintro e w13 ⟨rfl, k13⟩
    have B13 : Hid (Below w.heap.size w w13) := B12.out.trans (k13.mono B12.out.size)
    have X13 : Hid (Bf w13 w.heap.size W H (.slice a1 gs.length c) (.slice b1 os.length d)) := X12.out.below k13 X12.out.lt
    have K13 : Hid (Bk w13 g l #[]) := K12.out.below k13
    have U13 : Hid (Ro w13 (.slice (some ⟨g, 0, none⟩) (W * H) (W * H)) l) := U12.out.below k13
    clear k13 x0 x1 x2 x3 B12 X12 K12 U12
    obtain ⟨x0, x1, x2, x3⟩ := X13.out
    go_wp2_with fail
    refine (er_same _ _ _ (Er.no Hf0.out) (G0.out.below B13.out)).mono ?_
    rintro e w14 ⟨rfl, k14⟩
    have B14 : Hid (Below w.heap.size w w14) := B13.out.trans (k14.mono B13.out.size)
    have X14 : Hid (Bf w14 w.heap.size W H (.slice a1 gs.length c) (.slice b1 os.length d)) := X13.out.below k14 X13.out.lt
    have K14 : Hid (Bk w14 g l #[]) := K13.out.below k14
    have U14 : Hid (Ro w14 (.slice (some ⟨g, 0, none⟩) (W * H) (W * H)) l) := U13.out.below k14
    clear k14 x0 x1 x2 x3 B13 X13 K13 U13
    obtain ⟨x0, x1, x2, x3⟩ := X14.out
    go_wp2_with fail
    refine (ints_like _ _ [] _ (Ro.nil _) (Ro.nil _)).mono ?_
    rintro e w15 ⟨rfl, k15⟩
    have B15 : Hid (Below w.heap.size w w15) := B14.out.trans (k15.mono B14.out.size)
    have X15 : Hid (Bf w15 w.heap.size W H (.slice a1 gs.length c) (.slice b1 os.length d)) := X14.out.below k15 X14.out.lt
    have K15 : Hid (Bk w15 g l #[]) := K14.out.below k15
    have U15 : Hid (Ro w15 (.slice (some ⟨g, 0, none⟩) (W * H) (W * H)) l) := U14.out.below k15
    clear k15 x0 x1 x2 x3 B14 X14 K14 U14
    go_wp2
    go_ret
    exact ⟨rfl, B15⟩

set_option maxRecDepth 100000 in
set_option maxHeartbeats 16000000 in
theorem walk_d (v : Value) (W H : Nat) (gs os : List Int) (a : Nat) (t : Nat) (m : Int) (fl : Bool) (w : World) (hf : Fl w v W H gs os) (hg : Et w) (hs : Sd w) (G : Fd.Good W H gs os) (ht : t < W * H) (ha : a < W * H) :
    Calls Tryd.prog 3 #[v, .int .i64 (a : Nat), .int .i64 (t : Nat), .int .i64 m, .bool fl] w fun e w' => e = .returned (.bool true) ∧ Below w.heap.size w w' := by
  have F0 : Hid (Fl w v W H gs os) := hf
  have G0 : Hid (Et w) := hg
  have S0 : Hid (Sd w) := hs
  have HF : Hid (Fd.askFault (Fd.fault W H gs os) gs.length [(t : Int)] = 0) := by unfold Hid; rw [ask_one_or, Fd.fault_good G, if_neg (by decide), if_pos (by rw [G.gl]; omega)]
  have HG : Hid (Fd.Good W H gs os) := G
  have HT : Hid (t < W * H) := ht
  have N0 : W * H ≤ 144 := G.pos.2
  have HA : Hid (a < W * H) := ha
  have Hf : Hid (Fd.askFault (Fd.fault W H gs os) gs.length [(a : Int)] = 0) := by unfold Hid; rw [ask_one_or, Fd.fault_good G, if_neg (by decide), if_pos (by rw [G.gl]; omega)]
  clear G ht
  obtain ⟨u1, u2, rfl, ⟨a1, c, rfl, c1, c2, -⟩, ⟨b1, d, rfl, d1, d2, -⟩⟩ := hf
  clear hg hs
  go_enter Tryd.func3, Tryd.ntmps3
  go_wp2_with fail
  have X0 : Hid (Bf _ w.heap.size W H (Value.slice a1 gs.length c) (Value.slice b1 os.length d)) := Bf.mk' (w := w) W H (Value.slice a1 gs.length c) (Value.slice b1 os.length d) rfl
  have B0 : Hid (Below w.heap.size w (w.alloc (Obj.cells #[Value.int IntKind.i64 W, Value.int IntKind.i64 H, Value.slice a1 gs.length c, Value.slice b1 os.length d] 24))) := (Below.refl _ _).alloc (Nat.le_refl _) _
  generalize w.alloc (Obj.cells #[Value.int IntKind.i64 W, Value.int IntKind.i64 H, Value.slice a1 gs.length c, Value.slice b1 os.length d] 24) = w0 at *
  obtain ⟨x0, x1, x2, x3⟩ := X0.out
  skip
  refine (ref_cell _ W H gs os (t : Nat) _ (F0.out.below B0.out)).mono ?_
  rintro e w1 ⟨rfl, k1⟩
  have B1 : Hid (Below w.heap.size w w1) := B0.out.trans (k1.mono B0.out.size)
  have X1 : Hid (Bf w1 w.heap.size W H (.slice a1 gs.length c) (.slice b1 os.length d)) := X0.out.below k1 X0.out.lt
  clear k1 x0 x1 x2 x3 B0 X0
  rw [HF.out]
  obtain ⟨x0, x1, x2, x3⟩ := X1.out
  go_wp2_with fail
  refine (ref_to _ W H gs os t fl _ (F0.out.below B1.out) HG.out HT.out (even_to HG.out.w1 gs fl)).mono ?_
  rintro e w2 ⟨g, l, rfl, hbz, hbk, hfar, k2⟩
  have B2 : Hid (Below w.heap.size w w2) := B1.out.trans (k2.mono B1.out.size)
  have X2 : Hid (Bf w2 w.heap.size W H (.slice a1 gs.length c) (.slice b1 os.length d)) := X1.out.below k2 X1.out.lt
  have K2 : Hid (Bk w2 g l #[]) := hbk
  have FA : Hid (IsFar (Fd.near W H) (fun _ j => (gs.map fun g => Fd.onto g fl).getD j 0) t (W * H) l ∧ Flat l) := hfar
  have U2 : Hid (Ro w2 (.slice (some ⟨g, 0, none⟩) (W * H) (W * H)) l) := by
    have := hbk.ro (c := W * H) (by rw [hfar.1.1]; exact Nat.le_refl _) (by omega)
    rw [hfar.1.1] at this
    exact this
  clear hbz hbk hfar
  clear k2 x0 x1 x2 x3 B1 X1
  obtain ⟨x0, x1, x2, x3⟩ := X2.out
  go_wp2_with fail
  refine (Far_ok _ W H gs os t fl _ (F0.out.below B2.out) (S0.out.below B2.out) HG.out HT.out).mono ?_
  rintro e w3 ⟨uu, l2, rfl, hu2, hf2, k3⟩
  have B3 : Hid (Below w.heap.size w w3) := B2.out.trans (k3.mono B2.out.size)
  have X3 : Hid (Bf w3 w.heap.size W H (.slice a1 gs.length c) (.slice b1 os.length d)) := X2.out.below k3 X2.out.lt
  have K3 : Hid (Bk w3 g l #[]) := K2.out.below k3
  have U3 : Hid (Ro w3 (.slice (some ⟨g, 0, none⟩) (W * H) (W * H)) l) := U2.out.below k3
  have V3 : Hid (Ro w3 uu l) := by rw [FA.out.1.uniq hf2.1]; exact hu2
  clear hu2 hf2
  clear k3 x0 x1 x2 x3 B2 X2 K2 U2
  obtain ⟨x0, x1, x2, x3⟩ := X3.out
  go_wp2_with fail
  refine (er_same _ _ _ Er.nil (G0.out.below B3.out)).mono ?_
  rintro e w4 ⟨rfl, k4⟩
  have B4 : Hid (Below w.heap.size w w4) := B3.out.trans (k4.mono B3.out.size)
  have X4 : Hid (Bf w4 w.heap.size W H (.slice a1 gs.length c) (.slice b1 os.length d)) := X3.out.below k4 X3.out.lt
  have K4 : Hid (Bk w4 g l #[]) := K3.out.below k4
  have U4 : Hid (Ro w4 (.slice (some ⟨g, 0, none⟩) (W * H) (W * H)) l) := U3.out.below k4
  have V4 : Hid (Ro w4 uu l) := V3.out.below k4
  clear k4 x0 x1 x2 x3 B3 X3 K3 U3 V3
  obtain ⟨x0, x1, x2, x3⟩ := X4.out
  go_wp2_with fail
  refine (ints_like _ _ _ _ V4.out U4.out).mono ?_
  rintro e w5 ⟨rfl, k5⟩
  have B5 : Hid (Below w.heap.size w w5) := B4.out.trans (k5.mono B4.out.size)
  have X5 : Hid (Bf w5 w.heap.size W H (.slice a1 gs.length c) (.slice b1 os.length d)) := X4.out.below k5 X4.out.lt
  have K5 : Hid (Bk w5 g l #[]) := K4.out.below k5
  have U5 : Hid (Ro w5 (.slice (some ⟨g, 0, none⟩) (W * H) (W * H)) l) := U4.out.below k5
  have V5 : Hid (Ro w5 uu l) := V4.out.below k5
  clear k5 x0 x1 x2 x3 B4 X4 K4 U4 V4
  clear V5
  obtain ⟨x0, x1, x2, x3⟩ := X5.out
  go_wp2_with fail
  refine (ref_cell _ W H gs os (a : Int) _ (F0.out.below B5.out)).mono ?_
  rintro e w6 ⟨rfl, k6⟩
  have B6 : Hid (Below w.heap.size w w6) := B5.out.trans (k6.mono B5.out.size)
  have X6 : Hid (Bf w6 w.heap.size W H (.slice a1 gs.length c) (.slice b1 os.length d)) := X5.out.below k6 X5.out.lt
  have K6 : Hid (Bk w6 g l #[]) := K5.out.below k6
  have U6 : Hid (Ro w6 (.slice (some ⟨g, 0, none⟩) (W * H) (W * H)) l) := U5.out.below k6
  clear k6 x0 x1 x2 x3 B5 X5 K5 U5
  rw [Hf.out]
  have aln : a < W * H := HA.out
  have ca := K6.out.cell (get_some FA.out.1.1 HA.out)
  obtain ⟨y, hy⟩ : ∃ y, l.getD a 0 = y := ⟨_, rfl⟩
  have Hy : Hid (l.getD a 0 = y) := hy
  rw [hy] at ca
  clear hy
  by_cases hd : y < 0
  · have hd9 := hd
    obtain ⟨x0, x1, x2, x3⟩ := X6.out
    go_wp2_with fail
    refine (Next_ok _ W H gs os a t fl _ (F0.out.below B6.out) (S0.out.below B6.out) HG.out HA.out HT.out).mono ?_
    rintro e w7 ⟨l2, hl2, he2, k7⟩
    have B7 : Hid (Below w.heap.size w w7) := B6.out.trans (k7.mono B6.out.size)
    have X7 : Hid (Bf w7 w.heap.size W H (.slice a1 gs.length c) (.slice b1 os.length d)) := X6.out.below k7 X6.out.lt
    have K7 : Hid (Bk w7 g l #[]) := K6.out.below k7
    have U7 : Hid (Ro w7 (.slice (some ⟨g, 0, none⟩) (W * H) (W * H)) l) := U6.out.below k7
    have e2 := FA.out.1.uniq hl2.1
    subst e2
    rcases he2 with ⟨q0, rfl⟩ | ⟨q0, q1⟩
    rotate_left
    · rw [Hy.out] at q0
      omega
    clear hl2 q0
    clear k7 x0 x1 x2 x3 B6 X6 K6 U6
    obtain ⟨x0, x1, x2, x3⟩ := X7.out
    go_wp2_with fail
    refine (er_same _ _ _ (Er.no (by decide)) (G0.out.below B7.out)).mono ?_
    rintro e w8 ⟨rfl, k8⟩
    have B8 : Hid (Below w.heap.size w w8) := B7.out.trans (k8.mono B7.out.size)
    have X8 : Hid (Bf w8 w.heap.size W H (.slice a1 gs.length c) (.slice b1 os.length d)) := X7.out.below k8 X7.out.lt
    have K8 : Hid (Bk w8 g l #[]) := K7.out.below k8
    have U8 : Hid (Ro w8 (.slice (some ⟨g, 0, none⟩) (W * H) (W * H)) l) := U7.out.below k8
    clear k8 x0 x1 x2 x3 B7 X7 K7 U7
    obtain ⟨x0, x1, x2, x3⟩ := X8.out
    go_wp2_with fail
    refine (Path_ok _ W H gs os a t fl _ (F0.out.below B8.out) (S0.out.below B8.out) HG.out HA.out HT.out).mono ?_
    rintro e w9 ⟨l2, hl2, he2, k9⟩
    have B9 : Hid (Below w.heap.size w w9) := B8.out.trans (k9.mono B8.out.size)
    have X9 : Hid (Bf w9 w.heap.size W H (.slice a1 gs.length c) (.slice b1 os.length d)) := X8.out.below k9 X8.out.lt
    have K9 : Hid (Bk w9 g l #[]) := K8.out.below k9
    have U9 : Hid (Ro w9 (.slice (some ⟨g, 0, none⟩) (W * H) (W * H)) l) := U8.out.below k9
    have e2 := FA.out.1.uniq hl2.1
    subst e2
    rcases he2 with ⟨q0, rfl⟩ | ⟨q0, q1⟩
    rotate_left
    · rw [Hy.out] at q0
      omega
    clear hl2 q0
    clear k9 x0 x1 x2 x3 B8 X8 K8 U8
    obtain ⟨x0, x1, x2, x3⟩ := X9.out
    go_wp2_with fail
    refine (er_same _ _ _ (Er.no (by decide)) (G0.out.below B9.out)).mono ?_
    rintro e w10 ⟨rfl, k10⟩
    have B10 : Hid (Below w.heap.size w w10) := B9.out.trans (k10.mono B9.out.size)
    have X10 : Hid (Bf w10 w.heap.size W H (.slice a1 gs.length c) (.slice b1 os.length d)) := X9.out.below k10 X9.out.lt
    have K10 : Hid (Bk w10 g l #[]) := K9.out.below k10
    have U10 : Hid (Ro w10 (.slice (some ⟨g, 0, none⟩) (W * H) (W * H)) l) := U9.out.below k10
    clear k10 x0 x1 x2 x3 B9 X9 K9 U9
    obtain ⟨x0, x1, x2, x3⟩ := X10.out
    go_wp2_with fail
    refine (ints_like _ _ [] _ (Ro.nil _) (Ro.nil _)).mono ?_
    rintro e w11 ⟨rfl, k11⟩
    have B11 : Hid (Below w.heap.size w w11) := B10.out.trans (k11.mono B10.out.size)
    have X11 : Hid (Bf w11 w.heap.size W H (.slice a1 gs.length c) (.slice b1 os.length d)) := X10.out.below k11 X10.out.lt
    have K11 : Hid (Bk w11 g l #[]) := K10.out.below k11
    have U11 : Hid (Ro w11 (.slice (some ⟨g, 0, none⟩) (W * H) (W * H)) l) := U10.out.below k11
    clear k11 x0 x1 x2 x3 B10 X10 K10 U10
    obtain ⟨x0, x1, x2, x3⟩ := X11.out
    go_wp2_with fail
    refine (ref_cell _ W H gs os (a : Int) _ (F0.out.below B11.out)).mono ?_
    rintro e w12 ⟨rfl, k12⟩
    have B12 : Hid (Below w.heap.size w w12) := B11.out.trans (k12.mono B11.out.size)
    have X12 : Hid (Bf w12 w.heap.size W H (.slice a1 gs.length c) (.slice b1 os.length d)) := X11.out.below k12 X11.out.lt
    have K12 : Hid (Bk w12 g l #[]) := K11.out.below k12
    have U12 : Hid (Ro w12 (.slice (some ⟨g, 0, none⟩) (W * H) (W * H)) l) := U11.out.below k12
    clear k12 x0 x1 x2 x3 B11 X11 K11 U11
    rw [Hf.out]
    clear ca hd hd9
    by_cases hm : m < 0 ∨ 1000000 < m
    · have hmm := hm
      rcases hm with hm | hm
      · have hm1 := hm
        obtain ⟨x0, x1, x2, x3⟩ := X12.out
        go_wp2_with fail
        go_loopw [25, 26] (fun v i W' => v = .slice none 0 0 ∧ i = .int .i64 0 ∧ W' = w12) (fun _ _ _ => 0)
        case atStart => exact ⟨rfl, rfl, rfl⟩
        case round =>
          obtain ⟨rfl, rfl, rfl⟩ := hrel
          clear x0 x1 x2 x3
          obtain ⟨x0, x1, x2, x3⟩ := X12.out
          go_wp2_with fail
          refine (Reach_range _ W H gs os a m fl _ (F0.out.below B12.out) (S0.out.below B12.out) HG.out HA.out (.inl hm1)).mono ?_
          rintro e w13 ⟨rfl, k13⟩
          have B13 : Hid (Below w.heap.size w w13) := B12.out.trans (k13.mono B12.out.size)
          have X13 : Hid (Bf w13 w.heap.size W H (.slice a1 gs.length c) (.slice b1 os.length d)) := X12.out.below k13 X12.out.lt
          have K13 : Hid (Bk w13 g l #[]) := K12.out.below k13
          have U13 : Hid (Ro w13 (.slice (some ⟨g, 0, none⟩) (W * H) (W * H)) l) := U12.out.below k13
          clear k13 x0 x1 x2 x3 B12 X12 K12 U12
          obtain ⟨x0, x1, x2, x3⟩ := X13.out
          go_wp2_with fail
          refine (er_same _ _ _ (Er.no (by decide)) (G0.out.below B13.out)).mono ?_
          rintro e w14 ⟨rfl, k14⟩
          have B14 : Hid (Below w.heap.size w w14) := B13.out.trans (k14.mono B13.out.size)
          have X14 : Hid (Bf w14 w.heap.size W H (.slice a1 gs.length c) (.slice b1 os.length d)) := X13.out.below k14 X13.out.lt
          have K14 : Hid (Bk w14 g l #[]) := K13.out.below k14
          have U14 : Hid (Ro w14 (.slice (some ⟨g, 0, none⟩) (W * H) (W * H)) l) := U13.out.below k14
          clear k14 x0 x1 x2 x3 B13 X13 K13 U13
          obtain ⟨x0, x1, x2, x3⟩ := X14.out
          go_wp2_with fail
          refine (ints_like _ _ [] _ (Ro.nil _) (Ro.nil _)).mono ?_
          rintro e w15 ⟨rfl, k15⟩
          have B15 : Hid (Below w.heap.size w w15) := B14.out.trans (k15.mono B14.out.size)
          have X15 : Hid (Bf w15 w.heap.size W H (.slice a1 gs.length c) (.slice b1 os.length d)) := X14.out.below k15 X14.out.lt
          have K15 : Hid (Bk w15 g l #[]) := K14.out.below k15
          have U15 : Hid (Ro w15 (.slice (some ⟨g, 0, none⟩) (W * H) (W * H)) l) := U14.out.below k15
          clear k15 x0 x1 x2 x3 B14 X14 K14 U14
          go_wp2
          go_ret
          exact ⟨rfl, B15⟩
      · have hm1 := hm
        have hm2 : ¬ m < 0 := by omega
        obtain ⟨x0, x1, x2, x3⟩ := X12.out
        go_wp2_with fail
        go_loopw [25, 26] (fun v i W' => v = .slice none 0 0 ∧ i = .int .i64 0 ∧ W' = w12) (fun _ _ _ => 0)
        case atStart => exact ⟨rfl, rfl, rfl⟩
        case round =>
          obtain ⟨rfl, rfl, rfl⟩ := hrel
          clear x0 x1 x2 x3
          obtain ⟨x0, x1, x2, x3⟩ := X12.out
          go_wp2_with fail
          refine (Reach_range _ W H gs os a m fl _ (F0.out.below B12.out) (S0.out.below B12.out) HG.out HA.out (.inr hm1)).mono ?_
          rintro e w13 ⟨rfl, k13⟩
          have B13 : Hid (Below w.heap.size w w13) := B12.out.trans (k13.mono B12.out.size)
          have X13 : Hid (Bf w13 w.heap.size W H (.slice a1 gs.length c) (.slice b1 os.length d)) := X12.out.below k13 X12.out.lt
          have K13 : Hid (Bk w13 g l #[]) := K12.out.below k13
          have U13 : Hid (Ro w13 (.slice (some ⟨g, 0, none⟩) (W * H) (W * H)) l) := U12.out.below k13
          clear k13 x0 x1 x2 x3 B12 X12 K12 U12
          obtain ⟨x0, x1, x2, x3⟩ := X13.out
          go_wp2_with fail
          refine (er_same _ _ _ (Er.no (by decide)) (G0.out.below B13.out)).mono ?_
          rintro e w14 ⟨rfl, k14⟩
          have B14 : Hid (Below w.heap.size w w14) := B13.out.trans (k14.mono B13.out.size)
          have X14 : Hid (Bf w14 w.heap.size W H (.slice a1 gs.length c) (.slice b1 os.length d)) := X13.out.below k14 X13.out.lt
          have K14 : Hid (Bk w14 g l #[]) := K13.out.below k14
          have U14 : Hid (Ro w14 (.slice (some ⟨g, 0, none⟩) (W * H) (W * H)) l) := U13.out.below k14
          clear k14 x0 x1 x2 x3 B13 X13 K13 U13
          obtain ⟨x0, x1, x2, x3⟩ := X14.out
          go_wp2_with fail
          refine (ints_like _ _ [] _ (Ro.nil _) (Ro.nil _)).mono ?_
          rintro e w15 ⟨rfl, k15⟩
          have B15 : Hid (Below w.heap.size w w15) := B14.out.trans (k15.mono B14.out.size)
          have X15 : Hid (Bf w15 w.heap.size W H (.slice a1 gs.length c) (.slice b1 os.length d)) := X14.out.below k15 X14.out.lt
          have K15 : Hid (Bk w15 g l #[]) := K14.out.below k15
          have U15 : Hid (Ro w15 (.slice (some ⟨g, 0, none⟩) (W * H) (W * H)) l) := U14.out.below k15
          clear k15 x0 x1 x2 x3 B14 X14 K14 U14
          go_wp2
          go_ret
          exact ⟨rfl, B15⟩
    · have hm0 : 0 ≤ m := by omega
      have hm1 : m ≤ 1000000 := by omega
      clear hm
      have m2 : ¬ m < 0 := by omega
      have m3 : ¬ 1000000 < m := by omega
      obtain ⟨x0, x1, x2, x3⟩ := X12.out
      go_wp2_with fail
      clear x0 x1 x2 x3
      go_loopw [25, 26] (fun v i W' => ∃ (k : Nat) (ds : List Int), k ≤ gs.length ∧ i = .int .i64 (k : Nat) ∧ ds.length = k ∧ (∀ (i : Nat) d, ds[i]? = some d → Least (Fd.near W H) (fun _ j => (gs.map fun g => Fd.onto g fl).getD j 0) i a d) ∧ Ow W' w12.heap.size v (rch ds m k) ∧ Below w12.heap.size w12 W') (fun _ i _ => gs.length - (intOf i).toNat)
      case atStart => exact ⟨0, [], Nat.zero_le _, rfl, rfl, fun i d h => by simp at h, Ow.nil _ _, Below.refl _ _⟩
      case round =>
        obtain ⟨k, ds, hk, rfl, hds, hle, ho, hb⟩ := hrel
        have O : Hid (Ow wr w12.heap.size u25 (rch ds m k)) := ho
        have Lq : Hid (ds.length = k ∧ ∀ (i : Nat) d, ds[i]? = some d → Least (Fd.near W H) (fun _ j => (gs.map fun g => Fd.onto g fl).getD j 0) i a d) := ⟨hds, hle⟩
        have BB : Hid (Below w12.heap.size w12 wr) := hb
        have BX : Hid (Bf wr w.heap.size W H (.slice a1 gs.length c) (.slice b1 os.length d)) := X12.out.below hb X12.out.lt
        have BW : Hid (Below w.heap.size w wr) := B12.out.trans (hb.mono B12.out.size)
        clear hds hle ho hb
        by_cases h0 : k = gs.length
        · subst h0
          clear X12 B12
          obtain ⟨x0, x1, x2, x3⟩ := BX.out
          go_wp2_with fail
          refine (Reach_ok _ W H gs os a m fl _ (F0.out.below BW.out) (S0.out.below BW.out) HG.out HA.out hm0 hm1).mono ?_
          rintro e v1 ⟨u, l', rfl, hf, hu, k1⟩
          have C1 : Hid (Below w.heap.size w v1) := BW.out.trans (k1.mono BW.out.size)
          have O1 : Hid (Ow v1 w12.heap.size u25 (rch ds m gs.length)) := O.out.below k1
          have U1 : Hid (Ro v1 u (rch ds m gs.length)) := by
            have e : ds = l' := reach_same (E := even_to HG.out.w1 gs fl) hf (by rw [Lq.out.1, HG.out.gl]) Lq.out.2 HA.out
            rw [e, HG.out.gl]
            exact hu
          clear k1 hf hu x0 x1 x2 x3 O BW BX
          go_wp2_with fail
          refine (er_same _ _ _ Er.nil (G0.out.below C1.out)).mono ?_
          rintro e v2 ⟨rfl, k2⟩
          have C2 : Hid (Below w.heap.size w v2) := C1.out.trans (k2.mono C1.out.size)
          have O2 : Hid (Ow v2 w12.heap.size u25 (rch ds m gs.length)) := O1.out.below k2
          have U2 : Hid (Ro v2 u (rch ds m gs.length)) := U1.out.below k2
          clear k2 C1 O1 U1
          go_wp2_with fail
          refine (ints_like _ _ _ _ U2.out O2.out.ro).mono ?_
          rintro e v3 ⟨rfl, k3⟩
          have C3 : Hid (Below w.heap.size w v3) := C2.out.trans (k3.mono C2.out.size)
          clear k3 C2 O2 U2
          go_wp2
          go_ret
          exact ⟨rfl, C3⟩
        · have hkl : k < gs.length := by omega
          have hkn : Hid (k < W * H) := by unfold Hid; rw [← HG.out.gl]; exact hkl
          have gle : gs.length ≤ 144 := by rw [HG.out.gl]; exact HG.out.pos.2
          have aln : a < W * H := HA.out
          obtain ⟨x0, x1, x2, x3⟩ := BX.out
          go_wp2_with fail
          refine (ref_to _ W H gs os k fl _ (F0.out.below BW.out) HG.out hkn.out (even_to HG.out.w1 gs fl)).mono ?_
          rintro e v1 ⟨g, l', rfl, hbz, hbk, ⟨hf, hfl⟩, k1⟩
          have O1 : Hid (Ow v1 w12.heap.size u25 (rch ds m k)) := O.out.below k1
          have B1 : Hid (Below w12.heap.size w12 v1) := BB.out.trans (k1.mono BB.out.size)
          have el := get_some hf.1 HA.out
          have ca := hbk.cell el
          have Ls : Hid (Least (Fd.near W H) (fun _ j => (gs.map fun g => Fd.onto g fl).getD j 0) k a (l'.getD a 0)) := hf.2 a _ el
          generalize l'.getD a 0 = y at *
          have Lr : Hid ((rch ds m k).length ≤ 1000000) := Nat.le_trans (rch_len ds m k) (by omega)
          have Es : Hid (rch (ds ++ [y]) m (k + 1) = rch ds m k ++ (if 0 ≤ y ∧ y ≤ m then [(k : Int)] else [])) := rch_snoc Lq.out.1
          have Ln : Hid ((ds ++ [y]).length = k + 1 ∧ ∀ (i : Nat) d, (ds ++ [y])[i]? = some d → Least (Fd.near W H) (fun _ j => (gs.map fun g => Fd.onto g fl).getD j 0) i a d) := by
            refine ⟨by simp [Lq.out.1], fun i d hi => ?_⟩
            rw [List.getElem?_append] at hi
            split at hi
            · exact Lq.out.2 i d hi
            · rename_i hi2
              have hi3 : i - ds.length = 0 := by
                rcases Nat.eq_zero_or_pos (i - ds.length) with h | h
                · exact h
                · rw [List.getElem?_eq_none (by simp; omega)] at hi; cases hi
              rw [hi3] at hi
              simp at hi
              subst hi
              have : i = k := by have := Lq.out.1; omega
              subst this
              exact Ls.out
          clear hbz hbk hf hfl k1 el Ls O BB BX BW x0 x1 x2 x3 Lq
          generalize rch ds m k = rs at *
          by_cases h1 : 0 ≤ y
          · by_cases h2 : y ≤ m
            · have h9 := h2
              have Es' : Hid (rch (ds ++ [y]) m (k + 1) = rs ++ [(k : Int)]) := by
                have := Es.out
                rw [if_pos ⟨h1, h2⟩] at this
                exact this
              have ba : Below v1.heap.size v1 (v1.alloc (Obj.cells #[.int .i64 (k : Nat)] 3)) := (Below.refl _ _).alloc (Nat.le_refl _) _
              have O5 : Hid (Ow (v1.alloc (Obj.cells #[.int .i64 (k : Nat)] 3)) w12.heap.size u25 rs) := O1.out.below ba
              have B5 : Hid (Below w12.heap.size w12 (v1.alloc (Obj.cells #[.int .i64 (k : Nat)] 3))) := B1.out.trans (ba.mono B1.out.size)
              have Cd : Hid ((v1.alloc (Obj.cells #[.int .i64 (k : Nat)] 3)).cell? ⟨v1.heap.size, 0, none⟩ = some (.int .i64 (k : Nat))) := by unfold Hid; simp
              clear ba Es O1 B1
              go_wp2_with (at_builtin; refine app_int _ rfl _ _ rfl w12.heap.size _ rs rfl O5.out ⟨v1.heap.size, 0, none⟩ (k : Nat) rfl Cd.out Lr.out B5.out.size ?_)
              intro g6 cap6 v6 o6 gr6 at6 lt6
              have O6 : Hid (Ow v6 w12.heap.size (.slice (some ⟨g6, 0, none⟩) (rs.length + 1) cap6) (rs ++ [(k : Int)])) := o6
              have B6 : Hid (Below w12.heap.size w12 v6) := B5.out.trans ((Below.refl _ _).grown gr6 B5.out.size (fun k hk => (O5.out.block k hk).1))
              clear o6 gr6 at6 lt6 O5 B5 Cd
              go_wp2
              go_round
              case rel => exact ⟨k + 1, ds ++ [y], by omega, by go_num, Ln.out.1, Ln.out.2, by rw [Es'.out]; exact O6, B6⟩
              case measure => simp [intOf]; omega
            · have h9 := h2
              have Es' : Hid (rch (ds ++ [y]) m (k + 1) = rs) := by
                have := Es.out
                rw [if_neg (by omega), List.append_nil] at this
                exact this
              clear Es
              go_wp2
              go_round
              case rel => exact ⟨k + 1, ds ++ [y], by omega, by go_num, Ln.out.1, Ln.out.2, by rw [Es'.out]; exact O1, B1⟩
              case measure => simp [intOf]; omega
          · have h9 := h1
            have Es' : Hid (rch (ds ++ [y]) m (k + 1) = rs) := by
              have := Es.out
              rw [if_neg (by omega), List.append_nil] at this
              exact this
            clear Es
            go_wp2
            go_round
            case rel => exact ⟨k + 1, ds ++ [y], by omega, by go_num, Ln.out.1, Ln.out.2, by rw [Es'.out]; exact O1, B1⟩
            case measure => simp [intOf]; omega
  · have Y0 : Hid (0 ≤ l.getD a 0) := by unfold Hid; rw [Hy.out]; omega
    have LB : Hid (∀ j, l.getD j 0 ≤ 288) := flat_le FA.out.2 FA.out.1.1 N0
    have Yb : Hid (l.getD a 0 ≤ 288) := LB.out a
    obtain ⟨x0, x1, x2, x3⟩ := X6.out
    go_wp2_with fail
    refine (ref_next _ _ W H gs os l a t fl _ (F0.out.below B6.out) HG.out HA.out (even_to HG.out.w1 gs fl) U6.out FA.out.1 LB.out Y0.out HT.out).mono ?_
    rintro e w7 ⟨j, rfl, hN, k7⟩
    have B7 : Hid (Below w.heap.size w w7) := B6.out.trans (k7.mono B6.out.size)
    have X7 : Hid (Bf w7 w.heap.size W H (.slice a1 gs.length c) (.slice b1 os.length d)) := X6.out.below k7 X6.out.lt
    have K7 : Hid (Bk w7 g l #[]) := K6.out.below k7
    have U7 : Hid (Ro w7 (.slice (some ⟨g, 0, none⟩) (W * H) (W * H)) l) := U6.out.below k7
    have NX : Hid (Nxt (Fd.near W H) (gs.map fun g => Fd.onto g fl) l t a j) := hN
    clear hN
    clear k7 x0 x1 x2 x3 B6 X6 K6 U6
    have ba : Below w7.heap.size w7 (w7.alloc (Obj.cells #[.int .i64 (a : Nat)] 3)) := (Below.refl _ _).alloc (Nat.le_refl _) _
    have Cd : Hid ((w7.alloc (Obj.cells #[.int .i64 (a : Nat)] 3)).cell? ⟨w7.heap.size, 0, none⟩ = some (.int .i64 (a : Nat))) := by unfold Hid; simp
    have B5 : Hid (Below w7.heap.size w7 (w7.alloc (Obj.cells #[.int .i64 (a : Nat)] 3))) := ba
    have Nl : Hid (Ow (w7.alloc (Obj.cells #[.int .i64 (a : Nat)] 3)) w7.heap.size (.slice none 0 0) []) := Ow.nil _ _
    clear ba ca hd
    go_wp2_with (at_builtin; refine app_int _ rfl _ _ rfl w7.heap.size _ [] rfl Nl.out ⟨w7.heap.size, 0, none⟩ (a : Nat) rfl Cd.out (by simp) B5.out.size ?_)
    intro g6 cap6 v6 o6 gr6 at6 lt6
    have O6 : Hid (Ow v6 w7.heap.size (.slice (some ⟨g6, 0, none⟩) 1 cap6) [(a : Int)]) := o6
    have B6 : Hid (Below w7.heap.size w7 v6) := B5.out.trans ((Below.refl _ _).grown gr6 B5.out.size (fun k hk => by cases hk))
    clear o6 gr6 at6 lt6 B5 Cd Nl
    go_wp2_with fail
    go_loopw [18, 19] (fun v i W' => ∃ (k : Nat) (pre : List Int), i = .int .i64 (k : Nat) ∧ k < W * H ∧ 0 ≤ l.getD k 0 ∧ Ow W' w7.heap.size v (pre ++ [(k : Int)]) ∧ (∀ p, Pth (Fd.near W H) (gs.map fun g => Fd.onto g fl) l t k p → Pth (Fd.near W H) (gs.map fun g => Fd.onto g fl) l t a (pre ++ p)) ∧ Below w7.heap.size w7 W' ∧ (pre.length : Int) + l.getD k 0 ≤ l.getD a 0) (fun _ i _ => (l.getD (intOf i).toNat 0).toNat)
    case atStart => exact ⟨a, [], rfl, aln, Y0, O6, fun p hp => hp, B6, by simp⟩
    case round =>
      obtain ⟨k, pre, rfl, hk, hk0, ho, hp, hb, hm⟩ := hrel
      clear O6 B6
      have O : Hid (Ow wr w7.heap.size u18 (pre ++ [(k : Int)])) := ho
      have Pp : Hid (∀ p, Pth (Fd.near W H) (gs.map fun g => Fd.onto g fl) l t k p → Pth (Fd.near W H) (gs.map fun g => Fd.onto g fl) l t a (pre ++ p)) := hp
      have BB : Hid (Below w7.heap.size w7 wr) := hb
      have M : Hid ((pre.length : Int) + l.getD k 0 ≤ l.getD a 0 ∧ 0 ≤ l.getD k 0 ∧ k < W * H) := ⟨hm, hk0, hk⟩
      have X8 : Hid (Bf wr w.heap.size W H (.slice a1 gs.length c) (.slice b1 os.length d)) := X7.out.below hb X7.out.lt
      have B8 : Hid (Below w.heap.size w wr) := B7.out.trans (hb.mono B7.out.size)
      have U8 : Hid (Ro wr (.slice (some ⟨g, 0, none⟩) (W * H) (W * H)) l) := U7.out.below hb
      clear ho hp hb hm hk0
      obtain ⟨w8, hw8⟩ : ∃ z, wr = z := ⟨_, rfl⟩
      subst hw8
      by_cases h0 : k = t
      · have PP : Hid (Pth (Fd.near W H) (gs.map fun g => Fd.onto g fl) l t a (pre ++ [(k : Int)])) := Pp.out _ (by rw [h0]; exact .here)
        have R8 : Hid (Ro wr u18 (pre ++ [(k : Int)])) := O.out.ro
        subst h0
        clear O Pp BB U8 X7 B7 U7 K7
        obtain ⟨ua, uc, hue, -⟩ := R8.out
        generalize pre ++ [(k : Int)] = way at *
        subst hue
        obtain ⟨w8, hw8⟩ : ∃ z, z = wr := ⟨_, rfl⟩
        rw [← hw8] at X8 B8 R8 ⊢
        clear hw8
        obtain ⟨x0, x1, x2, x3⟩ := X8.out
        go_wp2_with fail
        refine (Next_ok _ W H gs os a k fl _ (F0.out.below B8.out) (S0.out.below B8.out) HG.out HA.out HT.out).mono ?_
        rintro e w9 ⟨l2, hl2, he2, k9⟩
        have B9 : Hid (Below w.heap.size w w9) := B8.out.trans (k9.mono B8.out.size)
        have X9 : Hid (Bf w9 w.heap.size W H (.slice a1 gs.length c) (.slice b1 os.length d)) := X8.out.below k9 X8.out.lt
        have R9 : Hid (Ro w9 (.slice ua way.length uc) way) := R8.out.below k9
        have e2 := FA.out.1.uniq hl2.1
        subst e2
        rcases he2 with ⟨q0, q1⟩ | ⟨q0, j2, rfl, hj2⟩
        · have := Y0.out
          omega
        have ej := NX.out.uniq hj2
        subst ej
        clear hl2 q0 hj2
        clear k9 x0 x1 x2 x3 B8 X8 R8
        obtain ⟨x0, x1, x2, x3⟩ := X9.out
        go_wp2_with fail
        refine (er_same _ _ _ Er.nil (G0.out.below B9.out)).mono ?_
        rintro e w10 ⟨rfl, k10⟩
        have B10 : Hid (Below w.heap.size w w10) := B9.out.trans (k10.mono B9.out.size)
        have X10 : Hid (Bf w10 w.heap.size W H (.slice a1 gs.length c) (.slice b1 os.length d)) := X9.out.below k10 X9.out.lt
        have R10 : Hid (Ro w10 (.slice ua way.length uc) way) := R9.out.below k10
        clear k10 x0 x1 x2 x3 B9 X9 R9
        obtain ⟨x0, x1, x2, x3⟩ := X10.out
        go_wp2_with fail
        refine (Path_ok _ W H gs os a k fl _ (F0.out.below B10.out) (S0.out.below B10.out) HG.out HA.out HT.out).mono ?_
        rintro e w11 ⟨l2, hl2, he2, k11⟩
        have B11 : Hid (Below w.heap.size w w11) := B10.out.trans (k11.mono B10.out.size)
        have X11 : Hid (Bf w11 w.heap.size W H (.slice a1 gs.length c) (.slice b1 os.length d)) := X10.out.below k11 X10.out.lt
        have R11 : Hid (Ro w11 (.slice ua way.length uc) way) := R10.out.below k11
        have e2 := FA.out.1.uniq hl2.1
        subst e2
        rcases he2 with ⟨q0, q1⟩ | ⟨q0, uu, pp, rfl, hpr, hpp, hpl⟩
        · have := Y0.out
          omega
        have ep := PP.out.uniq hpp
        subst ep
        have V11 : Hid (Ro w11 uu way) := hpr
        clear hl2 q0 hpp hpr hpl
        clear k11 x0 x1 x2 x3 B10 X10 R10
        obtain ⟨x0, x1, x2, x3⟩ := X11.out
        go_wp2_with fail
        refine (er_same _ _ _ Er.nil (G0.out.below B11.out)).mono ?_
        rintro e w12 ⟨rfl, k12⟩
        have B12 : Hid (Below w.heap.size w w12) := B11.out.trans (k12.mono B11.out.size)
        have X12 : Hid (Bf w12 w.heap.size W H (.slice a1 gs.length c) (.slice b1 os.length d)) := X11.out.below k12 X11.out.lt
        have R12 : Hid (Ro w12 (.slice ua way.length uc) way) := R11.out.below k12
        have V12 : Hid (Ro w12 uu way) := V11.out.below k12
        clear k12 x0 x1 x2 x3 B11 X11 R11 V11
        obtain ⟨x0, x1, x2, x3⟩ := X12.out
        go_wp2_with fail
        refine (ints_like _ _ _ _ V12.out R12.out).mono ?_
        rintro e w13 ⟨rfl, k13⟩
        have B13 : Hid (Below w.heap.size w w13) := B12.out.trans (k13.mono B12.out.size)
        have X13 : Hid (Bf w13 w.heap.size W H (.slice a1 gs.length c) (.slice b1 os.length d)) := X12.out.below k13 X12.out.lt
        have R13 : Hid (Ro w13 (.slice ua way.length uc) way) := R12.out.below k13
        have V13 : Hid (Ro w13 uu way) := V12.out.below k13
        clear k13 x0 x1 x2 x3 B12 X12 R12 V12
        clear V13 R13
        obtain ⟨x0, x1, x2, x3⟩ := X13.out
        go_wp2_with fail
        refine (ref_cell _ W H gs os (a : Int) _ (F0.out.below B13.out)).mono ?_
        rintro e w14 ⟨rfl, k14⟩
        have B14 : Hid (Below w.heap.size w w14) := B13.out.trans (k14.mono B13.out.size)
        have X14 : Hid (Bf w14 w.heap.size W H (.slice a1 gs.length c) (.slice b1 os.length d)) := X13.out.below k14 X13.out.lt
        clear k14 x0 x1 x2 x3 B13 X13
        rw [Hf.out]
        by_cases hm : m < 0 ∨ 1000000 < m
        · have hmm := hm
          rcases hm with hm | hm
          · have hm1 := hm
            obtain ⟨x0, x1, x2, x3⟩ := X14.out
            go_wp2_with fail
            go_loopw [25, 26] (fun v i W' => v = .slice none 0 0 ∧ i = .int .i64 0 ∧ W' = w14) (fun _ _ _ => 0)
            case atStart => exact ⟨rfl, rfl, rfl⟩
            case round =>
              obtain ⟨rfl, rfl, rfl⟩ := hrel
              clear x0 x1 x2 x3
              obtain ⟨x0, x1, x2, x3⟩ := X14.out
              go_wp2_with fail
              refine (Reach_range _ W H gs os a m fl _ (F0.out.below B14.out) (S0.out.below B14.out) HG.out HA.out (.inl hm1)).mono ?_
              rintro e w15 ⟨rfl, k15⟩
              have B15 : Hid (Below w.heap.size w w15) := B14.out.trans (k15.mono B14.out.size)
              have X15 : Hid (Bf w15 w.heap.size W H (.slice a1 gs.length c) (.slice b1 os.length d)) := X14.out.below k15 X14.out.lt
              clear k15 x0 x1 x2 x3 B14 X14
              obtain ⟨x0, x1, x2, x3⟩ := X15.out
              go_wp2_with fail
              refine (er_same _ _ _ (Er.no (by decide)) (G0.out.below B15.out)).mono ?_
              rintro e w16 ⟨rfl, k16⟩
              have B16 : Hid (Below w.heap.size w w16) := B15.out.trans (k16.mono B15.out.size)
              have X16 : Hid (Bf w16 w.heap.size W H (.slice a1 gs.length c) (.slice b1 os.length d)) := X15.out.below k16 X15.out.lt
              clear k16 x0 x1 x2 x3 B15 X15
              obtain ⟨x0, x1, x2, x3⟩ := X16.out
              go_wp2_with fail
              refine (ints_like _ _ [] _ (Ro.nil _) (Ro.nil _)).mono ?_
              rintro e w17 ⟨rfl, k17⟩
              have B17 : Hid (Below w.heap.size w w17) := B16.out.trans (k17.mono B16.out.size)
              have X17 : Hid (Bf w17 w.heap.size W H (.slice a1 gs.length c) (.slice b1 os.length d)) := X16.out.below k17 X16.out.lt
              clear k17 x0 x1 x2 x3 B16 X16
              go_wp2
              go_ret
              exact ⟨rfl, B17⟩
          · have hm1 := hm
            have hm2 : ¬ m < 0 := by omega
            obtain ⟨x0, x1, x2, x3⟩ := X14.out
            go_wp2_with fail
            go_loopw [25, 26] (fun v i W' => v = .slice none 0 0 ∧ i = .int .i64 0 ∧ W' = w14) (fun _ _ _ => 0)
            case atStart => exact ⟨rfl, rfl, rfl⟩
            case round =>
              obtain ⟨rfl, rfl, rfl⟩ := hrel
              clear x0 x1 x2 x3
              obtain ⟨x0, x1, x2, x3⟩ := X14.out
              go_wp2_with fail
              refine (Reach_range _ W H gs os a m fl _ (F0.out.below B14.out) (S0.out.below B14.out) HG.out HA.out (.inr hm1)).mono ?_
              rintro e w15 ⟨rfl, k15⟩
              have B15 : Hid (Below w.heap.size w w15) := B14.out.trans (k15.mono B14.out.size)
              have X15 : Hid (Bf w15 w.heap.size W H (.slice a1 gs.length c) (.slice b1 os.length d)) := X14.out.below k15 X14.out.lt
              clear k15 x0 x1 x2 x3 B14 X14
              obtain ⟨x0, x1, x2, x3⟩ := X15.out
              go_wp2_with fail
              refine (er_same _ _ _ (Er.no (by decide)) (G0.out.below B15.out)).mono ?_
              rintro e w16 ⟨rfl, k16⟩
              have B16 : Hid (Below w.heap.size w w16) := B15.out.trans (k16.mono B15.out.size)
              have X16 : Hid (Bf w16 w.heap.size W H (.slice a1 gs.length c) (.slice b1 os.length d)) := X15.out.below k16 X15.out.lt
              clear k16 x0 x1 x2 x3 B15 X15
              obtain ⟨x0, x1, x2, x3⟩ := X16.out
              go_wp2_with fail
              refine (ints_like _ _ [] _ (Ro.nil _) (Ro.nil _)).mono ?_
              rintro e w17 ⟨rfl, k17⟩
              have B17 : Hid (Below w.heap.size w w17) := B16.out.trans (k17.mono B16.out.size)
              have X17 : Hid (Bf w17 w.heap.size W H (.slice a1 gs.length c) (.slice b1 os.length d)) := X16.out.below k17 X16.out.lt
              clear k17 x0 x1 x2 x3 B16 X16
              go_wp2
              go_ret
              exact ⟨rfl, B17⟩
        · have hm0 : 0 ≤ m := by omega
          have hm1 : m ≤ 1000000 := by omega
          clear hm
          have m2 : ¬ m < 0 := by omega
          have m3 : ¬ 1000000 < m := by omega
          obtain ⟨x0, x1, x2, x3⟩ := X14.out
          go_wp2_with fail
          clear x0 x1 x2 x3
          go_loopw [25, 26] (fun v i W' => ∃ (k : Nat) (ds : List Int), k ≤ gs.length ∧ i = .int .i64 (k : Nat) ∧ ds.length = k ∧ (∀ (i : Nat) d, ds[i]? = some d → Least (Fd.near W H) (fun _ j => (gs.map fun g => Fd.onto g fl).getD j 0) i a d) ∧ Ow W' w14.heap.size v (rch ds m k) ∧ Below w14.heap.size w14 W') (fun _ i _ => gs.length - (intOf i).toNat)
          case atStart => exact ⟨0, [], Nat.zero_le _, rfl, rfl, fun i d h => by simp at h, Ow.nil _ _, Below.refl _ _⟩
          case round =>
            obtain ⟨k, ds, hk, rfl, hds, hle, ho, hb⟩ := hrel
            have O : Hid (Ow wr w14.heap.size u25 (rch ds m k)) := ho
            have Lq : Hid (ds.length = k ∧ ∀ (i : Nat) d, ds[i]? = some d → Least (Fd.near W H) (fun _ j => (gs.map fun g => Fd.onto g fl).getD j 0) i a d) := ⟨hds, hle⟩
            have BB : Hid (Below w14.heap.size w14 wr) := hb
            have BX : Hid (Bf wr w.heap.size W H (.slice a1 gs.length c) (.slice b1 os.length d)) := X14.out.below hb X14.out.lt
            have BW : Hid (Below w.heap.size w wr) := B14.out.trans (hb.mono B14.out.size)
            clear hds hle ho hb
            by_cases h0 : k = gs.length
            · subst h0
              clear X14 B14
              obtain ⟨x0, x1, x2, x3⟩ := BX.out
              go_wp2_with fail
              refine (Reach_ok _ W H gs os a m fl _ (F0.out.below BW.out) (S0.out.below BW.out) HG.out HA.out hm0 hm1).mono ?_
              rintro e v1 ⟨u, l', rfl, hf, hu, k1⟩
              have C1 : Hid (Below w.heap.size w v1) := BW.out.trans (k1.mono BW.out.size)
              have O1 : Hid (Ow v1 w14.heap.size u25 (rch ds m gs.length)) := O.out.below k1
              have U1 : Hid (Ro v1 u (rch ds m gs.length)) := by
                have e : ds = l' := reach_same (E := even_to HG.out.w1 gs fl) hf (by rw [Lq.out.1, HG.out.gl]) Lq.out.2 HA.out
                rw [e, HG.out.gl]
                exact hu
              clear k1 hf hu x0 x1 x2 x3 O BW BX
              go_wp2_with fail
              refine (er_same _ _ _ Er.nil (G0.out.below C1.out)).mono ?_
              rintro e v2 ⟨rfl, k2⟩
              have C2 : Hid (Below w.heap.size w v2) := C1.out.trans (k2.mono C1.out.size)
              have O2 : Hid (Ow v2 w14.heap.size u25 (rch ds m gs.length)) := O1.out.below k2
              have U2 : Hid (Ro v2 u (rch ds m gs.length)) := U1.out.below k2
              clear k2 C1 O1 U1
              go_wp2_with fail
              refine (ints_like _ _ _ _ U2.out O2.out.ro).mono ?_
              rintro e v3 ⟨rfl, k3⟩
              have C3 : Hid (Below w.heap.size w v3) := C2.out.trans (k3.mono C2.out.size)
              clear k3 C2 O2 U2
              go_wp2
              go_ret
              exact ⟨rfl, C3⟩
            · have hkl : k < gs.length := by omega
              have hkn : Hid (k < W * H) := by unfold Hid; rw [← HG.out.gl]; exact hkl
              have gle : gs.length ≤ 144 := by rw [HG.out.gl]; exact HG.out.pos.2
              have aln : a < W * H := HA.out
              obtain ⟨x0, x1, x2, x3⟩ := BX.out
              go_wp2_with fail
              refine (ref_to _ W H gs os k fl _ (F0.out.below BW.out) HG.out hkn.out (even_to HG.out.w1 gs fl)).mono ?_
              rintro e v1 ⟨g, l', rfl, hbz, hbk, ⟨hf, hfl⟩, k1⟩
              have O1 : Hid (Ow v1 w14.heap.size u25 (rch ds m k)) := O.out.below k1
              have B1 : Hid (Below w14.heap.size w14 v1) := BB.out.trans (k1.mono BB.out.size)
              have el := get_some hf.1 HA.out
              have ca := hbk.cell el
              have Ls : Hid (Least (Fd.near W H) (fun _ j => (gs.map fun g => Fd.onto g fl).getD j 0) k a (l'.getD a 0)) := hf.2 a _ el
              generalize l'.getD a 0 = y at *
              have Lr : Hid ((rch ds m k).length ≤ 1000000) := Nat.le_trans (rch_len ds m k) (by omega)
              have Es : Hid (rch (ds ++ [y]) m (k + 1) = rch ds m k ++ (if 0 ≤ y ∧ y ≤ m then [(k : Int)] else [])) := rch_snoc Lq.out.1
              have Ln : Hid ((ds ++ [y]).length = k + 1 ∧ ∀ (i : Nat) d, (ds ++ [y])[i]? = some d → Least (Fd.near W H) (fun _ j => (gs.map fun g => Fd.onto g fl).getD j 0) i a d) := by
                refine ⟨by simp [Lq.out.1], fun i d hi => ?_⟩
                rw [List.getElem?_append] at hi
                split at hi
                · exact Lq.out.2 i d hi
                · rename_i hi2
                  have hi3 : i - ds.length = 0 := by
                    rcases Nat.eq_zero_or_pos (i - ds.length) with h | h
                    · exact h
                    · rw [List.getElem?_eq_none (by simp; omega)] at hi; cases hi
                  rw [hi3] at hi
                  simp at hi
                  subst hi
                  have : i = k := by have := Lq.out.1; omega
                  subst this
                  exact Ls.out
              clear hbz hbk hf hfl k1 el Ls O BB BX BW x0 x1 x2 x3 Lq
              generalize rch ds m k = rs at *
              by_cases h1 : 0 ≤ y
              · by_cases h2 : y ≤ m
                · have h9 := h2
                  have Es' : Hid (rch (ds ++ [y]) m (k + 1) = rs ++ [(k : Int)]) := by
                    have := Es.out
                    rw [if_pos ⟨h1, h2⟩] at this
                    exact this
                  have ba : Below v1.heap.size v1 (v1.alloc (Obj.cells #[.int .i64 (k : Nat)] 3)) := (Below.refl _ _).alloc (Nat.le_refl _) _
                  have O5 : Hid (Ow (v1.alloc (Obj.cells #[.int .i64 (k : Nat)] 3)) w14.heap.size u25 rs) := O1.out.below ba
                  have B5 : Hid (Below w14.heap.size w14 (v1.alloc (Obj.cells #[.int .i64 (k : Nat)] 3))) := B1.out.trans (ba.mono B1.out.size)
                  have Cd : Hid ((v1.alloc (Obj.cells #[.int .i64 (k : Nat)] 3)).cell? ⟨v1.heap.size, 0, none⟩ = some (.int .i64 (k : Nat))) := by unfold Hid; simp
                  clear ba Es O1 B1
                  go_wp2_with (at_builtin; refine app_int _ rfl _ _ rfl w14.heap.size _ rs rfl O5.out ⟨v1.heap.size, 0, none⟩ (k : Nat) rfl Cd.out Lr.out B5.out.size ?_)
                  intro g6 cap6 v6 o6 gr6 at6 lt6
                  have O6 : Hid (Ow v6 w14.heap.size (.slice (some ⟨g6, 0, none⟩) (rs.length + 1) cap6) (rs ++ [(k : Int)])) := o6
                  have B6 : Hid (Below w14.heap.size w14 v6) := B5.out.trans ((Below.refl _ _).grown gr6 B5.out.size (fun k hk => (O5.out.block k hk).1))
                  clear o6 gr6 at6 lt6 O5 B5 Cd
                  go_wp2
                  go_round
                  case rel => exact ⟨k + 1, ds ++ [y], by omega, by go_num, Ln.out.1, Ln.out.2, by rw [Es'.out]; exact O6, B6⟩
                  case measure => simp [intOf]; omega
                · have h9 := h2
                  have Es' : Hid (rch (ds ++ [y]) m (k + 1) = rs) := by
                    have := Es.out
                    rw [if_neg (by omega), List.append_nil] at this
                    exact this
                  clear Es
                  go_wp2
                  go_round
                  case rel => exact ⟨k + 1, ds ++ [y], by omega, by go_num, Ln.out.1, Ln.out.2, by rw [Es'.out]; exact O1, B1⟩
                  case measure => simp [intOf]; omega
              · have h9 := h1
                have Es' : Hid (rch (ds ++ [y]) m (k + 1) = rs) := by
                  have := Es.out
                  rw [if_neg (by omega), List.append_nil] at this
                  exact this
                clear Es
                go_wp2
                go_round
                case rel => exact ⟨k + 1, ds ++ [y], by omega, by go_num, Ln.out.1, Ln.out.2, by rw [Es'.out]; exact O1, B1⟩
                case measure => simp [intOf]; omega
      · have CN := ref_next (.agg #[.int .i64 W, .int .i64 H, .slice a1 gs.length c, .slice b1 os.length d]) (.slice (some ⟨g, 0, none⟩) (W * H) (W * H)) W H gs os l k t fl wr (F0.out.below B8.out) HG.out hk (even_to HG.out.w1 gs fl) U8.out FA.out.1 LB.out M.out.2.1 HT.out
        have CN' : Hid (Calls Tryd.prog 11 #[.agg #[.int .i64 W, .int .i64 H, .slice a1 gs.length c, .slice b1 os.length d], .slice (some ⟨g, 0, none⟩) (W * H) (W * H), .int .i64 (k : Nat), .bool fl] wr fun e w' => ∃ j : Nat, e = .returned (.int .i64 (j : Nat)) ∧ Nxt (Fd.near W H) (gs.map fun g => Fd.onto g fl) l t k j ∧ Below wr.heap.size wr w') := CN
        obtain ⟨x0, x1, x2, x3⟩ := X8.out
        have hne : ¬ (k : Int) = (t : Int) := by omega
        clear CN X7 B7 U7 K7
        go_wp2_with fail
        refine Calls.mono CN'.out ?_
        rintro e v4 ⟨j4, rfl, hN, hb4⟩
        have HN : Nx (Fd.near W H) (gs.map fun g => Fd.onto g fl) l k j4 := by
          rcases hN with ⟨h1, _⟩ | ⟨_, h2⟩
          · exact absurd h1 h0
          · exact h2
        have is := HN.is
        have jn : j4 < W * H := (even_to HG.out.w1 gs fl).lt k j4 hk is.1
        have ba : Below v4.heap.size v4 (v4.alloc (Obj.cells #[.int .i64 (j4 : Nat)] 3)) := (Below.refl _ _).alloc (Nat.le_refl _) _
        have O5 : Hid (Ow (v4.alloc (Obj.cells #[.int .i64 (j4 : Nat)] 3)) w7.heap.size u18 (pre ++ [(k : Int)])) := (O.out.below hb4).below ba
        have B5 : Hid (Below w7.heap.size w7 (v4.alloc (Obj.cells #[.int .i64 (j4 : Nat)] 3))) := (BB.out.trans (hb4.mono BB.out.size)).trans (ba.mono (Nat.le_trans BB.out.size hb4.size))
        have Cd : Hid ((v4.alloc (Obj.cells #[.int .i64 (j4 : Nat)] 3)).cell? ⟨v4.heap.size, 0, none⟩ = some (.int .i64 (j4 : Nat))) := by unfold Hid; simp
        have Ln : Hid ((pre ++ [(k : Int)]).length ≤ 1000000) := by
          have := M.out
          have := Yb.out
          unfold Hid
          simp
          omega
        have Q : Hid (∀ p, Pth (Fd.near W H) (gs.map fun g => Fd.onto g fl) l t j4 p → Pth (Fd.near W H) (gs.map fun g => Fd.onto g fl) l t a ((pre ++ [(k : Int)]) ++ p)) := fun p hp => by
          have := Pp.out _ (.step h0 HN hp)
          rw [List.append_assoc]
          exact this
        have M' : Hid (((pre ++ [(k : Int)]).length : Int) + l.getD j4 0 ≤ l.getD a 0 ∧ 0 ≤ l.getD j4 0 ∧ l.getD j4 0 < l.getD k 0) := by
          have := M.out
          unfold Hid
          simp only [List.length_append, List.length_cons, List.length_nil]
          omega
        clear hb4 ba O BB CN' hN HN is x0 x1 x2 x3 Pp
        generalize pre ++ [(k : Int)] = pr at *
        go_wp2_with (at_builtin; refine app_int _ rfl _ _ rfl w7.heap.size _ pr rfl O5.out ⟨v4.heap.size, 0, none⟩ (j4 : Nat) rfl Cd.out Ln.out B5.out.size ?_)
        intro g7 cap7 v7 o7 gr7 at7 lt7
        have O7 : Hid (Ow v7 w7.heap.size (.slice (some ⟨g7, 0, none⟩) (pr.length + 1) cap7) (pr ++ [(j4 : Int)])) := o7
        have B7 : Hid (Below w7.heap.size w7 v7) := B5.out.trans ((Below.refl _ _).grown gr7 B5.out.size (fun k hk => (O5.out.block k hk).1))
        clear o7 gr7 at7 lt7 O5 B5 Cd
        go_wp2
        go_round
        case rel => exact ⟨j4, pr, rfl, jn, M'.out.2.1, O7, Q, B7, M'.out.1⟩
        case measure =>
          have := M'.out
          show (l.getD (Int.toNat (j4 : Int)) 0).toNat < (l.getD (Int.toNat (k : Int)) 0).toNat
          rw [Int.toNat_natCast, Int.toNat_natCast]
          omega

theorem walk (v0 : Value) (W0 H0 : Int) (gs0 os0 : List Int) (a1 a2 a3 : Int) (a4 : Bool) (w : World) (f0 : Fl w v0 W0 H0 gs0 os0) (_ : (Lit.int .i64 a1).wf = true) (_ : (Lit.int .i64 a2).wf = true) (_ : (Lit.int .i64 a3).wf = true) (hg : Et w) (hs : Sd w) :
    Calls Tryd.prog 3 #[v0, .int .i64 a1, .int .i64 a2, .int .i64 a3, .bool a4] w fun e w' => e = .returned (.bool true) ∧ Below w.heap.size w w' := by
  by_cases hT : Fd.askFault (Fd.fault W0 H0 gs0 os0) gs0.length [a2] = 0
  · obtain ⟨W, H, t, rfl, rfl, rfl, G, ht⟩ := ask_ok hT
    by_cases hF : Fd.askFault (Fd.fault W H gs0 os0) gs0.length [a1] = 0
    · obtain ⟨W', H', a, h1, h2, rfl, -, ha⟩ := ask_ok hF
      have e1 : W' = W := by omega
      have e2 : H' = H := by omega
      subst e1
      subst e2
      exact walk_d v0 W' H' gs0 os0 a t a3 a4 w f0 hg hs G ht ha
    · exact walk_c v0 W H gs0 os0 a1 t a3 _ a4 w f0 hg hs G ht rfl hF
  · by_cases hF : Fd.askFault (Fd.fault W0 H0 gs0 os0) gs0.length [a1] = 0
    · obtain ⟨W, H, a, rfl, rfl, rfl, G, ha⟩ := ask_ok hF
      exact walk_b v0 W H gs0 os0 a a2 a3 _ a4 w f0 hg hs rfl hT G ha
    · exact walk_a v0 W0 H0 gs0 os0 a1 a2 a3 _ _ a4 w f0 hg hs rfl hT rfl hF
end Go.Proofs.YtogdaegnpoknlaaDoor.pathFinds
