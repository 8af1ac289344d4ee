/- turn.Step. · A list of events behind another one, and where it lies then. -/
import Derived.Test.YteieikgkmfglaaaGreatDoorZTurnPlays26
import Derived.Test.YteieikgkmfglaaaGreatDoorZTurnPlays30
import Derived.Test.YteieikgkmfglaaaGreatDoorZTurnPlays31
import Derived.Test.YteieikgkmfglaaaGreatDoorZTurnPlays10
import Derived.Test.YteieikgkmfglaaaGreatDoorZTurnPlays15
import Derived.Test.YteieikgkmfglaaaGreatDoorZTurnPlays22
namespace Go.Proofs.YteieikgkmfglaaaGreatDoor
open Go.RowKit Go.Proofs.YteieikgkmfglaaaGreatDoor.So
set_option linter.unusedVariables false

theorem step_w {ks : List KV} {X : WV} {l : List OrV} (h : Wd.wfault ks X ≠ 0) : stepFault ks X l = Wd.wfault ks X := if_pos h
theorem step_t {ks : List KV} {X : WV} {l : List OrV} (h : Wd.wfault ks X = 0) (ht : 1000000 ≤ X.turn) : stepFault ks X l = 4 := by unfold stepFault; rw [if_neg (fun k => k h), if_pos ht]
theorem step_o {ks : List KV} {X : WV} {l : List OrV} (h : Wd.wfault ks X = 0) (ht : ¬ 1000000 ≤ X.turn) : stepFault ks X l = Od.faults l := by unfold stepFault; rw [if_neg (fun k => k h), if_neg ht]
/-- what Step tells. -/
def StepSays (ks : List KV) (X : WV) (l : List OrV) (w w' : World) (v ev : Value) : Prop :=
  (stepFault ks X l ≠ 0 ∧ v = .agg #[.int .i64 0, .int .i64 0, .int .i64 0, .int .i64 0, .slice none 0 0, .slice none 0 0, .slice none 0 0, .slice none 0 0, .slice none 0 0] ∧ ev = .slice none 0 0)
  ∨ (stepFault ks X l = 0 ∧ ∃ Y es, StepR ks X l Y es ∧ Wo w' w.heap.size v Y ∧ Evo w' w.heap.size ev es)
set_option maxRecDepth 100000 in
set_option maxHeartbeats 64000000 in
theorem Step_any (vk vw vl : Value) (ks : List KV) (X : WV) (l : List OrV) (w : World) (hk : Kl w vk ks) (hb : ∀ k ∈ ks, k.b.size ≤ 9223372036854775807) (hw : Wl w vw X) (hl : Orl w vl l) (hs : Sd w) :
    Calls Tryz.prog 22 #[vk, vw, vl] w fun e w' => ∃ v ev r, e = .returned (.tuple #[v, ev, r]) ∧ Er r (stepFault ks X l) ∧ StepSays ks X l w w' v ev ∧ Below w.heap.size w w' := by
  have K : Hid (Kl w vk ks ∧ ∀ k ∈ ks, k.b.size ≤ 9223372036854775807) := ⟨hk, hb⟩
  have H : Hid (Wl w vw X) := hw
  have SD : Hid (Sd w ∧ Orl w vl l) := ⟨hs, hl⟩
  clear hs hl
  obtain ⟨p1, q1, p2, q2, p3, q3, p4, q4, p5, q5, rfl⟩ := wl_shape9 hw
  obtain ⟨pk, qk, rfl, ck1, ck2, kc⟩ := hk
  clear hb hw kc
  go_enter Tryz.func22, Tryz.ntmps22
  go_upto_region 1 with fail
  have B0 : Hid (Below w.heap.size w ((w.alloc (Obj.cells #[.int .i64 X.turn, .int .i64 X.next, .int .i64 X.wide, .int .i64 X.high, .slice p1 X.gs.length q1, .slice p2 X.os.length q2, .slice p3 X.gold.length q3, .slice p4 X.us.length q4, .slice p5 X.qs.length q5] 29)).alloc (Obj.cells #[.int .i64 0, .int .i64 0, .int .i64 0, .int .i64 0, .slice none 0 0, .slice none 0 0, .slice none 0 0, .slice none 0 0, .slice none 0 0] 29))) := ((Below.refl _ _).alloc (Nat.le_refl _) _).alloc (by simp) _
  have X0 : Hid (Wx ((w.alloc (Obj.cells #[.int .i64 X.turn, .int .i64 X.next, .int .i64 X.wide, .int .i64 X.high, .slice p1 X.gs.length q1, .slice p2 X.os.length q2, .slice p3 X.gold.length q3, .slice p4 X.us.length q4, .slice p5 X.qs.length q5] 29)).alloc (Obj.cells #[.int .i64 0, .int .i64 0, .int .i64 0, .int .i64 0, .slice none 0 0, .slice none 0 0, .slice none 0 0, .slice none 0 0, .slice none 0 0] 29)) (w.heap.size) (.int .i64 X.turn) (.int .i64 X.next) (.int .i64 X.wide) (.int .i64 X.high) (.slice p1 X.gs.length q1) (.slice p2 X.os.length q2) (.slice p3 X.gold.length q3) (.slice p4 X.us.length q4) (.slice p5 X.qs.length q5)) := (Wx.new (.int .i64 X.turn) (.int .i64 X.next) (.int .i64 X.wide) (.int .i64 X.high) (.slice p1 X.gs.length q1) (.slice p2 X.os.length q2) (.slice p3 X.gold.length q3) (.slice p4 X.us.length q4) (.slice p5 X.qs.length q5) rfl).below ((Below.refl _ _).alloc (Nat.le_refl _) _) (by simp)
  have Z0 : Hid (Wx ((w.alloc (Obj.cells #[.int .i64 X.turn, .int .i64 X.next, .int .i64 X.wide, .int .i64 X.high, .slice p1 X.gs.length q1, .slice p2 X.os.length q2, .slice p3 X.gold.length q3, .slice p4 X.us.length q4, .slice p5 X.qs.length q5] 29)).alloc (Obj.cells #[.int .i64 0, .int .i64 0, .int .i64 0, .int .i64 0, .slice none 0 0, .slice none 0 0, .slice none 0 0, .slice none 0 0, .slice none 0 0] 29)) (w.heap.size + 1) (.int .i64 0) (.int .i64 0) (.int .i64 0) (.int .i64 0) (.slice none 0 0) (.slice none 0 0) (.slice none 0 0) (.slice none 0 0) (.slice none 0 0)) := Wx.new (.int .i64 0) (.int .i64 0) (.int .i64 0) (.int .i64 0) (.slice none 0 0) (.slice none 0 0) (.slice none 0 0) (.slice none 0 0) (.slice none 0 0) (by simp)
  generalize ((w.alloc (Obj.cells #[.int .i64 X.turn, .int .i64 X.next, .int .i64 X.wide, .int .i64 X.high, .slice p1 X.gs.length q1, .slice p2 X.os.length q2, .slice p3 X.gold.length q3, .slice p4 X.us.length q4, .slice p5 X.qs.length q5] 29)).alloc (Obj.cells #[.int .i64 0, .int .i64 0, .int .i64 0, .int .i64 0, .slice none 0 0, .slice none 0 0, .slice none 0 0, .slice none 0 0, .slice none 0 0] 29)) = w0 at *
  obtain ⟨x0, x1, x2, x3, x4, x5, x6, x7, x8⟩ := X0.out.cells
  go_wp2_with fail
  refine (wcheck_any _ _ ks X w0 (K.out.1.below B0.out) K.out.2 (H.out.below B0.out)).mono ?_
  rintro e w1 ⟨r, rfl, hr, hb⟩
  obtain ⟨fw, hfw⟩ : ∃ f, Wd.wfault ks X = f := ⟨_, rfl⟩
  have FW : Hid (Wd.wfault ks X = fw) := hfw
  rw [hfw] at hr
  have B1 : Hid (Below w.heap.size w w1) := B0.out.trans (hb.mono B0.out.size)
  have X1 : Hid (Wx w1 (w.heap.size) (.int .i64 X.turn) (.int .i64 X.next) (.int .i64 X.wide) (.int .i64 X.high) (.slice p1 X.gs.length q1) (.slice p2 X.os.length q2) (.slice p3 X.gold.length q3) (.slice p4 X.us.length q4) (.slice p5 X.qs.length q5)) := X0.out.below hb X0.out.lt
  have Z1 : Hid (Wx w1 (w.heap.size + 1) (.int .i64 0) (.int .i64 0) (.int .i64 0) (.int .i64 0) (.slice none 0 0) (.slice none 0 0) (.slice none 0 0) (.slice none 0 0) (.slice none 0 0)) := Z0.out.below hb Z0.out.lt
  clear hb hfw x0 x1 x2 x3 x4 x5 x6 x7 x8 X0 B0 Z0
  rcases hr with ⟨rfl, rfl⟩ | ⟨hf, rfl⟩
  case inr =>
    have HF : Hid (fw ≠ 0) := hf
    clear hf
    obtain ⟨z0, z1, z2, z3, z4, z5, z6, z7, z8⟩ := Z1.out.cells
    obtain ⟨t0, t1, t2, t3, t4, t5, t6, t7, t8⟩ := Z1.out.thaws
    have KZ : Hid (Kp (w.heap.size + 1) w1 (((((((((w1.setCell ⟨w.heap.size + 1, 0, none⟩ (.int .i64 0)).setCell ⟨w.heap.size + 1, 1, none⟩ (.int .i64 0)).setCell ⟨w.heap.size + 1, 2, none⟩ (.int .i64 0)).setCell ⟨w.heap.size + 1, 3, none⟩ (.int .i64 0)).setCell ⟨w.heap.size + 1, 4, none⟩ (.slice none 0 0)).setCell ⟨w.heap.size + 1, 5, none⟩ (.slice none 0 0)).setCell ⟨w.heap.size + 1, 6, none⟩ (.slice none 0 0)).setCell ⟨w.heap.size + 1, 7, none⟩ (.slice none 0 0)).setCell ⟨w.heap.size + 1, 8, none⟩ (.slice none 0 0))) := put_kp _ _ _ _ _ _ _ _ _ _ _
    obtain ⟨y0, y1, y2, y3, y4, y5, y6, y7, y8⟩ := (Z1.out.put (.int .i64 0) (.int .i64 0) (.int .i64 0) (.int .i64 0) (.slice none 0 0) (.slice none 0 0) (.slice none 0 0) (.slice none 0 0) (.slice none 0 0)).cells
    go_wp2
    clear z0 z1 z2 z3 z4 z5 z6 z7 z8 t0 t1 t2 t3 t4 t5 t6 t7 t8
    generalize (((((((((w1.setCell ⟨w.heap.size + 1, 0, none⟩ (.int .i64 0)).setCell ⟨w.heap.size + 1, 1, none⟩ (.int .i64 0)).setCell ⟨w.heap.size + 1, 2, none⟩ (.int .i64 0)).setCell ⟨w.heap.size + 1, 3, none⟩ (.int .i64 0)).setCell ⟨w.heap.size + 1, 4, none⟩ (.slice none 0 0)).setCell ⟨w.heap.size + 1, 5, none⟩ (.slice none 0 0)).setCell ⟨w.heap.size + 1, 6, none⟩ (.slice none 0 0)).setCell ⟨w.heap.size + 1, 7, none⟩ (.slice none 0 0)).setCell ⟨w.heap.size + 1, 8, none⟩ (.slice none 0 0)) = w9 at *
    refine bodyPost_ret (v := .tuple #[.agg #[.int .i64 0, .int .i64 0, .int .i64 0, .int .i64 0, .slice none 0 0, .slice none 0 0, .slice none 0 0, .slice none 0 0, .slice none 0 0], .slice none 0 0, .iface 77 (.int .i64 fw)]) (by simp [results, Tryz.results22, go_sem, y0, y1, y2, y3, y4, y5, y6, y7, y8]) rfl ⟨_, _, _, rfl, by rw [step_w (l := l) (by rw [FW.out]; exact HF.out), FW.out]; exact Er.no HF.out, .inl ⟨by rw [step_w (l := l) (by rw [FW.out]; exact HF.out), FW.out]; exact HF.out, rfl, rfl⟩, KZ.out.below B1.out B1.out.size (by omega)⟩
  have WR : Hid (WRight ks X) := wright_of FW.out
  obtain ⟨x0, x1, x2, x3, x4, x5, x6, x7, x8⟩ := X1.out.cells
  by_cases htn : 1000000 ≤ X.turn
  case pos =>
    have SF : Hid (stepFault ks X l = 4) := step_t FW.out htn
    have htn' : decide (1000000 ≤ X.turn) = true := decide_eq_true htn
    clear htn
    obtain ⟨z0, z1, z2, z3, z4, z5, z6, z7, z8⟩ := Z1.out.cells
    obtain ⟨t0, t1, t2, t3, t4, t5, t6, t7, t8⟩ := Z1.out.thaws
    have KZ : Hid (Kp (w.heap.size + 1) w1 (((((((((w1.setCell ⟨w.heap.size + 1, 0, none⟩ (.int .i64 0)).setCell ⟨w.heap.size + 1, 1, none⟩ (.int .i64 0)).setCell ⟨w.heap.size + 1, 2, none⟩ (.int .i64 0)).setCell ⟨w.heap.size + 1, 3, none⟩ (.int .i64 0)).setCell ⟨w.heap.size + 1, 4, none⟩ (.slice none 0 0)).setCell ⟨w.heap.size + 1, 5, none⟩ (.slice none 0 0)).setCell ⟨w.heap.size + 1, 6, none⟩ (.slice none 0 0)).setCell ⟨w.heap.size + 1, 7, none⟩ (.slice none 0 0)).setCell ⟨w.heap.size + 1, 8, none⟩ (.slice none 0 0))) := put_kp _ _ _ _ _ _ _ _ _ _ _
    obtain ⟨y0, y1, y2, y3, y4, y5, y6, y7, y8⟩ := (Z1.out.put (.int .i64 0) (.int .i64 0) (.int .i64 0) (.int .i64 0) (.slice none 0 0) (.slice none 0 0) (.slice none 0 0) (.slice none 0 0) (.slice none 0 0)).cells
    go_wp2
    clear z0 z1 z2 z3 z4 z5 z6 z7 z8 t0 t1 t2 t3 t4 t5 t6 t7 t8
    generalize (((((((((w1.setCell ⟨w.heap.size + 1, 0, none⟩ (.int .i64 0)).setCell ⟨w.heap.size + 1, 1, none⟩ (.int .i64 0)).setCell ⟨w.heap.size + 1, 2, none⟩ (.int .i64 0)).setCell ⟨w.heap.size + 1, 3, none⟩ (.int .i64 0)).setCell ⟨w.heap.size + 1, 4, none⟩ (.slice none 0 0)).setCell ⟨w.heap.size + 1, 5, none⟩ (.slice none 0 0)).setCell ⟨w.heap.size + 1, 6, none⟩ (.slice none 0 0)).setCell ⟨w.heap.size + 1, 7, none⟩ (.slice none 0 0)).setCell ⟨w.heap.size + 1, 8, none⟩ (.slice none 0 0)) = wz at *
    refine bodyPost_ret (v := .tuple #[.agg #[.int .i64 0, .int .i64 0, .int .i64 0, .int .i64 0, .slice none 0 0, .slice none 0 0, .slice none 0 0, .slice none 0 0, .slice none 0 0], .slice none 0 0, .iface 77 (.int .i64 4)]) (by simp [results, Tryz.results22, go_sem, y0, y1, y2, y3, y4, y5, y6, y7, y8]) rfl ⟨_, _, _, rfl, by rw [SF.out]; exact Er.no (by decide), .inl ⟨by rw [SF.out]; decide, rfl, rfl⟩, KZ.out.below B1.out B1.out.size (by omega)⟩
  have SF : Hid (stepFault ks X l = Od.faults l) := step_o FW.out htn
  have TN : Hid (¬ 1000000 ≤ X.turn) := htn
  go_wp2_with fail
  refine (give_any _ _ _ ks X l w1 (K.out.1.below B1.out) (H.out.below B1.out) (SD.out.2.below B1.out) WR.out).mono ?_
  rintro e w2 ⟨v, ur, r, rfl, hr, hg, hb⟩
  have B2 : Hid (Below w.heap.size w w2) := B1.out.trans (hb.mono B1.out.size)
  have X2 : Hid (Wx w2 w.heap.size (.int .i64 X.turn) (.int .i64 X.next) (.int .i64 X.wide) (.int .i64 X.high) (.slice p1 X.gs.length q1) (.slice p2 X.os.length q2) (.slice p3 X.gold.length q3) (.slice p4 X.us.length q4) (.slice p5 X.qs.length q5)) := X1.out.below hb X1.out.lt
  have Z2 : Hid (Wx w2 (w.heap.size + 1) (.int .i64 0) (.int .i64 0) (.int .i64 0) (.int .i64 0) (.slice none 0 0) (.slice none 0 0) (.slice none 0 0) (.slice none 0 0) (.slice none 0 0)) := Z1.out.below hb Z1.out.lt
  have S1 : Hid (w.heap.size + 2 ≤ w1.heap.size) := Z1.out.lt
  clear hb x0 x1 x2 x3 x4 x5 x6 x7 x8 X1 B1 Z1 htn
  obtain ⟨fo, hfo⟩ : ∃ f, Od.faults l = f := ⟨_, rfl⟩
  have FO : Hid (Od.faults l = fo) := hfo
  rw [hfo] at hr
  clear hfo
  rcases hr with ⟨rfl, rfl⟩ | ⟨hf, rfl⟩
  case inr =>
    have HF : Hid (fo ≠ 0) := hf
    rcases hg with ⟨-, rfl, rfl⟩ | ⟨h, -⟩
    case inr => rw [FO.out] at h; exact absurd h hf
    clear hf
    obtain ⟨c0, c1, c2, c3, c4, c5, c6, c7, c8⟩ := X2.out.cells
    obtain ⟨d0, d1, d2, d3, d4, d5, d6, d7, d8⟩ := X2.out.thaws
    have KB : Hid (Kp w.heap.size w2 (((((((((w2.setCell ⟨w.heap.size, 0, none⟩ (.int .i64 0)).setCell ⟨w.heap.size, 1, none⟩ (.int .i64 0)).setCell ⟨w.heap.size, 2, none⟩ (.int .i64 0)).setCell ⟨w.heap.size, 3, none⟩ (.int .i64 0)).setCell ⟨w.heap.size, 4, none⟩ (.slice none 0 0)).setCell ⟨w.heap.size, 5, none⟩ (.slice none 0 0)).setCell ⟨w.heap.size, 6, none⟩ (.slice none 0 0)).setCell ⟨w.heap.size, 7, none⟩ (.slice none 0 0)).setCell ⟨w.heap.size, 8, none⟩ (.slice none 0 0))) := put_kp _ _ _ _ _ _ _ _ _ _ _
    go_upto_region 8 with fail
    clear c0 c1 c2 c3 c4 c5 c6 c7 c8 d0 d1 d2 d3 d4 d5 d6 d7 d8
    generalize (((((((((w2.setCell ⟨w.heap.size, 0, none⟩ (.int .i64 0)).setCell ⟨w.heap.size, 1, none⟩ (.int .i64 0)).setCell ⟨w.heap.size, 2, none⟩ (.int .i64 0)).setCell ⟨w.heap.size, 3, none⟩ (.int .i64 0)).setCell ⟨w.heap.size, 4, none⟩ (.slice none 0 0)).setCell ⟨w.heap.size, 5, none⟩ (.slice none 0 0)).setCell ⟨w.heap.size, 6, none⟩ (.slice none 0 0)).setCell ⟨w.heap.size, 7, none⟩ (.slice none 0 0)).setCell ⟨w.heap.size, 8, none⟩ (.slice none 0 0)) = w3 at *
    have B3 : Hid (Below w.heap.size w w3) := KB.out.below B2.out B2.out.size (Nat.le_refl _)
    have Z3 : Hid (Wx w3 (w.heap.size + 1) (.int .i64 0) (.int .i64 0) (.int .i64 0) (.int .i64 0) (.slice none 0 0) (.slice none 0 0) (.slice none 0 0) (.slice none 0 0) (.slice none 0 0)) := Z2.out.kp KB.out (by omega)
    obtain ⟨z0, z1, z2, z3, z4, z5, z6, z7, z8⟩ := Z3.out.cells
    obtain ⟨t0, t1, t2, t3, t4, t5, t6, t7, t8⟩ := Z3.out.thaws
    have KZ : Hid (Kp (w.heap.size + 1) w3 (((((((((w3.setCell ⟨w.heap.size + 1, 0, none⟩ (.int .i64 0)).setCell ⟨w.heap.size + 1, 1, none⟩ (.int .i64 0)).setCell ⟨w.heap.size + 1, 2, none⟩ (.int .i64 0)).setCell ⟨w.heap.size + 1, 3, none⟩ (.int .i64 0)).setCell ⟨w.heap.size + 1, 4, none⟩ (.slice none 0 0)).setCell ⟨w.heap.size + 1, 5, none⟩ (.slice none 0 0)).setCell ⟨w.heap.size + 1, 6, none⟩ (.slice none 0 0)).setCell ⟨w.heap.size + 1, 7, none⟩ (.slice none 0 0)).setCell ⟨w.heap.size + 1, 8, none⟩ (.slice none 0 0))) := put_kp _ _ _ _ _ _ _ _ _ _ _
    obtain ⟨y0, y1, y2, y3, y4, y5, y6, y7, y8⟩ := (Z3.out.put (.int .i64 0) (.int .i64 0) (.int .i64 0) (.int .i64 0) (.slice none 0 0) (.slice none 0 0) (.slice none 0 0) (.slice none 0 0) (.slice none 0 0)).cells
    go_wp2
    clear z0 z1 z2 z3 z4 z5 z6 z7 z8 t0 t1 t2 t3 t4 t5 t6 t7 t8
    generalize (((((((((w3.setCell ⟨w.heap.size + 1, 0, none⟩ (.int .i64 0)).setCell ⟨w.heap.size + 1, 1, none⟩ (.int .i64 0)).setCell ⟨w.heap.size + 1, 2, none⟩ (.int .i64 0)).setCell ⟨w.heap.size + 1, 3, none⟩ (.int .i64 0)).setCell ⟨w.heap.size + 1, 4, none⟩ (.slice none 0 0)).setCell ⟨w.heap.size + 1, 5, none⟩ (.slice none 0 0)).setCell ⟨w.heap.size + 1, 6, none⟩ (.slice none 0 0)).setCell ⟨w.heap.size + 1, 7, none⟩ (.slice none 0 0)).setCell ⟨w.heap.size + 1, 8, none⟩ (.slice none 0 0)) = wz at *
    refine bodyPost_ret (v := .tuple #[.agg #[.int .i64 0, .int .i64 0, .int .i64 0, .int .i64 0, .slice none 0 0, .slice none 0 0, .slice none 0 0, .slice none 0 0, .slice none 0 0], .slice none 0 0, .iface 77 (.int .i64 fo)]) (by simp [results, Tryz.results22, go_sem, y0, y1, y2, y3, y4, y5, y6, y7, y8]) rfl ⟨_, _, _, rfl, by rw [SF.out, FO.out]; exact Er.no HF.out, .inl ⟨by rw [SF.out, FO.out]; exact HF.out, rfl, rfl⟩, KZ.out.below B3.out B3.out.size (by omega)⟩
  rcases hg with ⟨h, -⟩ | ⟨-, out, hls, ho, -⟩
  case inl => exact absurd FO.out h
  have LS : Hid (LastSays l out) := hls
  obtain ⟨A, hA⟩ : ∃ A, (gv ks X out out.length).1 = A := ⟨_, rfl⟩
  have HA : Hid ((gv ks X out out.length).1 = A) := hA
  have AR : Hid (WRight ks A) := by
    unfold Hid
    rw [← hA]
    exact gv_right WR.out (fun o h => (Od.faults_ok FO.out).2 o (hls.mem h)) _
  rw [hA] at ho
  clear hA hls
  obtain ⟨k1, k2, k3, k4, k5, rfl, o1, o2, o3, o4, o5⟩ := ho
  obtain ⟨a1, r1, rfl⟩ := o1.len
  obtain ⟨a2, r2, rfl⟩ := o2.len
  obtain ⟨a3, r3, rfl⟩ := o3.len
  obtain ⟨a4, r4, rfl⟩ := o4.len
  obtain ⟨a5, r5, rfl⟩ := o5.len
  have OA : Hid (Ow w2 (w.heap.size + 2) (Value.slice a1 A.gs.length r1) A.gs ∧ Ow w2 (w.heap.size + 2) (Value.slice a2 A.os.length r2) A.os ∧ Ow w2 (w.heap.size + 2) (Value.slice a3 A.gold.length r3) A.gold ∧ Uno w2 (w.heap.size + 2) (Value.slice a4 A.us.length r4) A.us ∧ Jbo w2 (w.heap.size + 2) (Value.slice a5 A.qs.length r5) A.qs) := ⟨o1.mono S1.out, o2.mono S1.out, o3.mono S1.out, o4.mono S1.out, o5.mono S1.out⟩
  clear o1 o2 o3 o4 o5
  obtain ⟨c0, c1, c2, c3, c4, c5, c6, c7, c8⟩ := X2.out.cells
  obtain ⟨d0, d1, d2, d3, d4, d5, d6, d7, d8⟩ := X2.out.thaws
  have KB : Hid (Kp w.heap.size w2 (((((((((w2.setCell ⟨w.heap.size, 0, none⟩ (.int .i64 A.turn)).setCell ⟨w.heap.size, 1, none⟩ (.int .i64 A.next)).setCell ⟨w.heap.size, 2, none⟩ (.int .i64 A.wide)).setCell ⟨w.heap.size, 3, none⟩ (.int .i64 A.high)).setCell ⟨w.heap.size, 4, none⟩ (Value.slice a1 A.gs.length r1)).setCell ⟨w.heap.size, 5, none⟩ (Value.slice a2 A.os.length r2)).setCell ⟨w.heap.size, 6, none⟩ (Value.slice a3 A.gold.length r3)).setCell ⟨w.heap.size, 7, none⟩ (Value.slice a4 A.us.length r4)).setCell ⟨w.heap.size, 8, none⟩ (Value.slice a5 A.qs.length r5))) := put_kp _ _ _ _ _ _ _ _ _ _ _
  have XB : Hid (Wx (((((((((w2.setCell ⟨w.heap.size, 0, none⟩ (.int .i64 A.turn)).setCell ⟨w.heap.size, 1, none⟩ (.int .i64 A.next)).setCell ⟨w.heap.size, 2, none⟩ (.int .i64 A.wide)).setCell ⟨w.heap.size, 3, none⟩ (.int .i64 A.high)).setCell ⟨w.heap.size, 4, none⟩ (Value.slice a1 A.gs.length r1)).setCell ⟨w.heap.size, 5, none⟩ (Value.slice a2 A.os.length r2)).setCell ⟨w.heap.size, 6, none⟩ (Value.slice a3 A.gold.length r3)).setCell ⟨w.heap.size, 7, none⟩ (Value.slice a4 A.us.length r4)).setCell ⟨w.heap.size, 8, none⟩ (Value.slice a5 A.qs.length r5)) w.heap.size (.int .i64 A.turn) (.int .i64 A.next) (.int .i64 A.wide) (.int .i64 A.high) (Value.slice a1 A.gs.length r1) (Value.slice a2 A.os.length r2) (Value.slice a3 A.gold.length r3) (Value.slice a4 A.us.length r4) (Value.slice a5 A.qs.length r5)) := X2.out.put (.int .i64 A.turn) (.int .i64 A.next) (.int .i64 A.wide) (.int .i64 A.high) (Value.slice a1 A.gs.length r1) (Value.slice a2 A.os.length r2) (Value.slice a3 A.gold.length r3) (Value.slice a4 A.us.length r4) (Value.slice a5 A.qs.length r5)
  go_upto_region 9 with fail
  clear c0 c1 c2 c3 c4 c5 c6 c7 c8 d0 d1 d2 d3 d4 d5 d6 d7 d8
  generalize (((((((((w2.setCell ⟨w.heap.size, 0, none⟩ (.int .i64 A.turn)).setCell ⟨w.heap.size, 1, none⟩ (.int .i64 A.next)).setCell ⟨w.heap.size, 2, none⟩ (.int .i64 A.wide)).setCell ⟨w.heap.size, 3, none⟩ (.int .i64 A.high)).setCell ⟨w.heap.size, 4, none⟩ (Value.slice a1 A.gs.length r1)).setCell ⟨w.heap.size, 5, none⟩ (Value.slice a2 A.os.length r2)).setCell ⟨w.heap.size, 6, none⟩ (Value.slice a3 A.gold.length r3)).setCell ⟨w.heap.size, 7, none⟩ (Value.slice a4 A.us.length r4)).setCell ⟨w.heap.size, 8, none⟩ (Value.slice a5 A.qs.length r5)) = w3 at *
  have B3 : Hid (Below w.heap.size w w3) := KB.out.below B2.out B2.out.size (Nat.le_refl _)
  have Z3 : Hid (Wx w3 (w.heap.size + 1) (.int .i64 0) (.int .i64 0) (.int .i64 0) (.int .i64 0) (.slice none 0 0) (.slice none 0 0) (.slice none 0 0) (.slice none 0 0) (.slice none 0 0)) := Z2.out.kp KB.out (by omega)
  have O3 : Hid (Ow w3 (w.heap.size + 2) (Value.slice a1 A.gs.length r1) A.gs ∧ Ow w3 (w.heap.size + 2) (Value.slice a2 A.os.length r2) A.os ∧ Ow w3 (w.heap.size + 2) (Value.slice a3 A.gold.length r3) A.gold ∧ Uno w3 (w.heap.size + 2) (Value.slice a4 A.us.length r4) A.us ∧ Jbo w3 (w.heap.size + 2) (Value.slice a5 A.qs.length r5) A.qs) := ⟨OA.out.1.kp KB.out (by omega), OA.out.2.1.kp KB.out (by omega), OA.out.2.2.1.kp KB.out (by omega), OA.out.2.2.2.1.kp KB.out (by omega), OA.out.2.2.2.2.kp KB.out (by omega)⟩
  clear KB X2 B2 Z2 OA
  obtain ⟨bq, hbq⟩ : ∃ b, w3.heap.size = b := ⟨_, rfl⟩
  have BF : Hid (Below w3.heap.size w3 (w3.alloc (Obj.cells #[.func (Fn.func 13) #[] #[], .func (Fn.func 50) #[] #[], .func (Fn.func 9) #[] #[], .func (Fn.func 51) #[] #[]] 92))) := (Below.refl _ _).alloc (Nat.le_refl _) _
  have SZ : Hid ((w3.alloc (Obj.cells #[.func (Fn.func 13) #[] #[], .func (Fn.func 50) #[] #[], .func (Fn.func 9) #[] #[], .func (Fn.func 51) #[] #[]] 92)).heap.size = bq + 1) := by unfold Hid; rw [← hbq]; simp
  have CF0 : Hid ((w3.alloc (Obj.cells #[.func (Fn.func 13) #[] #[], .func (Fn.func 50) #[] #[], .func (Fn.func 9) #[] #[], .func (Fn.func 51) #[] #[]] 92)).cell? ⟨bq, 0, none⟩ = some (.func (Fn.func 13) #[] #[]) ∧ (w3.alloc (Obj.cells #[.func (Fn.func 13) #[] #[], .func (Fn.func 50) #[] #[], .func (Fn.func 9) #[] #[], .func (Fn.func 51) #[] #[]] 92)).cell? ⟨bq, 1, none⟩ = some (.func (Fn.func 50) #[] #[]) ∧ (w3.alloc (Obj.cells #[.func (Fn.func 13) #[] #[], .func (Fn.func 50) #[] #[], .func (Fn.func 9) #[] #[], .func (Fn.func 51) #[] #[]] 92)).cell? ⟨bq, 2, none⟩ = some (.func (Fn.func 9) #[] #[]) ∧ (w3.alloc (Obj.cells #[.func (Fn.func 13) #[] #[], .func (Fn.func 50) #[] #[], .func (Fn.func 9) #[] #[], .func (Fn.func 51) #[] #[]] 92)).cell? ⟨bq, 3, none⟩ = some (.func (Fn.func 51) #[] #[])) := by
    unfold Hid
    rw [← hbq]
    simp
  go_wp2_with fail
  (try rw [hbq])
  obtain ⟨w5, hw5⟩ : ∃ w5, (w3.alloc (Obj.cells #[.func (Fn.func 13) #[] #[], .func (Fn.func 50) #[] #[], .func (Fn.func 9) #[] #[], .func (Fn.func 51) #[] #[]] 92)) = w5 := ⟨_, rfl⟩
  rw [hw5] at BF SZ CF0 ⊢
  clear hw5
  have NQ : Hid (w.heap.size + 2 ≤ bq) := by have h1 := O3.out; have h2 := Z3.out.lt; unfold Hid; omega
  clear hbq
  obtain ⟨Wn, Hn, ew, eh, G⟩ := WR.out.good
  have WH : Hid (X.wide = (Wn : Nat) ∧ X.high = (Hn : Nat) ∧ A.wide = (Wn : Nat) ∧ A.high = (Hn : Nat) ∧ A.turn = X.turn) := by
    obtain ⟨g1, g2, g3⟩ := gv_same (ks := ks) (Y := X) (out := out) out.length
    rw [HA.out] at g1 g2 g3
    exact ⟨ew, eh, by rw [g2, ew], by rw [g3, eh], g1⟩
  clear ew eh G
  have T5 : Hid (StS A [] w.heap.size (w.heap.size + 2) (bq + 1) w5 (Value.slice a1 A.gs.length r1) (Value.slice a2 A.os.length r2) (Value.slice a3 A.gold.length r3) (Value.slice a4 A.us.length r4) (Value.slice a5 A.qs.length r5) (.slice none 0 0) w5) :=
    ⟨XB.out.below BF.out XB.out.lt, O3.out.1.below BF.out, O3.out.2.1.below BF.out, O3.out.2.2.1.below BF.out, O3.out.2.2.2.1.below BF.out, O3.out.2.2.2.2.below BF.out, Evo.nil _ _, Fr.below (Below.refl _ _), ⟨by omega, by have := NQ.out; omega, SZ.out⟩⟩
  have Z5 : Hid (Wx w5 (w.heap.size + 1) (.int .i64 0) (.int .i64 0) (.int .i64 0) (.int .i64 0) (.slice none 0 0) (.slice none 0 0) (.slice none 0 0) (.slice none 0 0) (.slice none 0 0)) := Z3.out.below BF.out Z3.out.lt
  have B5 : Hid (Below w.heap.size w w5) := B3.out.trans (BF.out.mono B3.out.size)
  clear BF XB O3 Z3 B3
  go_loopw [12, 44] (fun v12 j V => ∃ n : Nat, n ≤ 4 ∧ j = .int .i64 (n : Nat) ∧ ∃ Y es, Ph ks Wn Hn A n Y es ∧ ∃ u1 u2 u3 u4 u5 ev, ev = v12 ∧ StS Y es w.heap.size (w.heap.size + 2) (bq + 1) w5 u1 u2 u3 u4 u5 ev V) (fun _ j _ => 4 - (intOf j).toNat)
  case atStart => exact ⟨0, by omega, rfl, A, [], .zero, _, _, _, _, _, _, rfl, T5.out⟩
  case round =>
  obtain ⟨n, hn, rfl, Y, es, hp, u1, u2, u3, u4, u5, ev, rfl, hT⟩ := hrel
  have PH : Hid (Ph ks Wn Hn A n Y es) := hp
  have KP : Hid (WRight ks Y ∧ Y.wide = (Wn : Nat) ∧ Y.high = (Hn : Nat) ∧ Y.turn = A.turn ∧ es.length ≤ 50000 * n) := hp.keep AR.out WH.out.2.2.1 WH.out.2.2.2.1
  have TQ : Hid (StS Y es w.heap.size (w.heap.size + 2) (bq + 1) w5 u1 u2 u3 u4 u5 ev wr) := hT
  clear hp hT
  have CQ : Hid (∀ i u, i < 4 → w5.cell? ⟨bq, i, none⟩ = some u → wr.cell? ⟨bq, i, none⟩ = some u) := fun i u _ h => TQ.out.f.cell h (fun e => by have := NQ.out; simp only at e; omega)
  have ZW : Hid (Wx wr (w.heap.size + 1) (.int .i64 0) (.int .i64 0) (.int .i64 0) (.int .i64 0) (.slice none 0 0) (.slice none 0 0) (.slice none 0 0) (.slice none 0 0) (.slice none 0 0)) := TQ.out.f.wx Z5.out (by omega)
  have BW : Hid (Below w.heap.size w wr) := B5.out.trans (TQ.out.f.low B5.out.size (fun k hk => by omega))
  have SW : Hid (bq + 1 ≤ wr.heap.size) := by have := TQ.out.f.size; have := SZ.out; unfold Hid; omega
  obtain ⟨g1, l1, rfl⟩ := TQ.out.o1.len
  obtain ⟨g2, l2, rfl⟩ := TQ.out.o2.len
  obtain ⟨g3, l3, rfl⟩ := TQ.out.o3.len
  obtain ⟨g4, l4, rfl⟩ := TQ.out.o4.len
  obtain ⟨g5, l5, rfl⟩ := TQ.out.o5.len
  by_cases hne : n = 4
  case pos =>
    subst hne
    obtain ⟨x0, x1, x2, x3, x4, x5, x6, x7, x8⟩ := TQ.out.x.cells
    have t0 := TQ.out.x.thaw 0
    have tb : X.turn < 1000000 := by have := TN.out; omega
    have tb0 : 0 ≤ X.turn := by have h9 := WR.out.nums; unfold Wd.numsBad Wd.off at h9; simp at h9; omega
    have wt : IntKind.i64.wrap (Y.turn + 1) = Y.turn + 1 := by have h1 := KP.out.2.2.2.1; have h2 := WH.out.2.2.2.2; rw [IntKind.wrap_i64]; omega
    have XS : Hid (Wx (wr.setCell ⟨w.heap.size, 0, none⟩ (.int .i64 (Y.turn + 1))) w.heap.size (.int .i64 (Y.turn + 1)) (.int .i64 Y.next) (.int .i64 Y.wide) (.int .i64 Y.high) (Value.slice g1 Y.gs.length l1) (Value.slice g2 Y.os.length l2) (Value.slice g3 Y.gold.length l3) (Value.slice g4 Y.us.length l4) (Value.slice g5 Y.qs.length l5)) := TQ.out.x.set0 _
    have KS : Hid (Kp w.heap.size wr (wr.setCell ⟨w.heap.size, 0, none⟩ (.int .i64 (Y.turn + 1)))) := Kp.set _ _ _
    go_upto_region 20 with fail
    clear x0 x1 x2 x3 x4 x5 x6 x7 x8 t0 wt tb tb0
    generalize (wr.setCell ⟨w.heap.size, 0, none⟩ (.int .i64 (Y.turn + 1))) = ws at *
    obtain ⟨x0, x1, x2, x3, x4, x5, x6, x7, x8⟩ := XS.out.cells
    have ZS : Hid (Wx ws (w.heap.size + 1) (.int .i64 0) (.int .i64 0) (.int .i64 0) (.int .i64 0) (.slice none 0 0) (.slice none 0 0) (.slice none 0 0) (.slice none 0 0) (.slice none 0 0)) := ZW.out.kp KS.out (by omega)
    have BS2 : Hid (Below w.heap.size w ws) := KS.out.below BW.out BW.out.size (Nat.le_refl _)
    obtain ⟨z0, z1, z2, z3, z4, z5, z6, z7, z8⟩ := ZS.out.cells
    obtain ⟨t0, t1, t2, t3, t4, t5, t6, t7, t8⟩ := ZS.out.thaws
    have KZ : Hid (Kp (w.heap.size + 1) ws (((((((((ws.setCell ⟨w.heap.size + 1, 0, none⟩ (.int .i64 (Y.turn + 1))).setCell ⟨w.heap.size + 1, 1, none⟩ (.int .i64 Y.next)).setCell ⟨w.heap.size + 1, 2, none⟩ (.int .i64 Y.wide)).setCell ⟨w.heap.size + 1, 3, none⟩ (.int .i64 Y.high)).setCell ⟨w.heap.size + 1, 4, none⟩ (Value.slice g1 Y.gs.length l1)).setCell ⟨w.heap.size + 1, 5, none⟩ (Value.slice g2 Y.os.length l2)).setCell ⟨w.heap.size + 1, 6, none⟩ (Value.slice g3 Y.gold.length l3)).setCell ⟨w.heap.size + 1, 7, none⟩ (Value.slice g4 Y.us.length l4)).setCell ⟨w.heap.size + 1, 8, none⟩ (Value.slice g5 Y.qs.length l5))) := put_kp _ _ _ _ _ _ _ _ _ _ _
    obtain ⟨y0, y1, y2, y3, y4, y5, y6, y7, y8⟩ := (ZS.out.put (.int .i64 (Y.turn + 1)) (.int .i64 Y.next) (.int .i64 Y.wide) (.int .i64 Y.high) (Value.slice g1 Y.gs.length l1) (Value.slice g2 Y.os.length l2) (Value.slice g3 Y.gold.length l3) (Value.slice g4 Y.us.length l4) (Value.slice g5 Y.qs.length l5)).cells
    go_wp2
    clear x0 x1 x2 x3 x4 x5 x6 x7 x8 z0 z1 z2 z3 z4 z5 z6 z7 z8 t0 t1 t2 t3 t4 t5 t6 t7 t8
    generalize (((((((((ws.setCell ⟨w.heap.size + 1, 0, none⟩ (.int .i64 (Y.turn + 1))).setCell ⟨w.heap.size + 1, 1, none⟩ (.int .i64 Y.next)).setCell ⟨w.heap.size + 1, 2, none⟩ (.int .i64 Y.wide)).setCell ⟨w.heap.size + 1, 3, none⟩ (.int .i64 Y.high)).setCell ⟨w.heap.size + 1, 4, none⟩ (Value.slice g1 Y.gs.length l1)).setCell ⟨w.heap.size + 1, 5, none⟩ (Value.slice g2 Y.os.length l2)).setCell ⟨w.heap.size + 1, 6, none⟩ (Value.slice g3 Y.gold.length l3)).setCell ⟨w.heap.size + 1, 7, none⟩ (Value.slice g4 Y.us.length l4)).setCell ⟨w.heap.size + 1, 8, none⟩ (Value.slice g5 Y.qs.length l5)) = wt at *
    have kp2 : ∀ {T : TypeId} {size : Nat} {u : Value} {n : Nat} {cs : List Value} {base : Nat}, w.heap.size + 2 ≤ base → wr.ownsRow base T size u n cs → wt.ownsRow base T size u n cs := fun hb h => (Fr.kp (S := fun k => k = w.heap.size + 1) KZ.out rfl).own ((Fr.kp (S := fun k => k = w.heap.size) KS.out rfl).own h (fun k hk => by have := (World.ownsRow.lt h k hk).1; omega)) (fun k hk => by have := (World.ownsRow.lt h k hk).1; omega)
    have hq := NQ.out
    refine bodyPost_ret (v := .tuple #[.agg #[.int .i64 (Y.turn + 1), .int .i64 Y.next, .int .i64 Y.wide, .int .i64 Y.high, Value.slice g1 Y.gs.length l1, Value.slice g2 Y.os.length l2, Value.slice g3 Y.gold.length l3, Value.slice g4 Y.us.length l4, Value.slice g5 Y.qs.length l5], ev, .nilIface]) (by simp [results, Tryz.results22, go_sem, y0, y1, y2, y3, y4, y5, y6, y7, y8]) rfl ⟨_, _, _, rfl, by rw [SF.out, FO.out]; exact Er.nil, .inr ⟨by rw [SF.out, FO.out], { Y with turn := Y.turn + 1 }, es, ⟨out, Wn, Hn, Y, LS.out, WH.out.1, WH.out.2.1, by rw [HA.out]; exact PH.out, rfl⟩, ?_, ?_⟩, KZ.out.below BS2.out BS2.out.size (by omega)⟩
    · exact ⟨_, _, _, _, _, rfl, Ow.mono (kp2 (Nat.le_refl _) TQ.out.o1) (by omega), Ow.mono (kp2 (Nat.le_refl _) TQ.out.o2) (by omega), Ow.mono (kp2 (Nat.le_refl _) TQ.out.o3) (by omega), Uno.mono (kp2 (Nat.le_refl _) TQ.out.o4) (by omega), Jbo.mono (kp2 (Nat.le_refl _) TQ.out.o5) (by omega)⟩
    · exact Evo.mono (kp2 (by omega) TQ.out.e) (by omega)
  case neg =>
  have hn4 : n = 0 ∨ n = 1 ∨ n = 2 ∨ n = 3 := by omega
  clear hne hn
  rcases hn4 with rfl | rfl | rfl | rfl
  · have cf : wr.cell? ⟨bq, 0, none⟩ = some (.func (Fn.func 13) #[] #[]) := CQ.out 0 _ (by decide) CF0.out.1
    obtain ⟨x0, x1, x2, x3, x4, x5, x6, x7, x8⟩ := TQ.out.x.cells
    go_wp2_with fail
    clear cf x0 x1 x2 x3 x4 x5 x6 x7 x8
    refine (Train_any _ _ ks Y wr (K.out.1.below BW.out) K.out.2 TQ.out.wl (SD.out.1.below BW.out)).mono ?_
    rintro e w7 ⟨v, ev2, r, rfl, hr, hd, hb⟩
    rw [KP.out.1.zero] at hr
    obtain rfl : r = .nilIface := by
      rcases hr with ⟨-, e⟩ | ⟨h, -⟩
      · exact e
      · exact absurd rfl h
    have NX : Hid (∃ Z fs, Ph ks Wn Hn A 1 Z (es ++ fs) ∧ Wo w7 wr.heap.size v Z ∧ Evo w7 wr.heap.size ev2 fs) := by
      rcases hd with ⟨h, -⟩ | ⟨-, T, e1, q1, ht, h1, h2⟩
      · exact absurd KP.out.1.zero h
      · have h0 := PH.out
        cases h0
        exact ⟨_, e1, .one ht, h1, h2⟩
    have T7 : Hid (StS Y es w.heap.size (w.heap.size + 2) (bq + 1) w5 (Value.slice g1 Y.gs.length l1) (Value.slice g2 Y.os.length l2) (Value.slice g3 Y.gold.length l3) (Value.slice g4 Y.us.length l4) (Value.slice g5 Y.qs.length l5) ev w7) := TQ.out.below hb
    have S7 : Hid (wr.heap.size ≤ w7.heap.size) := hb.size
    clear hb hd hr
    obtain ⟨Z, fs, hph, ho, hev⟩ := NX.out
    have PN : Hid (Ph ks Wn Hn A 1 Z (es ++ fs)) := hph
    have LN : Hid (es.length + fs.length ≤ 1000000) := by have h9 := (hph.keep AR.out WH.out.2.2.1 WH.out.2.2.2.1).2.2.2.2; rw [List.length_append] at h9; unfold Hid; omega
    obtain ⟨v1, v2, v3, v4, v5, rfl, o1, o2, o3, o4, o5⟩ := ho
    obtain ⟨m1, k1, rfl⟩ := o1.len
    obtain ⟨m2, k2, rfl⟩ := o2.len
    obtain ⟨m3, k3, rfl⟩ := o3.len
    obtain ⟨m4, k4, rfl⟩ := o4.len
    obtain ⟨m5, k5, rfl⟩ := o5.len
    have sb : w.heap.size + 2 ≤ wr.heap.size := by have := SW.out; have := NQ.out; omega
    have OZ : Hid (Ow w7 (w.heap.size + 2) (Value.slice m1 Z.gs.length k1) Z.gs ∧ Ow w7 (w.heap.size + 2) (Value.slice m2 Z.os.length k2) Z.os ∧ Ow w7 (w.heap.size + 2) (Value.slice m3 Z.gold.length k3) Z.gold ∧ Uno w7 (w.heap.size + 2) (Value.slice m4 Z.us.length k4) Z.us ∧ Jbo w7 (w.heap.size + 2) (Value.slice m5 Z.qs.length k5) Z.qs ∧ Evo w7 (w.heap.size + 2) ev2 fs) := ⟨o1.mono sb, o2.mono sb, o3.mono sb, o4.mono sb, o5.mono sb, hev.mono sb⟩
    clear o1 o2 o3 o4 o5 hev hph NX sb
    obtain ⟨bn, hbn⟩ : ∃ b, w7.heap.size = b := ⟨_, rfl⟩
    have BN : Hid (Below w7.heap.size w7 (w7.alloc (Obj.cells #[.int .i64 Z.turn, .int .i64 Z.next, .int .i64 Z.wide, .int .i64 Z.high, Value.slice m1 Z.gs.length k1, Value.slice m2 Z.os.length k2, Value.slice m3 Z.gold.length k3, Value.slice m4 Z.us.length k4, Value.slice m5 Z.qs.length k5] 29))) := (Below.refl _ _).alloc (Nat.le_refl _) _
    have XN : Hid (Wx (w7.alloc (Obj.cells #[.int .i64 Z.turn, .int .i64 Z.next, .int .i64 Z.wide, .int .i64 Z.high, Value.slice m1 Z.gs.length k1, Value.slice m2 Z.os.length k2, Value.slice m3 Z.gold.length k3, Value.slice m4 Z.us.length k4, Value.slice m5 Z.qs.length k5] 29)) bn (.int .i64 Z.turn) (.int .i64 Z.next) (.int .i64 Z.wide) (.int .i64 Z.high) (Value.slice m1 Z.gs.length k1) (Value.slice m2 Z.os.length k2) (Value.slice m3 Z.gold.length k3) (Value.slice m4 Z.us.length k4) (Value.slice m5 Z.qs.length k5)) := Wx.new (w := w7) (.int .i64 Z.turn) (.int .i64 Z.next) (.int .i64 Z.wide) (.int .i64 Z.high) (Value.slice m1 Z.gs.length k1) (Value.slice m2 Z.os.length k2) (Value.slice m3 Z.gold.length k3) (Value.slice m4 Z.us.length k4) (Value.slice m5 Z.qs.length k5) hbn
    have NB : Hid (bq + 1 ≤ bn) := by rw [← hbn]; exact Nat.le_trans SW.out S7.out
    go_upto_region 16 with fail
    (try rw [hbn])
    clear hbn
    generalize w7.alloc (Obj.cells #[.int .i64 Z.turn, .int .i64 Z.next, .int .i64 Z.wide, .int .i64 Z.high, Value.slice m1 Z.gs.length k1, Value.slice m2 Z.os.length k2, Value.slice m3 Z.gold.length k3, Value.slice m4 Z.us.length k4, Value.slice m5 Z.qs.length k5] 29) = w8 at *
    have T8 : Hid (StS Y es w.heap.size (w.heap.size + 2) (bq + 1) w5 (Value.slice g1 Y.gs.length l1) (Value.slice g2 Y.os.length l2) (Value.slice g3 Y.gold.length l3) (Value.slice g4 Y.us.length l4) (Value.slice g5 Y.qs.length l5) ev w8) := T7.out.below BN.out
    have O8 : Hid (Ow w8 (w.heap.size + 2) (Value.slice m1 Z.gs.length k1) Z.gs ∧ Ow w8 (w.heap.size + 2) (Value.slice m2 Z.os.length k2) Z.os ∧ Ow w8 (w.heap.size + 2) (Value.slice m3 Z.gold.length k3) Z.gold ∧ Uno w8 (w.heap.size + 2) (Value.slice m4 Z.us.length k4) Z.us ∧ Jbo w8 (w.heap.size + 2) (Value.slice m5 Z.qs.length k5) Z.qs ∧ Evo w8 (w.heap.size + 2) ev2 fs) := ⟨OZ.out.1.below BN.out, OZ.out.2.1.below BN.out, OZ.out.2.2.1.below BN.out, OZ.out.2.2.2.1.below BN.out, OZ.out.2.2.2.2.1.below BN.out, OZ.out.2.2.2.2.2.below BN.out⟩
    obtain ⟨x0, x1, x2, x3, x4, x5, x6, x7, x8⟩ := XN.out.cells
    obtain ⟨z0, z1, z2, z3, z4, z5, z6, z7, z8⟩ := T8.out.x.cells
    obtain ⟨t0, t1, t2, t3, t4, t5, t6, t7, t8⟩ := T8.out.x.thaws
    have KZ : Hid (Kp w.heap.size w8 (((((((((w8.setCell ⟨w.heap.size, 0, none⟩ (.int .i64 Z.turn)).setCell ⟨w.heap.size, 1, none⟩ (.int .i64 Z.next)).setCell ⟨w.heap.size, 2, none⟩ (.int .i64 Z.wide)).setCell ⟨w.heap.size, 3, none⟩ (.int .i64 Z.high)).setCell ⟨w.heap.size, 4, none⟩ (Value.slice m1 Z.gs.length k1)).setCell ⟨w.heap.size, 5, none⟩ (Value.slice m2 Z.os.length k2)).setCell ⟨w.heap.size, 6, none⟩ (Value.slice m3 Z.gold.length k3)).setCell ⟨w.heap.size, 7, none⟩ (Value.slice m4 Z.us.length k4)).setCell ⟨w.heap.size, 8, none⟩ (Value.slice m5 Z.qs.length k5))) := put_kp _ _ _ _ _ _ _ _ _ _ _
    have XZ : Hid (Wx (((((((((w8.setCell ⟨w.heap.size, 0, none⟩ (.int .i64 Z.turn)).setCell ⟨w.heap.size, 1, none⟩ (.int .i64 Z.next)).setCell ⟨w.heap.size, 2, none⟩ (.int .i64 Z.wide)).setCell ⟨w.heap.size, 3, none⟩ (.int .i64 Z.high)).setCell ⟨w.heap.size, 4, none⟩ (Value.slice m1 Z.gs.length k1)).setCell ⟨w.heap.size, 5, none⟩ (Value.slice m2 Z.os.length k2)).setCell ⟨w.heap.size, 6, none⟩ (Value.slice m3 Z.gold.length k3)).setCell ⟨w.heap.size, 7, none⟩ (Value.slice m4 Z.us.length k4)).setCell ⟨w.heap.size, 8, none⟩ (Value.slice m5 Z.qs.length k5)) w.heap.size (.int .i64 Z.turn) (.int .i64 Z.next) (.int .i64 Z.wide) (.int .i64 Z.high) (Value.slice m1 Z.gs.length k1) (Value.slice m2 Z.os.length k2) (Value.slice m3 Z.gold.length k3) (Value.slice m4 Z.us.length k4) (Value.slice m5 Z.qs.length k5)) := T8.out.x.put (.int .i64 Z.turn) (.int .i64 Z.next) (.int .i64 Z.wide) (.int .i64 Z.high) (Value.slice m1 Z.gs.length k1) (Value.slice m2 Z.os.length k2) (Value.slice m3 Z.gold.length k3) (Value.slice m4 Z.us.length k4) (Value.slice m5 Z.qs.length k5)
    go_upto_region 17 with fail
    clear x0 x1 x2 x3 x4 x5 x6 x7 x8 z0 z1 z2 z3 z4 z5 z6 z7 z8 t0 t1 t2 t3 t4 t5 t6 t7 t8
    generalize (((((((((w8.setCell ⟨w.heap.size, 0, none⟩ (.int .i64 Z.turn)).setCell ⟨w.heap.size, 1, none⟩ (.int .i64 Z.next)).setCell ⟨w.heap.size, 2, none⟩ (.int .i64 Z.wide)).setCell ⟨w.heap.size, 3, none⟩ (.int .i64 Z.high)).setCell ⟨w.heap.size, 4, none⟩ (Value.slice m1 Z.gs.length k1)).setCell ⟨w.heap.size, 5, none⟩ (Value.slice m2 Z.os.length k2)).setCell ⟨w.heap.size, 6, none⟩ (Value.slice m3 Z.gold.length k3)).setCell ⟨w.heap.size, 7, none⟩ (Value.slice m4 Z.us.length k4)).setCell ⟨w.heap.size, 8, none⟩ (Value.slice m5 Z.qs.length k5)) = w9 at *
    have T9 : Hid (StS Z es w.heap.size (w.heap.size + 2) (bq + 1) w5 (Value.slice m1 Z.gs.length k1) (Value.slice m2 Z.os.length k2) (Value.slice m3 Z.gold.length k3) (Value.slice m4 Z.us.length k4) (Value.slice m5 Z.qs.length k5) ev w9) := T8.out.puts KZ.out XZ.out O8.out.1 O8.out.2.1 O8.out.2.2.1 O8.out.2.2.2.1 O8.out.2.2.2.2.1
    have E9 : Hid (Evl w9 ev2 fs) := Evo.l ((Fr.kp (S := fun k => k = w.heap.size) KZ.out rfl).own O8.out.2.2.2.2.2 (fun k hk => by have := (O8.out.2.2.2.2.2.block k hk).1; omega) : Evo w9 (w.heap.size + 2) ev2 fs)
    have S9 : Hid (bq + 1 ≤ w9.heap.size) := by have h1 := T9.out.f.size; have h2 := SZ.out; unfold Hid; omega
    go_wp2_with (at_builtin; refine app_evs _ rfl _ _ rfl (bq + 1) _ es rfl T9.out.e _ fs rfl E9.out LN.out S9.out ?_)
    intro ev' wE hE hG
    have TE : Hid (StS Z (es ++ fs) w.heap.size (w.heap.size + 2) (bq + 1) w5 (Value.slice m1 Z.gs.length k1) (Value.slice m2 Z.os.length k2) (Value.slice m3 Z.gold.length k3) (Value.slice m4 Z.us.length k4) (Value.slice m5 Z.qs.length k5) ev' wE) := T9.out.told hG hE
    clear hE hG
    go_wp2
    go_round
    case rel => exact ⟨1, by omega, by go_num, Z, es ++ fs, PN.out, _, _, _, _, _, _, rfl, TE.out⟩
    case measure => simp [intOf]
  · have cf : wr.cell? ⟨bq, 1, none⟩ = some (.func (Fn.func 50) #[] #[]) := CQ.out 1 _ (by decide) CF0.out.2.1
    obtain ⟨x0, x1, x2, x3, x4, x5, x6, x7, x8⟩ := TQ.out.x.cells
    go_wp2_with fail
    clear cf x0 x1 x2 x3 x4 x5 x6 x7 x8
    refine (Move_any _ _ ks Y wr (K.out.1.below BW.out) K.out.2 TQ.out.wl (SD.out.1.below BW.out)).mono ?_
    rintro e w7 ⟨v, ev2, r, rfl, hr, hd, hb⟩
    rw [KP.out.1.zero] at hr
    obtain rfl : r = .nilIface := by
      rcases hr with ⟨-, e⟩ | ⟨h, -⟩
      · exact e
      · exact absurd rfl h
    have NX : Hid (∃ Z fs, Ph ks Wn Hn A 2 Z (es ++ fs) ∧ Wo w7 wr.heap.size v Z ∧ Evo w7 wr.heap.size ev2 fs) := by
      rcases hd with ⟨h, -⟩ | ⟨-, W', H', e1, e2, -, us, evs, hm, -, h1, h2⟩
      · exact absurd KP.out.1.zero h
      · have k1 := KP.out.2.1
        have k2 := KP.out.2.2.1
        obtain rfl : W' = Wn := by omega
        obtain rfl : H' = Hn := by omega
        exact ⟨_, evs, .two PH.out hm, h1, h2⟩
    have T7 : Hid (StS Y es w.heap.size (w.heap.size + 2) (bq + 1) w5 (Value.slice g1 Y.gs.length l1) (Value.slice g2 Y.os.length l2) (Value.slice g3 Y.gold.length l3) (Value.slice g4 Y.us.length l4) (Value.slice g5 Y.qs.length l5) ev w7) := TQ.out.below hb
    have S7 : Hid (wr.heap.size ≤ w7.heap.size) := hb.size
    clear hb hd hr
    obtain ⟨Z, fs, hph, ho, hev⟩ := NX.out
    have PN : Hid (Ph ks Wn Hn A 2 Z (es ++ fs)) := hph
    have LN : Hid (es.length + fs.length ≤ 1000000) := by have h9 := (hph.keep AR.out WH.out.2.2.1 WH.out.2.2.2.1).2.2.2.2; rw [List.length_append] at h9; unfold Hid; omega
    obtain ⟨v1, v2, v3, v4, v5, rfl, o1, o2, o3, o4, o5⟩ := ho
    obtain ⟨m1, k1, rfl⟩ := o1.len
    obtain ⟨m2, k2, rfl⟩ := o2.len
    obtain ⟨m3, k3, rfl⟩ := o3.len
    obtain ⟨m4, k4, rfl⟩ := o4.len
    obtain ⟨m5, k5, rfl⟩ := o5.len
    have sb : w.heap.size + 2 ≤ wr.heap.size := by have := SW.out; have := NQ.out; omega
    have OZ : Hid (Ow w7 (w.heap.size + 2) (Value.slice m1 Z.gs.length k1) Z.gs ∧ Ow w7 (w.heap.size + 2) (Value.slice m2 Z.os.length k2) Z.os ∧ Ow w7 (w.heap.size + 2) (Value.slice m3 Z.gold.length k3) Z.gold ∧ Uno w7 (w.heap.size + 2) (Value.slice m4 Z.us.length k4) Z.us ∧ Jbo w7 (w.heap.size + 2) (Value.slice m5 Z.qs.length k5) Z.qs ∧ Evo w7 (w.heap.size + 2) ev2 fs) := ⟨o1.mono sb, o2.mono sb, o3.mono sb, o4.mono sb, o5.mono sb, hev.mono sb⟩
    clear o1 o2 o3 o4 o5 hev hph NX sb
    obtain ⟨bn, hbn⟩ : ∃ b, w7.heap.size = b := ⟨_, rfl⟩
    have BN : Hid (Below w7.heap.size w7 (w7.alloc (Obj.cells #[.int .i64 Z.turn, .int .i64 Z.next, .int .i64 Z.wide, .int .i64 Z.high, Value.slice m1 Z.gs.length k1, Value.slice m2 Z.os.length k2, Value.slice m3 Z.gold.length k3, Value.slice m4 Z.us.length k4, Value.slice m5 Z.qs.length k5] 29))) := (Below.refl _ _).alloc (Nat.le_refl _) _
    have XN : Hid (Wx (w7.alloc (Obj.cells #[.int .i64 Z.turn, .int .i64 Z.next, .int .i64 Z.wide, .int .i64 Z.high, Value.slice m1 Z.gs.length k1, Value.slice m2 Z.os.length k2, Value.slice m3 Z.gold.length k3, Value.slice m4 Z.us.length k4, Value.slice m5 Z.qs.length k5] 29)) bn (.int .i64 Z.turn) (.int .i64 Z.next) (.int .i64 Z.wide) (.int .i64 Z.high) (Value.slice m1 Z.gs.length k1) (Value.slice m2 Z.os.length k2) (Value.slice m3 Z.gold.length k3) (Value.slice m4 Z.us.length k4) (Value.slice m5 Z.qs.length k5)) := Wx.new (w := w7) (.int .i64 Z.turn) (.int .i64 Z.next) (.int .i64 Z.wide) (.int .i64 Z.high) (Value.slice m1 Z.gs.length k1) (Value.slice m2 Z.os.length k2) (Value.slice m3 Z.gold.length k3) (Value.slice m4 Z.us.length k4) (Value.slice m5 Z.qs.length k5) hbn
    have NB : Hid (bq + 1 ≤ bn) := by rw [← hbn]; exact Nat.le_trans SW.out S7.out
    go_upto_region 16 with fail
    (try rw [hbn])
    clear hbn
    generalize w7.alloc (Obj.cells #[.int .i64 Z.turn, .int .i64 Z.next, .int .i64 Z.wide, .int .i64 Z.high, Value.slice m1 Z.gs.length k1, Value.slice m2 Z.os.length k2, Value.slice m3 Z.gold.length k3, Value.slice m4 Z.us.length k4, Value.slice m5 Z.qs.length k5] 29) = w8 at *
    have T8 : Hid (StS Y es w.heap.size (w.heap.size + 2) (bq + 1) w5 (Value.slice g1 Y.gs.length l1) (Value.slice g2 Y.os.length l2) (Value.slice g3 Y.gold.length l3) (Value.slice g4 Y.us.length l4) (Value.slice g5 Y.qs.length l5) ev w8) := T7.out.below BN.out
    have O8 : Hid (Ow w8 (w.heap.size + 2) (Value.slice m1 Z.gs.length k1) Z.gs ∧ Ow w8 (w.heap.size + 2) (Value.slice m2 Z.os.length k2) Z.os ∧ Ow w8 (w.heap.size + 2) (Value.slice m3 Z.gold.length k3) Z.gold ∧ Uno w8 (w.heap.size + 2) (Value.slice m4 Z.us.length k4) Z.us ∧ Jbo w8 (w.heap.size + 2) (Value.slice m5 Z.qs.length k5) Z.qs ∧ Evo w8 (w.heap.size + 2) ev2 fs) := ⟨OZ.out.1.below BN.out, OZ.out.2.1.below BN.out, OZ.out.2.2.1.below BN.out, OZ.out.2.2.2.1.below BN.out, OZ.out.2.2.2.2.1.below BN.out, OZ.out.2.2.2.2.2.below BN.out⟩
    obtain ⟨x0, x1, x2, x3, x4, x5, x6, x7, x8⟩ := XN.out.cells
    obtain ⟨z0, z1, z2, z3, z4, z5, z6, z7, z8⟩ := T8.out.x.cells
    obtain ⟨t0, t1, t2, t3, t4, t5, t6, t7, t8⟩ := T8.out.x.thaws
    have KZ : Hid (Kp w.heap.size w8 (((((((((w8.setCell ⟨w.heap.size, 0, none⟩ (.int .i64 Z.turn)).setCell ⟨w.heap.size, 1, none⟩ (.int .i64 Z.next)).setCell ⟨w.heap.size, 2, none⟩ (.int .i64 Z.wide)).setCell ⟨w.heap.size, 3, none⟩ (.int .i64 Z.high)).setCell ⟨w.heap.size, 4, none⟩ (Value.slice m1 Z.gs.length k1)).setCell ⟨w.heap.size, 5, none⟩ (Value.slice m2 Z.os.length k2)).setCell ⟨w.heap.size, 6, none⟩ (Value.slice m3 Z.gold.length k3)).setCell ⟨w.heap.size, 7, none⟩ (Value.slice m4 Z.us.length k4)).setCell ⟨w.heap.size, 8, none⟩ (Value.slice m5 Z.qs.length k5))) := put_kp _ _ _ _ _ _ _ _ _ _ _
    have XZ : Hid (Wx (((((((((w8.setCell ⟨w.heap.size, 0, none⟩ (.int .i64 Z.turn)).setCell ⟨w.heap.size, 1, none⟩ (.int .i64 Z.next)).setCell ⟨w.heap.size, 2, none⟩ (.int .i64 Z.wide)).setCell ⟨w.heap.size, 3, none⟩ (.int .i64 Z.high)).setCell ⟨w.heap.size, 4, none⟩ (Value.slice m1 Z.gs.length k1)).setCell ⟨w.heap.size, 5, none⟩ (Value.slice m2 Z.os.length k2)).setCell ⟨w.heap.size, 6, none⟩ (Value.slice m3 Z.gold.length k3)).setCell ⟨w.heap.size, 7, none⟩ (Value.slice m4 Z.us.length k4)).setCell ⟨w.heap.size, 8, none⟩ (Value.slice m5 Z.qs.length k5)) w.heap.size (.int .i64 Z.turn) (.int .i64 Z.next) (.int .i64 Z.wide) (.int .i64 Z.high) (Value.slice m1 Z.gs.length k1) (Value.slice m2 Z.os.length k2) (Value.slice m3 Z.gold.length k3) (Value.slice m4 Z.us.length k4) (Value.slice m5 Z.qs.length k5)) := T8.out.x.put (.int .i64 Z.turn) (.int .i64 Z.next) (.int .i64 Z.wide) (.int .i64 Z.high) (Value.slice m1 Z.gs.length k1) (Value.slice m2 Z.os.length k2) (Value.slice m3 Z.gold.length k3) (Value.slice m4 Z.us.length k4) (Value.slice m5 Z.qs.length k5)
    go_upto_region 17 with fail
    clear x0 x1 x2 x3 x4 x5 x6 x7 x8 z0 z1 z2 z3 z4 z5 z6 z7 z8 t0 t1 t2 t3 t4 t5 t6 t7 t8
    generalize (((((((((w8.setCell ⟨w.heap.size, 0, none⟩ (.int .i64 Z.turn)).setCell ⟨w.heap.size, 1, none⟩ (.int .i64 Z.next)).setCell ⟨w.heap.size, 2, none⟩ (.int .i64 Z.wide)).setCell ⟨w.heap.size, 3, none⟩ (.int .i64 Z.high)).setCell ⟨w.heap.size, 4, none⟩ (Value.slice m1 Z.gs.length k1)).setCell ⟨w.heap.size, 5, none⟩ (Value.slice m2 Z.os.length k2)).setCell ⟨w.heap.size, 6, none⟩ (Value.slice m3 Z.gold.length k3)).setCell ⟨w.heap.size, 7, none⟩ (Value.slice m4 Z.us.length k4)).setCell ⟨w.heap.size, 8, none⟩ (Value.slice m5 Z.qs.length k5)) = w9 at *
    have T9 : Hid (StS Z es w.heap.size (w.heap.size + 2) (bq + 1) w5 (Value.slice m1 Z.gs.length k1) (Value.slice m2 Z.os.length k2) (Value.slice m3 Z.gold.length k3) (Value.slice m4 Z.us.length k4) (Value.slice m5 Z.qs.length k5) ev w9) := T8.out.puts KZ.out XZ.out O8.out.1 O8.out.2.1 O8.out.2.2.1 O8.out.2.2.2.1 O8.out.2.2.2.2.1
    have E9 : Hid (Evl w9 ev2 fs) := Evo.l ((Fr.kp (S := fun k => k = w.heap.size) KZ.out rfl).own O8.out.2.2.2.2.2 (fun k hk => by have := (O8.out.2.2.2.2.2.block k hk).1; omega) : Evo w9 (w.heap.size + 2) ev2 fs)
    have S9 : Hid (bq + 1 ≤ w9.heap.size) := by have h1 := T9.out.f.size; have h2 := SZ.out; unfold Hid; omega
    go_wp2_with (at_builtin; refine app_evs _ rfl _ _ rfl (bq + 1) _ es rfl T9.out.e _ fs rfl E9.out LN.out S9.out ?_)
    intro ev' wE hE hG
    have TE : Hid (StS Z (es ++ fs) w.heap.size (w.heap.size + 2) (bq + 1) w5 (Value.slice m1 Z.gs.length k1) (Value.slice m2 Z.os.length k2) (Value.slice m3 Z.gold.length k3) (Value.slice m4 Z.us.length k4) (Value.slice m5 Z.qs.length k5) ev' wE) := T9.out.told hG hE
    clear hE hG
    go_wp2
    go_round
    case rel => exact ⟨2, by omega, by go_num, Z, es ++ fs, PN.out, _, _, _, _, _, _, rfl, TE.out⟩
    case measure => simp [intOf]
  · have cf : wr.cell? ⟨bq, 2, none⟩ = some (.func (Fn.func 9) #[] #[]) := CQ.out 2 _ (by decide) CF0.out.2.2.1
    obtain ⟨x0, x1, x2, x3, x4, x5, x6, x7, x8⟩ := TQ.out.x.cells
    go_wp2_with fail
    clear cf x0 x1 x2 x3 x4 x5 x6 x7 x8
    refine (Dig_any _ _ ks Y wr (K.out.1.below BW.out) K.out.2 TQ.out.wl (SD.out.1.below BW.out)).mono ?_
    rintro e w7 ⟨v, ev2, r, rfl, hr, hd, hb⟩
    rw [KP.out.1.zero] at hr
    obtain rfl : r = .nilIface := by
      rcases hr with ⟨-, e⟩ | ⟨h, -⟩
      · exact e
      · exact absurd rfl h
    have NX : Hid (∃ Z fs, Ph ks Wn Hn A 3 Z (es ++ fs) ∧ Wo w7 wr.heap.size v Z ∧ Evo w7 wr.heap.size ev2 fs) := by
      rcases hd with ⟨h, -⟩ | ⟨-, W', H', e1, e2, -, h1, h2⟩
      · exact absurd KP.out.1.zero h
      · have k1 := KP.out.2.1
        have k2 := KP.out.2.2.1
        obtain rfl : W' = Wn := by omega
        obtain rfl : H' = Hn := by omega
        exact ⟨_, _, .three PH.out, h1, h2⟩
    have T7 : Hid (StS Y es w.heap.size (w.heap.size + 2) (bq + 1) w5 (Value.slice g1 Y.gs.length l1) (Value.slice g2 Y.os.length l2) (Value.slice g3 Y.gold.length l3) (Value.slice g4 Y.us.length l4) (Value.slice g5 Y.qs.length l5) ev w7) := TQ.out.below hb
    have S7 : Hid (wr.heap.size ≤ w7.heap.size) := hb.size
    clear hb hd hr
    obtain ⟨Z, fs, hph, ho, hev⟩ := NX.out
    have PN : Hid (Ph ks Wn Hn A 3 Z (es ++ fs)) := hph
    have LN : Hid (es.length + fs.length ≤ 1000000) := by have h9 := (hph.keep AR.out WH.out.2.2.1 WH.out.2.2.2.1).2.2.2.2; rw [List.length_append] at h9; unfold Hid; omega
    obtain ⟨v1, v2, v3, v4, v5, rfl, o1, o2, o3, o4, o5⟩ := ho
    obtain ⟨m1, k1, rfl⟩ := o1.len
    obtain ⟨m2, k2, rfl⟩ := o2.len
    obtain ⟨m3, k3, rfl⟩ := o3.len
    obtain ⟨m4, k4, rfl⟩ := o4.len
    obtain ⟨m5, k5, rfl⟩ := o5.len
    have sb : w.heap.size + 2 ≤ wr.heap.size := by have := SW.out; have := NQ.out; omega
    have OZ : Hid (Ow w7 (w.heap.size + 2) (Value.slice m1 Z.gs.length k1) Z.gs ∧ Ow w7 (w.heap.size + 2) (Value.slice m2 Z.os.length k2) Z.os ∧ Ow w7 (w.heap.size + 2) (Value.slice m3 Z.gold.length k3) Z.gold ∧ Uno w7 (w.heap.size + 2) (Value.slice m4 Z.us.length k4) Z.us ∧ Jbo w7 (w.heap.size + 2) (Value.slice m5 Z.qs.length k5) Z.qs ∧ Evo w7 (w.heap.size + 2) ev2 fs) := ⟨o1.mono sb, o2.mono sb, o3.mono sb, o4.mono sb, o5.mono sb, hev.mono sb⟩
    clear o1 o2 o3 o4 o5 hev hph NX sb
    obtain ⟨bn, hbn⟩ : ∃ b, w7.heap.size = b := ⟨_, rfl⟩
    have BN : Hid (Below w7.heap.size w7 (w7.alloc (Obj.cells #[.int .i64 Z.turn, .int .i64 Z.next, .int .i64 Z.wide, .int .i64 Z.high, Value.slice m1 Z.gs.length k1, Value.slice m2 Z.os.length k2, Value.slice m3 Z.gold.length k3, Value.slice m4 Z.us.length k4, Value.slice m5 Z.qs.length k5] 29))) := (Below.refl _ _).alloc (Nat.le_refl _) _
    have XN : Hid (Wx (w7.alloc (Obj.cells #[.int .i64 Z.turn, .int .i64 Z.next, .int .i64 Z.wide, .int .i64 Z.high, Value.slice m1 Z.gs.length k1, Value.slice m2 Z.os.length k2, Value.slice m3 Z.gold.length k3, Value.slice m4 Z.us.length k4, Value.slice m5 Z.qs.length k5] 29)) bn (.int .i64 Z.turn) (.int .i64 Z.next) (.int .i64 Z.wide) (.int .i64 Z.high) (Value.slice m1 Z.gs.length k1) (Value.slice m2 Z.os.length k2) (Value.slice m3 Z.gold.length k3) (Value.slice m4 Z.us.length k4) (Value.slice m5 Z.qs.length k5)) := Wx.new (w := w7) (.int .i64 Z.turn) (.int .i64 Z.next) (.int .i64 Z.wide) (.int .i64 Z.high) (Value.slice m1 Z.gs.length k1) (Value.slice m2 Z.os.length k2) (Value.slice m3 Z.gold.length k3) (Value.slice m4 Z.us.length k4) (Value.slice m5 Z.qs.length k5) hbn
    have NB : Hid (bq + 1 ≤ bn) := by rw [← hbn]; exact Nat.le_trans SW.out S7.out
    go_upto_region 16 with fail
    (try rw [hbn])
    clear hbn
    generalize w7.alloc (Obj.cells #[.int .i64 Z.turn, .int .i64 Z.next, .int .i64 Z.wide, .int .i64 Z.high, Value.slice m1 Z.gs.length k1, Value.slice m2 Z.os.length k2, Value.slice m3 Z.gold.length k3, Value.slice m4 Z.us.length k4, Value.slice m5 Z.qs.length k5] 29) = w8 at *
    have T8 : Hid (StS Y es w.heap.size (w.heap.size + 2) (bq + 1) w5 (Value.slice g1 Y.gs.length l1) (Value.slice g2 Y.os.length l2) (Value.slice g3 Y.gold.length l3) (Value.slice g4 Y.us.length l4) (Value.slice g5 Y.qs.length l5) ev w8) := T7.out.below BN.out
    have O8 : Hid (Ow w8 (w.heap.size + 2) (Value.slice m1 Z.gs.length k1) Z.gs ∧ Ow w8 (w.heap.size + 2) (Value.slice m2 Z.os.length k2) Z.os ∧ Ow w8 (w.heap.size + 2) (Value.slice m3 Z.gold.length k3) Z.gold ∧ Uno w8 (w.heap.size + 2) (Value.slice m4 Z.us.length k4) Z.us ∧ Jbo w8 (w.heap.size + 2) (Value.slice m5 Z.qs.length k5) Z.qs ∧ Evo w8 (w.heap.size + 2) ev2 fs) := ⟨OZ.out.1.below BN.out, OZ.out.2.1.below BN.out, OZ.out.2.2.1.below BN.out, OZ.out.2.2.2.1.below BN.out, OZ.out.2.2.2.2.1.below BN.out, OZ.out.2.2.2.2.2.below BN.out⟩
    obtain ⟨x0, x1, x2, x3, x4, x5, x6, x7, x8⟩ := XN.out.cells
    obtain ⟨z0, z1, z2, z3, z4, z5, z6, z7, z8⟩ := T8.out.x.cells
    obtain ⟨t0, t1, t2, t3, t4, t5, t6, t7, t8⟩ := T8.out.x.thaws
    have KZ : Hid (Kp w.heap.size w8 (((((((((w8.setCell ⟨w.heap.size, 0, none⟩ (.int .i64 Z.turn)).setCell ⟨w.heap.size, 1, none⟩ (.int .i64 Z.next)).setCell ⟨w.heap.size, 2, none⟩ (.int .i64 Z.wide)).setCell ⟨w.heap.size, 3, none⟩ (.int .i64 Z.high)).setCell ⟨w.heap.size, 4, none⟩ (Value.slice m1 Z.gs.length k1)).setCell ⟨w.heap.size, 5, none⟩ (Value.slice m2 Z.os.length k2)).setCell ⟨w.heap.size, 6, none⟩ (Value.slice m3 Z.gold.length k3)).setCell ⟨w.heap.size, 7, none⟩ (Value.slice m4 Z.us.length k4)).setCell ⟨w.heap.size, 8, none⟩ (Value.slice m5 Z.qs.length k5))) := put_kp _ _ _ _ _ _ _ _ _ _ _
    have XZ : Hid (Wx (((((((((w8.setCell ⟨w.heap.size, 0, none⟩ (.int .i64 Z.turn)).setCell ⟨w.heap.size, 1, none⟩ (.int .i64 Z.next)).setCell ⟨w.heap.size, 2, none⟩ (.int .i64 Z.wide)).setCell ⟨w.heap.size, 3, none⟩ (.int .i64 Z.high)).setCell ⟨w.heap.size, 4, none⟩ (Value.slice m1 Z.gs.length k1)).setCell ⟨w.heap.size, 5, none⟩ (Value.slice m2 Z.os.length k2)).setCell ⟨w.heap.size, 6, none⟩ (Value.slice m3 Z.gold.length k3)).setCell ⟨w.heap.size, 7, none⟩ (Value.slice m4 Z.us.length k4)).setCell ⟨w.heap.size, 8, none⟩ (Value.slice m5 Z.qs.length k5)) w.heap.size (.int .i64 Z.turn) (.int .i64 Z.next) (.int .i64 Z.wide) (.int .i64 Z.high) (Value.slice m1 Z.gs.length k1) (Value.slice m2 Z.os.length k2) (Value.slice m3 Z.gold.length k3) (Value.slice m4 Z.us.length k4) (Value.slice m5 Z.qs.length k5)) := T8.out.x.put (.int .i64 Z.turn) (.int .i64 Z.next) (.int .i64 Z.wide) (.int .i64 Z.high) (Value.slice m1 Z.gs.length k1) (Value.slice m2 Z.os.length k2) (Value.slice m3 Z.gold.length k3) (Value.slice m4 Z.us.length k4) (Value.slice m5 Z.qs.length k5)
    go_upto_region 17 with fail
    clear x0 x1 x2 x3 x4 x5 x6 x7 x8 z0 z1 z2 z3 z4 z5 z6 z7 z8 t0 t1 t2 t3 t4 t5 t6 t7 t8
    generalize (((((((((w8.setCell ⟨w.heap.size, 0, none⟩ (.int .i64 Z.turn)).setCell ⟨w.heap.size, 1, none⟩ (.int .i64 Z.next)).setCell ⟨w.heap.size, 2, none⟩ (.int .i64 Z.wide)).setCell ⟨w.heap.size, 3, none⟩ (.int .i64 Z.high)).setCell ⟨w.heap.size, 4, none⟩ (Value.slice m1 Z.gs.length k1)).setCell ⟨w.heap.size, 5, none⟩ (Value.slice m2 Z.os.length k2)).setCell ⟨w.heap.size, 6, none⟩ (Value.slice m3 Z.gold.length k3)).setCell ⟨w.heap.size, 7, none⟩ (Value.slice m4 Z.us.length k4)).setCell ⟨w.heap.size, 8, none⟩ (Value.slice m5 Z.qs.length k5)) = w9 at *
    have T9 : Hid (StS Z es w.heap.size (w.heap.size + 2) (bq + 1) w5 (Value.slice m1 Z.gs.length k1) (Value.slice m2 Z.os.length k2) (Value.slice m3 Z.gold.length k3) (Value.slice m4 Z.us.length k4) (Value.slice m5 Z.qs.length k5) ev w9) := T8.out.puts KZ.out XZ.out O8.out.1 O8.out.2.1 O8.out.2.2.1 O8.out.2.2.2.1 O8.out.2.2.2.2.1
    have E9 : Hid (Evl w9 ev2 fs) := Evo.l ((Fr.kp (S := fun k => k = w.heap.size) KZ.out rfl).own O8.out.2.2.2.2.2 (fun k hk => by have := (O8.out.2.2.2.2.2.block k hk).1; omega) : Evo w9 (w.heap.size + 2) ev2 fs)
    have S9 : Hid (bq + 1 ≤ w9.heap.size) := by have h1 := T9.out.f.size; have h2 := SZ.out; unfold Hid; omega
    go_wp2_with (at_builtin; refine app_evs _ rfl _ _ rfl (bq + 1) _ es rfl T9.out.e _ fs rfl E9.out LN.out S9.out ?_)
    intro ev' wE hE hG
    have TE : Hid (StS Z (es ++ fs) w.heap.size (w.heap.size + 2) (bq + 1) w5 (Value.slice m1 Z.gs.length k1) (Value.slice m2 Z.os.length k2) (Value.slice m3 Z.gold.length k3) (Value.slice m4 Z.us.length k4) (Value.slice m5 Z.qs.length k5) ev' wE) := T9.out.told hG hE
    clear hE hG
    go_wp2
    go_round
    case rel => exact ⟨3, by omega, by go_num, Z, es ++ fs, PN.out, _, _, _, _, _, _, rfl, TE.out⟩
    case measure => simp [intOf]
  · have cf : wr.cell? ⟨bq, 3, none⟩ = some (.func (Fn.func 51) #[] #[]) := CQ.out 3 _ (by decide) CF0.out.2.2.2
    obtain ⟨x0, x1, x2, x3, x4, x5, x6, x7, x8⟩ := TQ.out.x.cells
    go_wp2_with fail
    clear cf x0 x1 x2 x3 x4 x5 x6 x7 x8
    refine (Fight_any _ _ ks Y wr (K.out.1.below BW.out) K.out.2 TQ.out.wl).mono ?_
    rintro e w7 ⟨v, ev2, r, rfl, hr, hd, hb⟩
    rw [KP.out.1.zero] at hr
    obtain rfl : r = .nilIface := by
      rcases hr with ⟨-, e⟩ | ⟨h, -⟩
      · exact e
      · exact absurd rfl h
    have NX : Hid (∃ Z fs, Ph ks Wn Hn A 4 Z (es ++ fs) ∧ Wo w7 wr.heap.size v Z ∧ Evo w7 wr.heap.size ev2 fs) := by
      rcases hd with ⟨h, -⟩ | ⟨-, W', e1, -, -, h1, h2⟩
      · exact absurd KP.out.1.zero h
      · have k1 := KP.out.2.1
        obtain rfl : W' = Wn := by omega
        exact ⟨_, _, .four PH.out, h1, h2⟩
    have T7 : Hid (StS Y es w.heap.size (w.heap.size + 2) (bq + 1) w5 (Value.slice g1 Y.gs.length l1) (Value.slice g2 Y.os.length l2) (Value.slice g3 Y.gold.length l3) (Value.slice g4 Y.us.length l4) (Value.slice g5 Y.qs.length l5) ev w7) := TQ.out.below hb
    have S7 : Hid (wr.heap.size ≤ w7.heap.size) := hb.size
    clear hb hd hr
    obtain ⟨Z, fs, hph, ho, hev⟩ := NX.out
    have PN : Hid (Ph ks Wn Hn A 4 Z (es ++ fs)) := hph
    have LN : Hid (es.length + fs.length ≤ 1000000) := by have h9 := (hph.keep AR.out WH.out.2.2.1 WH.out.2.2.2.1).2.2.2.2; rw [List.length_append] at h9; unfold Hid; omega
    obtain ⟨v1, v2, v3, v4, v5, rfl, o1, o2, o3, o4, o5⟩ := ho
    obtain ⟨m1, k1, rfl⟩ := o1.len
    obtain ⟨m2, k2, rfl⟩ := o2.len
    obtain ⟨m3, k3, rfl⟩ := o3.len
    obtain ⟨m4, k4, rfl⟩ := o4.len
    obtain ⟨m5, k5, rfl⟩ := o5.len
    have sb : w.heap.size + 2 ≤ wr.heap.size := by have := SW.out; have := NQ.out; omega
    have OZ : Hid (Ow w7 (w.heap.size + 2) (Value.slice m1 Z.gs.length k1) Z.gs ∧ Ow w7 (w.heap.size + 2) (Value.slice m2 Z.os.length k2) Z.os ∧ Ow w7 (w.heap.size + 2) (Value.slice m3 Z.gold.length k3) Z.gold ∧ Uno w7 (w.heap.size + 2) (Value.slice m4 Z.us.length k4) Z.us ∧ Jbo w7 (w.heap.size + 2) (Value.slice m5 Z.qs.length k5) Z.qs ∧ Evo w7 (w.heap.size + 2) ev2 fs) := ⟨o1.mono sb, o2.mono sb, o3.mono sb, o4.mono sb, o5.mono sb, hev.mono sb⟩
    clear o1 o2 o3 o4 o5 hev hph NX sb
    obtain ⟨bn, hbn⟩ : ∃ b, w7.heap.size = b := ⟨_, rfl⟩
    have BN : Hid (Below w7.heap.size w7 (w7.alloc (Obj.cells #[.int .i64 Z.turn, .int .i64 Z.next, .int .i64 Z.wide, .int .i64 Z.high, Value.slice m1 Z.gs.length k1, Value.slice m2 Z.os.length k2, Value.slice m3 Z.gold.length k3, Value.slice m4 Z.us.length k4, Value.slice m5 Z.qs.length k5] 29))) := (Below.refl _ _).alloc (Nat.le_refl _) _
    have XN : Hid (Wx (w7.alloc (Obj.cells #[.int .i64 Z.turn, .int .i64 Z.next, .int .i64 Z.wide, .int .i64 Z.high, Value.slice m1 Z.gs.length k1, Value.slice m2 Z.os.length k2, Value.slice m3 Z.gold.length k3, Value.slice m4 Z.us.length k4, Value.slice m5 Z.qs.length k5] 29)) bn (.int .i64 Z.turn) (.int .i64 Z.next) (.int .i64 Z.wide) (.int .i64 Z.high) (Value.slice m1 Z.gs.length k1) (Value.slice m2 Z.os.length k2) (Value.slice m3 Z.gold.length k3) (Value.slice m4 Z.us.length k4) (Value.slice m5 Z.qs.length k5)) := Wx.new (w := w7) (.int .i64 Z.turn) (.int .i64 Z.next) (.int .i64 Z.wide) (.int .i64 Z.high) (Value.slice m1 Z.gs.length k1) (Value.slice m2 Z.os.length k2) (Value.slice m3 Z.gold.length k3) (Value.slice m4 Z.us.length k4) (Value.slice m5 Z.qs.length k5) hbn
    have NB : Hid (bq + 1 ≤ bn) := by rw [← hbn]; exact Nat.le_trans SW.out S7.out
    go_upto_region 16 with fail
    (try rw [hbn])
    clear hbn
    generalize w7.alloc (Obj.cells #[.int .i64 Z.turn, .int .i64 Z.next, .int .i64 Z.wide, .int .i64 Z.high, Value.slice m1 Z.gs.length k1, Value.slice m2 Z.os.length k2, Value.slice m3 Z.gold.length k3, Value.slice m4 Z.us.length k4, Value.slice m5 Z.qs.length k5] 29) = w8 at *
    have T8 : Hid (StS Y es w.heap.size (w.heap.size + 2) (bq + 1) w5 (Value.slice g1 Y.gs.length l1) (Value.slice g2 Y.os.length l2) (Value.slice g3 Y.gold.length l3) (Value.slice g4 Y.us.length l4) (Value.slice g5 Y.qs.length l5) ev w8) := T7.out.below BN.out
    have O8 : Hid (Ow w8 (w.heap.size + 2) (Value.slice m1 Z.gs.length k1) Z.gs ∧ Ow w8 (w.heap.size + 2) (Value.slice m2 Z.os.length k2) Z.os ∧ Ow w8 (w.heap.size + 2) (Value.slice m3 Z.gold.length k3) Z.gold ∧ Uno w8 (w.heap.size + 2) (Value.slice m4 Z.us.length k4) Z.us ∧ Jbo w8 (w.heap.size + 2) (Value.slice m5 Z.qs.length k5) Z.qs ∧ Evo w8 (w.heap.size + 2) ev2 fs) := ⟨OZ.out.1.below BN.out, OZ.out.2.1.below BN.out, OZ.out.2.2.1.below BN.out, OZ.out.2.2.2.1.below BN.out, OZ.out.2.2.2.2.1.below BN.out, OZ.out.2.2.2.2.2.below BN.out⟩
    obtain ⟨x0, x1, x2, x3, x4, x5, x6, x7, x8⟩ := XN.out.cells
    obtain ⟨z0, z1, z2, z3, z4, z5, z6, z7, z8⟩ := T8.out.x.cells
    obtain ⟨t0, t1, t2, t3, t4, t5, t6, t7, t8⟩ := T8.out.x.thaws
    have KZ : Hid (Kp w.heap.size w8 (((((((((w8.setCell ⟨w.heap.size, 0, none⟩ (.int .i64 Z.turn)).setCell ⟨w.heap.size, 1, none⟩ (.int .i64 Z.next)).setCell ⟨w.heap.size, 2, none⟩ (.int .i64 Z.wide)).setCell ⟨w.heap.size, 3, none⟩ (.int .i64 Z.high)).setCell ⟨w.heap.size, 4, none⟩ (Value.slice m1 Z.gs.length k1)).setCell ⟨w.heap.size, 5, none⟩ (Value.slice m2 Z.os.length k2)).setCell ⟨w.heap.size, 6, none⟩ (Value.slice m3 Z.gold.length k3)).setCell ⟨w.heap.size, 7, none⟩ (Value.slice m4 Z.us.length k4)).setCell ⟨w.heap.size, 8, none⟩ (Value.slice m5 Z.qs.length k5))) := put_kp _ _ _ _ _ _ _ _ _ _ _
    have XZ : Hid (Wx (((((((((w8.setCell ⟨w.heap.size, 0, none⟩ (.int .i64 Z.turn)).setCell ⟨w.heap.size, 1, none⟩ (.int .i64 Z.next)).setCell ⟨w.heap.size, 2, none⟩ (.int .i64 Z.wide)).setCell ⟨w.heap.size, 3, none⟩ (.int .i64 Z.high)).setCell ⟨w.heap.size, 4, none⟩ (Value.slice m1 Z.gs.length k1)).setCell ⟨w.heap.size, 5, none⟩ (Value.slice m2 Z.os.length k2)).setCell ⟨w.heap.size, 6, none⟩ (Value.slice m3 Z.gold.length k3)).setCell ⟨w.heap.size, 7, none⟩ (Value.slice m4 Z.us.length k4)).setCell ⟨w.heap.size, 8, none⟩ (Value.slice m5 Z.qs.length k5)) w.heap.size (.int .i64 Z.turn) (.int .i64 Z.next) (.int .i64 Z.wide) (.int .i64 Z.high) (Value.slice m1 Z.gs.length k1) (Value.slice m2 Z.os.length k2) (Value.slice m3 Z.gold.length k3) (Value.slice m4 Z.us.length k4) (Value.slice m5 Z.qs.length k5)) := T8.out.x.put (.int .i64 Z.turn) (.int .i64 Z.next) (.int .i64 Z.wide) (.int .i64 Z.high) (Value.slice m1 Z.gs.length k1) (Value.slice m2 Z.os.length k2) (Value.slice m3 Z.gold.length k3) (Value.slice m4 Z.us.length k4) (Value.slice m5 Z.qs.length k5)
    go_upto_region 17 with fail
    clear x0 x1 x2 x3 x4 x5 x6 x7 x8 z0 z1 z2 z3 z4 z5 z6 z7 z8 t0 t1 t2 t3 t4 t5 t6 t7 t8
    generalize (((((((((w8.setCell ⟨w.heap.size, 0, none⟩ (.int .i64 Z.turn)).setCell ⟨w.heap.size, 1, none⟩ (.int .i64 Z.next)).setCell ⟨w.heap.size, 2, none⟩ (.int .i64 Z.wide)).setCell ⟨w.heap.size, 3, none⟩ (.int .i64 Z.high)).setCell ⟨w.heap.size, 4, none⟩ (Value.slice m1 Z.gs.length k1)).setCell ⟨w.heap.size, 5, none⟩ (Value.slice m2 Z.os.length k2)).setCell ⟨w.heap.size, 6, none⟩ (Value.slice m3 Z.gold.length k3)).setCell ⟨w.heap.size, 7, none⟩ (Value.slice m4 Z.us.length k4)).setCell ⟨w.heap.size, 8, none⟩ (Value.slice m5 Z.qs.length k5)) = w9 at *
    have T9 : Hid (StS Z es w.heap.size (w.heap.size + 2) (bq + 1) w5 (Value.slice m1 Z.gs.length k1) (Value.slice m2 Z.os.length k2) (Value.slice m3 Z.gold.length k3) (Value.slice m4 Z.us.length k4) (Value.slice m5 Z.qs.length k5) ev w9) := T8.out.puts KZ.out XZ.out O8.out.1 O8.out.2.1 O8.out.2.2.1 O8.out.2.2.2.1 O8.out.2.2.2.2.1
    have E9 : Hid (Evl w9 ev2 fs) := Evo.l ((Fr.kp (S := fun k => k = w.heap.size) KZ.out rfl).own O8.out.2.2.2.2.2 (fun k hk => by have := (O8.out.2.2.2.2.2.block k hk).1; omega) : Evo w9 (w.heap.size + 2) ev2 fs)
    have S9 : Hid (bq + 1 ≤ w9.heap.size) := by have h1 := T9.out.f.size; have h2 := SZ.out; unfold Hid; omega
    go_wp2_with (at_builtin; refine app_evs _ rfl _ _ rfl (bq + 1) _ es rfl T9.out.e _ fs rfl E9.out LN.out S9.out ?_)
    intro ev' wE hE hG
    have TE : Hid (StS Z (es ++ fs) w.heap.size (w.heap.size + 2) (bq + 1) w5 (Value.slice m1 Z.gs.length k1) (Value.slice m2 Z.os.length k2) (Value.slice m3 Z.gold.length k3) (Value.slice m4 Z.us.length k4) (Value.slice m5 Z.qs.length k5) ev' wE) := T9.out.told hG hE
    clear hE hG
    go_wp2
    go_round
    case rel => exact ⟨4, by omega, by go_num, Z, es ++ fs, PN.out, _, _, _, _, _, _, rfl, TE.out⟩
    case measure => simp [intOf]
end Go.Proofs.YteieikgkmfglaaaGreatDoor

namespace Go.Proofs.YteieikgkmfglaaaGreatDoor
open Go.RowKit
set_option linter.unusedVariables false

theorem app_evl {ops : Array Oper} {rest : List Oper} {o : Oper} {a : Act} {Q : Exit → Act → World → Prop} (w : World) (hgd : o.guard = none) (s x : Operand)
    (ho : o.op = .call { callee := .builtin .append, args := #[s, x], argTypes := #[31, 31] }) (base : Nat) (v : Value) (ks : List EvV) (hs : a.eval s = v) (hown : Evo w base v ks)
    (u : Value) (ys : List EvV) (hx : a.eval x = u) (hu : Evl w u ys) (hl : ks.length + ys.length ≤ 100000000) (hbase : base ≤ w.heap.size)
    (h : ∀ v' w', Evo w' base v' (ks ++ ys) → w.grownBy w' v.ownBlock → (v'.ownBlock = v.ownBlock ∨ v'.ownBlock = some w.heap.size) → wpList Tryz.prog ops Q rest (a.put o.dst v') w') :
    wpList Tryz.prog ops Q (o :: rest) a w := by
  obtain ⟨i0, hi, hz0, hz1, hz2⟩ := info_parts info_ev
  obtain ⟨ad, c, rfl, h1, h2, h3⟩ := hu
  by_cases hn : ys = []
  · subst hn
    refine wpList_plain hgd fun K hK => ?_
    have hrun := run_append_no (P := Tryz.prog) (w := w) base 31 o.type 73 i0 3 Tryz.underlying31 hi v ks.length _ hown ad c
    have hx' : a.eval x = .slice ad 0 c := hx
    unfold Oper.wp
    simp [execOp, ho, resolve, invoke, builtin, hs, hx', hrun, Result.andThen]
    exact hK _ _ (h v w (by simpa using hown) (World.grownBy.refl _ _) (.inl rfl))
  · obtain ⟨y, rfl, hy, hc⟩ := h3 hn
    refine wpList_append_lies w hgd s x 31 ho base 73 i0 _ 3 24 Tryz.underlying31 hi hz0 hz1 hz2 rfl (by decide) v ks.length _ hs hown y ys.length c (ys.flatMap EvV.cs) hx (len_ev ys) (cell_ev hc) ?_ (List.length_pos_iff.2 hn) (by unfold maxLen; omega) (by omega) hbase _ rfl ?_
    · intro u hu
      obtain ⟨k, -, hk⟩ := List.mem_flatMap.1 hu
      simp [EvV.cs] at hk
      rcases hk with rfl | rfl | rfl <;> rfl
    · intro g cap w' k1 k2 k3 _
      refine h _ w' ?_ k2 ?_
      · unfold Evo
        rw [List.length_append, List.flatMap_append]
        exact k1
      · rcases k3 with k3 | k3
        · exact .inl k3.symm
        · exact .inr (by rw [k3]; rfl)
end Go.Proofs.YteieikgkmfglaaaGreatDoor

