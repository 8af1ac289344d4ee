/- turn.Step. · Lists of lists of orders. · turn.Play. · Spot and Train have one answer. Plain mathematics. · Moves, taken apart. Plain mathematics. · Move: there is one answer: plain mathematics. · Turns have one answer; played in parts they come to the same; a world stays right. Plain mathematics. · Ways: who flies gets there no later; a way's steps; two small fields. Plain mathematics. · world.New. · Fields as texts: plain mathematics. · A fact's kinds, and its small world. Plain mathematics. · What orders.Last tells of the orders: those to train are all there, each unit's last word is, and no unit has two. · Orders that count, asked once more, are those that count; so are some of them. · How far it is, told by a list that is looked through; turns that are reckoned out. Plain mathematics. · The closed fact of package marchtop: three turns of a digger, reckoned out. Plain mathematics. · Fields: what a sign stands for. · Fields: a field as far as its text is read. -/
import Derived.Test.YtoabhfipikkkeaaGreatDoorZTopViews9
import Derived.Test.YtoabhfipikkkeaaGreatDoorZTopViews11
import Derived.Test.YtoabhfipikkkeaaGreatDoorZTopViews6
import Derived.Test.YtoabhfipikkkeaaGreatDoorZTopViews7
import Derived.Test.YtoabhfipikkkeaaGreatDoorZTopViews8
import Derived.Test.YtoabhfipikkkeaaGreatDoorZTopViews3
import Derived.Test.YtoabhfipikkkeaaGreatDoorZTopViews5
import Derived.Test.YtoabhfipikkkeaaGreatDoorZTopViews4
import Derived.Test.YtoabhfipikkkeaaGreatDoorZTopViews2
import Derived.Test.YtoabhfipikkkeaaGreatDoorZTopViews1
import Derived.Lib.Strings
import Derived.Lib.Bytealg
import Derived.Laws.Pointers
namespace Go.Proofs.YtoabhfipikkkeaaGreatDoor
open Go.RowKit Go.Proofs.YtoabhfipikkkeaaGreatDoor.So
set_option linter.unusedVariables false

theorem step_w {ks : List KV} {X : WV} {l : List OrV} (h : Wd.wfault ks X ≠ 0) : stepFault ks X l = Wd.wfault ks X := if_pos h
theorem step_t {ks : List KV} {X : WV} {l : List OrV} (h : Wd.wfault ks X = 0) (ht : 1000000 ≤ X.turn) : stepFault ks X l = 4 := by unfold stepFault; rw [if_neg (fun k => k h), if_pos ht]
theorem step_o {ks : List KV} {X : WV} {l : List OrV} (h : Wd.wfault ks X = 0) (ht : ¬ 1000000 ≤ X.turn) : stepFault ks X l = Od.faults l := by unfold stepFault; rw [if_neg (fun k => k h), if_neg ht]
/-- what Step tells. -/
def StepSays (ks : List KV) (X : WV) (l : List OrV) (w w' : World) (v ev : Value) : Prop :=
  (stepFault ks X l ≠ 0 ∧ v = .agg #[.int .i64 0, .int .i64 0, .int .i64 0, .int .i64 0, .slice none 0 0, .slice none 0 0, .slice none 0 0, .slice none 0 0, .slice none 0 0] ∧ ev = .slice none 0 0)
  ∨ (stepFault ks X l = 0 ∧ ∃ Y es, StepR ks X l Y es ∧ Wo w' w.heap.size v Y ∧ Evo w' w.heap.size ev es)
set_option maxRecDepth 100000 in
set_option maxHeartbeats 64000000 in
theorem Step_any (vk vw vl : Value) (ks : List KV) (X : WV) (l : List OrV) (w : World) (hk : Kl w vk ks) (hb : ∀ k ∈ ks, k.b.size ≤ 9223372036854775807) (hw : Wl w vw X) (hl : Orl w vl l) (hs : Sd w) :
    Calls Tryz.prog 10 #[vk, vw, vl] w fun e w' => ∃ v ev r, e = .returned (.tuple #[v, ev, r]) ∧ Er r (stepFault ks X l) ∧ StepSays ks X l w w' v ev ∧ Below w.heap.size w w' := by
  have K : Hid (Kl w vk ks ∧ ∀ k ∈ ks, k.b.size ≤ 9223372036854775807) := ⟨hk, hb⟩
  have H : Hid (Wl w vw X) := hw
  have SD : Hid (Sd w ∧ Orl w vl l) := ⟨hs, hl⟩
  clear hs hl
  obtain ⟨p1, q1, p2, q2, p3, q3, p4, q4, p5, q5, rfl⟩ := wl_shape9 hw
  obtain ⟨pk, qk, rfl, ck1, ck2, kc⟩ := hk
  clear hb hw kc
  go_enter Tryz.func10, Tryz.ntmps10
  go_upto_region 1 with fail
  have B0 : Hid (Below w.heap.size w ((w.alloc (Obj.cells #[.int .i64 X.turn, .int .i64 X.next, .int .i64 X.wide, .int .i64 X.high, .slice p1 X.gs.length q1, .slice p2 X.os.length q2, .slice p3 X.gold.length q3, .slice p4 X.us.length q4, .slice p5 X.qs.length q5] 29)).alloc (Obj.cells #[.int .i64 0, .int .i64 0, .int .i64 0, .int .i64 0, .slice none 0 0, .slice none 0 0, .slice none 0 0, .slice none 0 0, .slice none 0 0] 29))) := ((Below.refl _ _).alloc (Nat.le_refl _) _).alloc (by simp) _
  have X0 : Hid (Wx ((w.alloc (Obj.cells #[.int .i64 X.turn, .int .i64 X.next, .int .i64 X.wide, .int .i64 X.high, .slice p1 X.gs.length q1, .slice p2 X.os.length q2, .slice p3 X.gold.length q3, .slice p4 X.us.length q4, .slice p5 X.qs.length q5] 29)).alloc (Obj.cells #[.int .i64 0, .int .i64 0, .int .i64 0, .int .i64 0, .slice none 0 0, .slice none 0 0, .slice none 0 0, .slice none 0 0, .slice none 0 0] 29)) (w.heap.size) (.int .i64 X.turn) (.int .i64 X.next) (.int .i64 X.wide) (.int .i64 X.high) (.slice p1 X.gs.length q1) (.slice p2 X.os.length q2) (.slice p3 X.gold.length q3) (.slice p4 X.us.length q4) (.slice p5 X.qs.length q5)) := (Wx.new (.int .i64 X.turn) (.int .i64 X.next) (.int .i64 X.wide) (.int .i64 X.high) (.slice p1 X.gs.length q1) (.slice p2 X.os.length q2) (.slice p3 X.gold.length q3) (.slice p4 X.us.length q4) (.slice p5 X.qs.length q5) rfl).below ((Below.refl _ _).alloc (Nat.le_refl _) _) (by simp)
  have Z0 : Hid (Wx ((w.alloc (Obj.cells #[.int .i64 X.turn, .int .i64 X.next, .int .i64 X.wide, .int .i64 X.high, .slice p1 X.gs.length q1, .slice p2 X.os.length q2, .slice p3 X.gold.length q3, .slice p4 X.us.length q4, .slice p5 X.qs.length q5] 29)).alloc (Obj.cells #[.int .i64 0, .int .i64 0, .int .i64 0, .int .i64 0, .slice none 0 0, .slice none 0 0, .slice none 0 0, .slice none 0 0, .slice none 0 0] 29)) (w.heap.size + 1) (.int .i64 0) (.int .i64 0) (.int .i64 0) (.int .i64 0) (.slice none 0 0) (.slice none 0 0) (.slice none 0 0) (.slice none 0 0) (.slice none 0 0)) := Wx.new (.int .i64 0) (.int .i64 0) (.int .i64 0) (.int .i64 0) (.slice none 0 0) (.slice none 0 0) (.slice none 0 0) (.slice none 0 0) (.slice none 0 0) (by simp)
  generalize ((w.alloc (Obj.cells #[.int .i64 X.turn, .int .i64 X.next, .int .i64 X.wide, .int .i64 X.high, .slice p1 X.gs.length q1, .slice p2 X.os.length q2, .slice p3 X.gold.length q3, .slice p4 X.us.length q4, .slice p5 X.qs.length q5] 29)).alloc (Obj.cells #[.int .i64 0, .int .i64 0, .int .i64 0, .int .i64 0, .slice none 0 0, .slice none 0 0, .slice none 0 0, .slice none 0 0, .slice none 0 0] 29)) = w0 at *
  obtain ⟨x0, x1, x2, x3, x4, x5, x6, x7, x8⟩ := X0.out.cells
  go_wp2_with fail
  refine (wcheck_any _ _ ks X w0 (K.out.1.below B0.out) K.out.2 (H.out.below B0.out)).mono ?_
  rintro e w1 ⟨r, rfl, hr, hb⟩
  obtain ⟨fw, hfw⟩ : ∃ f, Wd.wfault ks X = f := ⟨_, rfl⟩
  have FW : Hid (Wd.wfault ks X = fw) := hfw
  rw [hfw] at hr
  have B1 : Hid (Below w.heap.size w w1) := B0.out.trans (hb.mono B0.out.size)
  have X1 : Hid (Wx w1 (w.heap.size) (.int .i64 X.turn) (.int .i64 X.next) (.int .i64 X.wide) (.int .i64 X.high) (.slice p1 X.gs.length q1) (.slice p2 X.os.length q2) (.slice p3 X.gold.length q3) (.slice p4 X.us.length q4) (.slice p5 X.qs.length q5)) := X0.out.below hb X0.out.lt
  have Z1 : Hid (Wx w1 (w.heap.size + 1) (.int .i64 0) (.int .i64 0) (.int .i64 0) (.int .i64 0) (.slice none 0 0) (.slice none 0 0) (.slice none 0 0) (.slice none 0 0) (.slice none 0 0)) := Z0.out.below hb Z0.out.lt
  clear hb hfw x0 x1 x2 x3 x4 x5 x6 x7 x8 X0 B0 Z0
  rcases hr with ⟨rfl, rfl⟩ | ⟨hf, rfl⟩
  case inr =>
    have HF : Hid (fw ≠ 0) := hf
    clear hf
    obtain ⟨z0, z1, z2, z3, z4, z5, z6, z7, z8⟩ := Z1.out.cells
    obtain ⟨t0, t1, t2, t3, t4, t5, t6, t7, t8⟩ := Z1.out.thaws
    have KZ : Hid (Kp (w.heap.size + 1) w1 (((((((((w1.setCell ⟨w.heap.size + 1, 0, none⟩ (.int .i64 0)).setCell ⟨w.heap.size + 1, 1, none⟩ (.int .i64 0)).setCell ⟨w.heap.size + 1, 2, none⟩ (.int .i64 0)).setCell ⟨w.heap.size + 1, 3, none⟩ (.int .i64 0)).setCell ⟨w.heap.size + 1, 4, none⟩ (.slice none 0 0)).setCell ⟨w.heap.size + 1, 5, none⟩ (.slice none 0 0)).setCell ⟨w.heap.size + 1, 6, none⟩ (.slice none 0 0)).setCell ⟨w.heap.size + 1, 7, none⟩ (.slice none 0 0)).setCell ⟨w.heap.size + 1, 8, none⟩ (.slice none 0 0))) := put_kp _ _ _ _ _ _ _ _ _ _ _
    obtain ⟨y0, y1, y2, y3, y4, y5, y6, y7, y8⟩ := (Z1.out.put (.int .i64 0) (.int .i64 0) (.int .i64 0) (.int .i64 0) (.slice none 0 0) (.slice none 0 0) (.slice none 0 0) (.slice none 0 0) (.slice none 0 0)).cells
    go_wp2
    clear z0 z1 z2 z3 z4 z5 z6 z7 z8 t0 t1 t2 t3 t4 t5 t6 t7 t8
    generalize (((((((((w1.setCell ⟨w.heap.size + 1, 0, none⟩ (.int .i64 0)).setCell ⟨w.heap.size + 1, 1, none⟩ (.int .i64 0)).setCell ⟨w.heap.size + 1, 2, none⟩ (.int .i64 0)).setCell ⟨w.heap.size + 1, 3, none⟩ (.int .i64 0)).setCell ⟨w.heap.size + 1, 4, none⟩ (.slice none 0 0)).setCell ⟨w.heap.size + 1, 5, none⟩ (.slice none 0 0)).setCell ⟨w.heap.size + 1, 6, none⟩ (.slice none 0 0)).setCell ⟨w.heap.size + 1, 7, none⟩ (.slice none 0 0)).setCell ⟨w.heap.size + 1, 8, none⟩ (.slice none 0 0)) = w9 at *
    refine bodyPost_ret (v := .tuple #[.agg #[.int .i64 0, .int .i64 0, .int .i64 0, .int .i64 0, .slice none 0 0, .slice none 0 0, .slice none 0 0, .slice none 0 0, .slice none 0 0], .slice none 0 0, .iface 99 (.int .i64 fw)]) (by simp [results, Tryz.results10, go_sem, y0, y1, y2, y3, y4, y5, y6, y7, y8]) rfl ⟨_, _, _, rfl, by rw [step_w (l := l) (by rw [FW.out]; exact HF.out), FW.out]; exact Er.no HF.out, .inl ⟨by rw [step_w (l := l) (by rw [FW.out]; exact HF.out), FW.out]; exact HF.out, rfl, rfl⟩, KZ.out.below B1.out B1.out.size (by omega)⟩
  have WR : Hid (WRight ks X) := wright_of FW.out
  obtain ⟨x0, x1, x2, x3, x4, x5, x6, x7, x8⟩ := X1.out.cells
  by_cases htn : 1000000 ≤ X.turn
  case pos =>
    have SF : Hid (stepFault ks X l = 4) := step_t FW.out htn
    have htn' : decide (1000000 ≤ X.turn) = true := decide_eq_true htn
    clear htn
    obtain ⟨z0, z1, z2, z3, z4, z5, z6, z7, z8⟩ := Z1.out.cells
    obtain ⟨t0, t1, t2, t3, t4, t5, t6, t7, t8⟩ := Z1.out.thaws
    have KZ : Hid (Kp (w.heap.size + 1) w1 (((((((((w1.setCell ⟨w.heap.size + 1, 0, none⟩ (.int .i64 0)).setCell ⟨w.heap.size + 1, 1, none⟩ (.int .i64 0)).setCell ⟨w.heap.size + 1, 2, none⟩ (.int .i64 0)).setCell ⟨w.heap.size + 1, 3, none⟩ (.int .i64 0)).setCell ⟨w.heap.size + 1, 4, none⟩ (.slice none 0 0)).setCell ⟨w.heap.size + 1, 5, none⟩ (.slice none 0 0)).setCell ⟨w.heap.size + 1, 6, none⟩ (.slice none 0 0)).setCell ⟨w.heap.size + 1, 7, none⟩ (.slice none 0 0)).setCell ⟨w.heap.size + 1, 8, none⟩ (.slice none 0 0))) := put_kp _ _ _ _ _ _ _ _ _ _ _
    obtain ⟨y0, y1, y2, y3, y4, y5, y6, y7, y8⟩ := (Z1.out.put (.int .i64 0) (.int .i64 0) (.int .i64 0) (.int .i64 0) (.slice none 0 0) (.slice none 0 0) (.slice none 0 0) (.slice none 0 0) (.slice none 0 0)).cells
    go_wp2
    clear z0 z1 z2 z3 z4 z5 z6 z7 z8 t0 t1 t2 t3 t4 t5 t6 t7 t8
    generalize (((((((((w1.setCell ⟨w.heap.size + 1, 0, none⟩ (.int .i64 0)).setCell ⟨w.heap.size + 1, 1, none⟩ (.int .i64 0)).setCell ⟨w.heap.size + 1, 2, none⟩ (.int .i64 0)).setCell ⟨w.heap.size + 1, 3, none⟩ (.int .i64 0)).setCell ⟨w.heap.size + 1, 4, none⟩ (.slice none 0 0)).setCell ⟨w.heap.size + 1, 5, none⟩ (.slice none 0 0)).setCell ⟨w.heap.size + 1, 6, none⟩ (.slice none 0 0)).setCell ⟨w.heap.size + 1, 7, none⟩ (.slice none 0 0)).setCell ⟨w.heap.size + 1, 8, none⟩ (.slice none 0 0)) = wz at *
    refine bodyPost_ret (v := .tuple #[.agg #[.int .i64 0, .int .i64 0, .int .i64 0, .int .i64 0, .slice none 0 0, .slice none 0 0, .slice none 0 0, .slice none 0 0, .slice none 0 0], .slice none 0 0, .iface 99 (.int .i64 4)]) (by simp [results, Tryz.results10, go_sem, y0, y1, y2, y3, y4, y5, y6, y7, y8]) rfl ⟨_, _, _, rfl, by rw [SF.out]; exact Er.no (by decide), .inl ⟨by rw [SF.out]; decide, rfl, rfl⟩, KZ.out.below B1.out B1.out.size (by omega)⟩
  have SF : Hid (stepFault ks X l = Od.faults l) := step_o FW.out htn
  have TN : Hid (¬ 1000000 ≤ X.turn) := htn
  go_wp2_with fail
  refine (give_any _ _ _ ks X l w1 (K.out.1.below B1.out) (H.out.below B1.out) (SD.out.2.below B1.out) WR.out).mono ?_
  rintro e w2 ⟨v, ur, r, rfl, hr, hg, hb⟩
  have B2 : Hid (Below w.heap.size w w2) := B1.out.trans (hb.mono B1.out.size)
  have X2 : Hid (Wx w2 w.heap.size (.int .i64 X.turn) (.int .i64 X.next) (.int .i64 X.wide) (.int .i64 X.high) (.slice p1 X.gs.length q1) (.slice p2 X.os.length q2) (.slice p3 X.gold.length q3) (.slice p4 X.us.length q4) (.slice p5 X.qs.length q5)) := X1.out.below hb X1.out.lt
  have Z2 : Hid (Wx w2 (w.heap.size + 1) (.int .i64 0) (.int .i64 0) (.int .i64 0) (.int .i64 0) (.slice none 0 0) (.slice none 0 0) (.slice none 0 0) (.slice none 0 0) (.slice none 0 0)) := Z1.out.below hb Z1.out.lt
  have S1 : Hid (w.heap.size + 2 ≤ w1.heap.size) := Z1.out.lt
  clear hb x0 x1 x2 x3 x4 x5 x6 x7 x8 X1 B1 Z1 htn
  obtain ⟨fo, hfo⟩ : ∃ f, Od.faults l = f := ⟨_, rfl⟩
  have FO : Hid (Od.faults l = fo) := hfo
  rw [hfo] at hr
  clear hfo
  rcases hr with ⟨rfl, rfl⟩ | ⟨hf, rfl⟩
  case inr =>
    have HF : Hid (fo ≠ 0) := hf
    rcases hg with ⟨-, rfl, rfl⟩ | ⟨h, -⟩
    case inr => rw [FO.out] at h; exact absurd h hf
    clear hf
    obtain ⟨c0, c1, c2, c3, c4, c5, c6, c7, c8⟩ := X2.out.cells
    obtain ⟨d0, d1, d2, d3, d4, d5, d6, d7, d8⟩ := X2.out.thaws
    have KB : Hid (Kp w.heap.size w2 (((((((((w2.setCell ⟨w.heap.size, 0, none⟩ (.int .i64 0)).setCell ⟨w.heap.size, 1, none⟩ (.int .i64 0)).setCell ⟨w.heap.size, 2, none⟩ (.int .i64 0)).setCell ⟨w.heap.size, 3, none⟩ (.int .i64 0)).setCell ⟨w.heap.size, 4, none⟩ (.slice none 0 0)).setCell ⟨w.heap.size, 5, none⟩ (.slice none 0 0)).setCell ⟨w.heap.size, 6, none⟩ (.slice none 0 0)).setCell ⟨w.heap.size, 7, none⟩ (.slice none 0 0)).setCell ⟨w.heap.size, 8, none⟩ (.slice none 0 0))) := put_kp _ _ _ _ _ _ _ _ _ _ _
    go_upto_region 8 with fail
    clear c0 c1 c2 c3 c4 c5 c6 c7 c8 d0 d1 d2 d3 d4 d5 d6 d7 d8
    generalize (((((((((w2.setCell ⟨w.heap.size, 0, none⟩ (.int .i64 0)).setCell ⟨w.heap.size, 1, none⟩ (.int .i64 0)).setCell ⟨w.heap.size, 2, none⟩ (.int .i64 0)).setCell ⟨w.heap.size, 3, none⟩ (.int .i64 0)).setCell ⟨w.heap.size, 4, none⟩ (.slice none 0 0)).setCell ⟨w.heap.size, 5, none⟩ (.slice none 0 0)).setCell ⟨w.heap.size, 6, none⟩ (.slice none 0 0)).setCell ⟨w.heap.size, 7, none⟩ (.slice none 0 0)).setCell ⟨w.heap.size, 8, none⟩ (.slice none 0 0)) = w3 at *
    have B3 : Hid (Below w.heap.size w w3) := KB.out.below B2.out B2.out.size (Nat.le_refl _)
    have Z3 : Hid (Wx w3 (w.heap.size + 1) (.int .i64 0) (.int .i64 0) (.int .i64 0) (.int .i64 0) (.slice none 0 0) (.slice none 0 0) (.slice none 0 0) (.slice none 0 0) (.slice none 0 0)) := Z2.out.kp KB.out (by omega)
    obtain ⟨z0, z1, z2, z3, z4, z5, z6, z7, z8⟩ := Z3.out.cells
    obtain ⟨t0, t1, t2, t3, t4, t5, t6, t7, t8⟩ := Z3.out.thaws
    have KZ : Hid (Kp (w.heap.size + 1) w3 (((((((((w3.setCell ⟨w.heap.size + 1, 0, none⟩ (.int .i64 0)).setCell ⟨w.heap.size + 1, 1, none⟩ (.int .i64 0)).setCell ⟨w.heap.size + 1, 2, none⟩ (.int .i64 0)).setCell ⟨w.heap.size + 1, 3, none⟩ (.int .i64 0)).setCell ⟨w.heap.size + 1, 4, none⟩ (.slice none 0 0)).setCell ⟨w.heap.size + 1, 5, none⟩ (.slice none 0 0)).setCell ⟨w.heap.size + 1, 6, none⟩ (.slice none 0 0)).setCell ⟨w.heap.size + 1, 7, none⟩ (.slice none 0 0)).setCell ⟨w.heap.size + 1, 8, none⟩ (.slice none 0 0))) := put_kp _ _ _ _ _ _ _ _ _ _ _
    obtain ⟨y0, y1, y2, y3, y4, y5, y6, y7, y8⟩ := (Z3.out.put (.int .i64 0) (.int .i64 0) (.int .i64 0) (.int .i64 0) (.slice none 0 0) (.slice none 0 0) (.slice none 0 0) (.slice none 0 0) (.slice none 0 0)).cells
    go_wp2
    clear z0 z1 z2 z3 z4 z5 z6 z7 z8 t0 t1 t2 t3 t4 t5 t6 t7 t8
    generalize (((((((((w3.setCell ⟨w.heap.size + 1, 0, none⟩ (.int .i64 0)).setCell ⟨w.heap.size + 1, 1, none⟩ (.int .i64 0)).setCell ⟨w.heap.size + 1, 2, none⟩ (.int .i64 0)).setCell ⟨w.heap.size + 1, 3, none⟩ (.int .i64 0)).setCell ⟨w.heap.size + 1, 4, none⟩ (.slice none 0 0)).setCell ⟨w.heap.size + 1, 5, none⟩ (.slice none 0 0)).setCell ⟨w.heap.size + 1, 6, none⟩ (.slice none 0 0)).setCell ⟨w.heap.size + 1, 7, none⟩ (.slice none 0 0)).setCell ⟨w.heap.size + 1, 8, none⟩ (.slice none 0 0)) = wz at *
    refine bodyPost_ret (v := .tuple #[.agg #[.int .i64 0, .int .i64 0, .int .i64 0, .int .i64 0, .slice none 0 0, .slice none 0 0, .slice none 0 0, .slice none 0 0, .slice none 0 0], .slice none 0 0, .iface 99 (.int .i64 fo)]) (by simp [results, Tryz.results10, go_sem, y0, y1, y2, y3, y4, y5, y6, y7, y8]) rfl ⟨_, _, _, rfl, by rw [SF.out, FO.out]; exact Er.no HF.out, .inl ⟨by rw [SF.out, FO.out]; exact HF.out, rfl, rfl⟩, KZ.out.below B3.out B3.out.size (by omega)⟩
  rcases hg with ⟨h, -⟩ | ⟨-, out, hls, ho, -⟩
  case inl => exact absurd FO.out h
  have LS : Hid (LastSays l out) := hls
  obtain ⟨A, hA⟩ : ∃ A, (gv ks X out out.length).1 = A := ⟨_, rfl⟩
  have HA : Hid ((gv ks X out out.length).1 = A) := hA
  have AR : Hid (WRight ks A) := by
    unfold Hid
    rw [← hA]
    exact gv_right WR.out (fun o h => (Od.faults_ok FO.out).2 o (hls.mem h)) _
  rw [hA] at ho
  clear hA hls
  obtain ⟨k1, k2, k3, k4, k5, rfl, o1, o2, o3, o4, o5⟩ := ho
  obtain ⟨a1, r1, rfl⟩ := o1.len
  obtain ⟨a2, r2, rfl⟩ := o2.len
  obtain ⟨a3, r3, rfl⟩ := o3.len
  obtain ⟨a4, r4, rfl⟩ := o4.len
  obtain ⟨a5, r5, rfl⟩ := o5.len
  have OA : Hid (Ow w2 (w.heap.size + 2) (Value.slice a1 A.gs.length r1) A.gs ∧ Ow w2 (w.heap.size + 2) (Value.slice a2 A.os.length r2) A.os ∧ Ow w2 (w.heap.size + 2) (Value.slice a3 A.gold.length r3) A.gold ∧ Uno w2 (w.heap.size + 2) (Value.slice a4 A.us.length r4) A.us ∧ Jbo w2 (w.heap.size + 2) (Value.slice a5 A.qs.length r5) A.qs) := ⟨o1.mono S1.out, o2.mono S1.out, o3.mono S1.out, o4.mono S1.out, o5.mono S1.out⟩
  clear o1 o2 o3 o4 o5
  obtain ⟨c0, c1, c2, c3, c4, c5, c6, c7, c8⟩ := X2.out.cells
  obtain ⟨d0, d1, d2, d3, d4, d5, d6, d7, d8⟩ := X2.out.thaws
  have KB : Hid (Kp w.heap.size w2 (((((((((w2.setCell ⟨w.heap.size, 0, none⟩ (.int .i64 A.turn)).setCell ⟨w.heap.size, 1, none⟩ (.int .i64 A.next)).setCell ⟨w.heap.size, 2, none⟩ (.int .i64 A.wide)).setCell ⟨w.heap.size, 3, none⟩ (.int .i64 A.high)).setCell ⟨w.heap.size, 4, none⟩ (Value.slice a1 A.gs.length r1)).setCell ⟨w.heap.size, 5, none⟩ (Value.slice a2 A.os.length r2)).setCell ⟨w.heap.size, 6, none⟩ (Value.slice a3 A.gold.length r3)).setCell ⟨w.heap.size, 7, none⟩ (Value.slice a4 A.us.length r4)).setCell ⟨w.heap.size, 8, none⟩ (Value.slice a5 A.qs.length r5))) := put_kp _ _ _ _ _ _ _ _ _ _ _
  have XB : Hid (Wx (((((((((w2.setCell ⟨w.heap.size, 0, none⟩ (.int .i64 A.turn)).setCell ⟨w.heap.size, 1, none⟩ (.int .i64 A.next)).setCell ⟨w.heap.size, 2, none⟩ (.int .i64 A.wide)).setCell ⟨w.heap.size, 3, none⟩ (.int .i64 A.high)).setCell ⟨w.heap.size, 4, none⟩ (Value.slice a1 A.gs.length r1)).setCell ⟨w.heap.size, 5, none⟩ (Value.slice a2 A.os.length r2)).setCell ⟨w.heap.size, 6, none⟩ (Value.slice a3 A.gold.length r3)).setCell ⟨w.heap.size, 7, none⟩ (Value.slice a4 A.us.length r4)).setCell ⟨w.heap.size, 8, none⟩ (Value.slice a5 A.qs.length r5)) w.heap.size (.int .i64 A.turn) (.int .i64 A.next) (.int .i64 A.wide) (.int .i64 A.high) (Value.slice a1 A.gs.length r1) (Value.slice a2 A.os.length r2) (Value.slice a3 A.gold.length r3) (Value.slice a4 A.us.length r4) (Value.slice a5 A.qs.length r5)) := X2.out.put (.int .i64 A.turn) (.int .i64 A.next) (.int .i64 A.wide) (.int .i64 A.high) (Value.slice a1 A.gs.length r1) (Value.slice a2 A.os.length r2) (Value.slice a3 A.gold.length r3) (Value.slice a4 A.us.length r4) (Value.slice a5 A.qs.length r5)
  go_upto_region 9 with fail
  clear c0 c1 c2 c3 c4 c5 c6 c7 c8 d0 d1 d2 d3 d4 d5 d6 d7 d8
  generalize (((((((((w2.setCell ⟨w.heap.size, 0, none⟩ (.int .i64 A.turn)).setCell ⟨w.heap.size, 1, none⟩ (.int .i64 A.next)).setCell ⟨w.heap.size, 2, none⟩ (.int .i64 A.wide)).setCell ⟨w.heap.size, 3, none⟩ (.int .i64 A.high)).setCell ⟨w.heap.size, 4, none⟩ (Value.slice a1 A.gs.length r1)).setCell ⟨w.heap.size, 5, none⟩ (Value.slice a2 A.os.length r2)).setCell ⟨w.heap.size, 6, none⟩ (Value.slice a3 A.gold.length r3)).setCell ⟨w.heap.size, 7, none⟩ (Value.slice a4 A.us.length r4)).setCell ⟨w.heap.size, 8, none⟩ (Value.slice a5 A.qs.length r5)) = w3 at *
  have B3 : Hid (Below w.heap.size w w3) := KB.out.below B2.out B2.out.size (Nat.le_refl _)
  have Z3 : Hid (Wx w3 (w.heap.size + 1) (.int .i64 0) (.int .i64 0) (.int .i64 0) (.int .i64 0) (.slice none 0 0) (.slice none 0 0) (.slice none 0 0) (.slice none 0 0) (.slice none 0 0)) := Z2.out.kp KB.out (by omega)
  have O3 : Hid (Ow w3 (w.heap.size + 2) (Value.slice a1 A.gs.length r1) A.gs ∧ Ow w3 (w.heap.size + 2) (Value.slice a2 A.os.length r2) A.os ∧ Ow w3 (w.heap.size + 2) (Value.slice a3 A.gold.length r3) A.gold ∧ Uno w3 (w.heap.size + 2) (Value.slice a4 A.us.length r4) A.us ∧ Jbo w3 (w.heap.size + 2) (Value.slice a5 A.qs.length r5) A.qs) := ⟨OA.out.1.kp KB.out (by omega), OA.out.2.1.kp KB.out (by omega), OA.out.2.2.1.kp KB.out (by omega), OA.out.2.2.2.1.kp KB.out (by omega), OA.out.2.2.2.2.kp KB.out (by omega)⟩
  clear KB X2 B2 Z2 OA
  obtain ⟨bq, hbq⟩ : ∃ b, w3.heap.size = b := ⟨_, rfl⟩
  have BF : Hid (Below w3.heap.size w3 (w3.alloc (Obj.cells #[.func (Fn.func 23) #[] #[], .func (Fn.func 48) #[] #[], .func (Fn.func 20) #[] #[], .func (Fn.func 49) #[] #[]] 101))) := (Below.refl _ _).alloc (Nat.le_refl _) _
  have SZ : Hid ((w3.alloc (Obj.cells #[.func (Fn.func 23) #[] #[], .func (Fn.func 48) #[] #[], .func (Fn.func 20) #[] #[], .func (Fn.func 49) #[] #[]] 101)).heap.size = bq + 1) := by unfold Hid; rw [← hbq]; simp
  have CF0 : Hid ((w3.alloc (Obj.cells #[.func (Fn.func 23) #[] #[], .func (Fn.func 48) #[] #[], .func (Fn.func 20) #[] #[], .func (Fn.func 49) #[] #[]] 101)).cell? ⟨bq, 0, none⟩ = some (.func (Fn.func 23) #[] #[]) ∧ (w3.alloc (Obj.cells #[.func (Fn.func 23) #[] #[], .func (Fn.func 48) #[] #[], .func (Fn.func 20) #[] #[], .func (Fn.func 49) #[] #[]] 101)).cell? ⟨bq, 1, none⟩ = some (.func (Fn.func 48) #[] #[]) ∧ (w3.alloc (Obj.cells #[.func (Fn.func 23) #[] #[], .func (Fn.func 48) #[] #[], .func (Fn.func 20) #[] #[], .func (Fn.func 49) #[] #[]] 101)).cell? ⟨bq, 2, none⟩ = some (.func (Fn.func 20) #[] #[]) ∧ (w3.alloc (Obj.cells #[.func (Fn.func 23) #[] #[], .func (Fn.func 48) #[] #[], .func (Fn.func 20) #[] #[], .func (Fn.func 49) #[] #[]] 101)).cell? ⟨bq, 3, none⟩ = some (.func (Fn.func 49) #[] #[])) := by
    unfold Hid
    rw [← hbq]
    simp
  go_wp2_with fail
  (try rw [hbq])
  obtain ⟨w5, hw5⟩ : ∃ w5, (w3.alloc (Obj.cells #[.func (Fn.func 23) #[] #[], .func (Fn.func 48) #[] #[], .func (Fn.func 20) #[] #[], .func (Fn.func 49) #[] #[]] 101)) = w5 := ⟨_, rfl⟩
  rw [hw5] at BF SZ CF0 ⊢
  clear hw5
  have NQ : Hid (w.heap.size + 2 ≤ bq) := by have h1 := O3.out; have h2 := Z3.out.lt; unfold Hid; omega
  clear hbq
  obtain ⟨Wn, Hn, ew, eh, G⟩ := WR.out.good
  have WH : Hid (X.wide = (Wn : Nat) ∧ X.high = (Hn : Nat) ∧ A.wide = (Wn : Nat) ∧ A.high = (Hn : Nat) ∧ A.turn = X.turn) := by
    obtain ⟨g1, g2, g3⟩ := gv_same (ks := ks) (Y := X) (out := out) out.length
    rw [HA.out] at g1 g2 g3
    exact ⟨ew, eh, by rw [g2, ew], by rw [g3, eh], g1⟩
  clear ew eh G
  have T5 : Hid (StS A [] w.heap.size (w.heap.size + 2) (bq + 1) w5 (Value.slice a1 A.gs.length r1) (Value.slice a2 A.os.length r2) (Value.slice a3 A.gold.length r3) (Value.slice a4 A.us.length r4) (Value.slice a5 A.qs.length r5) (.slice none 0 0) w5) :=
    ⟨XB.out.below BF.out XB.out.lt, O3.out.1.below BF.out, O3.out.2.1.below BF.out, O3.out.2.2.1.below BF.out, O3.out.2.2.2.1.below BF.out, O3.out.2.2.2.2.below BF.out, Evo.nil _ _, Fr.below (Below.refl _ _), ⟨by omega, by have := NQ.out; omega, SZ.out⟩⟩
  have Z5 : Hid (Wx w5 (w.heap.size + 1) (.int .i64 0) (.int .i64 0) (.int .i64 0) (.int .i64 0) (.slice none 0 0) (.slice none 0 0) (.slice none 0 0) (.slice none 0 0) (.slice none 0 0)) := Z3.out.below BF.out Z3.out.lt
  have B5 : Hid (Below w.heap.size w w5) := B3.out.trans (BF.out.mono B3.out.size)
  clear BF XB O3 Z3 B3
  go_loopw [12, 44] (fun v12 j V => ∃ n : Nat, n ≤ 4 ∧ j = .int .i64 (n : Nat) ∧ ∃ Y es, Ph ks Wn Hn A n Y es ∧ ∃ u1 u2 u3 u4 u5 ev, ev = v12 ∧ StS Y es w.heap.size (w.heap.size + 2) (bq + 1) w5 u1 u2 u3 u4 u5 ev V) (fun _ j _ => 4 - (intOf j).toNat)
  case atStart => exact ⟨0, by omega, rfl, A, [], .zero, _, _, _, _, _, _, rfl, T5.out⟩
  case round =>
  obtain ⟨n, hn, rfl, Y, es, hp, u1, u2, u3, u4, u5, ev, rfl, hT⟩ := hrel
  have PH : Hid (Ph ks Wn Hn A n Y es) := hp
  have KP : Hid (WRight ks Y ∧ Y.wide = (Wn : Nat) ∧ Y.high = (Hn : Nat) ∧ Y.turn = A.turn ∧ es.length ≤ 50000 * n) := hp.keep AR.out WH.out.2.2.1 WH.out.2.2.2.1
  have TQ : Hid (StS Y es w.heap.size (w.heap.size + 2) (bq + 1) w5 u1 u2 u3 u4 u5 ev wr) := hT
  clear hp hT
  have CQ : Hid (∀ i u, i < 4 → w5.cell? ⟨bq, i, none⟩ = some u → wr.cell? ⟨bq, i, none⟩ = some u) := fun i u _ h => TQ.out.f.cell h (fun e => by have := NQ.out; simp only at e; omega)
  have ZW : Hid (Wx wr (w.heap.size + 1) (.int .i64 0) (.int .i64 0) (.int .i64 0) (.int .i64 0) (.slice none 0 0) (.slice none 0 0) (.slice none 0 0) (.slice none 0 0) (.slice none 0 0)) := TQ.out.f.wx Z5.out (by omega)
  have BW : Hid (Below w.heap.size w wr) := B5.out.trans (TQ.out.f.low B5.out.size (fun k hk => by omega))
  have SW : Hid (bq + 1 ≤ wr.heap.size) := by have := TQ.out.f.size; have := SZ.out; unfold Hid; omega
  obtain ⟨g1, l1, rfl⟩ := TQ.out.o1.len
  obtain ⟨g2, l2, rfl⟩ := TQ.out.o2.len
  obtain ⟨g3, l3, rfl⟩ := TQ.out.o3.len
  obtain ⟨g4, l4, rfl⟩ := TQ.out.o4.len
  obtain ⟨g5, l5, rfl⟩ := TQ.out.o5.len
  by_cases hne : n = 4
  case pos =>
    subst hne
    obtain ⟨x0, x1, x2, x3, x4, x5, x6, x7, x8⟩ := TQ.out.x.cells
    have t0 := TQ.out.x.thaw 0
    have tb : X.turn < 1000000 := by have := TN.out; omega
    have tb0 : 0 ≤ X.turn := by have h9 := WR.out.nums; unfold Wd.numsBad Wd.off at h9; simp at h9; omega
    have wt : IntKind.i64.wrap (Y.turn + 1) = Y.turn + 1 := by have h1 := KP.out.2.2.2.1; have h2 := WH.out.2.2.2.2; rw [IntKind.wrap_i64]; omega
    have XS : Hid (Wx (wr.setCell ⟨w.heap.size, 0, none⟩ (.int .i64 (Y.turn + 1))) w.heap.size (.int .i64 (Y.turn + 1)) (.int .i64 Y.next) (.int .i64 Y.wide) (.int .i64 Y.high) (Value.slice g1 Y.gs.length l1) (Value.slice g2 Y.os.length l2) (Value.slice g3 Y.gold.length l3) (Value.slice g4 Y.us.length l4) (Value.slice g5 Y.qs.length l5)) := TQ.out.x.set0 _
    have KS : Hid (Kp w.heap.size wr (wr.setCell ⟨w.heap.size, 0, none⟩ (.int .i64 (Y.turn + 1)))) := Kp.set _ _ _
    go_upto_region 20 with fail
    clear x0 x1 x2 x3 x4 x5 x6 x7 x8 t0 wt tb tb0
    generalize (wr.setCell ⟨w.heap.size, 0, none⟩ (.int .i64 (Y.turn + 1))) = ws at *
    obtain ⟨x0, x1, x2, x3, x4, x5, x6, x7, x8⟩ := XS.out.cells
    have ZS : Hid (Wx ws (w.heap.size + 1) (.int .i64 0) (.int .i64 0) (.int .i64 0) (.int .i64 0) (.slice none 0 0) (.slice none 0 0) (.slice none 0 0) (.slice none 0 0) (.slice none 0 0)) := ZW.out.kp KS.out (by omega)
    have BS2 : Hid (Below w.heap.size w ws) := KS.out.below BW.out BW.out.size (Nat.le_refl _)
    obtain ⟨z0, z1, z2, z3, z4, z5, z6, z7, z8⟩ := ZS.out.cells
    obtain ⟨t0, t1, t2, t3, t4, t5, t6, t7, t8⟩ := ZS.out.thaws
    have KZ : Hid (Kp (w.heap.size + 1) ws (((((((((ws.setCell ⟨w.heap.size + 1, 0, none⟩ (.int .i64 (Y.turn + 1))).setCell ⟨w.heap.size + 1, 1, none⟩ (.int .i64 Y.next)).setCell ⟨w.heap.size + 1, 2, none⟩ (.int .i64 Y.wide)).setCell ⟨w.heap.size + 1, 3, none⟩ (.int .i64 Y.high)).setCell ⟨w.heap.size + 1, 4, none⟩ (Value.slice g1 Y.gs.length l1)).setCell ⟨w.heap.size + 1, 5, none⟩ (Value.slice g2 Y.os.length l2)).setCell ⟨w.heap.size + 1, 6, none⟩ (Value.slice g3 Y.gold.length l3)).setCell ⟨w.heap.size + 1, 7, none⟩ (Value.slice g4 Y.us.length l4)).setCell ⟨w.heap.size + 1, 8, none⟩ (Value.slice g5 Y.qs.length l5))) := put_kp _ _ _ _ _ _ _ _ _ _ _
    obtain ⟨y0, y1, y2, y3, y4, y5, y6, y7, y8⟩ := (ZS.out.put (.int .i64 (Y.turn + 1)) (.int .i64 Y.next) (.int .i64 Y.wide) (.int .i64 Y.high) (Value.slice g1 Y.gs.length l1) (Value.slice g2 Y.os.length l2) (Value.slice g3 Y.gold.length l3) (Value.slice g4 Y.us.length l4) (Value.slice g5 Y.qs.length l5)).cells
    go_wp2
    clear x0 x1 x2 x3 x4 x5 x6 x7 x8 z0 z1 z2 z3 z4 z5 z6 z7 z8 t0 t1 t2 t3 t4 t5 t6 t7 t8
    generalize (((((((((ws.setCell ⟨w.heap.size + 1, 0, none⟩ (.int .i64 (Y.turn + 1))).setCell ⟨w.heap.size + 1, 1, none⟩ (.int .i64 Y.next)).setCell ⟨w.heap.size + 1, 2, none⟩ (.int .i64 Y.wide)).setCell ⟨w.heap.size + 1, 3, none⟩ (.int .i64 Y.high)).setCell ⟨w.heap.size + 1, 4, none⟩ (Value.slice g1 Y.gs.length l1)).setCell ⟨w.heap.size + 1, 5, none⟩ (Value.slice g2 Y.os.length l2)).setCell ⟨w.heap.size + 1, 6, none⟩ (Value.slice g3 Y.gold.length l3)).setCell ⟨w.heap.size + 1, 7, none⟩ (Value.slice g4 Y.us.length l4)).setCell ⟨w.heap.size + 1, 8, none⟩ (Value.slice g5 Y.qs.length l5)) = wt at *
    have kp2 : ∀ {T : TypeId} {size : Nat} {u : Value} {n : Nat} {cs : List Value} {base : Nat}, w.heap.size + 2 ≤ base → wr.ownsRow base T size u n cs → wt.ownsRow base T size u n cs := fun hb h => (Fr.kp (S := fun k => k = w.heap.size + 1) KZ.out rfl).own ((Fr.kp (S := fun k => k = w.heap.size) KS.out rfl).own h (fun k hk => by have := (World.ownsRow.lt h k hk).1; omega)) (fun k hk => by have := (World.ownsRow.lt h k hk).1; omega)
    have hq := NQ.out
    refine bodyPost_ret (v := .tuple #[.agg #[.int .i64 (Y.turn + 1), .int .i64 Y.next, .int .i64 Y.wide, .int .i64 Y.high, Value.slice g1 Y.gs.length l1, Value.slice g2 Y.os.length l2, Value.slice g3 Y.gold.length l3, Value.slice g4 Y.us.length l4, Value.slice g5 Y.qs.length l5], ev, .nilIface]) (by simp [results, Tryz.results10, go_sem, y0, y1, y2, y3, y4, y5, y6, y7, y8]) rfl ⟨_, _, _, rfl, by rw [SF.out, FO.out]; exact Er.nil, .inr ⟨by rw [SF.out, FO.out], { Y with turn := Y.turn + 1 }, es, ⟨out, Wn, Hn, Y, LS.out, WH.out.1, WH.out.2.1, by rw [HA.out]; exact PH.out, rfl⟩, ?_, ?_⟩, KZ.out.below BS2.out BS2.out.size (by omega)⟩
    · exact ⟨_, _, _, _, _, rfl, Ow.mono (kp2 (Nat.le_refl _) TQ.out.o1) (by omega), Ow.mono (kp2 (Nat.le_refl _) TQ.out.o2) (by omega), Ow.mono (kp2 (Nat.le_refl _) TQ.out.o3) (by omega), Uno.mono (kp2 (Nat.le_refl _) TQ.out.o4) (by omega), Jbo.mono (kp2 (Nat.le_refl _) TQ.out.o5) (by omega)⟩
    · exact Evo.mono (kp2 (by omega) TQ.out.e) (by omega)
  case neg =>
  have hn4 : n = 0 ∨ n = 1 ∨ n = 2 ∨ n = 3 := by omega
  clear hne hn
  rcases hn4 with rfl | rfl | rfl | rfl
  · have cf : wr.cell? ⟨bq, 0, none⟩ = some (.func (Fn.func 23) #[] #[]) := CQ.out 0 _ (by decide) CF0.out.1
    obtain ⟨x0, x1, x2, x3, x4, x5, x6, x7, x8⟩ := TQ.out.x.cells
    go_wp2_with fail
    clear cf x0 x1 x2 x3 x4 x5 x6 x7 x8
    refine (Train_any _ _ ks Y wr (K.out.1.below BW.out) K.out.2 TQ.out.wl (SD.out.1.below BW.out)).mono ?_
    rintro e w7 ⟨v, ev2, r, rfl, hr, hd, hb⟩
    rw [KP.out.1.zero] at hr
    obtain rfl : r = .nilIface := by
      rcases hr with ⟨-, e⟩ | ⟨h, -⟩
      · exact e
      · exact absurd rfl h
    have NX : Hid (∃ Z fs, Ph ks Wn Hn A 1 Z (es ++ fs) ∧ Wo w7 wr.heap.size v Z ∧ Evo w7 wr.heap.size ev2 fs) := by
      rcases hd with ⟨h, -⟩ | ⟨-, T, e1, q1, ht, h1, h2⟩
      · exact absurd KP.out.1.zero h
      · have h0 := PH.out
        cases h0
        exact ⟨_, e1, .one ht, h1, h2⟩
    have T7 : Hid (StS Y es w.heap.size (w.heap.size + 2) (bq + 1) w5 (Value.slice g1 Y.gs.length l1) (Value.slice g2 Y.os.length l2) (Value.slice g3 Y.gold.length l3) (Value.slice g4 Y.us.length l4) (Value.slice g5 Y.qs.length l5) ev w7) := TQ.out.below hb
    have S7 : Hid (wr.heap.size ≤ w7.heap.size) := hb.size
    clear hb hd hr
    obtain ⟨Z, fs, hph, ho, hev⟩ := NX.out
    have PN : Hid (Ph ks Wn Hn A 1 Z (es ++ fs)) := hph
    have LN : Hid (es.length + fs.length ≤ 1000000) := by have h9 := (hph.keep AR.out WH.out.2.2.1 WH.out.2.2.2.1).2.2.2.2; rw [List.length_append] at h9; unfold Hid; omega
    obtain ⟨v1, v2, v3, v4, v5, rfl, o1, o2, o3, o4, o5⟩ := ho
    obtain ⟨m1, k1, rfl⟩ := o1.len
    obtain ⟨m2, k2, rfl⟩ := o2.len
    obtain ⟨m3, k3, rfl⟩ := o3.len
    obtain ⟨m4, k4, rfl⟩ := o4.len
    obtain ⟨m5, k5, rfl⟩ := o5.len
    have sb : w.heap.size + 2 ≤ wr.heap.size := by have := SW.out; have := NQ.out; omega
    have OZ : Hid (Ow w7 (w.heap.size + 2) (Value.slice m1 Z.gs.length k1) Z.gs ∧ Ow w7 (w.heap.size + 2) (Value.slice m2 Z.os.length k2) Z.os ∧ Ow w7 (w.heap.size + 2) (Value.slice m3 Z.gold.length k3) Z.gold ∧ Uno w7 (w.heap.size + 2) (Value.slice m4 Z.us.length k4) Z.us ∧ Jbo w7 (w.heap.size + 2) (Value.slice m5 Z.qs.length k5) Z.qs ∧ Evo w7 (w.heap.size + 2) ev2 fs) := ⟨o1.mono sb, o2.mono sb, o3.mono sb, o4.mono sb, o5.mono sb, hev.mono sb⟩
    clear o1 o2 o3 o4 o5 hev hph NX sb
    obtain ⟨bn, hbn⟩ : ∃ b, w7.heap.size = b := ⟨_, rfl⟩
    have BN : Hid (Below w7.heap.size w7 (w7.alloc (Obj.cells #[.int .i64 Z.turn, .int .i64 Z.next, .int .i64 Z.wide, .int .i64 Z.high, Value.slice m1 Z.gs.length k1, Value.slice m2 Z.os.length k2, Value.slice m3 Z.gold.length k3, Value.slice m4 Z.us.length k4, Value.slice m5 Z.qs.length k5] 29))) := (Below.refl _ _).alloc (Nat.le_refl _) _
    have XN : Hid (Wx (w7.alloc (Obj.cells #[.int .i64 Z.turn, .int .i64 Z.next, .int .i64 Z.wide, .int .i64 Z.high, Value.slice m1 Z.gs.length k1, Value.slice m2 Z.os.length k2, Value.slice m3 Z.gold.length k3, Value.slice m4 Z.us.length k4, Value.slice m5 Z.qs.length k5] 29)) bn (.int .i64 Z.turn) (.int .i64 Z.next) (.int .i64 Z.wide) (.int .i64 Z.high) (Value.slice m1 Z.gs.length k1) (Value.slice m2 Z.os.length k2) (Value.slice m3 Z.gold.length k3) (Value.slice m4 Z.us.length k4) (Value.slice m5 Z.qs.length k5)) := Wx.new (w := w7) (.int .i64 Z.turn) (.int .i64 Z.next) (.int .i64 Z.wide) (.int .i64 Z.high) (Value.slice m1 Z.gs.length k1) (Value.slice m2 Z.os.length k2) (Value.slice m3 Z.gold.length k3) (Value.slice m4 Z.us.length k4) (Value.slice m5 Z.qs.length k5) hbn
    have NB : Hid (bq + 1 ≤ bn) := by rw [← hbn]; exact Nat.le_trans SW.out S7.out
    go_upto_region 16 with fail
    (try rw [hbn])
    clear hbn
    generalize w7.alloc (Obj.cells #[.int .i64 Z.turn, .int .i64 Z.next, .int .i64 Z.wide, .int .i64 Z.high, Value.slice m1 Z.gs.length k1, Value.slice m2 Z.os.length k2, Value.slice m3 Z.gold.length k3, Value.slice m4 Z.us.length k4, Value.slice m5 Z.qs.length k5] 29) = w8 at *
    have T8 : Hid (StS Y es w.heap.size (w.heap.size + 2) (bq + 1) w5 (Value.slice g1 Y.gs.length l1) (Value.slice g2 Y.os.length l2) (Value.slice g3 Y.gold.length l3) (Value.slice g4 Y.us.length l4) (Value.slice g5 Y.qs.length l5) ev w8) := T7.out.below BN.out
    have O8 : Hid (Ow w8 (w.heap.size + 2) (Value.slice m1 Z.gs.length k1) Z.gs ∧ Ow w8 (w.heap.size + 2) (Value.slice m2 Z.os.length k2) Z.os ∧ Ow w8 (w.heap.size + 2) (Value.slice m3 Z.gold.length k3) Z.gold ∧ Uno w8 (w.heap.size + 2) (Value.slice m4 Z.us.length k4) Z.us ∧ Jbo w8 (w.heap.size + 2) (Value.slice m5 Z.qs.length k5) Z.qs ∧ Evo w8 (w.heap.size + 2) ev2 fs) := ⟨OZ.out.1.below BN.out, OZ.out.2.1.below BN.out, OZ.out.2.2.1.below BN.out, OZ.out.2.2.2.1.below BN.out, OZ.out.2.2.2.2.1.below BN.out, OZ.out.2.2.2.2.2.below BN.out⟩
    obtain ⟨x0, x1, x2, x3, x4, x5, x6, x7, x8⟩ := XN.out.cells
    obtain ⟨z0, z1, z2, z3, z4, z5, z6, z7, z8⟩ := T8.out.x.cells
    obtain ⟨t0, t1, t2, t3, t4, t5, t6, t7, t8⟩ := T8.out.x.thaws
    have KZ : Hid (Kp w.heap.size w8 (((((((((w8.setCell ⟨w.heap.size, 0, none⟩ (.int .i64 Z.turn)).setCell ⟨w.heap.size, 1, none⟩ (.int .i64 Z.next)).setCell ⟨w.heap.size, 2, none⟩ (.int .i64 Z.wide)).setCell ⟨w.heap.size, 3, none⟩ (.int .i64 Z.high)).setCell ⟨w.heap.size, 4, none⟩ (Value.slice m1 Z.gs.length k1)).setCell ⟨w.heap.size, 5, none⟩ (Value.slice m2 Z.os.length k2)).setCell ⟨w.heap.size, 6, none⟩ (Value.slice m3 Z.gold.length k3)).setCell ⟨w.heap.size, 7, none⟩ (Value.slice m4 Z.us.length k4)).setCell ⟨w.heap.size, 8, none⟩ (Value.slice m5 Z.qs.length k5))) := put_kp _ _ _ _ _ _ _ _ _ _ _
    have XZ : Hid (Wx (((((((((w8.setCell ⟨w.heap.size, 0, none⟩ (.int .i64 Z.turn)).setCell ⟨w.heap.size, 1, none⟩ (.int .i64 Z.next)).setCell ⟨w.heap.size, 2, none⟩ (.int .i64 Z.wide)).setCell ⟨w.heap.size, 3, none⟩ (.int .i64 Z.high)).setCell ⟨w.heap.size, 4, none⟩ (Value.slice m1 Z.gs.length k1)).setCell ⟨w.heap.size, 5, none⟩ (Value.slice m2 Z.os.length k2)).setCell ⟨w.heap.size, 6, none⟩ (Value.slice m3 Z.gold.length k3)).setCell ⟨w.heap.size, 7, none⟩ (Value.slice m4 Z.us.length k4)).setCell ⟨w.heap.size, 8, none⟩ (Value.slice m5 Z.qs.length k5)) w.heap.size (.int .i64 Z.turn) (.int .i64 Z.next) (.int .i64 Z.wide) (.int .i64 Z.high) (Value.slice m1 Z.gs.length k1) (Value.slice m2 Z.os.length k2) (Value.slice m3 Z.gold.length k3) (Value.slice m4 Z.us.length k4) (Value.slice m5 Z.qs.length k5)) := T8.out.x.put (.int .i64 Z.turn) (.int .i64 Z.next) (.int .i64 Z.wide) (.int .i64 Z.high) (Value.slice m1 Z.gs.length k1) (Value.slice m2 Z.os.length k2) (Value.slice m3 Z.gold.length k3) (Value.slice m4 Z.us.length k4) (Value.slice m5 Z.qs.length k5)
    go_upto_region 17 with fail
    clear x0 x1 x2 x3 x4 x5 x6 x7 x8 z0 z1 z2 z3 z4 z5 z6 z7 z8 t0 t1 t2 t3 t4 t5 t6 t7 t8
    generalize (((((((((w8.setCell ⟨w.heap.size, 0, none⟩ (.int .i64 Z.turn)).setCell ⟨w.heap.size, 1, none⟩ (.int .i64 Z.next)).setCell ⟨w.heap.size, 2, none⟩ (.int .i64 Z.wide)).setCell ⟨w.heap.size, 3, none⟩ (.int .i64 Z.high)).setCell ⟨w.heap.size, 4, none⟩ (Value.slice m1 Z.gs.length k1)).setCell ⟨w.heap.size, 5, none⟩ (Value.slice m2 Z.os.length k2)).setCell ⟨w.heap.size, 6, none⟩ (Value.slice m3 Z.gold.length k3)).setCell ⟨w.heap.size, 7, none⟩ (Value.slice m4 Z.us.length k4)).setCell ⟨w.heap.size, 8, none⟩ (Value.slice m5 Z.qs.length k5)) = w9 at *
    have T9 : Hid (StS Z es w.heap.size (w.heap.size + 2) (bq + 1) w5 (Value.slice m1 Z.gs.length k1) (Value.slice m2 Z.os.length k2) (Value.slice m3 Z.gold.length k3) (Value.slice m4 Z.us.length k4) (Value.slice m5 Z.qs.length k5) ev w9) := T8.out.puts KZ.out XZ.out O8.out.1 O8.out.2.1 O8.out.2.2.1 O8.out.2.2.2.1 O8.out.2.2.2.2.1
    have E9 : Hid (Evl w9 ev2 fs) := Evo.l ((Fr.kp (S := fun k => k = w.heap.size) KZ.out rfl).own O8.out.2.2.2.2.2 (fun k hk => by have := (O8.out.2.2.2.2.2.block k hk).1; omega) : Evo w9 (w.heap.size + 2) ev2 fs)
    have S9 : Hid (bq + 1 ≤ w9.heap.size) := by have h1 := T9.out.f.size; have h2 := SZ.out; unfold Hid; omega
    go_wp2_with (at_builtin; refine app_evs _ rfl _ _ rfl (bq + 1) _ es rfl T9.out.e _ fs rfl E9.out LN.out S9.out ?_)
    intro ev' wE hE hG
    have TE : Hid (StS Z (es ++ fs) w.heap.size (w.heap.size + 2) (bq + 1) w5 (Value.slice m1 Z.gs.length k1) (Value.slice m2 Z.os.length k2) (Value.slice m3 Z.gold.length k3) (Value.slice m4 Z.us.length k4) (Value.slice m5 Z.qs.length k5) ev' wE) := T9.out.told hG hE
    clear hE hG
    go_wp2
    go_round
    case rel => exact ⟨1, by omega, by go_num, Z, es ++ fs, PN.out, _, _, _, _, _, _, rfl, TE.out⟩
    case measure => simp [intOf]
  · have cf : wr.cell? ⟨bq, 1, none⟩ = some (.func (Fn.func 48) #[] #[]) := CQ.out 1 _ (by decide) CF0.out.2.1
    obtain ⟨x0, x1, x2, x3, x4, x5, x6, x7, x8⟩ := TQ.out.x.cells
    go_wp2_with fail
    clear cf x0 x1 x2 x3 x4 x5 x6 x7 x8
    refine (Move_any _ _ ks Y wr (K.out.1.below BW.out) K.out.2 TQ.out.wl (SD.out.1.below BW.out)).mono ?_
    rintro e w7 ⟨v, ev2, r, rfl, hr, hd, hb⟩
    rw [KP.out.1.zero] at hr
    obtain rfl : r = .nilIface := by
      rcases hr with ⟨-, e⟩ | ⟨h, -⟩
      · exact e
      · exact absurd rfl h
    have NX : Hid (∃ Z fs, Ph ks Wn Hn A 2 Z (es ++ fs) ∧ Wo w7 wr.heap.size v Z ∧ Evo w7 wr.heap.size ev2 fs) := by
      rcases hd with ⟨h, -⟩ | ⟨-, W', H', e1, e2, -, us, evs, hm, -, h1, h2⟩
      · exact absurd KP.out.1.zero h
      · have k1 := KP.out.2.1
        have k2 := KP.out.2.2.1
        obtain rfl : W' = Wn := by omega
        obtain rfl : H' = Hn := by omega
        exact ⟨_, evs, .two PH.out hm, h1, h2⟩
    have T7 : Hid (StS Y es w.heap.size (w.heap.size + 2) (bq + 1) w5 (Value.slice g1 Y.gs.length l1) (Value.slice g2 Y.os.length l2) (Value.slice g3 Y.gold.length l3) (Value.slice g4 Y.us.length l4) (Value.slice g5 Y.qs.length l5) ev w7) := TQ.out.below hb
    have S7 : Hid (wr.heap.size ≤ w7.heap.size) := hb.size
    clear hb hd hr
    obtain ⟨Z, fs, hph, ho, hev⟩ := NX.out
    have PN : Hid (Ph ks Wn Hn A 2 Z (es ++ fs)) := hph
    have LN : Hid (es.length + fs.length ≤ 1000000) := by have h9 := (hph.keep AR.out WH.out.2.2.1 WH.out.2.2.2.1).2.2.2.2; rw [List.length_append] at h9; unfold Hid; omega
    obtain ⟨v1, v2, v3, v4, v5, rfl, o1, o2, o3, o4, o5⟩ := ho
    obtain ⟨m1, k1, rfl⟩ := o1.len
    obtain ⟨m2, k2, rfl⟩ := o2.len
    obtain ⟨m3, k3, rfl⟩ := o3.len
    obtain ⟨m4, k4, rfl⟩ := o4.len
    obtain ⟨m5, k5, rfl⟩ := o5.len
    have sb : w.heap.size + 2 ≤ wr.heap.size := by have := SW.out; have := NQ.out; omega
    have OZ : Hid (Ow w7 (w.heap.size + 2) (Value.slice m1 Z.gs.length k1) Z.gs ∧ Ow w7 (w.heap.size + 2) (Value.slice m2 Z.os.length k2) Z.os ∧ Ow w7 (w.heap.size + 2) (Value.slice m3 Z.gold.length k3) Z.gold ∧ Uno w7 (w.heap.size + 2) (Value.slice m4 Z.us.length k4) Z.us ∧ Jbo w7 (w.heap.size + 2) (Value.slice m5 Z.qs.length k5) Z.qs ∧ Evo w7 (w.heap.size + 2) ev2 fs) := ⟨o1.mono sb, o2.mono sb, o3.mono sb, o4.mono sb, o5.mono sb, hev.mono sb⟩
    clear o1 o2 o3 o4 o5 hev hph NX sb
    obtain ⟨bn, hbn⟩ : ∃ b, w7.heap.size = b := ⟨_, rfl⟩
    have BN : Hid (Below w7.heap.size w7 (w7.alloc (Obj.cells #[.int .i64 Z.turn, .int .i64 Z.next, .int .i64 Z.wide, .int .i64 Z.high, Value.slice m1 Z.gs.length k1, Value.slice m2 Z.os.length k2, Value.slice m3 Z.gold.length k3, Value.slice m4 Z.us.length k4, Value.slice m5 Z.qs.length k5] 29))) := (Below.refl _ _).alloc (Nat.le_refl _) _
    have XN : Hid (Wx (w7.alloc (Obj.cells #[.int .i64 Z.turn, .int .i64 Z.next, .int .i64 Z.wide, .int .i64 Z.high, Value.slice m1 Z.gs.length k1, Value.slice m2 Z.os.length k2, Value.slice m3 Z.gold.length k3, Value.slice m4 Z.us.length k4, Value.slice m5 Z.qs.length k5] 29)) bn (.int .i64 Z.turn) (.int .i64 Z.next) (.int .i64 Z.wide) (.int .i64 Z.high) (Value.slice m1 Z.gs.length k1) (Value.slice m2 Z.os.length k2) (Value.slice m3 Z.gold.length k3) (Value.slice m4 Z.us.length k4) (Value.slice m5 Z.qs.length k5)) := Wx.new (w := w7) (.int .i64 Z.turn) (.int .i64 Z.next) (.int .i64 Z.wide) (.int .i64 Z.high) (Value.slice m1 Z.gs.length k1) (Value.slice m2 Z.os.length k2) (Value.slice m3 Z.gold.length k3) (Value.slice m4 Z.us.length k4) (Value.slice m5 Z.qs.length k5) hbn
    have NB : Hid (bq + 1 ≤ bn) := by rw [← hbn]; exact Nat.le_trans SW.out S7.out
    go_upto_region 16 with fail
    (try rw [hbn])
    clear hbn
    generalize w7.alloc (Obj.cells #[.int .i64 Z.turn, .int .i64 Z.next, .int .i64 Z.wide, .int .i64 Z.high, Value.slice m1 Z.gs.length k1, Value.slice m2 Z.os.length k2, Value.slice m3 Z.gold.length k3, Value.slice m4 Z.us.length k4, Value.slice m5 Z.qs.length k5] 29) = w8 at *
    have T8 : Hid (StS Y es w.heap.size (w.heap.size + 2) (bq + 1) w5 (Value.slice g1 Y.gs.length l1) (Value.slice g2 Y.os.length l2) (Value.slice g3 Y.gold.length l3) (Value.slice g4 Y.us.length l4) (Value.slice g5 Y.qs.length l5) ev w8) := T7.out.below BN.out
    have O8 : Hid (Ow w8 (w.heap.size + 2) (Value.slice m1 Z.gs.length k1) Z.gs ∧ Ow w8 (w.heap.size + 2) (Value.slice m2 Z.os.length k2) Z.os ∧ Ow w8 (w.heap.size + 2) (Value.slice m3 Z.gold.length k3) Z.gold ∧ Uno w8 (w.heap.size + 2) (Value.slice m4 Z.us.length k4) Z.us ∧ Jbo w8 (w.heap.size + 2) (Value.slice m5 Z.qs.length k5) Z.qs ∧ Evo w8 (w.heap.size + 2) ev2 fs) := ⟨OZ.out.1.below BN.out, OZ.out.2.1.below BN.out, OZ.out.2.2.1.below BN.out, OZ.out.2.2.2.1.below BN.out, OZ.out.2.2.2.2.1.below BN.out, OZ.out.2.2.2.2.2.below BN.out⟩
    obtain ⟨x0, x1, x2, x3, x4, x5, x6, x7, x8⟩ := XN.out.cells
    obtain ⟨z0, z1, z2, z3, z4, z5, z6, z7, z8⟩ := T8.out.x.cells
    obtain ⟨t0, t1, t2, t3, t4, t5, t6, t7, t8⟩ := T8.out.x.thaws
    have KZ : Hid (Kp w.heap.size w8 (((((((((w8.setCell ⟨w.heap.size, 0, none⟩ (.int .i64 Z.turn)).setCell ⟨w.heap.size, 1, none⟩ (.int .i64 Z.next)).setCell ⟨w.heap.size, 2, none⟩ (.int .i64 Z.wide)).setCell ⟨w.heap.size, 3, none⟩ (.int .i64 Z.high)).setCell ⟨w.heap.size, 4, none⟩ (Value.slice m1 Z.gs.length k1)).setCell ⟨w.heap.size, 5, none⟩ (Value.slice m2 Z.os.length k2)).setCell ⟨w.heap.size, 6, none⟩ (Value.slice m3 Z.gold.length k3)).setCell ⟨w.heap.size, 7, none⟩ (Value.slice m4 Z.us.length k4)).setCell ⟨w.heap.size, 8, none⟩ (Value.slice m5 Z.qs.length k5))) := put_kp _ _ _ _ _ _ _ _ _ _ _
    have XZ : Hid (Wx (((((((((w8.setCell ⟨w.heap.size, 0, none⟩ (.int .i64 Z.turn)).setCell ⟨w.heap.size, 1, none⟩ (.int .i64 Z.next)).setCell ⟨w.heap.size, 2, none⟩ (.int .i64 Z.wide)).setCell ⟨w.heap.size, 3, none⟩ (.int .i64 Z.high)).setCell ⟨w.heap.size, 4, none⟩ (Value.slice m1 Z.gs.length k1)).setCell ⟨w.heap.size, 5, none⟩ (Value.slice m2 Z.os.length k2)).setCell ⟨w.heap.size, 6, none⟩ (Value.slice m3 Z.gold.length k3)).setCell ⟨w.heap.size, 7, none⟩ (Value.slice m4 Z.us.length k4)).setCell ⟨w.heap.size, 8, none⟩ (Value.slice m5 Z.qs.length k5)) w.heap.size (.int .i64 Z.turn) (.int .i64 Z.next) (.int .i64 Z.wide) (.int .i64 Z.high) (Value.slice m1 Z.gs.length k1) (Value.slice m2 Z.os.length k2) (Value.slice m3 Z.gold.length k3) (Value.slice m4 Z.us.length k4) (Value.slice m5 Z.qs.length k5)) := T8.out.x.put (.int .i64 Z.turn) (.int .i64 Z.next) (.int .i64 Z.wide) (.int .i64 Z.high) (Value.slice m1 Z.gs.length k1) (Value.slice m2 Z.os.length k2) (Value.slice m3 Z.gold.length k3) (Value.slice m4 Z.us.length k4) (Value.slice m5 Z.qs.length k5)
    go_upto_region 17 with fail
    clear x0 x1 x2 x3 x4 x5 x6 x7 x8 z0 z1 z2 z3 z4 z5 z6 z7 z8 t0 t1 t2 t3 t4 t5 t6 t7 t8
    generalize (((((((((w8.setCell ⟨w.heap.size, 0, none⟩ (.int .i64 Z.turn)).setCell ⟨w.heap.size, 1, none⟩ (.int .i64 Z.next)).setCell ⟨w.heap.size, 2, none⟩ (.int .i64 Z.wide)).setCell ⟨w.heap.size, 3, none⟩ (.int .i64 Z.high)).setCell ⟨w.heap.size, 4, none⟩ (Value.slice m1 Z.gs.length k1)).setCell ⟨w.heap.size, 5, none⟩ (Value.slice m2 Z.os.length k2)).setCell ⟨w.heap.size, 6, none⟩ (Value.slice m3 Z.gold.length k3)).setCell ⟨w.heap.size, 7, none⟩ (Value.slice m4 Z.us.length k4)).setCell ⟨w.heap.size, 8, none⟩ (Value.slice m5 Z.qs.length k5)) = w9 at *
    have T9 : Hid (StS Z es w.heap.size (w.heap.size + 2) (bq + 1) w5 (Value.slice m1 Z.gs.length k1) (Value.slice m2 Z.os.length k2) (Value.slice m3 Z.gold.length k3) (Value.slice m4 Z.us.length k4) (Value.slice m5 Z.qs.length k5) ev w9) := T8.out.puts KZ.out XZ.out O8.out.1 O8.out.2.1 O8.out.2.2.1 O8.out.2.2.2.1 O8.out.2.2.2.2.1
    have E9 : Hid (Evl w9 ev2 fs) := Evo.l ((Fr.kp (S := fun k => k = w.heap.size) KZ.out rfl).own O8.out.2.2.2.2.2 (fun k hk => by have := (O8.out.2.2.2.2.2.block k hk).1; omega) : Evo w9 (w.heap.size + 2) ev2 fs)
    have S9 : Hid (bq + 1 ≤ w9.heap.size) := by have h1 := T9.out.f.size; have h2 := SZ.out; unfold Hid; omega
    go_wp2_with (at_builtin; refine app_evs _ rfl _ _ rfl (bq + 1) _ es rfl T9.out.e _ fs rfl E9.out LN.out S9.out ?_)
    intro ev' wE hE hG
    have TE : Hid (StS Z (es ++ fs) w.heap.size (w.heap.size + 2) (bq + 1) w5 (Value.slice m1 Z.gs.length k1) (Value.slice m2 Z.os.length k2) (Value.slice m3 Z.gold.length k3) (Value.slice m4 Z.us.length k4) (Value.slice m5 Z.qs.length k5) ev' wE) := T9.out.told hG hE
    clear hE hG
    go_wp2
    go_round
    case rel => exact ⟨2, by omega, by go_num, Z, es ++ fs, PN.out, _, _, _, _, _, _, rfl, TE.out⟩
    case measure => simp [intOf]
  · have cf : wr.cell? ⟨bq, 2, none⟩ = some (.func (Fn.func 20) #[] #[]) := CQ.out 2 _ (by decide) CF0.out.2.2.1
    obtain ⟨x0, x1, x2, x3, x4, x5, x6, x7, x8⟩ := TQ.out.x.cells
    go_wp2_with fail
    clear cf x0 x1 x2 x3 x4 x5 x6 x7 x8
    refine (Dig_any _ _ ks Y wr (K.out.1.below BW.out) K.out.2 TQ.out.wl (SD.out.1.below BW.out)).mono ?_
    rintro e w7 ⟨v, ev2, r, rfl, hr, hd, hb⟩
    rw [KP.out.1.zero] at hr
    obtain rfl : r = .nilIface := by
      rcases hr with ⟨-, e⟩ | ⟨h, -⟩
      · exact e
      · exact absurd rfl h
    have NX : Hid (∃ Z fs, Ph ks Wn Hn A 3 Z (es ++ fs) ∧ Wo w7 wr.heap.size v Z ∧ Evo w7 wr.heap.size ev2 fs) := by
      rcases hd with ⟨h, -⟩ | ⟨-, W', H', e1, e2, -, h1, h2⟩
      · exact absurd KP.out.1.zero h
      · have k1 := KP.out.2.1
        have k2 := KP.out.2.2.1
        obtain rfl : W' = Wn := by omega
        obtain rfl : H' = Hn := by omega
        exact ⟨_, _, .three PH.out, h1, h2⟩
    have T7 : Hid (StS Y es w.heap.size (w.heap.size + 2) (bq + 1) w5 (Value.slice g1 Y.gs.length l1) (Value.slice g2 Y.os.length l2) (Value.slice g3 Y.gold.length l3) (Value.slice g4 Y.us.length l4) (Value.slice g5 Y.qs.length l5) ev w7) := TQ.out.below hb
    have S7 : Hid (wr.heap.size ≤ w7.heap.size) := hb.size
    clear hb hd hr
    obtain ⟨Z, fs, hph, ho, hev⟩ := NX.out
    have PN : Hid (Ph ks Wn Hn A 3 Z (es ++ fs)) := hph
    have LN : Hid (es.length + fs.length ≤ 1000000) := by have h9 := (hph.keep AR.out WH.out.2.2.1 WH.out.2.2.2.1).2.2.2.2; rw [List.length_append] at h9; unfold Hid; omega
    obtain ⟨v1, v2, v3, v4, v5, rfl, o1, o2, o3, o4, o5⟩ := ho
    obtain ⟨m1, k1, rfl⟩ := o1.len
    obtain ⟨m2, k2, rfl⟩ := o2.len
    obtain ⟨m3, k3, rfl⟩ := o3.len
    obtain ⟨m4, k4, rfl⟩ := o4.len
    obtain ⟨m5, k5, rfl⟩ := o5.len
    have sb : w.heap.size + 2 ≤ wr.heap.size := by have := SW.out; have := NQ.out; omega
    have OZ : Hid (Ow w7 (w.heap.size + 2) (Value.slice m1 Z.gs.length k1) Z.gs ∧ Ow w7 (w.heap.size + 2) (Value.slice m2 Z.os.length k2) Z.os ∧ Ow w7 (w.heap.size + 2) (Value.slice m3 Z.gold.length k3) Z.gold ∧ Uno w7 (w.heap.size + 2) (Value.slice m4 Z.us.length k4) Z.us ∧ Jbo w7 (w.heap.size + 2) (Value.slice m5 Z.qs.length k5) Z.qs ∧ Evo w7 (w.heap.size + 2) ev2 fs) := ⟨o1.mono sb, o2.mono sb, o3.mono sb, o4.mono sb, o5.mono sb, hev.mono sb⟩
    clear o1 o2 o3 o4 o5 hev hph NX sb
    obtain ⟨bn, hbn⟩ : ∃ b, w7.heap.size = b := ⟨_, rfl⟩
    have BN : Hid (Below w7.heap.size w7 (w7.alloc (Obj.cells #[.int .i64 Z.turn, .int .i64 Z.next, .int .i64 Z.wide, .int .i64 Z.high, Value.slice m1 Z.gs.length k1, Value.slice m2 Z.os.length k2, Value.slice m3 Z.gold.length k3, Value.slice m4 Z.us.length k4, Value.slice m5 Z.qs.length k5] 29))) := (Below.refl _ _).alloc (Nat.le_refl _) _
    have XN : Hid (Wx (w7.alloc (Obj.cells #[.int .i64 Z.turn, .int .i64 Z.next, .int .i64 Z.wide, .int .i64 Z.high, Value.slice m1 Z.gs.length k1, Value.slice m2 Z.os.length k2, Value.slice m3 Z.gold.length k3, Value.slice m4 Z.us.length k4, Value.slice m5 Z.qs.length k5] 29)) bn (.int .i64 Z.turn) (.int .i64 Z.next) (.int .i64 Z.wide) (.int .i64 Z.high) (Value.slice m1 Z.gs.length k1) (Value.slice m2 Z.os.length k2) (Value.slice m3 Z.gold.length k3) (Value.slice m4 Z.us.length k4) (Value.slice m5 Z.qs.length k5)) := Wx.new (w := w7) (.int .i64 Z.turn) (.int .i64 Z.next) (.int .i64 Z.wide) (.int .i64 Z.high) (Value.slice m1 Z.gs.length k1) (Value.slice m2 Z.os.length k2) (Value.slice m3 Z.gold.length k3) (Value.slice m4 Z.us.length k4) (Value.slice m5 Z.qs.length k5) hbn
    have NB : Hid (bq + 1 ≤ bn) := by rw [← hbn]; exact Nat.le_trans SW.out S7.out
    go_upto_region 16 with fail
    (try rw [hbn])
    clear hbn
    generalize w7.alloc (Obj.cells #[.int .i64 Z.turn, .int .i64 Z.next, .int .i64 Z.wide, .int .i64 Z.high, Value.slice m1 Z.gs.length k1, Value.slice m2 Z.os.length k2, Value.slice m3 Z.gold.length k3, Value.slice m4 Z.us.length k4, Value.slice m5 Z.qs.length k5] 29) = w8 at *
    have T8 : Hid (StS Y es w.heap.size (w.heap.size + 2) (bq + 1) w5 (Value.slice g1 Y.gs.length l1) (Value.slice g2 Y.os.length l2) (Value.slice g3 Y.gold.length l3) (Value.slice g4 Y.us.length l4) (Value.slice g5 Y.qs.length l5) ev w8) := T7.out.below BN.out
    have O8 : Hid (Ow w8 (w.heap.size + 2) (Value.slice m1 Z.gs.length k1) Z.gs ∧ Ow w8 (w.heap.size + 2) (Value.slice m2 Z.os.length k2) Z.os ∧ Ow w8 (w.heap.size + 2) (Value.slice m3 Z.gold.length k3) Z.gold ∧ Uno w8 (w.heap.size + 2) (Value.slice m4 Z.us.length k4) Z.us ∧ Jbo w8 (w.heap.size + 2) (Value.slice m5 Z.qs.length k5) Z.qs ∧ Evo w8 (w.heap.size + 2) ev2 fs) := ⟨OZ.out.1.below BN.out, OZ.out.2.1.below BN.out, OZ.out.2.2.1.below BN.out, OZ.out.2.2.2.1.below BN.out, OZ.out.2.2.2.2.1.below BN.out, OZ.out.2.2.2.2.2.below BN.out⟩
    obtain ⟨x0, x1, x2, x3, x4, x5, x6, x7, x8⟩ := XN.out.cells
    obtain ⟨z0, z1, z2, z3, z4, z5, z6, z7, z8⟩ := T8.out.x.cells
    obtain ⟨t0, t1, t2, t3, t4, t5, t6, t7, t8⟩ := T8.out.x.thaws
    have KZ : Hid (Kp w.heap.size w8 (((((((((w8.setCell ⟨w.heap.size, 0, none⟩ (.int .i64 Z.turn)).setCell ⟨w.heap.size, 1, none⟩ (.int .i64 Z.next)).setCell ⟨w.heap.size, 2, none⟩ (.int .i64 Z.wide)).setCell ⟨w.heap.size, 3, none⟩ (.int .i64 Z.high)).setCell ⟨w.heap.size, 4, none⟩ (Value.slice m1 Z.gs.length k1)).setCell ⟨w.heap.size, 5, none⟩ (Value.slice m2 Z.os.length k2)).setCell ⟨w.heap.size, 6, none⟩ (Value.slice m3 Z.gold.length k3)).setCell ⟨w.heap.size, 7, none⟩ (Value.slice m4 Z.us.length k4)).setCell ⟨w.heap.size, 8, none⟩ (Value.slice m5 Z.qs.length k5))) := put_kp _ _ _ _ _ _ _ _ _ _ _
    have XZ : Hid (Wx (((((((((w8.setCell ⟨w.heap.size, 0, none⟩ (.int .i64 Z.turn)).setCell ⟨w.heap.size, 1, none⟩ (.int .i64 Z.next)).setCell ⟨w.heap.size, 2, none⟩ (.int .i64 Z.wide)).setCell ⟨w.heap.size, 3, none⟩ (.int .i64 Z.high)).setCell ⟨w.heap.size, 4, none⟩ (Value.slice m1 Z.gs.length k1)).setCell ⟨w.heap.size, 5, none⟩ (Value.slice m2 Z.os.length k2)).setCell ⟨w.heap.size, 6, none⟩ (Value.slice m3 Z.gold.length k3)).setCell ⟨w.heap.size, 7, none⟩ (Value.slice m4 Z.us.length k4)).setCell ⟨w.heap.size, 8, none⟩ (Value.slice m5 Z.qs.length k5)) w.heap.size (.int .i64 Z.turn) (.int .i64 Z.next) (.int .i64 Z.wide) (.int .i64 Z.high) (Value.slice m1 Z.gs.length k1) (Value.slice m2 Z.os.length k2) (Value.slice m3 Z.gold.length k3) (Value.slice m4 Z.us.length k4) (Value.slice m5 Z.qs.length k5)) := T8.out.x.put (.int .i64 Z.turn) (.int .i64 Z.next) (.int .i64 Z.wide) (.int .i64 Z.high) (Value.slice m1 Z.gs.length k1) (Value.slice m2 Z.os.length k2) (Value.slice m3 Z.gold.length k3) (Value.slice m4 Z.us.length k4) (Value.slice m5 Z.qs.length k5)
    go_upto_region 17 with fail
    clear x0 x1 x2 x3 x4 x5 x6 x7 x8 z0 z1 z2 z3 z4 z5 z6 z7 z8 t0 t1 t2 t3 t4 t5 t6 t7 t8
    generalize (((((((((w8.setCell ⟨w.heap.size, 0, none⟩ (.int .i64 Z.turn)).setCell ⟨w.heap.size, 1, none⟩ (.int .i64 Z.next)).setCell ⟨w.heap.size, 2, none⟩ (.int .i64 Z.wide)).setCell ⟨w.heap.size, 3, none⟩ (.int .i64 Z.high)).setCell ⟨w.heap.size, 4, none⟩ (Value.slice m1 Z.gs.length k1)).setCell ⟨w.heap.size, 5, none⟩ (Value.slice m2 Z.os.length k2)).setCell ⟨w.heap.size, 6, none⟩ (Value.slice m3 Z.gold.length k3)).setCell ⟨w.heap.size, 7, none⟩ (Value.slice m4 Z.us.length k4)).setCell ⟨w.heap.size, 8, none⟩ (Value.slice m5 Z.qs.length k5)) = w9 at *
    have T9 : Hid (StS Z es w.heap.size (w.heap.size + 2) (bq + 1) w5 (Value.slice m1 Z.gs.length k1) (Value.slice m2 Z.os.length k2) (Value.slice m3 Z.gold.length k3) (Value.slice m4 Z.us.length k4) (Value.slice m5 Z.qs.length k5) ev w9) := T8.out.puts KZ.out XZ.out O8.out.1 O8.out.2.1 O8.out.2.2.1 O8.out.2.2.2.1 O8.out.2.2.2.2.1
    have E9 : Hid (Evl w9 ev2 fs) := Evo.l ((Fr.kp (S := fun k => k = w.heap.size) KZ.out rfl).own O8.out.2.2.2.2.2 (fun k hk => by have := (O8.out.2.2.2.2.2.block k hk).1; omega) : Evo w9 (w.heap.size + 2) ev2 fs)
    have S9 : Hid (bq + 1 ≤ w9.heap.size) := by have h1 := T9.out.f.size; have h2 := SZ.out; unfold Hid; omega
    go_wp2_with (at_builtin; refine app_evs _ rfl _ _ rfl (bq + 1) _ es rfl T9.out.e _ fs rfl E9.out LN.out S9.out ?_)
    intro ev' wE hE hG
    have TE : Hid (StS Z (es ++ fs) w.heap.size (w.heap.size + 2) (bq + 1) w5 (Value.slice m1 Z.gs.length k1) (Value.slice m2 Z.os.length k2) (Value.slice m3 Z.gold.length k3) (Value.slice m4 Z.us.length k4) (Value.slice m5 Z.qs.length k5) ev' wE) := T9.out.told hG hE
    clear hE hG
    go_wp2
    go_round
    case rel => exact ⟨3, by omega, by go_num, Z, es ++ fs, PN.out, _, _, _, _, _, _, rfl, TE.out⟩
    case measure => simp [intOf]
  · have cf : wr.cell? ⟨bq, 3, none⟩ = some (.func (Fn.func 49) #[] #[]) := CQ.out 3 _ (by decide) CF0.out.2.2.2
    obtain ⟨x0, x1, x2, x3, x4, x5, x6, x7, x8⟩ := TQ.out.x.cells
    go_wp2_with fail
    clear cf x0 x1 x2 x3 x4 x5 x6 x7 x8
    refine (Fight_any _ _ ks Y wr (K.out.1.below BW.out) K.out.2 TQ.out.wl).mono ?_
    rintro e w7 ⟨v, ev2, r, rfl, hr, hd, hb⟩
    rw [KP.out.1.zero] at hr
    obtain rfl : r = .nilIface := by
      rcases hr with ⟨-, e⟩ | ⟨h, -⟩
      · exact e
      · exact absurd rfl h
    have NX : Hid (∃ Z fs, Ph ks Wn Hn A 4 Z (es ++ fs) ∧ Wo w7 wr.heap.size v Z ∧ Evo w7 wr.heap.size ev2 fs) := by
      rcases hd with ⟨h, -⟩ | ⟨-, W', e1, -, -, h1, h2⟩
      · exact absurd KP.out.1.zero h
      · have k1 := KP.out.2.1
        obtain rfl : W' = Wn := by omega
        exact ⟨_, _, .four PH.out, h1, h2⟩
    have T7 : Hid (StS Y es w.heap.size (w.heap.size + 2) (bq + 1) w5 (Value.slice g1 Y.gs.length l1) (Value.slice g2 Y.os.length l2) (Value.slice g3 Y.gold.length l3) (Value.slice g4 Y.us.length l4) (Value.slice g5 Y.qs.length l5) ev w7) := TQ.out.below hb
    have S7 : Hid (wr.heap.size ≤ w7.heap.size) := hb.size
    clear hb hd hr
    obtain ⟨Z, fs, hph, ho, hev⟩ := NX.out
    have PN : Hid (Ph ks Wn Hn A 4 Z (es ++ fs)) := hph
    have LN : Hid (es.length + fs.length ≤ 1000000) := by have h9 := (hph.keep AR.out WH.out.2.2.1 WH.out.2.2.2.1).2.2.2.2; rw [List.length_append] at h9; unfold Hid; omega
    obtain ⟨v1, v2, v3, v4, v5, rfl, o1, o2, o3, o4, o5⟩ := ho
    obtain ⟨m1, k1, rfl⟩ := o1.len
    obtain ⟨m2, k2, rfl⟩ := o2.len
    obtain ⟨m3, k3, rfl⟩ := o3.len
    obtain ⟨m4, k4, rfl⟩ := o4.len
    obtain ⟨m5, k5, rfl⟩ := o5.len
    have sb : w.heap.size + 2 ≤ wr.heap.size := by have := SW.out; have := NQ.out; omega
    have OZ : Hid (Ow w7 (w.heap.size + 2) (Value.slice m1 Z.gs.length k1) Z.gs ∧ Ow w7 (w.heap.size + 2) (Value.slice m2 Z.os.length k2) Z.os ∧ Ow w7 (w.heap.size + 2) (Value.slice m3 Z.gold.length k3) Z.gold ∧ Uno w7 (w.heap.size + 2) (Value.slice m4 Z.us.length k4) Z.us ∧ Jbo w7 (w.heap.size + 2) (Value.slice m5 Z.qs.length k5) Z.qs ∧ Evo w7 (w.heap.size + 2) ev2 fs) := ⟨o1.mono sb, o2.mono sb, o3.mono sb, o4.mono sb, o5.mono sb, hev.mono sb⟩
    clear o1 o2 o3 o4 o5 hev hph NX sb
    obtain ⟨bn, hbn⟩ : ∃ b, w7.heap.size = b := ⟨_, rfl⟩
    have BN : Hid (Below w7.heap.size w7 (w7.alloc (Obj.cells #[.int .i64 Z.turn, .int .i64 Z.next, .int .i64 Z.wide, .int .i64 Z.high, Value.slice m1 Z.gs.length k1, Value.slice m2 Z.os.length k2, Value.slice m3 Z.gold.length k3, Value.slice m4 Z.us.length k4, Value.slice m5 Z.qs.length k5] 29))) := (Below.refl _ _).alloc (Nat.le_refl _) _
    have XN : Hid (Wx (w7.alloc (Obj.cells #[.int .i64 Z.turn, .int .i64 Z.next, .int .i64 Z.wide, .int .i64 Z.high, Value.slice m1 Z.gs.length k1, Value.slice m2 Z.os.length k2, Value.slice m3 Z.gold.length k3, Value.slice m4 Z.us.length k4, Value.slice m5 Z.qs.length k5] 29)) bn (.int .i64 Z.turn) (.int .i64 Z.next) (.int .i64 Z.wide) (.int .i64 Z.high) (Value.slice m1 Z.gs.length k1) (Value.slice m2 Z.os.length k2) (Value.slice m3 Z.gold.length k3) (Value.slice m4 Z.us.length k4) (Value.slice m5 Z.qs.length k5)) := Wx.new (w := w7) (.int .i64 Z.turn) (.int .i64 Z.next) (.int .i64 Z.wide) (.int .i64 Z.high) (Value.slice m1 Z.gs.length k1) (Value.slice m2 Z.os.length k2) (Value.slice m3 Z.gold.length k3) (Value.slice m4 Z.us.length k4) (Value.slice m5 Z.qs.length k5) hbn
    have NB : Hid (bq + 1 ≤ bn) := by rw [← hbn]; exact Nat.le_trans SW.out S7.out
    go_upto_region 16 with fail
    (try rw [hbn])
    clear hbn
    generalize w7.alloc (Obj.cells #[.int .i64 Z.turn, .int .i64 Z.next, .int .i64 Z.wide, .int .i64 Z.high, Value.slice m1 Z.gs.length k1, Value.slice m2 Z.os.length k2, Value.slice m3 Z.gold.length k3, Value.slice m4 Z.us.length k4, Value.slice m5 Z.qs.length k5] 29) = w8 at *
    have T8 : Hid (StS Y es w.heap.size (w.heap.size + 2) (bq + 1) w5 (Value.slice g1 Y.gs.length l1) (Value.slice g2 Y.os.length l2) (Value.slice g3 Y.gold.length l3) (Value.slice g4 Y.us.length l4) (Value.slice g5 Y.qs.length l5) ev w8) := T7.out.below BN.out
    have O8 : Hid (Ow w8 (w.heap.size + 2) (Value.slice m1 Z.gs.length k1) Z.gs ∧ Ow w8 (w.heap.size + 2) (Value.slice m2 Z.os.length k2) Z.os ∧ Ow w8 (w.heap.size + 2) (Value.slice m3 Z.gold.length k3) Z.gold ∧ Uno w8 (w.heap.size + 2) (Value.slice m4 Z.us.length k4) Z.us ∧ Jbo w8 (w.heap.size + 2) (Value.slice m5 Z.qs.length k5) Z.qs ∧ Evo w8 (w.heap.size + 2) ev2 fs) := ⟨OZ.out.1.below BN.out, OZ.out.2.1.below BN.out, OZ.out.2.2.1.below BN.out, OZ.out.2.2.2.1.below BN.out, OZ.out.2.2.2.2.1.below BN.out, OZ.out.2.2.2.2.2.below BN.out⟩
    obtain ⟨x0, x1, x2, x3, x4, x5, x6, x7, x8⟩ := XN.out.cells
    obtain ⟨z0, z1, z2, z3, z4, z5, z6, z7, z8⟩ := T8.out.x.cells
    obtain ⟨t0, t1, t2, t3, t4, t5, t6, t7, t8⟩ := T8.out.x.thaws
    have KZ : Hid (Kp w.heap.size w8 (((((((((w8.setCell ⟨w.heap.size, 0, none⟩ (.int .i64 Z.turn)).setCell ⟨w.heap.size, 1, none⟩ (.int .i64 Z.next)).setCell ⟨w.heap.size, 2, none⟩ (.int .i64 Z.wide)).setCell ⟨w.heap.size, 3, none⟩ (.int .i64 Z.high)).setCell ⟨w.heap.size, 4, none⟩ (Value.slice m1 Z.gs.length k1)).setCell ⟨w.heap.size, 5, none⟩ (Value.slice m2 Z.os.length k2)).setCell ⟨w.heap.size, 6, none⟩ (Value.slice m3 Z.gold.length k3)).setCell ⟨w.heap.size, 7, none⟩ (Value.slice m4 Z.us.length k4)).setCell ⟨w.heap.size, 8, none⟩ (Value.slice m5 Z.qs.length k5))) := put_kp _ _ _ _ _ _ _ _ _ _ _
    have XZ : Hid (Wx (((((((((w8.setCell ⟨w.heap.size, 0, none⟩ (.int .i64 Z.turn)).setCell ⟨w.heap.size, 1, none⟩ (.int .i64 Z.next)).setCell ⟨w.heap.size, 2, none⟩ (.int .i64 Z.wide)).setCell ⟨w.heap.size, 3, none⟩ (.int .i64 Z.high)).setCell ⟨w.heap.size, 4, none⟩ (Value.slice m1 Z.gs.length k1)).setCell ⟨w.heap.size, 5, none⟩ (Value.slice m2 Z.os.length k2)).setCell ⟨w.heap.size, 6, none⟩ (Value.slice m3 Z.gold.length k3)).setCell ⟨w.heap.size, 7, none⟩ (Value.slice m4 Z.us.length k4)).setCell ⟨w.heap.size, 8, none⟩ (Value.slice m5 Z.qs.length k5)) w.heap.size (.int .i64 Z.turn) (.int .i64 Z.next) (.int .i64 Z.wide) (.int .i64 Z.high) (Value.slice m1 Z.gs.length k1) (Value.slice m2 Z.os.length k2) (Value.slice m3 Z.gold.length k3) (Value.slice m4 Z.us.length k4) (Value.slice m5 Z.qs.length k5)) := T8.out.x.put (.int .i64 Z.turn) (.int .i64 Z.next) (.int .i64 Z.wide) (.int .i64 Z.high) (Value.slice m1 Z.gs.length k1) (Value.slice m2 Z.os.length k2) (Value.slice m3 Z.gold.length k3) (Value.slice m4 Z.us.length k4) (Value.slice m5 Z.qs.length k5)
    go_upto_region 17 with fail
    clear x0 x1 x2 x3 x4 x5 x6 x7 x8 z0 z1 z2 z3 z4 z5 z6 z7 z8 t0 t1 t2 t3 t4 t5 t6 t7 t8
    generalize (((((((((w8.setCell ⟨w.heap.size, 0, none⟩ (.int .i64 Z.turn)).setCell ⟨w.heap.size, 1, none⟩ (.int .i64 Z.next)).setCell ⟨w.heap.size, 2, none⟩ (.int .i64 Z.wide)).setCell ⟨w.heap.size, 3, none⟩ (.int .i64 Z.high)).setCell ⟨w.heap.size, 4, none⟩ (Value.slice m1 Z.gs.length k1)).setCell ⟨w.heap.size, 5, none⟩ (Value.slice m2 Z.os.length k2)).setCell ⟨w.heap.size, 6, none⟩ (Value.slice m3 Z.gold.length k3)).setCell ⟨w.heap.size, 7, none⟩ (Value.slice m4 Z.us.length k4)).setCell ⟨w.heap.size, 8, none⟩ (Value.slice m5 Z.qs.length k5)) = w9 at *
    have T9 : Hid (StS Z es w.heap.size (w.heap.size + 2) (bq + 1) w5 (Value.slice m1 Z.gs.length k1) (Value.slice m2 Z.os.length k2) (Value.slice m3 Z.gold.length k3) (Value.slice m4 Z.us.length k4) (Value.slice m5 Z.qs.length k5) ev w9) := T8.out.puts KZ.out XZ.out O8.out.1 O8.out.2.1 O8.out.2.2.1 O8.out.2.2.2.1 O8.out.2.2.2.2.1
    have E9 : Hid (Evl w9 ev2 fs) := Evo.l ((Fr.kp (S := fun k => k = w.heap.size) KZ.out rfl).own O8.out.2.2.2.2.2 (fun k hk => by have := (O8.out.2.2.2.2.2.block k hk).1; omega) : Evo w9 (w.heap.size + 2) ev2 fs)
    have S9 : Hid (bq + 1 ≤ w9.heap.size) := by have h1 := T9.out.f.size; have h2 := SZ.out; unfold Hid; omega
    go_wp2_with (at_builtin; refine app_evs _ rfl _ _ rfl (bq + 1) _ es rfl T9.out.e _ fs rfl E9.out LN.out S9.out ?_)
    intro ev' wE hE hG
    have TE : Hid (StS Z (es ++ fs) w.heap.size (w.heap.size + 2) (bq + 1) w5 (Value.slice m1 Z.gs.length k1) (Value.slice m2 Z.os.length k2) (Value.slice m3 Z.gold.length k3) (Value.slice m4 Z.us.length k4) (Value.slice m5 Z.qs.length k5) ev' wE) := T9.out.told hG hE
    clear hE hG
    go_wp2
    go_round
    case rel => exact ⟨4, by omega, by go_num, Z, es ++ fs, PN.out, _, _, _, _, _, _, rfl, TE.out⟩
    case measure => simp [intOf]
end Go.Proofs.YtoabhfipikkkeaaGreatDoor

namespace Go.Proofs.YtoabhfipikkkeaaGreatDoor
open Go.RowKit
set_option linter.unusedVariables false

/-- v is a list of lists of orders. -/
def Oll (w : World) (v : Value) (ls : List (List OrV)) : Prop := ∃ a c, v = .slice a ls.length c ∧ ls.length ≤ c ∧ c ≤ 9223372036854775807 ∧ (ls ≠ [] → ∃ x, a = some x ∧ x.block < w.heap.size ∧ ∀ (i : Nat) l, ls[i]? = some l → ∃ u, w.cell? (x.add i) = some u ∧ Orl w u l)
theorem Oll.below {w w' : World} {v : Value} {ls : List (List OrV)} (h : Oll w v ls) (hb : Below w.heap.size w w') : Oll w' v ls := by
  obtain ⟨a, c, h1, h2, h3, h4⟩ := h
  refine ⟨a, c, h1, h2, h3, fun hn => ?_⟩
  obtain ⟨x, e, hx, hy⟩ := h4 hn
  refine ⟨x, e, Nat.lt_of_lt_of_le hx hb.size, fun i l hl => ?_⟩
  obtain ⟨u, c1, c2⟩ := hy i l hl
  exact ⟨u, by rw [hb.cell (by rw [add_block]; exact hx)]; exact c1, c2.below hb⟩
end Go.Proofs.YtoabhfipikkkeaaGreatDoor

namespace Go.Proofs.YtoabhfipikkkeaaGreatDoor
open Go.RowKit Go.Proofs.YtoabhfipikkkeaaGreatDoor.So
set_option linter.unusedVariables false

/-- what n turns come to. -/
inductive PlayR (ks : List KV) (X : WV) (ls : List (List OrV)) : Nat → WV → Prop
  | zero : PlayR ks X ls 0 X
  | turn {n : Nat} {Y Z : WV} {l : List OrV} {es : List EvV} : PlayR ks X ls n Y → ls[n]? = some l → stepFault ks Y l = 0 → StepR ks Y l Z es → PlayR ks X ls (n + 1) Z
/-- what Play tells. -/
def PlaySays (ks : List KV) (X : WV) (ls : List (List OrV)) (F : Int) (w w' : World) (v : Value) : Prop :=
  (F ≠ 0 ∧ v = .agg #[.int .i64 0, .int .i64 0, .int .i64 0, .int .i64 0, .slice none 0 0, .slice none 0 0, .slice none 0 0, .slice none 0 0, .slice none 0 0] ∧ ((Wd.wfault ks X ≠ 0 ∧ F = Wd.wfault ks X) ∨ (Wd.wfault ks X = 0 ∧ 200 < ls.length ∧ F = 4) ∨ (Wd.wfault ks X = 0 ∧ ls.length ≤ 200 ∧ ∃ n Y l, PlayR ks X ls n Y ∧ ls[n]? = some l ∧ stepFault ks Y l = F)))
  ∨ (F = 0 ∧ Wd.wfault ks X = 0 ∧ ls.length ≤ 200 ∧ ∃ Y, PlayR ks X ls ls.length Y ∧ Wo w' w.heap.size v Y)
set_option maxRecDepth 100000 in
set_option maxHeartbeats 64000000 in
theorem Play_any (vk vw vl : Value) (ks : List KV) (X : WV) (ls : List (List OrV)) (w : World) (hk : Kl w vk ks) (hb : ∀ k ∈ ks, k.b.size ≤ 9223372036854775807) (hw : Wl w vw X) (hl : Oll w vl ls) (hs : Sd w) :
    Calls Tryz.prog 33 #[vk, vw, vl] w fun e w' => ∃ v r F, e = .returned (.tuple #[v, r]) ∧ Er r F ∧ PlaySays ks X ls F w w' v ∧ Below w.heap.size w w' := by
  have K : Hid (Kl w vk ks ∧ ∀ k ∈ ks, k.b.size ≤ 9223372036854775807) := ⟨hk, hb⟩
  have H : Hid (Wl w vw X) := hw
  have SD : Hid (Sd w ∧ Oll w vl ls) := ⟨hs, hl⟩
  obtain ⟨pl, ql, rfl, cl1, cl2, -⟩ := hl
  clear hs
  obtain ⟨p1, q1, p2, q2, p3, q3, p4, q4, p5, q5, rfl⟩ := wl_shape9 hw
  obtain ⟨pk, qk, rfl, ck1, ck2, kc⟩ := hk
  clear hb hw kc
  go_enter Tryz.func33, Tryz.ntmps33
  go_upto_region 1 with fail
  have B0 : Hid (Below w.heap.size w ((w.alloc (Obj.cells #[.int .i64 X.turn, .int .i64 X.next, .int .i64 X.wide, .int .i64 X.high, .slice p1 X.gs.length q1, .slice p2 X.os.length q2, .slice p3 X.gold.length q3, .slice p4 X.us.length q4, .slice p5 X.qs.length q5] 29)).alloc (Obj.cells #[.int .i64 0, .int .i64 0, .int .i64 0, .int .i64 0, .slice none 0 0, .slice none 0 0, .slice none 0 0, .slice none 0 0, .slice none 0 0] 29))) := ((Below.refl _ _).alloc (Nat.le_refl _) _).alloc (by simp) _
  have X0 : Hid (Wx ((w.alloc (Obj.cells #[.int .i64 X.turn, .int .i64 X.next, .int .i64 X.wide, .int .i64 X.high, .slice p1 X.gs.length q1, .slice p2 X.os.length q2, .slice p3 X.gold.length q3, .slice p4 X.us.length q4, .slice p5 X.qs.length q5] 29)).alloc (Obj.cells #[.int .i64 0, .int .i64 0, .int .i64 0, .int .i64 0, .slice none 0 0, .slice none 0 0, .slice none 0 0, .slice none 0 0, .slice none 0 0] 29)) (w.heap.size) (.int .i64 X.turn) (.int .i64 X.next) (.int .i64 X.wide) (.int .i64 X.high) (.slice p1 X.gs.length q1) (.slice p2 X.os.length q2) (.slice p3 X.gold.length q3) (.slice p4 X.us.length q4) (.slice p5 X.qs.length q5)) := (Wx.new (.int .i64 X.turn) (.int .i64 X.next) (.int .i64 X.wide) (.int .i64 X.high) (.slice p1 X.gs.length q1) (.slice p2 X.os.length q2) (.slice p3 X.gold.length q3) (.slice p4 X.us.length q4) (.slice p5 X.qs.length q5) rfl).below ((Below.refl _ _).alloc (Nat.le_refl _) _) (by simp)
  have Z0 : Hid (Wx ((w.alloc (Obj.cells #[.int .i64 X.turn, .int .i64 X.next, .int .i64 X.wide, .int .i64 X.high, .slice p1 X.gs.length q1, .slice p2 X.os.length q2, .slice p3 X.gold.length q3, .slice p4 X.us.length q4, .slice p5 X.qs.length q5] 29)).alloc (Obj.cells #[.int .i64 0, .int .i64 0, .int .i64 0, .int .i64 0, .slice none 0 0, .slice none 0 0, .slice none 0 0, .slice none 0 0, .slice none 0 0] 29)) (w.heap.size + 1) (.int .i64 0) (.int .i64 0) (.int .i64 0) (.int .i64 0) (.slice none 0 0) (.slice none 0 0) (.slice none 0 0) (.slice none 0 0) (.slice none 0 0)) := Wx.new (.int .i64 0) (.int .i64 0) (.int .i64 0) (.int .i64 0) (.slice none 0 0) (.slice none 0 0) (.slice none 0 0) (.slice none 0 0) (.slice none 0 0) (by simp)
  generalize ((w.alloc (Obj.cells #[.int .i64 X.turn, .int .i64 X.next, .int .i64 X.wide, .int .i64 X.high, .slice p1 X.gs.length q1, .slice p2 X.os.length q2, .slice p3 X.gold.length q3, .slice p4 X.us.length q4, .slice p5 X.qs.length q5] 29)).alloc (Obj.cells #[.int .i64 0, .int .i64 0, .int .i64 0, .int .i64 0, .slice none 0 0, .slice none 0 0, .slice none 0 0, .slice none 0 0, .slice none 0 0] 29)) = w0 at *
  obtain ⟨x0, x1, x2, x3, x4, x5, x6, x7, x8⟩ := X0.out.cells
  go_wp2_with fail
  refine (wcheck_any _ _ ks X w0 (K.out.1.below B0.out) K.out.2 (H.out.below B0.out)).mono ?_
  rintro e w1 ⟨r, rfl, hr, hb⟩
  obtain ⟨fw, hfw⟩ : ∃ f, Wd.wfault ks X = f := ⟨_, rfl⟩
  have FW : Hid (Wd.wfault ks X = fw) := hfw
  rw [hfw] at hr
  have B1 : Hid (Below w.heap.size w w1) := B0.out.trans (hb.mono B0.out.size)
  have X1 : Hid (Wx w1 (w.heap.size) (.int .i64 X.turn) (.int .i64 X.next) (.int .i64 X.wide) (.int .i64 X.high) (.slice p1 X.gs.length q1) (.slice p2 X.os.length q2) (.slice p3 X.gold.length q3) (.slice p4 X.us.length q4) (.slice p5 X.qs.length q5)) := X0.out.below hb X0.out.lt
  have Z1 : Hid (Wx w1 (w.heap.size + 1) (.int .i64 0) (.int .i64 0) (.int .i64 0) (.int .i64 0) (.slice none 0 0) (.slice none 0 0) (.slice none 0 0) (.slice none 0 0) (.slice none 0 0)) := Z0.out.below hb Z0.out.lt
  clear hb hfw x0 x1 x2 x3 x4 x5 x6 x7 x8 X0 B0 Z0
  rcases hr with ⟨rfl, rfl⟩ | ⟨hf, rfl⟩
  case inr =>
    have HF : Hid (fw ≠ 0) := hf
    clear hf
    obtain ⟨z0, z1, z2, z3, z4, z5, z6, z7, z8⟩ := Z1.out.cells
    obtain ⟨t0, t1, t2, t3, t4, t5, t6, t7, t8⟩ := Z1.out.thaws
    have KZ : Hid (Kp (w.heap.size + 1) w1 (((((((((w1.setCell ⟨w.heap.size + 1, 0, none⟩ (.int .i64 0)).setCell ⟨w.heap.size + 1, 1, none⟩ (.int .i64 0)).setCell ⟨w.heap.size + 1, 2, none⟩ (.int .i64 0)).setCell ⟨w.heap.size + 1, 3, none⟩ (.int .i64 0)).setCell ⟨w.heap.size + 1, 4, none⟩ (.slice none 0 0)).setCell ⟨w.heap.size + 1, 5, none⟩ (.slice none 0 0)).setCell ⟨w.heap.size + 1, 6, none⟩ (.slice none 0 0)).setCell ⟨w.heap.size + 1, 7, none⟩ (.slice none 0 0)).setCell ⟨w.heap.size + 1, 8, none⟩ (.slice none 0 0))) := put_kp _ _ _ _ _ _ _ _ _ _ _
    obtain ⟨y0, y1, y2, y3, y4, y5, y6, y7, y8⟩ := (Z1.out.put (.int .i64 0) (.int .i64 0) (.int .i64 0) (.int .i64 0) (.slice none 0 0) (.slice none 0 0) (.slice none 0 0) (.slice none 0 0) (.slice none 0 0)).cells
    go_wp2
    clear z0 z1 z2 z3 z4 z5 z6 z7 z8 t0 t1 t2 t3 t4 t5 t6 t7 t8
    generalize (((((((((w1.setCell ⟨w.heap.size + 1, 0, none⟩ (.int .i64 0)).setCell ⟨w.heap.size + 1, 1, none⟩ (.int .i64 0)).setCell ⟨w.heap.size + 1, 2, none⟩ (.int .i64 0)).setCell ⟨w.heap.size + 1, 3, none⟩ (.int .i64 0)).setCell ⟨w.heap.size + 1, 4, none⟩ (.slice none 0 0)).setCell ⟨w.heap.size + 1, 5, none⟩ (.slice none 0 0)).setCell ⟨w.heap.size + 1, 6, none⟩ (.slice none 0 0)).setCell ⟨w.heap.size + 1, 7, none⟩ (.slice none 0 0)).setCell ⟨w.heap.size + 1, 8, none⟩ (.slice none 0 0)) = w9 at *
    refine bodyPost_ret (v := .tuple #[.agg #[.int .i64 0, .int .i64 0, .int .i64 0, .int .i64 0, .slice none 0 0, .slice none 0 0, .slice none 0 0, .slice none 0 0, .slice none 0 0], .iface 99 (.int .i64 fw)]) (by simp [results, Tryz.results33, go_sem, y0, y1, y2, y3, y4, y5, y6, y7, y8]) rfl ⟨_, _, fw, rfl, Er.no HF.out, .inl ⟨HF.out, rfl, .inl ⟨by rw [FW.out]; exact HF.out, FW.out.symm⟩⟩, KZ.out.below B1.out B1.out.size (by omega)⟩
  have WR : Hid (WRight ks X) := wright_of FW.out
  obtain ⟨x0, x1, x2, x3, x4, x5, x6, x7, x8⟩ := X1.out.cells
  by_cases hln : 200 < ls.length
  case pos =>
    have hln' : (200 : Int) < (ls.length : Int) := by omega
    have HLN : Hid (200 < ls.length) := hln
    clear hln
    obtain ⟨z0, z1, z2, z3, z4, z5, z6, z7, z8⟩ := Z1.out.cells
    obtain ⟨t0, t1, t2, t3, t4, t5, t6, t7, t8⟩ := Z1.out.thaws
    have KZ : Hid (Kp (w.heap.size + 1) w1 (((((((((w1.setCell ⟨w.heap.size + 1, 0, none⟩ (.int .i64 0)).setCell ⟨w.heap.size + 1, 1, none⟩ (.int .i64 0)).setCell ⟨w.heap.size + 1, 2, none⟩ (.int .i64 0)).setCell ⟨w.heap.size + 1, 3, none⟩ (.int .i64 0)).setCell ⟨w.heap.size + 1, 4, none⟩ (.slice none 0 0)).setCell ⟨w.heap.size + 1, 5, none⟩ (.slice none 0 0)).setCell ⟨w.heap.size + 1, 6, none⟩ (.slice none 0 0)).setCell ⟨w.heap.size + 1, 7, none⟩ (.slice none 0 0)).setCell ⟨w.heap.size + 1, 8, none⟩ (.slice none 0 0))) := put_kp _ _ _ _ _ _ _ _ _ _ _
    obtain ⟨y0, y1, y2, y3, y4, y5, y6, y7, y8⟩ := (Z1.out.put (.int .i64 0) (.int .i64 0) (.int .i64 0) (.int .i64 0) (.slice none 0 0) (.slice none 0 0) (.slice none 0 0) (.slice none 0 0) (.slice none 0 0)).cells
    go_wp2
    clear z0 z1 z2 z3 z4 z5 z6 z7 z8 t0 t1 t2 t3 t4 t5 t6 t7 t8
    generalize (((((((((w1.setCell ⟨w.heap.size + 1, 0, none⟩ (.int .i64 0)).setCell ⟨w.heap.size + 1, 1, none⟩ (.int .i64 0)).setCell ⟨w.heap.size + 1, 2, none⟩ (.int .i64 0)).setCell ⟨w.heap.size + 1, 3, none⟩ (.int .i64 0)).setCell ⟨w.heap.size + 1, 4, none⟩ (.slice none 0 0)).setCell ⟨w.heap.size + 1, 5, none⟩ (.slice none 0 0)).setCell ⟨w.heap.size + 1, 6, none⟩ (.slice none 0 0)).setCell ⟨w.heap.size + 1, 7, none⟩ (.slice none 0 0)).setCell ⟨w.heap.size + 1, 8, none⟩ (.slice none 0 0)) = wz at *
    refine bodyPost_ret (v := .tuple #[.agg #[.int .i64 0, .int .i64 0, .int .i64 0, .int .i64 0, .slice none 0 0, .slice none 0 0, .slice none 0 0, .slice none 0 0, .slice none 0 0], .iface 99 (.int .i64 4)]) (by simp [results, Tryz.results33, go_sem, y0, y1, y2, y3, y4, y5, y6, y7, y8]) rfl ⟨_, _, 4, rfl, Er.no (by decide), .inl ⟨by decide, rfl, .inr (.inl ⟨FW.out, HLN.out, rfl⟩)⟩, KZ.out.below B1.out B1.out.size (by omega)⟩
  have HLN : Hid (ls.length ≤ 200) := by unfold Hid; omega
  have hln' : ¬ (200 : Int) < (ls.length : Int) := by omega
  clear hln
  go_wp2_with fail
  refine (copy_any _ X w1 (H.out.below B1.out) WR.out.len).mono ?_
  rintro e w2 ⟨cu, rfl, ⟨k1, k2, k3, k4, k5, rfl, ⟨o1, o2, o3, o4, o5⟩, -⟩, hb⟩
  obtain ⟨a1, r1, rfl⟩ := o1.len
  obtain ⟨a2, r2, rfl⟩ := o2.len
  obtain ⟨a3, r3, rfl⟩ := o3.len
  obtain ⟨a4, r4, rfl⟩ := o4.len
  obtain ⟨a5, r5, rfl⟩ := o5.len
  have B2 : Hid (Below w.heap.size w w2) := B1.out.trans (hb.mono B1.out.size)
  have X2 : Hid (Wx w2 w.heap.size (.int .i64 X.turn) (.int .i64 X.next) (.int .i64 X.wide) (.int .i64 X.high) (.slice p1 X.gs.length q1) (.slice p2 X.os.length q2) (.slice p3 X.gold.length q3) (.slice p4 X.us.length q4) (.slice p5 X.qs.length q5)) := X1.out.below hb X1.out.lt
  have Z2 : Hid (Wx w2 (w.heap.size + 1) (.int .i64 0) (.int .i64 0) (.int .i64 0) (.int .i64 0) (.slice none 0 0) (.slice none 0 0) (.slice none 0 0) (.slice none 0 0) (.slice none 0 0)) := Z1.out.below hb Z1.out.lt
  have S1 : Hid (w.heap.size + 2 ≤ w1.heap.size) := Z1.out.lt
  have OA : Hid (Ow w2 (w.heap.size + 2) (Value.slice a1 X.gs.length r1) X.gs ∧ Ow w2 (w.heap.size + 2) (Value.slice a2 X.os.length r2) X.os ∧ Ow w2 (w.heap.size + 2) (Value.slice a3 X.gold.length r3) X.gold ∧ Uno w2 (w.heap.size + 2) (Value.slice a4 X.us.length r4) X.us ∧ Jbo w2 (w.heap.size + 2) (Value.slice a5 X.qs.length r5) X.qs) := ⟨o1.mono S1.out, o2.mono S1.out, o3.mono S1.out, o4.mono S1.out, o5.mono S1.out⟩
  clear hb x0 x1 x2 x3 x4 x5 x6 x7 x8 X1 B1 Z1 o1 o2 o3 o4 o5
  obtain ⟨c0, c1, c2, c3, c4, c5, c6, c7, c8⟩ := X2.out.cells
  obtain ⟨d0, d1, d2, d3, d4, d5, d6, d7, d8⟩ := X2.out.thaws
  have KB : Hid (Kp w.heap.size w2 (((((((((w2.setCell ⟨w.heap.size, 0, none⟩ (.int .i64 X.turn)).setCell ⟨w.heap.size, 1, none⟩ (.int .i64 X.next)).setCell ⟨w.heap.size, 2, none⟩ (.int .i64 X.wide)).setCell ⟨w.heap.size, 3, none⟩ (.int .i64 X.high)).setCell ⟨w.heap.size, 4, none⟩ (Value.slice a1 X.gs.length r1)).setCell ⟨w.heap.size, 5, none⟩ (Value.slice a2 X.os.length r2)).setCell ⟨w.heap.size, 6, none⟩ (Value.slice a3 X.gold.length r3)).setCell ⟨w.heap.size, 7, none⟩ (Value.slice a4 X.us.length r4)).setCell ⟨w.heap.size, 8, none⟩ (Value.slice a5 X.qs.length r5))) := put_kp _ _ _ _ _ _ _ _ _ _ _
  have XB : Hid (Wx (((((((((w2.setCell ⟨w.heap.size, 0, none⟩ (.int .i64 X.turn)).setCell ⟨w.heap.size, 1, none⟩ (.int .i64 X.next)).setCell ⟨w.heap.size, 2, none⟩ (.int .i64 X.wide)).setCell ⟨w.heap.size, 3, none⟩ (.int .i64 X.high)).setCell ⟨w.heap.size, 4, none⟩ (Value.slice a1 X.gs.length r1)).setCell ⟨w.heap.size, 5, none⟩ (Value.slice a2 X.os.length r2)).setCell ⟨w.heap.size, 6, none⟩ (Value.slice a3 X.gold.length r3)).setCell ⟨w.heap.size, 7, none⟩ (Value.slice a4 X.us.length r4)).setCell ⟨w.heap.size, 8, none⟩ (Value.slice a5 X.qs.length r5)) w.heap.size (.int .i64 X.turn) (.int .i64 X.next) (.int .i64 X.wide) (.int .i64 X.high) (Value.slice a1 X.gs.length r1) (Value.slice a2 X.os.length r2) (Value.slice a3 X.gold.length r3) (Value.slice a4 X.us.length r4) (Value.slice a5 X.qs.length r5)) := X2.out.put (.int .i64 X.turn) (.int .i64 X.next) (.int .i64 X.wide) (.int .i64 X.high) (Value.slice a1 X.gs.length r1) (Value.slice a2 X.os.length r2) (Value.slice a3 X.gold.length r3) (Value.slice a4 X.us.length r4) (Value.slice a5 X.qs.length r5)
  go_upto_region 7 with fail
  clear c0 c1 c2 c3 c4 c5 c6 c7 c8 d0 d1 d2 d3 d4 d5 d6 d7 d8
  generalize (((((((((w2.setCell ⟨w.heap.size, 0, none⟩ (.int .i64 X.turn)).setCell ⟨w.heap.size, 1, none⟩ (.int .i64 X.next)).setCell ⟨w.heap.size, 2, none⟩ (.int .i64 X.wide)).setCell ⟨w.heap.size, 3, none⟩ (.int .i64 X.high)).setCell ⟨w.heap.size, 4, none⟩ (Value.slice a1 X.gs.length r1)).setCell ⟨w.heap.size, 5, none⟩ (Value.slice a2 X.os.length r2)).setCell ⟨w.heap.size, 6, none⟩ (Value.slice a3 X.gold.length r3)).setCell ⟨w.heap.size, 7, none⟩ (Value.slice a4 X.us.length r4)).setCell ⟨w.heap.size, 8, none⟩ (Value.slice a5 X.qs.length r5)) = w5 at *
  have B5 : Hid (Below w.heap.size w w5) := KB.out.below B2.out B2.out.size (Nat.le_refl _)
  have Z5 : Hid (Wx w5 (w.heap.size + 1) (.int .i64 0) (.int .i64 0) (.int .i64 0) (.int .i64 0) (.slice none 0 0) (.slice none 0 0) (.slice none 0 0) (.slice none 0 0) (.slice none 0 0)) := Z2.out.kp KB.out (by omega)
  obtain ⟨be, hbe⟩ : ∃ b, w5.heap.size = b := ⟨_, rfl⟩
  have SZ : Hid (w5.heap.size = be ∧ w.heap.size + 2 ≤ be) := ⟨hbe, by rw [← hbe]; exact Z5.out.lt⟩
  have T5 : Hid (StS X [] w.heap.size (w.heap.size + 2) be w5 (Value.slice a1 X.gs.length r1) (Value.slice a2 X.os.length r2) (Value.slice a3 X.gold.length r3) (Value.slice a4 X.us.length r4) (Value.slice a5 X.qs.length r5) (.slice none 0 0) w5) := ⟨XB.out, OA.out.1.kp KB.out (by omega), OA.out.2.1.kp KB.out (by omega), OA.out.2.2.1.kp KB.out (by omega), OA.out.2.2.2.1.kp KB.out (by omega), OA.out.2.2.2.2.kp KB.out (by omega), Evo.nil _ _, Fr.below (Below.refl _ _), ⟨by omega, SZ.out.2, hbe⟩⟩
  clear hbe KB X2 B2 Z2 OA XB
  go_wp2_with fail
  go_loopw [30] (fun j V => ∃ n : Nat, n ≤ ls.length ∧ j = .int .i64 (n : Nat) ∧ ∃ Y, PlayR ks X ls n Y ∧ ∃ u1 u2 u3 u4 u5, StS Y [] w.heap.size (w.heap.size + 2) be w5 u1 u2 u3 u4 u5 (.slice none 0 0) V) (fun j _ => ls.length - (intOf j).toNat)
  case atStart => exact ⟨0, Nat.zero_le _, rfl, X, .zero, _, _, _, _, _, T5.out⟩
  case round =>
  obtain ⟨n, hn, rfl, Y, hp, u1, u2, u3, u4, u5, hT⟩ := hrel
  have PR : Hid (PlayR ks X ls n Y) := hp
  have TQ : Hid (StS Y [] w.heap.size (w.heap.size + 2) be w5 u1 u2 u3 u4 u5 (.slice none 0 0) wr) := hT
  clear hp hT
  have ZW : Hid (Wx wr (w.heap.size + 1) (.int .i64 0) (.int .i64 0) (.int .i64 0) (.int .i64 0) (.slice none 0 0) (.slice none 0 0) (.slice none 0 0) (.slice none 0 0) (.slice none 0 0)) := TQ.out.f.wx Z5.out (by omega)
  have BW : Hid (Below w.heap.size w wr) := B5.out.trans (TQ.out.f.low B5.out.size (fun k hk => by omega))
  have SW : Hid (w.heap.size + 2 ≤ wr.heap.size) := ZW.out.lt
  obtain ⟨g1, l1, rfl⟩ := TQ.out.o1.len
  obtain ⟨g2, l2, rfl⟩ := TQ.out.o2.len
  obtain ⟨g3, l3, rfl⟩ := TQ.out.o3.len
  obtain ⟨g4, l4, rfl⟩ := TQ.out.o4.len
  obtain ⟨g5, l5, rfl⟩ := TQ.out.o5.len
  by_cases hne : n = ls.length
  case pos =>
    have PE : Hid (PlayR ks X ls ls.length Y) := by rw [← hne]; exact PR.out
    subst hne
    obtain ⟨x0, x1, x2, x3, x4, x5, x6, x7, x8⟩ := TQ.out.x.cells
    obtain ⟨z0, z1, z2, z3, z4, z5, z6, z7, z8⟩ := ZW.out.cells
    obtain ⟨t0, t1, t2, t3, t4, t5, t6, t7, t8⟩ := ZW.out.thaws
    have KZ : Hid (Kp (w.heap.size + 1) wr (((((((((wr.setCell ⟨w.heap.size + 1, 0, none⟩ (.int .i64 Y.turn)).setCell ⟨w.heap.size + 1, 1, none⟩ (.int .i64 Y.next)).setCell ⟨w.heap.size + 1, 2, none⟩ (.int .i64 Y.wide)).setCell ⟨w.heap.size + 1, 3, none⟩ (.int .i64 Y.high)).setCell ⟨w.heap.size + 1, 4, none⟩ (Value.slice g1 Y.gs.length l1)).setCell ⟨w.heap.size + 1, 5, none⟩ (Value.slice g2 Y.os.length l2)).setCell ⟨w.heap.size + 1, 6, none⟩ (Value.slice g3 Y.gold.length l3)).setCell ⟨w.heap.size + 1, 7, none⟩ (Value.slice g4 Y.us.length l4)).setCell ⟨w.heap.size + 1, 8, none⟩ (Value.slice g5 Y.qs.length l5))) := put_kp _ _ _ _ _ _ _ _ _ _ _
    obtain ⟨y0, y1, y2, y3, y4, y5, y6, y7, y8⟩ := (ZW.out.put (.int .i64 Y.turn) (.int .i64 Y.next) (.int .i64 Y.wide) (.int .i64 Y.high) (Value.slice g1 Y.gs.length l1) (Value.slice g2 Y.os.length l2) (Value.slice g3 Y.gold.length l3) (Value.slice g4 Y.us.length l4) (Value.slice g5 Y.qs.length l5)).cells
    go_wp2
    clear x0 x1 x2 x3 x4 x5 x6 x7 x8 z0 z1 z2 z3 z4 z5 z6 z7 z8 t0 t1 t2 t3 t4 t5 t6 t7 t8
    generalize (((((((((wr.setCell ⟨w.heap.size + 1, 0, none⟩ (.int .i64 Y.turn)).setCell ⟨w.heap.size + 1, 1, none⟩ (.int .i64 Y.next)).setCell ⟨w.heap.size + 1, 2, none⟩ (.int .i64 Y.wide)).setCell ⟨w.heap.size + 1, 3, none⟩ (.int .i64 Y.high)).setCell ⟨w.heap.size + 1, 4, none⟩ (Value.slice g1 Y.gs.length l1)).setCell ⟨w.heap.size + 1, 5, none⟩ (Value.slice g2 Y.os.length l2)).setCell ⟨w.heap.size + 1, 6, none⟩ (Value.slice g3 Y.gold.length l3)).setCell ⟨w.heap.size + 1, 7, none⟩ (Value.slice g4 Y.us.length l4)).setCell ⟨w.heap.size + 1, 8, none⟩ (Value.slice g5 Y.qs.length l5)) = wt at *
    refine bodyPost_ret (v := .tuple #[.agg #[.int .i64 Y.turn, .int .i64 Y.next, .int .i64 Y.wide, .int .i64 Y.high, Value.slice g1 Y.gs.length l1, Value.slice g2 Y.os.length l2, Value.slice g3 Y.gold.length l3, Value.slice g4 Y.us.length l4, Value.slice g5 Y.qs.length l5], .nilIface]) (by simp [results, Tryz.results33, go_sem, y0, y1, y2, y3, y4, y5, y6, y7, y8]) rfl ⟨_, _, 0, rfl, Er.nil, .inr ⟨rfl, FW.out, HLN.out, Y, PE.out, ?_⟩, KZ.out.below BW.out BW.out.size (by omega)⟩
    exact ⟨_, _, _, _, _, rfl, (TQ.out.o1.kp KZ.out (by omega)).mono (by omega), (TQ.out.o2.kp KZ.out (by omega)).mono (by omega), (TQ.out.o3.kp KZ.out (by omega)).mono (by omega), (TQ.out.o4.kp KZ.out (by omega)).mono (by omega), (TQ.out.o5.kp KZ.out (by omega)).mono (by omega)⟩
  case neg =>
  have hnl : n < ls.length := by omega
  have hnl' : (n : Int) < (ls.length : Int) := by omega
  have hl2 : ls.length ≤ 200 := HLN.out
  obtain ⟨l, hl⟩ : ∃ l, ls[n]? = some l := ⟨_, List.getElem?_eq_getElem hnl⟩
  have HL : Hid (ls[n]? = some l) := hl
  obtain ⟨a', c', e', -, -, hy⟩ := SD.out.2.below BW.out
  injection e' with e1 e2 e3
  subst e1 e3
  obtain ⟨xl, rfl, -, hy⟩ := hy (by rintro hn; rw [hn] at hnl; simp at hnl)
  obtain ⟨vo, cv, hvo⟩ := hy n l hl
  have VO : Hid (Orl wr vo l) := hvo
  clear hy hl e2 hvo
  obtain ⟨x0, x1, x2, x3, x4, x5, x6, x7, x8⟩ := TQ.out.x.cells
  go_wp2_with fail
  clear cv x0 x1 x2 x3 x4 x5 x6 x7 x8
  refine (Step_any _ _ vo ks Y l wr (K.out.1.below BW.out) K.out.2 TQ.out.wl VO.out (SD.out.1.below BW.out)).mono ?_
  rintro e w7 ⟨v, ev2, r, rfl, hr, hd, hb⟩
  have T7 : Hid (StS Y [] w.heap.size (w.heap.size + 2) be w5 (Value.slice g1 Y.gs.length l1) (Value.slice g2 Y.os.length l2) (Value.slice g3 Y.gold.length l3) (Value.slice g4 Y.us.length l4) (Value.slice g5 Y.qs.length l5) (.slice none 0 0) w7) := TQ.out.below hb
  have B7 : Hid (Below w.heap.size w w7) := BW.out.trans (hb.mono BW.out.size)
  have Z7 : Hid (Wx w7 (w.heap.size + 1) (.int .i64 0) (.int .i64 0) (.int .i64 0) (.int .i64 0) (.slice none 0 0) (.slice none 0 0) (.slice none 0 0) (.slice none 0 0) (.slice none 0 0)) := ZW.out.below hb ZW.out.lt
  clear hb
  obtain ⟨sf, hsf⟩ : ∃ f, stepFault ks Y l = f := ⟨_, rfl⟩
  have SF : Hid (stepFault ks Y l = sf) := hsf
  rw [hsf] at hr
  clear hsf
  rcases hr with ⟨rfl, rfl⟩ | ⟨hf, rfl⟩
  case inr =>
    have HF : Hid (sf ≠ 0) := hf
    rcases hd with ⟨-, rfl, rfl⟩ | ⟨h, -⟩
    case inr => rw [SF.out] at h; exact absurd h hf
    clear hf
    have BN : Hid (Below w7.heap.size w7 (w7.alloc (Obj.cells #[.int .i64 0, .int .i64 0, .int .i64 0, .int .i64 0, .slice none 0 0, .slice none 0 0, .slice none 0 0, .slice none 0 0, .slice none 0 0] 29))) := (Below.refl _ _).alloc (Nat.le_refl _) _
    go_upto_region 12 with fail
    generalize w7.alloc (Obj.cells #[.int .i64 0, .int .i64 0, .int .i64 0, .int .i64 0, .slice none 0 0, .slice none 0 0, .slice none 0 0, .slice none 0 0, .slice none 0 0] 29) = w8 at *
    have B8 : Hid (Below w.heap.size w w8) := B7.out.trans (BN.out.mono B7.out.size)
    have Z8 : Hid (Wx w8 (w.heap.size + 1) (.int .i64 0) (.int .i64 0) (.int .i64 0) (.int .i64 0) (.slice none 0 0) (.slice none 0 0) (.slice none 0 0) (.slice none 0 0) (.slice none 0 0)) := Z7.out.below BN.out Z7.out.lt
    obtain ⟨z0, z1, z2, z3, z4, z5, z6, z7, z8⟩ := Z8.out.cells
    obtain ⟨t0, t1, t2, t3, t4, t5, t6, t7, t8⟩ := Z8.out.thaws
    have KZ : Hid (Kp (w.heap.size + 1) w8 (((((((((w8.setCell ⟨w.heap.size + 1, 0, none⟩ (.int .i64 0)).setCell ⟨w.heap.size + 1, 1, none⟩ (.int .i64 0)).setCell ⟨w.heap.size + 1, 2, none⟩ (.int .i64 0)).setCell ⟨w.heap.size + 1, 3, none⟩ (.int .i64 0)).setCell ⟨w.heap.size + 1, 4, none⟩ (.slice none 0 0)).setCell ⟨w.heap.size + 1, 5, none⟩ (.slice none 0 0)).setCell ⟨w.heap.size + 1, 6, none⟩ (.slice none 0 0)).setCell ⟨w.heap.size + 1, 7, none⟩ (.slice none 0 0)).setCell ⟨w.heap.size + 1, 8, none⟩ (.slice none 0 0))) := put_kp _ _ _ _ _ _ _ _ _ _ _
    obtain ⟨y0, y1, y2, y3, y4, y5, y6, y7, y8⟩ := (Z8.out.put (.int .i64 0) (.int .i64 0) (.int .i64 0) (.int .i64 0) (.slice none 0 0) (.slice none 0 0) (.slice none 0 0) (.slice none 0 0) (.slice none 0 0)).cells
    go_wp2
    clear z0 z1 z2 z3 z4 z5 z6 z7 z8 t0 t1 t2 t3 t4 t5 t6 t7 t8
    generalize (((((((((w8.setCell ⟨w.heap.size + 1, 0, none⟩ (.int .i64 0)).setCell ⟨w.heap.size + 1, 1, none⟩ (.int .i64 0)).setCell ⟨w.heap.size + 1, 2, none⟩ (.int .i64 0)).setCell ⟨w.heap.size + 1, 3, none⟩ (.int .i64 0)).setCell ⟨w.heap.size + 1, 4, none⟩ (.slice none 0 0)).setCell ⟨w.heap.size + 1, 5, none⟩ (.slice none 0 0)).setCell ⟨w.heap.size + 1, 6, none⟩ (.slice none 0 0)).setCell ⟨w.heap.size + 1, 7, none⟩ (.slice none 0 0)).setCell ⟨w.heap.size + 1, 8, none⟩ (.slice none 0 0)) = wz at *
    refine bodyPost_ret (v := .tuple #[.agg #[.int .i64 0, .int .i64 0, .int .i64 0, .int .i64 0, .slice none 0 0, .slice none 0 0, .slice none 0 0, .slice none 0 0, .slice none 0 0], .iface 99 (.int .i64 sf)]) (by simp [results, Tryz.results33, go_sem, y0, y1, y2, y3, y4, y5, y6, y7, y8]) rfl ⟨_, _, sf, rfl, Er.no HF.out, .inl ⟨HF.out, rfl, .inr (.inr ⟨FW.out, HLN.out, n, Y, l, PR.out, HL.out, SF.out⟩)⟩, KZ.out.below B8.out B8.out.size (by omega)⟩
  rcases hd with ⟨h, -⟩ | ⟨-, Z, es, hsr, ho, -⟩
  case inl => exact absurd SF.out h
  have PN : Hid (PlayR ks X ls (n + 1) Z) := .turn PR.out HL.out SF.out hsr
  obtain ⟨v1, v2, v3, v4, v5, rfl, o1, o2, o3, o4, o5⟩ := ho
  obtain ⟨m1, k1, rfl⟩ := o1.len
  obtain ⟨m2, k2, rfl⟩ := o2.len
  obtain ⟨m3, k3, rfl⟩ := o3.len
  obtain ⟨m4, k4, rfl⟩ := o4.len
  obtain ⟨m5, k5, rfl⟩ := o5.len
  have OZ : Hid (Ow w7 (w.heap.size + 2) (Value.slice m1 Z.gs.length k1) Z.gs ∧ Ow w7 (w.heap.size + 2) (Value.slice m2 Z.os.length k2) Z.os ∧ Ow w7 (w.heap.size + 2) (Value.slice m3 Z.gold.length k3) Z.gold ∧ Uno w7 (w.heap.size + 2) (Value.slice m4 Z.us.length k4) Z.us ∧ Jbo w7 (w.heap.size + 2) (Value.slice m5 Z.qs.length k5) Z.qs) := ⟨o1.mono SW.out, o2.mono SW.out, o3.mono SW.out, o4.mono SW.out, o5.mono SW.out⟩
  clear o1 o2 o3 o4 o5 hsr
  obtain ⟨bn, hbn⟩ : ∃ b, w7.heap.size = b := ⟨_, rfl⟩
  have BN : Hid (Below w7.heap.size w7 (w7.alloc (Obj.cells #[.int .i64 Z.turn, .int .i64 Z.next, .int .i64 Z.wide, .int .i64 Z.high, Value.slice m1 Z.gs.length k1, Value.slice m2 Z.os.length k2, Value.slice m3 Z.gold.length k3, Value.slice m4 Z.us.length k4, Value.slice m5 Z.qs.length k5] 29))) := (Below.refl _ _).alloc (Nat.le_refl _) _
  have XN : Hid (Wx (w7.alloc (Obj.cells #[.int .i64 Z.turn, .int .i64 Z.next, .int .i64 Z.wide, .int .i64 Z.high, Value.slice m1 Z.gs.length k1, Value.slice m2 Z.os.length k2, Value.slice m3 Z.gold.length k3, Value.slice m4 Z.us.length k4, Value.slice m5 Z.qs.length k5] 29)) bn (.int .i64 Z.turn) (.int .i64 Z.next) (.int .i64 Z.wide) (.int .i64 Z.high) (Value.slice m1 Z.gs.length k1) (Value.slice m2 Z.os.length k2) (Value.slice m3 Z.gold.length k3) (Value.slice m4 Z.us.length k4) (Value.slice m5 Z.qs.length k5)) := Wx.new (w := w7) (.int .i64 Z.turn) (.int .i64 Z.next) (.int .i64 Z.wide) (.int .i64 Z.high) (Value.slice m1 Z.gs.length k1) (Value.slice m2 Z.os.length k2) (Value.slice m3 Z.gold.length k3) (Value.slice m4 Z.us.length k4) (Value.slice m5 Z.qs.length k5) hbn
  go_upto_region 13 with fail
  (try rw [hbn])
  clear hbn
  generalize w7.alloc (Obj.cells #[.int .i64 Z.turn, .int .i64 Z.next, .int .i64 Z.wide, .int .i64 Z.high, Value.slice m1 Z.gs.length k1, Value.slice m2 Z.os.length k2, Value.slice m3 Z.gold.length k3, Value.slice m4 Z.us.length k4, Value.slice m5 Z.qs.length k5] 29) = w8 at *
  have T8 : Hid (StS Y [] w.heap.size (w.heap.size + 2) be w5 (Value.slice g1 Y.gs.length l1) (Value.slice g2 Y.os.length l2) (Value.slice g3 Y.gold.length l3) (Value.slice g4 Y.us.length l4) (Value.slice g5 Y.qs.length l5) (.slice none 0 0) w8) := T7.out.below BN.out
  have O8 : Hid (Ow w8 (w.heap.size + 2) (Value.slice m1 Z.gs.length k1) Z.gs ∧ Ow w8 (w.heap.size + 2) (Value.slice m2 Z.os.length k2) Z.os ∧ Ow w8 (w.heap.size + 2) (Value.slice m3 Z.gold.length k3) Z.gold ∧ Uno w8 (w.heap.size + 2) (Value.slice m4 Z.us.length k4) Z.us ∧ Jbo w8 (w.heap.size + 2) (Value.slice m5 Z.qs.length k5) Z.qs) := ⟨OZ.out.1.below BN.out, OZ.out.2.1.below BN.out, OZ.out.2.2.1.below BN.out, OZ.out.2.2.2.1.below BN.out, OZ.out.2.2.2.2.below BN.out⟩
  obtain ⟨x0, x1, x2, x3, x4, x5, x6, x7, x8⟩ := XN.out.cells
  obtain ⟨z0, z1, z2, z3, z4, z5, z6, z7, z8⟩ := T8.out.x.cells
  obtain ⟨t0, t1, t2, t3, t4, t5, t6, t7, t8⟩ := T8.out.x.thaws
  have KZ : Hid (Kp w.heap.size w8 (((((((((w8.setCell ⟨w.heap.size, 0, none⟩ (.int .i64 Z.turn)).setCell ⟨w.heap.size, 1, none⟩ (.int .i64 Z.next)).setCell ⟨w.heap.size, 2, none⟩ (.int .i64 Z.wide)).setCell ⟨w.heap.size, 3, none⟩ (.int .i64 Z.high)).setCell ⟨w.heap.size, 4, none⟩ (Value.slice m1 Z.gs.length k1)).setCell ⟨w.heap.size, 5, none⟩ (Value.slice m2 Z.os.length k2)).setCell ⟨w.heap.size, 6, none⟩ (Value.slice m3 Z.gold.length k3)).setCell ⟨w.heap.size, 7, none⟩ (Value.slice m4 Z.us.length k4)).setCell ⟨w.heap.size, 8, none⟩ (Value.slice m5 Z.qs.length k5))) := put_kp _ _ _ _ _ _ _ _ _ _ _
  have XZ : Hid (Wx (((((((((w8.setCell ⟨w.heap.size, 0, none⟩ (.int .i64 Z.turn)).setCell ⟨w.heap.size, 1, none⟩ (.int .i64 Z.next)).setCell ⟨w.heap.size, 2, none⟩ (.int .i64 Z.wide)).setCell ⟨w.heap.size, 3, none⟩ (.int .i64 Z.high)).setCell ⟨w.heap.size, 4, none⟩ (Value.slice m1 Z.gs.length k1)).setCell ⟨w.heap.size, 5, none⟩ (Value.slice m2 Z.os.length k2)).setCell ⟨w.heap.size, 6, none⟩ (Value.slice m3 Z.gold.length k3)).setCell ⟨w.heap.size, 7, none⟩ (Value.slice m4 Z.us.length k4)).setCell ⟨w.heap.size, 8, none⟩ (Value.slice m5 Z.qs.length k5)) w.heap.size (.int .i64 Z.turn) (.int .i64 Z.next) (.int .i64 Z.wide) (.int .i64 Z.high) (Value.slice m1 Z.gs.length k1) (Value.slice m2 Z.os.length k2) (Value.slice m3 Z.gold.length k3) (Value.slice m4 Z.us.length k4) (Value.slice m5 Z.qs.length k5)) := T8.out.x.put (.int .i64 Z.turn) (.int .i64 Z.next) (.int .i64 Z.wide) (.int .i64 Z.high) (Value.slice m1 Z.gs.length k1) (Value.slice m2 Z.os.length k2) (Value.slice m3 Z.gold.length k3) (Value.slice m4 Z.us.length k4) (Value.slice m5 Z.qs.length k5)
  go_upto_region 14 with fail
  clear x0 x1 x2 x3 x4 x5 x6 x7 x8 z0 z1 z2 z3 z4 z5 z6 z7 z8 t0 t1 t2 t3 t4 t5 t6 t7 t8
  generalize (((((((((w8.setCell ⟨w.heap.size, 0, none⟩ (.int .i64 Z.turn)).setCell ⟨w.heap.size, 1, none⟩ (.int .i64 Z.next)).setCell ⟨w.heap.size, 2, none⟩ (.int .i64 Z.wide)).setCell ⟨w.heap.size, 3, none⟩ (.int .i64 Z.high)).setCell ⟨w.heap.size, 4, none⟩ (Value.slice m1 Z.gs.length k1)).setCell ⟨w.heap.size, 5, none⟩ (Value.slice m2 Z.os.length k2)).setCell ⟨w.heap.size, 6, none⟩ (Value.slice m3 Z.gold.length k3)).setCell ⟨w.heap.size, 7, none⟩ (Value.slice m4 Z.us.length k4)).setCell ⟨w.heap.size, 8, none⟩ (Value.slice m5 Z.qs.length k5)) = w9 at *
  have T9 : Hid (StS Z [] w.heap.size (w.heap.size + 2) be w5 (Value.slice m1 Z.gs.length k1) (Value.slice m2 Z.os.length k2) (Value.slice m3 Z.gold.length k3) (Value.slice m4 Z.us.length k4) (Value.slice m5 Z.qs.length k5) (.slice none 0 0) w9) := T8.out.puts KZ.out XZ.out O8.out.1 O8.out.2.1 O8.out.2.2.1 O8.out.2.2.2.1 O8.out.2.2.2.2
  go_wp2
  go_round
  case rel => exact ⟨n + 1, by omega, by go_num, Z, PN.out, _, _, _, _, _, T9.out⟩
  case measure => simp [intOf]; omega
end Go.Proofs.YtoabhfipikkkeaaGreatDoor

namespace Go.Proofs.YtoabhfipikkkeaaGreatDoor
open Wy
set_option linter.unusedVariables false

theorem near_uniq {l : List Int} {n : Nat} {p : Int → Bool} {c F c' F' : Int} (h : NearSays l n p c F) (h' : NearSays l n p c' F') : c = c' ∧ F = F' := by
  have no : ∀ {m k : Nat} {c : Int}, (rch l m n)[k]? = some c → p c = true → (rch l m n).any p = false → False := fun hk hp ha => by
    rw [List.any_eq_false] at ha
    exact ha _ (List.mem_of_getElem? hk) hp
  rcases h with ⟨e1, e2, h⟩ | ⟨e1, m, k, hm, hk, hp, ht, hj⟩
  · rcases h' with ⟨f1, f2, h'⟩ | ⟨f1, m', k', hm', hk', hp', ht', hj'⟩
    · exact ⟨by rw [e2, f2], by rw [e1, f1]⟩
    · exact (no hk' hp' (h m' hm')).elim
  · rcases h' with ⟨f1, f2, h'⟩ | ⟨f1, m', k', hm', hk', hp', ht', hj'⟩
    · exact (no hk hp (h' m hm)).elim
    · have em : m = m' := by
        rcases Nat.lt_trichotomy m m' with hl | hl | hl
        · exact (no hk hp (hj' m hl)).elim
        · exact hl
        · exact (no hk' hp' (hj m' hl)).elim
      subst em
      have ek : k = k' := by
        rcases Nat.lt_trichotomy k k' with hl | hl | hl
        · rw [List.any_eq_false] at ht'
          exact (ht' c (List.mem_of_getElem? (i := k) (by rw [List.getElem?_take, if_pos hl]; exact hk)) hp).elim
        · exact hl
        · rw [List.any_eq_false] at ht
          exact (ht c' (List.mem_of_getElem? (i := k') (by rw [List.getElem?_take, if_pos hl]; exact hk')) hp').elim
      subst ek
      rw [hk] at hk'
      injection hk' with e
      exact ⟨e, by rw [e1, f1]⟩
theorem fstu_nat {p : UnV → Bool} {us : List UnV} {i : Nat} (h : FstU p us (i : Nat)) : ∃ x, us[i]? = some x ∧ p x = true ∧ (us.take i).any p = false := by
  rcases h with ⟨e, -⟩ | ⟨k, x, e, h1, h2, h3⟩
  · omega
  · obtain rfl : i = k := by omega
    exact ⟨x, h1, h2, h3⟩
theorem fstu_uniq {p : UnV → Bool} {us : List UnV} {i j : Nat} (h : FstU p us (i : Nat)) (k : FstU p us (j : Nat)) : i = j := by
  obtain ⟨x, x1, x2, x3⟩ := fstu_nat h
  obtain ⟨y, y1, y2, y3⟩ := fstu_nat k
  rcases Nat.lt_trichotomy i j with hl | hl | hl
  · rw [List.any_eq_false] at y3
    exact (y3 x (List.mem_of_getElem? (i := i) (by rw [List.getElem?_take, if_pos hl]; exact x1)) x2).elim
  · exact hl
  · rw [List.any_eq_false] at x3
    exact (x3 y (List.mem_of_getElem? (i := j) (by rw [List.getElem?_take, if_pos hl]; exact y1)) y2).elim
theorem spot_uniq {ks : List KV} {X : WV} {unit kind c F c' F' : Int} (h : SpotSays ks X unit kind c F) (h' : SpotSays ks X unit kind c' F') : c = c' ∧ F = F' := by
  have last : ∀ {c F : Int}, (∃ (i kn Wn Hn an : Nat) (u : UnV) (k : KV) (l : List Int), FstU (fun u => u.id == unit) X.us (i : Nat) ∧ X.us[i]? = some u ∧ kind = (kn : Nat) ∧ ks[kn]? = some k ∧ X.wide = (Wn : Nat) ∧ X.high = (Hn : Nat) ∧ Fd.Good Wn Hn X.gs X.os ∧ u.at_ = (an : Nat) ∧ an < Wn * Hn
      ∧ Wy.IsFar (Fd.near Wn Hn) (fun i _ => (X.gs.map fun g => Fd.onto g k.f).getD i 0) an (Wn * Hn) l ∧ NearSays l (Wn * Hn) (freeAt X.us) c F) → X.us.any (fun u => u.id == unit) = true ∧ (0 ≤ kind ∧ kind < (ks.length : Int)) := by
    rintro c F ⟨i, kn, Wn, Hn, an, u, k, l, h1, h2, h3, h4, -⟩
    obtain ⟨x, x1, x2, -⟩ := fstu_nat h1
    refine ⟨List.any_eq_true.2 ⟨x, List.mem_of_getElem? x1, x2⟩, by omega, ?_⟩
    have := (List.getElem?_eq_some_iff.1 h4).1
    omega
  rcases h with ⟨a1, a2, a3⟩ | ⟨a1, a2, a3, a4⟩ | ⟨a1, a2, a3, a4, a5⟩ | ⟨a1, a⟩
  · rcases h' with ⟨b1, b2, b3⟩ | ⟨b1, -⟩ | ⟨b1, -⟩ | ⟨b1, -⟩
    · exact ⟨by rw [a3, b3], by rw [a2, b2]⟩
    all_goals exact absurd b1 a1
  · rcases h' with ⟨b1, b2, b3⟩ | ⟨b1, b2, b3, b4⟩ | ⟨b1, b2, b3, b4, b5⟩ | ⟨b1, b⟩
    · exact absurd a1 b1
    · exact ⟨by rw [a4, b4], by rw [a3, b3]⟩
    · rw [a2] at b2; cases b2
    · have := (last b).1; rw [a2] at this; cases this
  · rcases h' with ⟨b1, b2, b3⟩ | ⟨b1, b2, b3, b4⟩ | ⟨b1, b2, b3, b4, b5⟩ | ⟨b1, b⟩
    · exact absurd a1 b1
    · rw [a2] at b2; cases b2
    · exact ⟨by rw [a5, b5], by rw [a4, b4]⟩
    · exact absurd (last b).2 a3
  · rcases h' with ⟨b1, b2, b3⟩ | ⟨b1, b2, b3, b4⟩ | ⟨b1, b2, b3, b4, b5⟩ | ⟨b1, b⟩
    · exact absurd a1 b1
    · have := (last a).1; rw [b2] at this; cases this
    · exact absurd (last a).2 b3
    · obtain ⟨i, kn, Wn, Hn, an, u, k, l, h1, h2, h3, h4, h5, h6, -, h8, -, h10, h11⟩ := a
      obtain ⟨i', kn', Wn', Hn', an', u', k', l', g1, g2, g3, g4, g5, g6, -, g8, -, g10, g11⟩ := b
      obtain rfl := fstu_uniq h1 g1
      rw [h2] at g2
      injection g2 with e
      subst e
      obtain rfl : kn = kn' := by omega
      rw [h4] at g4
      injection g4 with e
      subst e
      obtain rfl : Wn = Wn' := by omega
      obtain rfl : Hn = Hn' := by omega
      obtain rfl : an = an' := by omega
      obtain rfl := Wy.IsFar.uniq h10 g10
      exact near_uniq h11 g11
theorem comes_one {ks : List KV} {Y : WV} {j : JbV} {c c' : Int} (h : Comes ks Y j c) (h' : Comes ks Y j c') : c = c' := (spot_uniq h.1 h'.1).1
theorem comes_not {ks : List KV} {Y : WV} {j : JbV} {c : Int} (h : Comes ks Y j c) (h' : NoCome ks Y j) : False := by
  obtain ⟨c', F, h1, h2⟩ := h'
  obtain ⟨rfl, rfl⟩ := spot_uniq h.1 h1
  rcases h2 with h2 | h2
  · exact h2 rfl
  · exact h2 h.2
theorem tr_uniq {ks : List KV} {X : WV} {q : Nat} {Y : WV} {es : List EvV} {qs : List JbV} (t : Tr ks X q Y es qs) : ∀ {Y' : WV} {es' : List EvV} {qs' : List JbV}, Tr ks X q Y' es' qs' → Y = Y' ∧ es = es' ∧ qs = qs' := by
  induction t with
  | zero => intro Y' es' qs' t'; cases t'; exact ⟨rfl, rfl, rfl⟩
  | @wait q Y es qs j t0 ho hl ih =>
    intro Y' es' qs' t'
    cases t' with
    | wait t1 ho1 hl1 =>
      rw [ho] at ho1; injection ho1 with e; subst e
      obtain ⟨rfl, rfl, rfl⟩ := ih t1
      exact ⟨rfl, rfl, rfl⟩
    | come t1 ho1 hl1 _ => rw [ho] at ho1; injection ho1 with e; subst e; exact absurd hl1 hl
    | stay t1 ho1 hl1 _ => rw [ho] at ho1; injection ho1 with e; subst e; exact absurd hl1 hl
  | @come q Y es qs j c t0 ho hl hc ih =>
    intro Y' es' qs' t'
    cases t' with
    | wait t1 ho1 hl1 => rw [ho] at ho1; injection ho1 with e; subst e; exact absurd hl hl1
    | come t1 ho1 hl1 hc1 =>
      rw [ho] at ho1; injection ho1 with e; subst e
      obtain ⟨rfl, rfl, rfl⟩ := ih t1
      obtain rfl := comes_one hc hc1
      exact ⟨rfl, rfl, rfl⟩
    | stay t1 ho1 hl1 hn =>
      rw [ho] at ho1; injection ho1 with e; subst e
      obtain ⟨rfl, rfl, rfl⟩ := ih t1
      exact (comes_not hc hn).elim
  | @stay q Y es qs j t0 ho hl hn ih =>
    intro Y' es' qs' t'
    cases t' with
    | wait t1 ho1 hl1 => rw [ho] at ho1; injection ho1 with e; subst e; exact absurd hl hl1
    | come t1 ho1 hl1 hc1 =>
      rw [ho] at ho1; injection ho1 with e; subst e
      obtain ⟨rfl, rfl, rfl⟩ := ih t1
      exact (comes_not hc1 hn).elim
    | stay t1 ho1 hl1 _ =>
      rw [ho] at ho1; injection ho1 with e; subst e
      obtain ⟨rfl, rfl, rfl⟩ := ih t1
      exact ⟨rfl, rfl, rfl⟩
end Go.Proofs.YtoabhfipikkkeaaGreatDoor

namespace Go.Proofs.YtoabhfipikkkeaaGreatDoor
open Go.RowKit Wy
set_option linter.unusedVariables false

theorem goes_cases {ks : List KV} {X : WV} {Wn Hn : Nat} {k : KV} {i : Nat} {us us' : List UnV} {left : Int} {cells : List Int} (h : Goes ks X Wn Hn k i us left cells us') : ∃ (u : UnV) (c : Nat) (gg : Int), us[i]? = some u ∧ WishSays ks { X with us := us } Wn Hn u k c ∧ X.gs[c]? = some gg ∧
    (((left < Fd.onto gg k.f ∨ us.any (fun o => o.at_ == (c : Int)) = true) ∧ cells = [] ∧ us' = us) ∨ (¬ left < Fd.onto gg k.f ∧ us.any (fun o => o.at_ == (c : Int)) = false ∧ ∃ cells', cells = (c : Int) :: cells' ∧ Goes ks X Wn Hn k i (us.set i { u with at_ := (c : Nat) }) (left - Fd.onto gg k.f) cells' us')) := by
  cases h with
  | stop hu hw hg h => exact ⟨_, _, _, hu, hw, hg, .inl ⟨h, rfl, rfl⟩⟩
  | step hu hw hg h1 h2 h3 => exact ⟨_, _, _, hu, hw, hg, .inr ⟨h1, h2, _, rfl, h3⟩⟩
theorem moves_cases {ks : List KV} {X : WV} {Wn Hn n : Nat} {us us' : List UnV} {evs : List EvV} (h : Moves ks X Wn Hn n us evs us') : (n = us.length ∧ evs = [] ∧ us' = us) ∨ ∃ (u u1 : UnV) (k : KV) (cells : List Int) (us1 : List UnV) (evs' : List EvV), us[n]? = some u ∧ ks[u.kind.toNat]? = some k ∧ Goes ks X Wn Hn k n us k.n4 cells us1 ∧ us1[n]? = some u1 ∧ Moves ks X Wn Hn (n + 1) (us1.set n (ends u1)) evs' us' ∧ evs = cells.map (fun c => (⟨1, u.id, c⟩ : EvV)) ++ evs' := by
  cases h with
  | done h => exact .inl ⟨h, rfl, rfl⟩
  | unit hu hk hg h1 hm => exact .inr ⟨_, _, _, _, _, _, hu, hk, hg, h1, hm, rfl⟩
end Go.Proofs.YtoabhfipikkkeaaGreatDoor

namespace Go.Proofs.YtoabhfipikkkeaaGreatDoor
open Go.RowKit Wy
set_option linter.unusedVariables false

theorem aim_uniq {ks : List KV} {X : WV} {Wn Hn : Nat} {u : UnV} {k : KV} {c c' : Int} (h : AimSays ks X Wn Hn u k c) (h' : AimSays ks X Wn Hn u k c') : c = c' := by
  rcases h with ⟨h1, h2⟩ | ⟨h1, h2, h3⟩ | ⟨h1, h2, l, h3, h4⟩
  · rcases h' with ⟨g1, g2⟩ | ⟨g1, -⟩ | ⟨g1, -⟩
    · rw [h2, g2]
    · exact absurd h1 g1
    · omega
  · rcases h' with ⟨g1, g2⟩ | ⟨g1, g2, g3⟩ | ⟨g1, g2, -⟩
    · exact absurd g1 h1
    · rw [h3, g3]
    · exact absurd ⟨g1, g2⟩ h2
  · rcases h' with ⟨g1, g2⟩ | ⟨g1, g2, g3⟩ | ⟨g1, g2, l', g3, g4⟩
    · omega
    · exact absurd ⟨h1, h2⟩ g2
    · have : l = l' := h3.1.uniq g3.1
      subst this
      rw [h4, g4]
theorem wish_uniq {ks : List KV} {X : WV} {Wn Hn : Nat} {u : UnV} {k : KV} {c c' : Nat} (h : WishSays ks X Wn Hn u k c) (h' : WishSays ks X Wn Hn u k c') : c = c' := by
  obtain ⟨an, bn, l, h1, h2, -, h3, h4⟩ := h
  obtain ⟨an', bn', l', g1, g2, -, g3, g4⟩ := h'
  obtain rfl : an = an' := by omega
  obtain rfl : bn = bn' := by have := aim_uniq h2 g2; omega
  have : l = l' := h3.1.uniq g3.1
  subst this
  rcases h4 with ⟨h4, h5⟩ | ⟨h4, h5⟩
  · rcases g4 with ⟨g4, g5⟩ | ⟨g4, -⟩
    · rw [h5, g5]
    · omega
  · rcases g4 with ⟨g4, -⟩ | ⟨-, g5⟩
    · omega
    · exact h5.uniq g5
theorem goes_uniq {ks : List KV} {X : WV} {Wn Hn : Nat} {k : KV} {i : Nat} {us us' : List UnV} {left : Int} {cells : List Int} (h : Goes ks X Wn Hn k i us left cells us') : ∀ {cells2 : List Int} {us2 : List UnV}, Goes ks X Wn Hn k i us left cells2 us2 → cells = cells2 ∧ us' = us2 := by
  induction h with
  | stop hu hw hg h =>
    intro cells2 us2 h'
    obtain ⟨u', c', gg', hu', hw', hg', hh⟩ := goes_cases h'
    rw [hu] at hu'
    injection hu' with hu'
    subst hu'
    obtain rfl := wish_uniq hw hw'
    rw [hg] at hg'
    injection hg' with hg'
    subst hg'
    rcases hh with ⟨-, h1, h2⟩ | ⟨h1, h2, -⟩
    · exact ⟨h1.symm, h2.symm⟩
    · rcases h with h | h
      · exact absurd h h1
      · rw [h] at h2; cases h2
  | step hu hw hg h1 h2 h3 ih =>
    intro cells2 us2 h'
    obtain ⟨u', c', gg', hu', hw', hg', hh⟩ := goes_cases h'
    rw [hu] at hu'
    injection hu' with hu'
    subst hu'
    obtain rfl := wish_uniq hw hw'
    rw [hg] at hg'
    injection hg' with hg'
    subst hg'
    rcases hh with ⟨g1, -⟩ | ⟨-, -, cells', g1, g2⟩
    · rcases g1 with g1 | g1
      · exact absurd g1 h1
      · rw [h2] at g1; cases g1
    · obtain ⟨e1, e2⟩ := ih g2
      exact ⟨by rw [g1, e1], e2⟩
theorem moves_uniq {ks : List KV} {X : WV} {Wn Hn n : Nat} {us us' : List UnV} {evs : List EvV} (h : Moves ks X Wn Hn n us evs us') : ∀ {evs2 : List EvV} {us2 : List UnV}, Moves ks X Wn Hn n us evs2 us2 → evs = evs2 ∧ us' = us2 := by
  induction h with
  | done h =>
    intro evs2 us2 h'
    rcases moves_cases h' with ⟨-, h1, h2⟩ | ⟨u, u1, k, cells, us1, evs', hu, -⟩
    · exact ⟨h1.symm, h2.symm⟩
    · have := (List.getElem?_eq_some_iff.1 hu).1
      omega
  | unit hu hk hg h1 hm ih =>
    intro evs2 us2 h'
    rcases moves_cases h' with ⟨h2, -⟩ | ⟨u', u1', k', cells', us1', evs', hu', hk', hg', h1', hm', he⟩
    · have := (List.getElem?_eq_some_iff.1 hu).1
      omega
    · rw [hu] at hu'
      injection hu' with hu'
      subst hu'
      rw [hk] at hk'
      injection hk' with hk'
      subst hk'
      obtain ⟨e1, e2⟩ := goes_uniq hg hg'
      subst e1
      subst e2
      rw [h1] at h1'
      injection h1' with h1'
      subst h1'
      obtain ⟨e3, e4⟩ := ih hm'
      exact ⟨by rw [he, e3], e4⟩
end Go.Proofs.YtoabhfipikkkeaaGreatDoor

namespace Go.Proofs.YtoabhfipikkkeaaGreatDoor
open Go.RowKit Go.Proofs.YtoabhfipikkkeaaGreatDoor.So
set_option linter.unusedVariables false

theorem ph_uniq {ks : List KV} {Wn Hn : Nat} {A : WV} {n : Nat} {Y : WV} {es : List EvV} (p : Ph ks Wn Hn A n Y es) : ∀ {Y' : WV} {es' : List EvV}, Ph ks Wn Hn A n Y' es' → Y = Y' ∧ es = es' := by
  induction p with
  | zero => intro Y' es' q; cases q; exact ⟨rfl, rfl⟩
  | one t =>
    intro Y' es' q
    cases q with
    | one t' => obtain ⟨rfl, rfl, rfl⟩ := tr_uniq t t'; exact ⟨rfl, rfl⟩
  | two p0 m ih =>
    intro Y' es' q
    cases q with
    | two q0 m' =>
      obtain ⟨rfl, rfl⟩ := ih q0
      obtain ⟨rfl, rfl⟩ := moves_uniq m m'
      exact ⟨rfl, rfl⟩
  | three p0 ih =>
    intro Y' es' q
    cases q with
    | three q0 => obtain ⟨rfl, rfl⟩ := ih q0; exact ⟨rfl, rfl⟩
  | four p0 ih =>
    intro Y' es' q
    cases q with
    | four q0 => obtain ⟨rfl, rfl⟩ := ih q0; exact ⟨rfl, rfl⟩
theorem step_uniq {ks : List KV} {X : WV} {l : List OrV} {Y Y' : WV} {es es' : List EvV} (h : StepR ks X l Y es) (h' : StepR ks X l Y' es') : Y = Y' ∧ es = es' := by
  obtain ⟨out, Wn, Hn, Z, a1, a2, a3, a4, rfl⟩ := h
  obtain ⟨out', Wn', Hn', Z', b1, b2, b3, b4, rfl⟩ := h'
  obtain rfl := a1.one b1
  obtain rfl : Wn = Wn' := by omega
  obtain rfl : Hn = Hn' := by omega
  obtain ⟨rfl, rfl⟩ := ph_uniq a4 b4
  exact ⟨rfl, rfl⟩
theorem play_uniq {ks : List KV} {X : WV} {ls : List (List OrV)} {n : Nat} {Y : WV} (h : PlayR ks X ls n Y) : ∀ {Y' : WV}, PlayR ks X ls n Y' → Y = Y' := by
  induction h with
  | zero => intro Y' k; cases k; rfl
  | turn p hl hf hs ih =>
    intro Y' k
    cases k with
    | turn p' hl' hf' hs' =>
      obtain rfl := ih p'
      rw [hl] at hl'
      injection hl' with e
      subst e
      exact (step_uniq hs hs').1
/-- what n turns come to, where more turns are listed, or fewer. -/
theorem play_like {ks : List KV} {X : WV} {ls ms : List (List OrV)} {n : Nat} {Y : WV} (h : PlayR ks X ls n Y) : (∀ i, i < n → ls[i]? = ms[i]?) → PlayR ks X ms n Y := by
  induction h with
  | zero => intro _; exact .zero
  | @turn n Y Z l es p hl hf hs ih => intro e; exact .turn (ih (fun i hi => e i (by omega))) (by rw [← e n (by omega)]; exact hl) hf hs
/-- turns behind turns. -/
theorem play_join {ks : List KV} {X A : WV} {ls : List (List OrV)} {c m : Nat} {B : WV} (h : PlayR ks X ls c A) (k : PlayR ks A (ls.drop c) m B) : PlayR ks X ls (c + m) B := by
  induction k with
  | zero => exact h
  | @turn n Y Z l es p hl hf hs ih => exact .turn ih (by rw [List.getElem?_drop] at hl; exact hl) hf hs
theorem play_back {ks : List KV} {X : WV} {ls : List (List OrV)} {n : Nat} {Y : WV} (h : PlayR ks X ls n Y) : ∀ m, m ≤ n → ∃ Z, PlayR ks X ls m Z ∧ (m < n → ∃ l, ls[m]? = some l ∧ stepFault ks Z l = 0) := by
  induction h with
  | zero => intro m hm; obtain rfl : m = 0 := by omega
            exact ⟨X, .zero, fun h => absurd h (Nat.lt_irrefl _)⟩
  | @turn n Y Z l es p hl hf hs ih =>
    intro m hm
    by_cases e : m = n + 1
    · subst e
      exact ⟨Z, .turn p hl hf hs, fun h => absurd h (Nat.lt_irrefl _)⟩
    · by_cases e2 : m = n
      · subst e2
        exact ⟨Y, p, fun _ => ⟨l, hl, hf⟩⟩
      · obtain ⟨W, h1, h2⟩ := ih m (by omega)
        exact ⟨W, h1, fun _ => h2 (by omega)⟩
/-- behind a turn a world is right, one turn further. -/
theorem step_right {ks : List KV} {X : WV} {l : List OrV} {Y : WV} {es : List EvV} (hf : stepFault ks X l = 0) (h : StepR ks X l Y es) : Wd.wfault ks Y = 0 ∧ Y.turn = X.turn + 1 := by
  have hw : Wd.wfault ks X = 0 := by
    by_cases e : Wd.wfault ks X = 0
    · exact e
    · rw [step_w e] at hf; exact absurd hf e
  have ht : ¬ 1000000 ≤ X.turn := fun e => by rw [step_t hw e] at hf; cases hf
  have ho : Od.faults l = 0 := by rw [step_o hw ht] at hf; exact hf
  have R := wright_of hw
  obtain ⟨out, Wn, Hn, Z, a1, a2, a3, a4, rfl⟩ := h
  obtain ⟨g1, g2, g3⟩ := gv_same (ks := ks) (Y := X) (out := out) out.length
  have AR := gv_right R (out := out) (fun o h => (Od.faults_ok ho).2 o (a1.mem h)) out.length
  obtain ⟨r, -, -, t, -⟩ := a4.keep AR (by rw [g2, a2]) (by rw [g3, a3])
  have tx : Z.turn = X.turn := t.trans g1
  refine ⟨?_, by show Z.turn + 1 = _; rw [tx]⟩
  obtain ⟨W', H', e1, e2, G⟩ := r.good
  refine Wd.wfault_zero r.kinds (by show Fd.fault Z.wide Z.high Z.gs Z.os = 0; rw [e1, e2]; exact Fd.fault_good G) ?_ r.ul (fun i u hu => ?_) r.ql (fun j hj => r.job hj)
  · have hn := r.nums
    unfold Wd.numsBad at hn ⊢
    simp only [Bool.or_eq_false_iff] at hn ⊢
    refine ⟨?_, hn.2⟩
    have h1 := hn.1
    unfold Wd.off at h1 ⊢
    simp at h1 ⊢
    omega
  · obtain ⟨k, F⟩ := r.fine hu
    exact ⟨k, F.id1, F.id2, F.up, F.p, F.k0, F.kk, F.life, F.load, F.task, F.at_, F.goal, F.opn, F.rest⟩
theorem play_right {ks : List KV} {X : WV} {ls : List (List OrV)} {n : Nat} {Y : WV} (hw : Wd.wfault ks X = 0) (h : PlayR ks X ls n Y) : Wd.wfault ks Y = 0 ∧ Y.turn = X.turn + (n : Int) := by
  induction h with
  | zero => exact ⟨hw, by simp⟩
  | turn p hl hf hs ih =>
    obtain ⟨s1, s2⟩ := step_right hf hs
    exact ⟨s1, by rw [s2, ih.2]; omega⟩
/-- without orders a turn of a right world comes. -/
theorem rest_fault {ks : List KV} {X : WV} (hw : Wd.wfault ks X = 0) (ht : X.turn < 1000000) : stepFault ks X [] = 0 := by
  rw [step_o hw (by omega)]
  rfl
/-- where all turns come, those in front come, too, and those behind. -/
theorem parts_front {ks : List KV} {X : WV} {ls : List (List OrV)} {Y : WV} (h : PlayR ks X ls ls.length Y) {c : Nat} (hc : c ≤ ls.length) {n : Nat} {Z : WV} {l : List OrV} (p : PlayR ks X (ls.take c) n Z) (hl : (ls.take c)[n]? = some l) : stepFault ks Z l = 0 := by
  have hn : n < c := by
    have := (List.getElem?_eq_some_iff.1 hl).1
    rw [List.length_take] at this
    omega
  obtain ⟨W, w1, w2⟩ := play_back h n (by omega)
  have p' : PlayR ks X ls n Z := play_like p (fun i hi => by rw [List.getElem?_take, if_pos (by omega)])
  obtain rfl := play_uniq w1 p'
  obtain ⟨l', e, f⟩ := w2 (by omega)
  rw [List.getElem?_take, if_pos hn, e] at hl
  injection hl with hl
  subst hl
  exact f
theorem parts_back {ks : List KV} {X A : WV} {ls : List (List OrV)} {Y : WV} (h : PlayR ks X ls ls.length Y) {c : Nat} (hc : c ≤ ls.length) (ha : PlayR ks X ls c A) {n : Nat} {Z : WV} {l : List OrV} (p : PlayR ks A (ls.drop c) n Z) (hl : (ls.drop c)[n]? = some l) : stepFault ks Z l = 0 := by
  have hn : c + n < ls.length := by
    have := (List.getElem?_eq_some_iff.1 hl).1
    rw [List.length_drop] at this
    omega
  obtain ⟨W, w1, w2⟩ := play_back h (c + n) (by omega)
  obtain rfl := play_uniq w1 (play_join ha p)
  obtain ⟨l', e, f⟩ := w2 hn
  rw [List.getElem?_drop, e] at hl
  injection hl with hl
  subst hl
  exact f
end Go.Proofs.YtoabhfipikkkeaaGreatDoor

namespace Go.Proofs.YtoabhfipikkkeaaGreatDoor.Wy

theorem onto_air {g : Int} {fl : Bool} (h : 0 < Fd.onto g fl) : 0 < Fd.onto g true ∧ Fd.onto g true ≤ Fd.onto g fl := by
  unfold Fd.onto at *
  by_cases h1 : g = 1
  · simp [h1] at h
  · by_cases h2 : g = 2
    · cases fl
      · simp [h2] at h
      · simp [h2]
    · by_cases h3 : g = 3
      · cases fl
        · simp [h3]
        · simp [h3]
      · simp [h1, h2, h3]
theorem ss_air {gs : List Int} {fl : Bool} {j : Nat} (h : 0 < (gs.map fun g => Fd.onto g fl).getD j 0) : 0 < (gs.map fun g => Fd.onto g true).getD j 0 ∧ (gs.map fun g => Fd.onto g true).getD j 0 ≤ (gs.map fun g => Fd.onto g fl).getD j 0 := by
  rw [List.getD_eq_getElem?_getD, List.getElem?_map] at *
  rw [List.getD_eq_getElem?_getD, List.getElem?_map]
  cases hg : gs[j]? with
  | none => rw [hg] at h; simp at h
  | some g => rw [hg] at h; exact onto_air h
theorem way_air {nb : Nat → List Int} {gs : List Int} {fl : Bool} {t i : Nat} {d : Int} (h : Way nb (fun _ j => (gs.map fun g => Fd.onto g fl).getD j 0) t i d) : ∃ d', d' ≤ d ∧ Way nb (fun _ j => (gs.map fun g => Fd.onto g true).getD j 0) t i d' := by
  induction h with
  | here => exact ⟨0, by omega, .here⟩
  | @step i j d h1 h2 h3 ih =>
    obtain ⟨d', hd, hw⟩ := ih
    have k := ss_air h2
    exact ⟨_, by omega, .step h1 k.1 hw⟩
theorem least_get {nb : Nat → List Int} {st : Nat → Nat → Int} {t n i : Nat} {l : List Int} (h : IsFar nb st t n l) (hi : i < n) : Least nb st t i (l.getD i 0) := by
  have e : l[i]? = some (l.getD i 0) := by rw [List.getD_eq_getElem?_getD, List.getElem?_eq_getElem (by rw [h.1]; exact hi)]; rfl
  exact h.2 i _ e
theorem far_air {nb : Nat → List Int} {gs : List Int} {fl : Bool} {t n i : Nat} {l l' : List Int} (h : IsFar nb (fun _ j => (gs.map fun g => Fd.onto g fl).getD j 0) t n l) (h' : IsFar nb (fun _ j => (gs.map fun g => Fd.onto g true).getD j 0) t n l') (hi : i < n) (h0 : 0 ≤ l.getD i 0) : 0 ≤ l'.getD i 0 ∧ l'.getD i 0 ≤ l.getD i 0 := by
  rcases least_get h hi with ⟨e, _⟩ | ⟨hw, _⟩
  · omega
  · obtain ⟨d', hd, hw'⟩ := way_air hw
    rcases least_get h' hi with ⟨_, k⟩ | ⟨k1, k2⟩
    · exact absurd hw' (k _)
    · have := k2 _ hw'
      have := k1.nonneg
      omega

/-- two cells of a way, one behind the other. -/
theorem Pth.two {nb : Nat → List Int} {ss l : List Int} {t i : Nat} {p : List Int} (h : Pth nb ss l t i p) : ∀ k, k + 1 < p.length → ∃ x y : Nat, p[k]? = some (x : Int) ∧ p[k + 1]? = some (y : Int) ∧ Nx nb ss l x y := by
  induction h with
  | here => intro k hk; simp at hk
  | @step i j p h1 h2 h3 ih =>
    intro k hk
    cases k with
    | zero => exact ⟨i, j, rfl, by simpa using h3.head, h2⟩
    | succ k =>
      obtain ⟨x, y, a1, a2, a3⟩ := ih k (by simpa using hk)
      exact ⟨x, y, by simpa using a1, by simpa using a2, a3⟩
theorem Pth.pos {nb : Nat → List Int} {ss l : List Int} {t i : Nat} {p : List Int} (h : Pth nb ss l t i p) : 0 < p.length := by
  cases h <;> simp
/-- all cells of a way are cells. -/
theorem Pth.cells {nb : Nat → List Int} {ss l : List Int} {t i n : Nat} {p : List Int} (hn : ∀ (i j : Nat), i < n → (j : Int) ∈ nb i → j < n) (h : Pth nb ss l t i p) (hi : i < n) : ∀ (k : Nat) (x : Int), p[k]? = some x → ∃ y : Nat, x = y ∧ y < n := by
  induction h with
  | here =>
    intro k x hx
    cases k with
    | zero => simp at hx; exact ⟨t, hx.symm, hi⟩
    | succ k => simp at hx
  | @step i j p h1 h2 h3 ih =>
    intro k x hx
    cases k with
    | zero => simp at hx; exact ⟨i, hx.symm, hi⟩
    | succ k => exact ih (hn i j hi h2.is.1) k x (by simpa using hx)

/-! two small fields. -/
/-- Shut, asked of a list. -/
def pchk (nb : Nat → List Int) (st : Nat → Nat → Int) (l : List Int) (n : Nat) : Bool := (List.range n).all fun i => (nb i).all fun x => decide (¬ (0 < st i x.toNat ∧ 0 ≤ l.getD x.toNat 0) ∨ (0 ≤ l.getD i 0 ∧ l.getD i 0 ≤ st i x.toNat + l.getD x.toNat 0))
theorem chk_shut {nb : Nat → List Int} {st : Nat → Nat → Int} {l : List Int} {n : Nat} (h : pchk nb st l n = true) : ∀ i, i < n → Shut nb st l i := by
  intro i hi j x y hx hy hj h0 y0
  unfold pchk at h
  rw [List.all_eq_true] at h
  have h1 := h i (List.mem_range.2 hi)
  rw [List.all_eq_true] at h1
  have h2 := of_decide_eq_true (h1 j hj)
  rw [Int.toNat_natCast, getD_of hx, getD_of hy] at h2
  rcases h2 with h2 | h2
  · exact absurd ⟨h0, y0⟩ h2
  · exact h2

def s6 : Nat → Nat → Int := fun _ j => (([0, 1, 0, 0, 3, 0] : List Int).map fun g => Fd.onto g false).getD j 0
theorem six : IsFar (Fd.near 3 2) s6 2 6 [5, 1, 0, 4, 2, 1] := by
  have w2 : Way (Fd.near 3 2) s6 2 2 0 := .here
  have w5 : Way (Fd.near 3 2) s6 2 5 1 := Way.step (nb := Fd.near 3 2) (st := s6) (i := 5) (j := 2) (by decide) (by decide) w2
  have w1 : Way (Fd.near 3 2) s6 2 1 1 := Way.step (nb := Fd.near 3 2) (st := s6) (i := 1) (j := 2) (by decide) (by decide) w2
  have w4 : Way (Fd.near 3 2) s6 2 4 2 := Way.step (nb := Fd.near 3 2) (st := s6) (i := 4) (j := 5) (by decide) (by decide) w5
  have w3 : Way (Fd.near 3 2) s6 2 3 4 := Way.step (nb := Fd.near 3 2) (st := s6) (i := 3) (j := 4) (by decide) (by decide) w4
  have w0 : Way (Fd.near 3 2) s6 2 0 5 := Way.step (nb := Fd.near 3 2) (st := s6) (i := 0) (j := 3) (by decide) (by decide) w3
  refine far_of rfl ?_ rfl ?_ (chk_shut (by decide))
  · intro i j hi hj
    obtain ⟨t, h1, h2, -⟩ := Fd.near_cell (W := 3) (H := 2) (by decide) hi hj
    omega
  · intro i x hx
    match i, hx with
    | 0, hx => simp at hx; subst hx; exact .inr w0
    | 1, hx => simp at hx; subst hx; exact .inr w1
    | 2, hx => simp at hx; subst hx; exact .inr w2
    | 3, hx => simp at hx; subst hx; exact .inr w3
    | 4, hx => simp at hx; subst hx; exact .inr w4
    | 5, hx => simp at hx; subst hx; exact .inr w5
    | i + 6, hx => simp at hx
def s3 : Nat → Nat → Int := fun i _ => (([0, 3, 0] : List Int).map fun g => Fd.onto g false).getD i 0
theorem three : IsFar (Fd.near 3 1) s3 0 3 [0, 2, 3] := by
  have w0 : Way (Fd.near 3 1) s3 0 0 0 := .here
  have w1 : Way (Fd.near 3 1) s3 0 1 2 := Way.step (nb := Fd.near 3 1) (st := s3) (i := 1) (j := 0) (by decide) (by decide) w0
  have w2 : Way (Fd.near 3 1) s3 0 2 3 := Way.step (nb := Fd.near 3 1) (st := s3) (i := 2) (j := 1) (by decide) (by decide) w1
  refine far_of rfl ?_ rfl ?_ (chk_shut (by decide))
  · intro i j hi hj
    obtain ⟨t, h1, h2, -⟩ := Fd.near_cell (W := 3) (H := 1) (by decide) hi hj
    omega
  · intro i x hx
    match i, hx with
    | 0, hx => simp at hx; subst hx; exact .inr w0
    | 1, hx => simp at hx; subst hx; exact .inr w1
    | 2, hx => simp at hx; subst hx; exact .inr w2
    | i + 3, hx => simp at hx
end Go.Proofs.YtoabhfipikkkeaaGreatDoor.Wy

namespace Go.Proofs.YtoabhfipikkkeaaGreatDoor
open Go.RowKit
set_option linter.unusedVariables false

namespace Wd
def bare (wd hg : Int) (gs os : List Int) : WV := ⟨0, 1, wd, hg, gs, os, [], [], []⟩
/-- what is told where a world is to begin. -/
def newFault (ks : List KV) (wd hg : Int) (gs os : List Int) (pls gold : Int) : Int := if ground ks (bare wd hg gs os) = 0 then (if (1 ≤ pls ∧ pls ≤ 4) ∧ 0 ≤ gold ∧ gold ≤ 1000000 then 0 else 1) else ground ks (bare wd hg gs os)
/-- the world that begins. -/
def begun (ks : List KV) (wd hg : Int) (gs os : List Int) (pls gold : Int) : WV := if newFault ks wd hg gs os pls gold = 0 then ⟨0, 1, wd, hg, gs, os, List.replicate pls.toNat gold, [], []⟩ else WV.zero
end Wd
theorem begun_bad {ks : List KV} {wd hg : Int} {gs os : List Int} {pls gold : Int} (h : Wd.newFault ks wd hg gs os pls gold ≠ 0) : Wd.begun ks wd hg gs os pls gold = WV.zero := by unfold Wd.begun; rw [if_neg h]
theorem begun_ok {ks : List KV} {wd hg : Int} {gs os : List Int} {pls gold : Int} (h : Wd.newFault ks wd hg gs os pls gold = 0) : Wd.begun ks wd hg gs os pls gold = ⟨0, 1, wd, hg, gs, os, List.replicate pls.toNat gold, [], []⟩ := by unfold Wd.begun; rw [if_pos h]
/-- a field in a box. -/
structure Bx (w : World) (z : Nat) (wd hg : Int) (u1 u2 : Value) : Prop where
  c0 : w.cell? ⟨z, 0, none⟩ = some (.int .i64 wd)
  c1 : w.cell? ⟨z, 1, none⟩ = some (.int .i64 hg)
  c2 : w.cell? ⟨z, 2, none⟩ = some u1
  c3 : w.cell? ⟨z, 3, none⟩ = some u2
theorem Bx.lt {w : World} {z : Nat} {wd hg : Int} {u1 u2 : Value} (h : Bx w z wd hg u1 u2) : z < w.heap.size := cell_lt h.c0
theorem Bx.below {w w' : World} {z n : Nat} {wd hg : Int} {u1 u2 : Value} (h : Bx w z wd hg u1 u2) (hb : Below n w w') (hn : z < n) : Bx w' z wd hg u1 u2 :=
  ⟨by rw [hb.cell (p := ⟨z, 0, none⟩) hn]; exact h.c0, by rw [hb.cell (p := ⟨z, 1, none⟩) hn]; exact h.c1, by rw [hb.cell (p := ⟨z, 2, none⟩) hn]; exact h.c2, by rw [hb.cell (p := ⟨z, 3, none⟩) hn]; exact h.c3⟩
theorem Bx.mk' {w : World} {z : Nat} (wd hg : Int) (u1 u2 : Value) (hz : w.heap.size = z) : Bx (w.alloc (.cells #[.int .i64 wd, .int .i64 hg, u1, u2] 25)) z wd hg u1 u2 := by
  subst hz
  constructor <;> simp
set_option maxRecDepth 100000 in
set_option maxHeartbeats 8000000 in
theorem new_any (vk vf : Value) (ks : List KV) (wd hg : Int) (gs os : List Int) (pls gold : Int) (w : World) (hk : Kl w vk ks) (hb : ∀ k ∈ ks, k.b.size ≤ 9223372036854775807) (hf : Fl w vf wd hg gs os) :
    Calls Tryz.prog 35 #[vk, vf, .int .i64 pls, .int .i64 gold] w fun e w' => ∃ u r, e = .returned (.tuple #[u, r]) ∧ Er r (Wd.newFault ks wd hg gs os pls gold) ∧ Wo w' w.heap.size u (Wd.begun ks wd hg gs os pls gold) ∧ Below w.heap.size w w' := by
  have K : Hid (Kl w vk ks ∧ ∀ k ∈ ks, k.b.size ≤ 9223372036854775807) := ⟨hk, hb⟩
  have F : Hid (Fl w vf wd hg gs os) := hf
  obtain ⟨u1, u2, rfl, r1, r2⟩ := hf
  obtain ⟨p1, q1, rfl, -⟩ := r1
  obtain ⟨p2, q2, rfl, -⟩ := r2
  clear hb hk
  go_enter Tryz.func35, Tryz.ntmps35
  go_upto_region 1 with fail
  have B0 : Hid (Below w.heap.size w ((w.alloc (.cells #[.int .i64 wd, .int .i64 hg, .slice p1 gs.length q1, .slice p2 os.length q2] 25)).alloc (.cells #[.int .i64 0, .int .i64 0, .int .i64 0, .int .i64 0, .slice none 0 0, .slice none 0 0, .slice none 0 0, .slice none 0 0, .slice none 0 0] 29))) := ((Below.refl _ _).alloc (Nat.le_refl _) _).alloc (by simp) _
  have X0 : Hid (Bx ((w.alloc (.cells #[.int .i64 wd, .int .i64 hg, .slice p1 gs.length q1, .slice p2 os.length q2] 25)).alloc (.cells #[.int .i64 0, .int .i64 0, .int .i64 0, .int .i64 0, .slice none 0 0, .slice none 0 0, .slice none 0 0, .slice none 0 0, .slice none 0 0] 29)) w.heap.size wd hg (.slice p1 gs.length q1) (.slice p2 os.length q2)) := (Bx.mk' (w := w) _ _ _ _ rfl).below ((Below.refl _ _).alloc (Nat.le_refl _) _) (by simp)
  have Z0 : Hid (Wx ((w.alloc (.cells #[.int .i64 wd, .int .i64 hg, .slice p1 gs.length q1, .slice p2 os.length q2] 25)).alloc (.cells #[.int .i64 0, .int .i64 0, .int .i64 0, .int .i64 0, .slice none 0 0, .slice none 0 0, .slice none 0 0, .slice none 0 0, .slice none 0 0] 29)) (w.heap.size + 1) (.int .i64 0) (.int .i64 0) (.int .i64 0) (.int .i64 0) (.slice none 0 0) (.slice none 0 0) (.slice none 0 0) (.slice none 0 0) (.slice none 0 0)) := Wx.new _ _ _ _ _ _ _ _ _ (by simp)
  have S0 : Hid (w.heap.size + 2 ≤ ((w.alloc (.cells #[.int .i64 wd, .int .i64 hg, .slice p1 gs.length q1, .slice p2 os.length q2] 25)).alloc (.cells #[.int .i64 0, .int .i64 0, .int .i64 0, .int .i64 0, .slice none 0 0, .slice none 0 0, .slice none 0 0, .slice none 0 0, .slice none 0 0] 29)).heap.size) := by unfold Hid; simp
  generalize ((w.alloc (.cells #[.int .i64 wd, .int .i64 hg, .slice p1 gs.length q1, .slice p2 os.length q2] 25)).alloc (.cells #[.int .i64 0, .int .i64 0, .int .i64 0, .int .i64 0, .slice none 0 0, .slice none 0 0, .slice none 0 0, .slice none 0 0, .slice none 0 0] 29)) = w0 at *
  obtain ⟨x0, x1, x2, x3⟩ := X0.out
  go_wp2_with fail
  refine (ground_any _ _ ks (Wd.bare wd hg gs os) w0 (K.out.1.below B0.out) K.out.2 (F.out.below B0.out)).mono ?_
  rintro e w1 ⟨r, rfl, hr, hb1⟩
  clear x0 x1 x2 x3
  have B1 : Hid (Below w.heap.size w w1) := B0.out.trans (hb1.mono B0.out.size)
  have X1 : Hid (Bx w1 w.heap.size wd hg (.slice p1 gs.length q1) (.slice p2 os.length q2)) := X0.out.below hb1 X0.out.lt
  have Z1 : Hid (Wx w1 (w.heap.size + 1) (.int .i64 0) (.int .i64 0) (.int .i64 0) (.int .i64 0) (.slice none 0 0) (.slice none 0 0) (.slice none 0 0) (.slice none 0 0) (.slice none 0 0)) := Z0.out.below hb1 Z0.out.lt
  have S1 : Hid (w.heap.size + 2 ≤ w1.heap.size) := Nat.le_trans S0.out hb1.size
  clear hb1 B0 X0 Z0 S0
  rcases hr with ⟨hf, rfl⟩ | ⟨hf, rfl⟩
  case inr =>
    obtain ⟨fe, hfe⟩ : ∃ f, Wd.ground ks (Wd.bare wd hg gs os) = f := ⟨_, rfl⟩
    have HFE : Hid (fe ≠ 0) := by rw [← hfe]; exact hf
    have FE : Hid (Wd.newFault ks wd hg gs os pls gold = fe) := by unfold Hid Wd.newFault; rw [if_neg hf]; exact hfe
    rw [hfe]
    clear hf hfe
    obtain ⟨z0, z1, z2, z3, z4, z5, z6, z7, z8⟩ := Z1.out.cells
    obtain ⟨t0, t1, t2, t3, t4, t5, t6, t7, t8⟩ := Z1.out.thaws
    have KZ : Hid (Kp (w.heap.size + 1) w1 (((((((((w1.setCell ⟨w.heap.size + 1, 0, none⟩ (.int .i64 0)).setCell ⟨w.heap.size + 1, 1, none⟩ (.int .i64 0)).setCell ⟨w.heap.size + 1, 2, none⟩ (.int .i64 0)).setCell ⟨w.heap.size + 1, 3, none⟩ (.int .i64 0)).setCell ⟨w.heap.size + 1, 4, none⟩ (.slice none 0 0)).setCell ⟨w.heap.size + 1, 5, none⟩ (.slice none 0 0)).setCell ⟨w.heap.size + 1, 6, none⟩ (.slice none 0 0)).setCell ⟨w.heap.size + 1, 7, none⟩ (.slice none 0 0)).setCell ⟨w.heap.size + 1, 8, none⟩ (.slice none 0 0))) := put_kp _ _ _ _ _ _ _ _ _ _ _
    obtain ⟨y0, y1, y2, y3, y4, y5, y6, y7, y8⟩ := (Z1.out.put (.int .i64 0) (.int .i64 0) (.int .i64 0) (.int .i64 0) (.slice none 0 0) (.slice none 0 0) (.slice none 0 0) (.slice none 0 0) (.slice none 0 0)).cells
    go_wp2
    clear z0 z1 z2 z3 z4 z5 z6 z7 z8 t0 t1 t2 t3 t4 t5 t6 t7 t8
    generalize (((((((((w1.setCell ⟨w.heap.size + 1, 0, none⟩ (.int .i64 0)).setCell ⟨w.heap.size + 1, 1, none⟩ (.int .i64 0)).setCell ⟨w.heap.size + 1, 2, none⟩ (.int .i64 0)).setCell ⟨w.heap.size + 1, 3, none⟩ (.int .i64 0)).setCell ⟨w.heap.size + 1, 4, none⟩ (.slice none 0 0)).setCell ⟨w.heap.size + 1, 5, none⟩ (.slice none 0 0)).setCell ⟨w.heap.size + 1, 6, none⟩ (.slice none 0 0)).setCell ⟨w.heap.size + 1, 7, none⟩ (.slice none 0 0)).setCell ⟨w.heap.size + 1, 8, none⟩ (.slice none 0 0)) = w9 at *
    refine bodyPost_ret (v := .tuple #[.agg #[.int .i64 0, .int .i64 0, .int .i64 0, .int .i64 0, .slice none 0 0, .slice none 0 0, .slice none 0 0, .slice none 0 0, .slice none 0 0], .iface 99 (.int .i64 fe)]) (by simp [results, Tryz.results35, go_sem, y0, y1, y2, y3, y4, y5, y6, y7, y8]) rfl ⟨_, _, rfl, by rw [FE.out]; exact Er.no HFE.out, by rw [begun_bad (by rw [FE.out]; exact HFE.out)]; exact zero_wo _ _, KZ.out.below B1.out B1.out.size (by omega)⟩
  have HF : Hid (Wd.ground ks (Wd.bare wd hg gs os) = 0) := hf
  have NF : Hid (Wd.newFault ks wd hg gs os pls gold = if (1 ≤ pls ∧ pls ≤ 4) ∧ 0 ≤ gold ∧ gold ≤ 1000000 then 0 else 1) := by unfold Hid Wd.newFault; rw [if_pos hf]
  have GL : Hid (gs.length ≤ 144 ∧ os.length ≤ 144) := by
    unfold Wd.ground at hf
    split at hf
    · obtain ⟨Wn, Hn, -, -, G⟩ := Fd.fault_zero hf
      have h1 := G.pos
      have h2 := G.gl
      have h3 := G.ol
      unfold Wd.bare at h2 h3
      exact ⟨by simp only at h2; omega, by simp only at h3; omega⟩
    · rename_i h0
      exact absurd hf h0
  clear hf
  by_cases hp : 1 ≤ pls ∧ pls ≤ 4
  case neg =>
    have t : decide (1 ≤ pls ∧ pls ≤ 4) = false := decide_eq_false hp
    have HFE : Hid ((1 : Int) ≠ 0) := by unfold Hid; decide
    have FE : Hid (Wd.newFault ks wd hg gs os pls gold = 1) := by unfold Hid; rw [NF.out, if_neg (fun h => hp h.1)]
    clear hp
    go_wp2_with fail
    refine (wwithin_any pls 1 4 w1).mono ?_
    rintro e w2 ⟨rfl, hww⟩
    obtain rfl := hww.symm
    rw [t]
    clear t
    obtain ⟨z0, z1, z2, z3, z4, z5, z6, z7, z8⟩ := Z1.out.cells
    obtain ⟨t0, t1, t2, t3, t4, t5, t6, t7, t8⟩ := Z1.out.thaws
    have KZ : Hid (Kp (w.heap.size + 1) w1 (((((((((w1.setCell ⟨w.heap.size + 1, 0, none⟩ (.int .i64 0)).setCell ⟨w.heap.size + 1, 1, none⟩ (.int .i64 0)).setCell ⟨w.heap.size + 1, 2, none⟩ (.int .i64 0)).setCell ⟨w.heap.size + 1, 3, none⟩ (.int .i64 0)).setCell ⟨w.heap.size + 1, 4, none⟩ (.slice none 0 0)).setCell ⟨w.heap.size + 1, 5, none⟩ (.slice none 0 0)).setCell ⟨w.heap.size + 1, 6, none⟩ (.slice none 0 0)).setCell ⟨w.heap.size + 1, 7, none⟩ (.slice none 0 0)).setCell ⟨w.heap.size + 1, 8, none⟩ (.slice none 0 0))) := put_kp _ _ _ _ _ _ _ _ _ _ _
    obtain ⟨y0, y1, y2, y3, y4, y5, y6, y7, y8⟩ := (Z1.out.put (.int .i64 0) (.int .i64 0) (.int .i64 0) (.int .i64 0) (.slice none 0 0) (.slice none 0 0) (.slice none 0 0) (.slice none 0 0) (.slice none 0 0)).cells
    go_wp2
    clear z0 z1 z2 z3 z4 z5 z6 z7 z8 t0 t1 t2 t3 t4 t5 t6 t7 t8
    generalize (((((((((w1.setCell ⟨w.heap.size + 1, 0, none⟩ (.int .i64 0)).setCell ⟨w.heap.size + 1, 1, none⟩ (.int .i64 0)).setCell ⟨w.heap.size + 1, 2, none⟩ (.int .i64 0)).setCell ⟨w.heap.size + 1, 3, none⟩ (.int .i64 0)).setCell ⟨w.heap.size + 1, 4, none⟩ (.slice none 0 0)).setCell ⟨w.heap.size + 1, 5, none⟩ (.slice none 0 0)).setCell ⟨w.heap.size + 1, 6, none⟩ (.slice none 0 0)).setCell ⟨w.heap.size + 1, 7, none⟩ (.slice none 0 0)).setCell ⟨w.heap.size + 1, 8, none⟩ (.slice none 0 0)) = w9 at *
    refine bodyPost_ret (v := .tuple #[.agg #[.int .i64 0, .int .i64 0, .int .i64 0, .int .i64 0, .slice none 0 0, .slice none 0 0, .slice none 0 0, .slice none 0 0, .slice none 0 0], .iface 99 (.int .i64 1)]) (by simp [results, Tryz.results35, go_sem, y0, y1, y2, y3, y4, y5, y6, y7, y8]) rfl ⟨_, _, rfl, by rw [FE.out]; exact Er.no HFE.out, by rw [begun_bad (by rw [FE.out]; exact HFE.out)]; exact zero_wo _ _, KZ.out.below B1.out B1.out.size (by omega)⟩
  have t : decide (1 ≤ pls ∧ pls ≤ 4) = true := decide_eq_true hp
  go_wp2_with fail
  refine (wwithin_any pls 1 4 w1).mono ?_
  rintro e w2 ⟨rfl, hww⟩
  obtain rfl := hww.symm
  rw [t]
  clear t
  by_cases hgd : 0 ≤ gold ∧ gold ≤ 1000000
  case neg =>
    have t : decide (0 ≤ gold ∧ gold ≤ 1000000) = false := decide_eq_false hgd
    have HFE : Hid ((1 : Int) ≠ 0) := by unfold Hid; decide
    have FE : Hid (Wd.newFault ks wd hg gs os pls gold = 1) := by unfold Hid; rw [NF.out, if_neg (fun h => hgd h.2)]
    clear hgd hp
    go_wp2_with fail
    refine (wwithin_any gold 0 1000000 w1).mono ?_
    rintro e w2 ⟨rfl, hww⟩
    obtain rfl := hww.symm
    rw [t]
    clear t
    obtain ⟨z0, z1, z2, z3, z4, z5, z6, z7, z8⟩ := Z1.out.cells
    obtain ⟨t0, t1, t2, t3, t4, t5, t6, t7, t8⟩ := Z1.out.thaws
    have KZ : Hid (Kp (w.heap.size + 1) w1 (((((((((w1.setCell ⟨w.heap.size + 1, 0, none⟩ (.int .i64 0)).setCell ⟨w.heap.size + 1, 1, none⟩ (.int .i64 0)).setCell ⟨w.heap.size + 1, 2, none⟩ (.int .i64 0)).setCell ⟨w.heap.size + 1, 3, none⟩ (.int .i64 0)).setCell ⟨w.heap.size + 1, 4, none⟩ (.slice none 0 0)).setCell ⟨w.heap.size + 1, 5, none⟩ (.slice none 0 0)).setCell ⟨w.heap.size + 1, 6, none⟩ (.slice none 0 0)).setCell ⟨w.heap.size + 1, 7, none⟩ (.slice none 0 0)).setCell ⟨w.heap.size + 1, 8, none⟩ (.slice none 0 0))) := put_kp _ _ _ _ _ _ _ _ _ _ _
    obtain ⟨y0, y1, y2, y3, y4, y5, y6, y7, y8⟩ := (Z1.out.put (.int .i64 0) (.int .i64 0) (.int .i64 0) (.int .i64 0) (.slice none 0 0) (.slice none 0 0) (.slice none 0 0) (.slice none 0 0) (.slice none 0 0)).cells
    go_wp2
    clear z0 z1 z2 z3 z4 z5 z6 z7 z8 t0 t1 t2 t3 t4 t5 t6 t7 t8
    generalize (((((((((w1.setCell ⟨w.heap.size + 1, 0, none⟩ (.int .i64 0)).setCell ⟨w.heap.size + 1, 1, none⟩ (.int .i64 0)).setCell ⟨w.heap.size + 1, 2, none⟩ (.int .i64 0)).setCell ⟨w.heap.size + 1, 3, none⟩ (.int .i64 0)).setCell ⟨w.heap.size + 1, 4, none⟩ (.slice none 0 0)).setCell ⟨w.heap.size + 1, 5, none⟩ (.slice none 0 0)).setCell ⟨w.heap.size + 1, 6, none⟩ (.slice none 0 0)).setCell ⟨w.heap.size + 1, 7, none⟩ (.slice none 0 0)).setCell ⟨w.heap.size + 1, 8, none⟩ (.slice none 0 0)) = w9 at *
    refine bodyPost_ret (v := .tuple #[.agg #[.int .i64 0, .int .i64 0, .int .i64 0, .int .i64 0, .slice none 0 0, .slice none 0 0, .slice none 0 0, .slice none 0 0, .slice none 0 0], .iface 99 (.int .i64 1)]) (by simp [results, Tryz.results35, go_sem, y0, y1, y2, y3, y4, y5, y6, y7, y8]) rfl ⟨_, _, rfl, by rw [FE.out]; exact Er.no HFE.out, by rw [begun_bad (by rw [FE.out]; exact HFE.out)]; exact zero_wo _ _, KZ.out.below B1.out B1.out.size (by omega)⟩
  have t : decide (0 ≤ gold ∧ gold ≤ 1000000) = true := decide_eq_true hgd
  have F0 : Hid (Wd.newFault ks wd hg gs os pls gold = 0) := by unfold Hid; rw [NF.out, if_pos ⟨hp, hgd⟩]
  go_wp2_with fail
  refine (wwithin_any gold 0 1000000 w1).mono ?_
  rintro e w2 ⟨rfl, hww⟩
  obtain rfl := hww.symm
  rw [t]
  clear t
  obtain ⟨n, rfl⟩ : ∃ n : Nat, pls = n := ⟨pls.toNat, by omega⟩
  have hn : 0 < n ∧ n ≤ 4 := by omega
  have HN : Hid (0 < n ∧ n ≤ 4) := hn
  clear hp hgd hn
  go_wp2_with fail
  have BA : Hid (Below w1.heap.size w1 (w1.alloc (Obj.cells #[.int .i64 gold] 3))) := (Below.refl _ _).alloc (Nat.le_refl _) _
  have RA : Hid (Ro (w1.alloc (Obj.cells #[.int .i64 gold] 3)) (.slice (some ⟨w1.heap.size, 0, none⟩) 1 1) [gold]) := Ro.lit1 gold rfl
  generalize (w1.alloc (Obj.cells #[.int .i64 gold] 3)) = wa at *
  refine (repeat_ok gold _ n wa RA.out (HN.out.1) (by have := HN.out.2; omega)).mono ?_
  rintro e w2 ⟨b, rfl, -, hbk, hb2⟩
  have BW : Hid (Below w1.heap.size w1 w2) := BA.out.trans (hb2.mono BA.out.size)
  have B2 : Hid (Below w.heap.size w w2) := B1.out.trans (BW.out.mono B1.out.size)
  have X2 : Hid (Bx w2 w.heap.size wd hg (.slice p1 gs.length q1) (.slice p2 os.length q2)) := X1.out.below BW.out X1.out.lt
  have Z2 : Hid (Wx w2 (w.heap.size + 1) (.int .i64 0) (.int .i64 0) (.int .i64 0) (.int .i64 0) (.slice none 0 0) (.slice none 0 0) (.slice none 0 0) (.slice none 0 0) (.slice none 0 0)) := Z1.out.below BW.out Z1.out.lt
  have S2 : Hid (w.heap.size + 2 ≤ w2.heap.size) := Nat.le_trans S1.out BW.out.size
  have G2 : Hid (Ro w2 (.slice (some ⟨b, 0, none⟩) n n) (List.replicate n gold)) := by
    unfold Hid
    have := hbk.ro (c := n) (by simp) (by have := HN.out.2; omega)
    simpa using this
  clear hb2 hbk B1 X1 Z1 S1 BA RA BW
  obtain ⟨x0, x1, x2, x3⟩ := X2.out
  go_wp2_with fail
  have F2 := F.out.below B2.out
  obtain ⟨v1, v2, he, f1, f2⟩ := F2
  injection he with he
  simp only [Array.mk.injEq, List.cons.injEq, and_true, true_and] at he
  obtain ⟨rfl, rfl⟩ := he
  refine (copy_any _ ⟨0, 1, wd, hg, gs, os, List.replicate n gold, [], []⟩ w2 ⟨_, _, _, _, _, rfl, f1, f2, G2.out, ⟨none, 0, rfl, Nat.le_refl _, by omega, fun h => absurd rfl h⟩, ⟨none, 0, rfl, Nat.le_refl _, by omega, fun h => absurd rfl h⟩⟩ ⟨by have := GL.out.1; simp only; omega, by have := GL.out.2; simp only; omega, by have := HN.out.2; simp only [List.length_replicate]; omega, by simp, by simp⟩).mono ?_
  rintro e w3 ⟨u, rfl, ho, hb3⟩
  clear f1 f2 x0 x1 x2 x3
  have B3 : Hid (Below w.heap.size w w3) := B2.out.trans (hb3.mono B2.out.size)
  have Z3 : Hid (Wx w3 (w.heap.size + 1) (.int .i64 0) (.int .i64 0) (.int .i64 0) (.int .i64 0) (.slice none 0 0) (.slice none 0 0) (.slice none 0 0) (.slice none 0 0) (.slice none 0 0)) := Z2.out.below hb3 Z2.out.lt
  obtain ⟨v1, v2, v3, v4, v5, rfl, o1, o2, o3, o4, o5⟩ := ho.wo.mono S2.out
  have O3 : Hid (Ow w3 (w.heap.size + 2) v1 gs ∧ Ow w3 (w.heap.size + 2) v2 os ∧ Ow w3 (w.heap.size + 2) v3 (List.replicate n gold) ∧ Uno w3 (w.heap.size + 2) v4 [] ∧ Jbo w3 (w.heap.size + 2) v5 []) := ⟨o1, o2, o3, o4, o5⟩
  obtain ⟨a1, b1, rfl⟩ := o1.len
  obtain ⟨a2, b2, rfl⟩ := o2.len
  obtain ⟨a3, b3, rfl⟩ := o3.len
  obtain ⟨a4, b4, rfl⟩ := o4.len
  obtain ⟨a5, b5, rfl⟩ := o5.len
  simp only [List.length_replicate, List.length_nil] at O3 ⊢
  clear ho hb3 o1 o2 o3 o4 o5 B2 X2 Z2 S2 G2
  obtain ⟨z0, z1, z2, z3, z4, z5, z6, z7, z8⟩ := Z3.out.cells
  obtain ⟨t0, t1, t2, t3, t4, t5, t6, t7, t8⟩ := Z3.out.thaws
  have KZ : Hid (Kp (w.heap.size + 1) w3 (((((((((w3.setCell ⟨w.heap.size + 1, 0, none⟩ (.int .i64 0)).setCell ⟨w.heap.size + 1, 1, none⟩ (.int .i64 1)).setCell ⟨w.heap.size + 1, 2, none⟩ (.int .i64 wd)).setCell ⟨w.heap.size + 1, 3, none⟩ (.int .i64 hg)).setCell ⟨w.heap.size + 1, 4, none⟩ (.slice a1 gs.length b1)).setCell ⟨w.heap.size + 1, 5, none⟩ (.slice a2 os.length b2)).setCell ⟨w.heap.size + 1, 6, none⟩ (.slice a3 n b3)).setCell ⟨w.heap.size + 1, 7, none⟩ (.slice a4 0 b4)).setCell ⟨w.heap.size + 1, 8, none⟩ (.slice a5 0 b5))) := put_kp _ _ _ _ _ _ _ _ _ _ _
  obtain ⟨y0, y1, y2, y3, y4, y5, y6, y7, y8⟩ := (Z3.out.put (.int .i64 0) (.int .i64 1) (.int .i64 wd) (.int .i64 hg) (.slice a1 gs.length b1) (.slice a2 os.length b2) (.slice a3 n b3) (.slice a4 0 b4) (.slice a5 0 b5)).cells
  go_wp2
  clear z0 z1 z2 z3 z4 z5 z6 z7 z8 t0 t1 t2 t3 t4 t5 t6 t7 t8
  generalize (((((((((w3.setCell ⟨w.heap.size + 1, 0, none⟩ (.int .i64 0)).setCell ⟨w.heap.size + 1, 1, none⟩ (.int .i64 1)).setCell ⟨w.heap.size + 1, 2, none⟩ (.int .i64 wd)).setCell ⟨w.heap.size + 1, 3, none⟩ (.int .i64 hg)).setCell ⟨w.heap.size + 1, 4, none⟩ (.slice a1 gs.length b1)).setCell ⟨w.heap.size + 1, 5, none⟩ (.slice a2 os.length b2)).setCell ⟨w.heap.size + 1, 6, none⟩ (.slice a3 n b3)).setCell ⟨w.heap.size + 1, 7, none⟩ (.slice a4 0 b4)).setCell ⟨w.heap.size + 1, 8, none⟩ (.slice a5 0 b5)) = w9 at *
  refine bodyPost_ret (v := .tuple #[.agg #[.int .i64 0, .int .i64 1, .int .i64 wd, .int .i64 hg, .slice a1 gs.length b1, .slice a2 os.length b2, .slice a3 n b3, .slice a4 0 b4, .slice a5 0 b5], .nilIface]) (by simp [results, Tryz.results35, go_sem, y0, y1, y2, y3, y4, y5, y6, y7, y8]) rfl ⟨_, _, rfl, by rw [F0.out]; exact Er.nil, ?_, KZ.out.below B3.out B3.out.size (by omega)⟩
  rw [begun_ok F0.out, Int.toNat_natCast]
  exact ⟨_, _, _, _, _, rfl, (O3.out.1.kp KZ.out (by omega)).mono (by omega), (O3.out.2.1.kp KZ.out (by omega)).mono (by omega), (O3.out.2.2.1.kp KZ.out (by omega)).mono (by omega), (O3.out.2.2.2.1.kp KZ.out (by omega)).mono (by omega), (O3.out.2.2.2.2.kp KZ.out (by omega)).mono (by omega)⟩
end Go.Proofs.YtoabhfipikkkeaaGreatDoor

namespace Go.Proofs.YtoabhfipikkkeaaGreatDoor.Fd

/-- the sign of a ground. -/
def gsign (g : Int) : UInt8 := if g = 0 then 46 else if g = 1 then 35 else if g = 2 then 126 else 94
/-- the sign of a cell. -/
def sgn (g o : Int) : UInt8 := if o = 0 then gsign g else if o % 10 = 0 ∧ o ≤ 90 then (48 + (o / 10).toNat).toUInt8 else 43
def cellsTo (W : Nat) (gs os : List Int) (r c : Nat) : List UInt8 := (List.range c).map fun j => sgn (gs.getD (r * W + j) 0) (os.getD (r * W + j) 0)
def rowsTo (W : Nat) (gs os : List Int) : Nat → List UInt8
  | 0 => []
  | r + 1 => rowsTo W gs os r ++ (cellsTo W gs os r W ++ [10])
/-- a field as text. -/
def prt (W H : Nat) (gs os : List Int) : List UInt8 := rowsTo W gs os H

theorem cellsTo_succ (W : Nat) (gs os : List Int) (r c : Nat) : cellsTo W gs os r (c + 1) = cellsTo W gs os r c ++ [sgn (gs.getD (r * W + c) 0) (os.getD (r * W + c) 0)] := by
  unfold cellsTo
  rw [List.range_succ, List.map_append]
  rfl
theorem cellsTo_len (W : Nat) (gs os : List Int) (r c : Nat) : (cellsTo W gs os r c).length = c := by
  unfold cellsTo
  simp
theorem rowsTo_len (W : Nat) (gs os : List Int) (r : Nat) : (rowsTo W gs os r).length = r * (W + 1) := by
  induction r with
  | zero => simp [rowsTo]
  | succ r ih =>
    simp only [rowsTo, List.length_append, ih, cellsTo_len, List.length_cons, List.length_nil]
    rw [Nat.add_mul]
    omega

/-- a field as far as its text is read. -/
structure St where
  c : Nat
  W : Nat
  H : Nat
  gs : List Int
  os : List Int
def st0 : St := ⟨0, 0, 0, [], []⟩
/-- what a sign stands for. -/
def meant (b : UInt8) : Option (Int × Int) :=
  if 49 ≤ b.toNat ∧ b.toNat ≤ 57 then some (0, ((b.toNat : Int) - 48) * 10) else if b = 46 then some (0, 0) else if b = 35 then some (1, 0) else if b = 126 then some (2, 0) else if b = 94 then some (3, 0) else none
/-- one byte more. -/
def step (s : St) (b : UInt8) : Int ⊕ St :=
  if b = 10 then (if s.c = 0 ∨ (0 < s.H ∧ s.c ≠ s.W) then .inl 2 else .inr ⟨0, s.c, s.H + 1, s.gs, s.os⟩)
  else match meant b with
    | none => .inl 2
    | some (g, o) => if 0 < s.H ∧ s.c = s.W then .inl 2 else if s.c = 12 ∨ s.H = 12 then .inl 4 else .inr ⟨s.c + 1, s.W, s.H, s.gs ++ [g], s.os ++ [o]⟩
def run : St → Nat → List UInt8 → (Nat × Int) ⊕ St
  | s, _, [] => .inr s
  | s, i, b :: bs => match step s b with
    | .inl e => .inl (i, e)
    | .inr s' => run s' (i + 1) bs
/-- what is wrong, and where; else the field. -/
def parse (l : List UInt8) : (Nat × Int) ⊕ St :=
  match run st0 0 l with
  | .inl x => .inl x
  | .inr s => if 0 < s.c ∨ s.H = 0 then .inl (l.length, 2) else .inr s

theorem run_cons (s : St) (i : Nat) (b : UInt8) (bs : List UInt8) : run s i (b :: bs) = match step s b with | .inl e => .inl (i, e) | .inr s' => run s' (i + 1) bs := rfl
theorem run_append (s : St) (i : Nat) (l m : List UInt8) : run s i (l ++ m) = match run s i l with | .inl x => .inl x | .inr s' => run s' (i + l.length) m := by
  induction l generalizing s i with
  | nil => simp [run]
  | cons b bs ih =>
    rw [List.cons_append, run_cons, run_cons]
    cases step s b with
    | inl e => rfl
    | inr s' =>
      simp only
      rw [ih, List.length_cons, show i + 1 + bs.length = i + (bs.length + 1) by omega]

/-- what may be read. -/
def Tens (g o : Int) : Prop := 0 ≤ g ∧ g ≤ 3 ∧ 0 ≤ o ∧ o ≤ 90 ∧ o % 10 = 0 ∧ (0 < o → g = 0)
theorem meant_sgn {b : UInt8} {g o : Int} (h : meant b = some (g, o)) : sgn g o = b ∧ Tens g o := by
  unfold meant at h
  split at h
  · rename_i hb
    simp only [Option.some.injEq, Prod.mk.injEq] at h
    obtain ⟨rfl, rfl⟩ := h
    have e1 : (((b.toNat : Int) - 48) * 10) / 10 = (b.toNat : Int) - 48 := by omega
    refine ⟨?_, by unfold Tens; omega⟩
    unfold sgn
    rw [if_neg (by omega), if_pos (by omega), e1, show 48 + ((b.toNat : Int) - 48).toNat = b.toNat by omega]
    exact UInt8.ofNat_toNat
  · split at h
    · rename_i hb
      simp only [Option.some.injEq, Prod.mk.injEq] at h
      obtain ⟨rfl, rfl⟩ := h
      exact ⟨by rw [hb]; rfl, by unfold Tens; omega⟩
    · split at h
      · rename_i hb
        simp only [Option.some.injEq, Prod.mk.injEq] at h
        obtain ⟨rfl, rfl⟩ := h
        exact ⟨by rw [hb]; rfl, by unfold Tens; omega⟩
      · split at h
        · rename_i hb
          simp only [Option.some.injEq, Prod.mk.injEq] at h
          obtain ⟨rfl, rfl⟩ := h
          exact ⟨by rw [hb]; rfl, by unfold Tens; omega⟩
        · split at h
          · rename_i hb
            simp only [Option.some.injEq, Prod.mk.injEq] at h
            obtain ⟨rfl, rfl⟩ := h
            exact ⟨by rw [hb]; rfl, by unfold Tens; omega⟩
          · cases h
theorem sgn_meant {g o : Int} (h : Tens g o) : meant (sgn g o) = some (g, o) ∧ sgn g o ≠ 10 := by
  obtain ⟨h1, h2, h3, h4, h5, h6⟩ := h
  by_cases h0 : o = 0
  · subst h0
    have hg : g = 0 ∨ g = 1 ∨ g = 2 ∨ g = 3 := by omega
    rcases hg with rfl | rfl | rfl | rfl
    all_goals exact ⟨by decide, by decide⟩
  · obtain rfl := h6 (by omega)
    have ho : o = 10 ∨ o = 20 ∨ o = 30 ∨ o = 40 ∨ o = 50 ∨ o = 60 ∨ o = 70 ∨ o = 80 ∨ o = 90 := by omega
    rcases ho with rfl | rfl | rfl | rfl | rfl | rfl | rfl | rfl | rfl
    all_goals exact ⟨by decide, by decide⟩

theorem getD_snoc_lt {l : List Int} {x : Int} {i : Nat} (h : i < l.length) : (l ++ [x]).getD i 0 = l.getD i 0 := by
  rw [List.getD_eq_getElem?_getD, List.getD_eq_getElem?_getD, List.getElem?_append_left h]
theorem getD_snoc_len {l : List Int} {x : Int} {i : Nat} (h : i = l.length) : (l ++ [x]).getD i 0 = x := by
  subst h
  rw [List.getD_eq_getElem?_getD, List.getElem?_append_right (Nat.le_refl _)]
  simp
theorem cellsTo_snoc {W : Nat} {gs os : List Int} {g o : Int} {r c : Nat} (h1 : r * W + c ≤ gs.length) (h2 : r * W + c ≤ os.length) : cellsTo W (gs ++ [g]) (os ++ [o]) r c = cellsTo W gs os r c := by
  induction c with
  | zero => rfl
  | succ c ih =>
    rw [cellsTo_succ, cellsTo_succ, ih (by omega) (by omega), getD_snoc_lt (by omega), getD_snoc_lt (by omega)]
theorem rowsTo_snoc {W : Nat} {gs os : List Int} {g o : Int} {r : Nat} (h1 : r * W ≤ gs.length) (h2 : r * W ≤ os.length) : rowsTo W (gs ++ [g]) (os ++ [o]) r = rowsTo W gs os r := by
  induction r with
  | zero => rfl
  | succ r ih =>
    rw [Nat.add_mul] at h1 h2
    simp only [rowsTo]
    rw [ih (by omega) (by omega), cellsTo_snoc (by omega) (by omega)]
theorem cellsTo_row0 (W V : Nat) (gs os : List Int) (c : Nat) : cellsTo W gs os 0 c = cellsTo V gs os 0 c := by
  unfold cellsTo
  simp

/-- what holds of a field as far as its text l is read. -/
structure Inv (s : St) (l : List UInt8) : Prop where
  w0 : s.H = 0 → s.W = 0
  wp : 0 < s.H → 0 < s.W
  cw : 0 < s.H → s.c ≤ s.W
  c12 : s.c ≤ 12
  w12 : s.W ≤ 12
  h12 : s.H ≤ 12
  top : s.H = 12 → s.c = 0
  gl : s.gs.length = s.H * s.W + s.c
  ol : s.os.length = s.H * s.W + s.c
  tens : ∀ (i : Nat) g o, s.gs[i]? = some g → s.os[i]? = some o → Tens g o
  text : l = rowsTo s.W s.gs s.os s.H ++ cellsTo s.W s.gs s.os s.H s.c
theorem inv0 : Inv st0 [] := ⟨fun _ => rfl, fun h => by simp [st0] at h, fun h => by simp [st0] at h, by simp [st0], by simp [st0], by simp [st0], fun h => by simp [st0] at h, rfl, rfl, fun i g o h => by simp [st0] at h, rfl⟩

theorem snoc_get {l : List Int} {x y : Int} {i : Nat} (h : (l ++ [x])[i]? = some y) : (i < l.length ∧ l[i]? = some y) ∨ (i = l.length ∧ y = x) := by
  rcases Nat.lt_or_ge i l.length with h1 | h1
  · left; rw [List.getElem?_append_left h1] at h; exact ⟨h1, h⟩
  · right
    rw [List.getElem?_append_right h1] at h
    have h2 : i - l.length = 0 := by
      rcases Nat.eq_zero_or_pos (i - l.length) with h2 | h2
      · exact h2
      · rw [List.getElem?_eq_none (by simp; omega)] at h; cases h
    rw [h2] at h
    simp at h
    exact ⟨by omega, h.symm⟩

theorem Inv.step {s s' : St} {l : List UInt8} {b : UInt8} (h : Inv s l) (hs : step s b = .inr s') : Inv s' (l ++ [b]) := by
  unfold Fd.step at hs
  split at hs
  · rename_i hb
    subst hb
    split at hs
    · cases hs
    · rename_i hc
      injection hs with hs
      subst hs
      have hc0 : 0 < s.c := by omega
      have hcw : 0 < s.H → s.c = s.W := by omega
      have hh : s.H ≠ 12 := fun e => by have := h.top e; omega
      have h12 := h.h12; have c12 := h.c12
      have el : s.H * s.W + s.c = (s.H + 1) * s.c := by
        rcases Nat.eq_zero_or_pos s.H with e | e
        · rw [e]; simp
        · rw [← hcw e, Nat.add_mul, Nat.one_mul]
      refine ⟨by simp, by simp; exact hc0, by simp, by simp, c12, by show s.H + 1 ≤ 12; omega, by simp, ?_, ?_, h.tens, ?_⟩
      · show s.gs.length = (s.H + 1) * s.c + 0; rw [h.gl, el]; rfl
      · show s.os.length = (s.H + 1) * s.c + 0; rw [h.ol, el]; rfl
      · show l ++ [10] = rowsTo s.c s.gs s.os (s.H + 1) ++ cellsTo s.c s.gs s.os (s.H + 1) 0
        rw [h.text]
        simp only [rowsTo]
        rcases Nat.eq_zero_or_pos s.H with e | e
        · rw [e, cellsTo_row0 s.W s.c]
          simp [rowsTo, cellsTo]
        · rw [← hcw e]
          simp [cellsTo]
  · split at hs
    · cases hs
    · rename_i g o hm
      split at hs
      · cases hs
      · split at hs
        · cases hs
        · rename_i h1 h2
          injection hs with hs
          subst hs
          obtain ⟨e1, e2⟩ := meant_sgn hm
          have cw := h.cw; have c12 := h.c12; have h12 := h.h12
          refine ⟨h.w0, h.wp, fun hp => ?_, ?_, h.w12, h.h12, fun e => ?_, ?_, ?_, ?_, ?_⟩
          · show s.c + 1 ≤ s.W; have := cw hp; have : 0 < s.H := hp; omega
          · show s.c + 1 ≤ 12; omega
          · exfalso; have : s.H = 12 := e; omega
          · show (s.gs ++ [g]).length = s.H * s.W + (s.c + 1); rw [List.length_append, h.gl]; rfl
          · show (s.os ++ [o]).length = s.H * s.W + (s.c + 1); rw [List.length_append, h.ol]; rfl
          · intro i g' o' hg ho
            rcases snoc_get hg with ⟨l1, q1⟩ | ⟨l1, q1⟩
            · rcases snoc_get ho with ⟨l2, q2⟩ | ⟨l2, q2⟩
              · exact h.tens i g' o' q1 q2
              · have := h.gl; have := h.ol; omega
            · rcases snoc_get ho with ⟨l2, q2⟩ | ⟨l2, q2⟩
              · have := h.gl; have := h.ol; omega
              · rw [q1, q2]; exact e2
          · show l ++ [b] = rowsTo s.W (s.gs ++ [g]) (s.os ++ [o]) s.H ++ cellsTo s.W (s.gs ++ [g]) (s.os ++ [o]) s.H (s.c + 1)
            have := h.gl; have := h.ol
            rw [rowsTo_snoc (by omega) (by omega), cellsTo_succ, cellsTo_snoc (by omega) (by omega), getD_snoc_len (by omega), getD_snoc_len (by omega), e1, h.text, List.append_assoc]
theorem Inv.run {s s' : St} {l m : List UInt8} {i : Nat} (h : Inv s l) (hs : run s i m = .inr s') : Inv s' (l ++ m) := by
  induction m generalizing s l i with
  | nil =>
    simp only [Fd.run] at hs
    injection hs with hs
    subst hs
    simpa using h
  | cons b bs ih =>
    rw [run_cons] at hs
    cases hb : Fd.step s b with
    | inl e => rw [hb] at hs; cases hs
    | inr s1 =>
      rw [hb] at hs
      have := ih (h.step hb) hs
      rwa [List.append_assoc] at this

/-- what is read is printed as it was. -/
theorem parse_back {l : List UInt8} {s : St} (h : parse l = .inr s) : Good s.W s.H s.gs s.os ∧ prt s.W s.H s.gs s.os = l ∧ s.c = 0 := by
  unfold parse at h
  cases hr : run st0 0 l with
  | inl x => rw [hr] at h; cases h
  | inr s1 =>
    rw [hr] at h
    simp only at h
    split at h
    · cases h
    · rename_i hc
      injection h with h
      subst h
      have hi := inv0.run hr
      have hc0 : s1.c = 0 := by omega
      have hH : 0 < s1.H := by omega
      have t := hi.text
      have gl := hi.gl; have ol := hi.ol
      rw [hc0] at t gl ol
      refine ⟨⟨hi.wp hH, hi.w12, hH, hi.h12, by rw [gl, Nat.mul_comm]; rfl, by rw [ol, Nat.mul_comm]; rfl, fun i g o h1 h2 => ?_⟩, ?_, hc0⟩
      · obtain ⟨t1, t2, t3, t4, t5, t6⟩ := hi.tens i g o h1 h2
        exact ⟨t1, t2, t3, by omega, t6⟩
      · unfold prt
        simpa [cellsTo] using t.symm

theorem step_sign {s : St} {b : UInt8} {g o : Int} (hb : b ≠ 10) (hm : meant b = some (g, o)) (h1 : ¬ (0 < s.H ∧ s.c = s.W)) (h2 : s.c ≠ 12) (h3 : s.H ≠ 12) : step s b = .inr ⟨s.c + 1, s.W, s.H, s.gs ++ [g], s.os ++ [o]⟩ := by
  unfold step
  rw [if_neg hb, hm]
  simp only
  rw [if_neg h1, if_neg (by omega)]
theorem step_end {s : St} (h1 : s.c ≠ 0) (h2 : 0 < s.H → s.c = s.W) : step s 10 = .inr ⟨0, s.c, s.H + 1, s.gs, s.os⟩ := by
  unfold step
  rw [if_pos rfl, if_neg (by omega)]
theorem take_snoc {l : List Int} {k : Nat} (h : k < l.length) : l.take (k + 1) = l.take k ++ [l.getD k 0] := by
  rw [List.take_succ_eq_append_getElem h, List.getD_eq_getElem?_getD, List.getElem?_eq_getElem h]
  rfl

section
variable {W H : Nat} {gs os : List Int} (G : Good W H gs os) (ht : ∀ o ∈ os, o ≤ 90 ∧ o % 10 = 0)
include G ht
theorem run_cells (r c i : Nat) (hr : r < H) (hc : c ≤ W) :
    run ⟨0, if r = 0 then 0 else W, r, gs.take (r * W), os.take (r * W)⟩ i (cellsTo W gs os r c) = .inr ⟨c, if r = 0 then 0 else W, r, gs.take (r * W + c), os.take (r * W + c)⟩ := by
  induction c with
  | zero => simp [cellsTo, run]
  | succ c ih =>
    have hl : r * W + c < W * H := by
      have := Nat.mul_le_mul_right W (show r + 1 ≤ H by omega)
      rw [Nat.add_mul, Nat.mul_comm H W] at this
      omega
    have hg : r * W + c < gs.length := by rw [G.gl]; exact hl
    have ho : r * W + c < os.length := by rw [G.ol]; exact hl
    have eg : gs[r * W + c]? = some (gs.getD (r * W + c) 0) := by rw [List.getD_eq_getElem?_getD, List.getElem?_eq_getElem hg]; rfl
    have eo : os[r * W + c]? = some (os.getD (r * W + c) 0) := by rw [List.getD_eq_getElem?_getD, List.getElem?_eq_getElem ho]; rfl
    obtain ⟨t1, t2, t3, t4, t5⟩ := G.cell _ _ _ eg eo
    obtain ⟨u1, u2⟩ := ht _ (List.mem_of_getElem? eo)
    obtain ⟨m1, m2⟩ := sgn_meant ⟨t1, t2, t3, u1, u2, t5⟩
    have w2 := G.w2; have h2 := G.h2
    rw [cellsTo_succ, run_append, ih (by omega)]
    simp only
    rw [run_cons, step_sign m2 m1 (by simp only; rintro ⟨q1, q2⟩; rw [if_neg (by omega)] at q2; omega) (by simp only; omega) (by simp only; omega)]
    simp only [run]
    rw [show r * W + (c + 1) = (r * W + c) + 1 by omega, take_snoc hg, take_snoc ho]
theorem run_rows (r i : Nat) (hr : r ≤ H) :
    run st0 i (rowsTo W gs os r) = .inr ⟨0, if r = 0 then 0 else W, r, gs.take (r * W), os.take (r * W)⟩ := by
  induction r with
  | zero => simp [rowsTo, run, st0]
  | succ r ih =>
    have w1 := G.w1
    simp only [rowsTo]
    rw [run_append, ih (by omega)]
    simp only
    rw [run_append, run_cells G ht r W _ (by omega) (Nat.le_refl _)]
    simp only
    rw [run_cons, step_end (by simp only; omega) (by simp only; intro q; rw [if_neg (by omega)])]
    simp only [run]
    rw [if_neg (by omega), Nat.add_mul, Nat.one_mul]
/-- what is printed is read as it was. -/
theorem parse_prt : parse (prt W H gs os) = .inr ⟨0, W, H, gs, os⟩ := by
  have h1 := G.h1
  unfold parse prt
  rw [run_rows G ht H 0 (Nat.le_refl _)]
  simp only
  rw [if_neg (by omega), if_neg (by omega), Nat.mul_comm H W, ← G.gl, List.take_length, G.gl, ← G.ol, List.take_length]
end
end Go.Proofs.YtoabhfipikkkeaaGreatDoor.Fd

namespace Go.Proofs.YtoabhfipikkkeaaGreatDoor
set_option linter.unusedVariables false

/-- a fact's kinds. -/
def SK : List KV := [⟨⟨#[98, 97, 115, 101]⟩, 50, 0, 0, 4, 0, 50, 5, 0, false, true⟩, ⟨⟨#[100, 105, 103, 103, 101, 114]⟩, 10, 0, 0, 3, 2, 10, 2, 20, false, false⟩, ⟨⟨#[102, 105, 103, 104, 116, 101, 114]⟩, 20, 4, 1, 4, 2, 20, 3, 0, false, false⟩]
def SG : List Int := [0, 0, 0, 0, 0, 0, 0, 0]
def SO : List Int := [0, 0, 0, 0, 0, 0, 30, 0]
/-- the small world, with none, one, two and three units. -/
def S0 : WV := ⟨0, 1, 4, 2, SG, SO, [100, 100], [], []⟩
def S1 : WV := ⟨0, 2, 4, 2, SG, SO, [100, 100], [⟨1, 0, 0, 0, 50, 0, 0, 0⟩], []⟩
def S2 : WV := ⟨0, 3, 4, 2, SG, SO, [100, 100], [⟨1, 0, 0, 0, 50, 0, 0, 0⟩, ⟨2, 0, 1, 1, 10, 0, 0, 0⟩], []⟩
def S3 : WV := ⟨0, 4, 4, 2, SG, SO, [100, 100], [⟨1, 0, 0, 0, 50, 0, 0, 0⟩, ⟨2, 0, 1, 1, 10, 0, 0, 0⟩, ⟨3, 1, 2, 3, 20, 0, 0, 0⟩], []⟩
theorem sm_parse : Fd.parse [46, 46, 46, 46, 10, 46, 46, 51, 46, 10] = .inr ⟨0, 4, 2, SG, SO⟩ := by rfl
theorem sm_f0 : Wd.newFault SK 4 2 SG SO 2 100 = 0 := by decide +kernel
theorem sm_f1 : Wd.putFault SK S0 0 0 0 = 0 := by decide +kernel
theorem sm_f2 : Wd.putFault SK S1 0 1 1 = 0 := by decide +kernel
theorem sm_f3 : Wd.putFault SK S2 1 2 3 = 0 := by decide +kernel
theorem sm_0 : Wd.begun SK 4 2 SG SO 2 100 = S0 := begun_ok sm_f0
theorem sm_1 : Wd.placed SK S0 0 0 0 = S1 := (placed_ok sm_f1).trans rfl
theorem sm_2 : Wd.placed SK S1 0 1 1 = S2 := (placed_ok sm_f2).trans rfl
theorem sm_3 : Wd.placed SK S2 1 2 3 = S3 := (placed_ok sm_f3).trans rfl
theorem sm_names : ∀ k ∈ SK, k.b.size ≤ 9223372036854775807 := by
  intro k hk
  unfold SK at hk
  rcases List.mem_cons.1 hk with rfl | hk
  · decide
  rcases List.mem_cons.1 hk with rfl | hk
  · decide
  rcases List.mem_cons.1 hk with rfl | hk
  · decide
  · cases hk
end Go.Proofs.YtoabhfipikkkeaaGreatDoor

namespace Go.Proofs.YtoabhfipikkkeaaGreatDoor
namespace So
set_option linter.unusedVariables false
def isTr (o : OrV) : Bool := decide (o.what = 3)
theorem kp_trains {l : List OrV} : ∀ (q : Nat), q ≤ l.length → ((kp l q).map Prod.fst).countP isTr = (l.take q).countP isTr
  | 0, _ => by simp [kp]
  | q + 1, h => by
    have hq : q < l.length := by omega
    have ih := kp_trains (l := l) q (by omega)
    obtain ⟨o, ho⟩ : ∃ o, l[q]? = some o := ⟨_, List.getElem?_eq_getElem hq⟩
    rw [List.take_succ_eq_append_getElem hq, List.countP_append, ← ih]
    have e : l[q] = o := by have := List.getElem?_eq_getElem hq; rw [ho] at this; exact (Option.some.inj this).symm
    rw [e]
    by_cases hc : o.what = 3 ∨ lf l l.length o.player o.unit = (q : Nat)
    · rw [kp_yes ho hc, List.map_append, List.countP_append]
      rfl
    · rw [kp_no ho hc]
      have h3 : isTr o = false := by unfold isTr; exact decide_eq_false (fun h => hc (.inl h))
      simp [h3]
theorem LastSays.trains {l out : List OrV} (h : LastSays l out) : out.countP isTr = l.countP isTr := by
  obtain ⟨S, p, r, rfl⟩ := h
  have h1 := kp_trains (l := l) l.length (Nat.le_refl _)
  rw [List.take_length] at h1
  rw [← h1]
  exact (p.map Prod.fst).countP_eq isTr
theorem LastSays.has {l out : List OrV} (h : LastSays l out) {i : Nat} {o : OrV} (ho : l[i]? = some o) (h3 : ¬ o.what = 3) (hn : ∀ (k : Nat) x, i < k → k < l.length → l[k]? = some x → x.what = 3 ∨ x.player ≠ o.player ∨ x.unit ≠ o.unit) : o ∈ out := by
  obtain ⟨S, p, r, rfl⟩ := h
  have hi : i < l.length := (List.getElem?_eq_some_iff.1 ho).1
  exact List.mem_map.2 ⟨(o, i), p.mem_iff.2 (kp_in ho (.inr (lf_last ho h3 hi hn)) hi), rfl⟩
theorem LastSays.once {l out : List OrV} (h : LastSays l out) {i k : Nat} {x y : OrV} (hki : k < i) (hx : out[k]? = some x) (hy : out[i]? = some y) (h3 : ¬ x.what = 3) (h4 : ¬ y.what = 3) (hp : x.player = y.player) : ¬ x.unit = y.unit := by
  intro hu
  obtain ⟨S, p, r, rfl⟩ := h
  rw [List.getElem?_map] at hx hy
  obtain ⟨a, ha, rfl⟩ := Option.map_eq_some_iff.1 hx
  obtain ⟨b, hb, rfl⟩ := Option.map_eq_some_iff.1 hy
  obtain ⟨-, -, ka⟩ := kp_mem (p.mem_iff.1 (List.mem_of_getElem? ha))
  obtain ⟨-, -, kb⟩ := kp_mem (p.mem_iff.1 (List.mem_of_getElem? hb))
  have e1 := ka.resolve_left h3
  have e2 := kb.resolve_left h4
  rw [hp, hu, e2] at e1
  have tg : S.Pairwise (fun x y => x.2 ≠ y.2) := (p.symm.pairwise_iff (fun {a b} (h : a.2 ≠ b.2) => h.symm)).1 ((kp_tags (l := l) l.length).imp (fun h => by omega))
  obtain ⟨la, ea⟩ := List.getElem?_eq_some_iff.1 ha
  obtain ⟨lb, eb⟩ := List.getElem?_eq_some_iff.1 hb
  have := List.pairwise_iff_getElem.1 tg k i la lb hki
  rw [ea, eb] at this
  omega
theorem tr_next {l : List OrV} {q : Nat} {o : OrV} (h : l[q]? = some o) : (l.take (q + 1)).countP isTr = (l.take q).countP isTr + (if o.what = 3 then 1 else 0) := by
  have hq : q < l.length := (List.getElem?_eq_some_iff.1 h).1
  have e : l[q] = o := (List.getElem?_eq_some_iff.1 h).2
  rw [List.take_succ_eq_append_getElem hq, List.countP_append, e]
  by_cases h3 : o.what = 3 <;> simp [isTr, h3]
theorem tr_le (l : List OrV) (q : Nat) : (l.take q).countP isTr ≤ q := Nat.le_trans List.countP_le_length (by rw [List.length_take]; omega)
theorem tr_most (l : List OrV) (q : Nat) : (l.take q).countP isTr ≤ l.countP isTr := (List.take_sublist q l).countP_le
def l0 : List OrV := [⟨0, 2, 1, 5⟩, ⟨0, 1, 0, 0⟩, ⟨0, 2, 1, 6⟩]
theorem l0_last : LastSays l0 [⟨0, 1, 0, 0⟩, ⟨0, 2, 1, 6⟩] := by
  refine ⟨[(⟨0, 1, 0, 0⟩, 1), (⟨0, 2, 1, 6⟩, 2)], ?_, ?_, rfl⟩
  · have e : kp l0 l0.length = [(⟨0, 1, 0, 0⟩, 1), (⟨0, 2, 1, 6⟩, 2)] := by
      show kp l0 3 = _
      simp [kp, lf, updAt, l0]
    rw [e]
  · simp [lt, klt]
end So
end Go.Proofs.YtoabhfipikkkeaaGreatDoor

namespace Go.Proofs.YtoabhfipikkkeaaGreatDoor
namespace So
set_option linter.unusedVariables false
/-- x may stand ahead of y. -/
def Ro2 (x y : OrV) : Prop := ¬ klt y x ∧ (¬ x.what = 3 → ¬ y.what = 3 → x.player = y.player → ¬ x.unit = y.unit)
theorem LastSays.lo {l out : List OrV} (h : LastSays l out) : out.Pairwise Ro2 := by
  rw [List.pairwise_iff_getElem]
  intro k i hk hi hki
  refine ⟨?_, fun h3 h4 hp => h.once hki (List.getElem?_eq_getElem hk) (List.getElem?_eq_getElem hi) h3 h4 hp⟩
  obtain ⟨S, p, r, rfl⟩ := h
  simp only [List.length_map] at hk hi
  have := List.pairwise_iff_getElem.1 r k i hk hi hki
  simp only [List.getElem_map]
  rcases this with h | h
  · exact klt_asym h
  · exact h.1
theorem kp_all {out : List OrV} (h : out.Pairwise Ro2) : ∀ q, q ≤ out.length → (kp out q).map Prod.fst = out.take q
  | 0, _ => by simp [kp]
  | q + 1, hq => by
    have hl : q < out.length := by omega
    obtain ⟨o, ho⟩ : ∃ o, out[q]? = some o := ⟨_, List.getElem?_eq_getElem hl⟩
    have ih := kp_all h q (by omega)
    have hc : o.what = 3 ∨ lf out out.length o.player o.unit = (q : Nat) := by
      by_cases h3 : o.what = 3
      · exact .inl h3
      · refine .inr (lf_last ho h3 hl fun k x h1 h2 hx => ?_)
        by_cases hx3 : x.what = 3
        · exact .inl hx3
        · refine .inr ?_
          have := (List.pairwise_iff_getElem.1 h q k hl h2 h1).2
          have e1 : out[q] = o := by have := List.getElem?_eq_getElem hl; rw [ho] at this; exact (Option.some.inj this).symm
          have e2 : out[k] = x := by have := List.getElem?_eq_getElem h2; rw [hx] at this; exact (Option.some.inj this).symm
          rw [e1, e2] at this
          by_cases hp : x.player = o.player
          · exact .inr (fun hu => this h3 hx3 hp.symm hu.symm)
          · exact .inl hp
    have e1 : out[q] = o := by have := List.getElem?_eq_getElem hl; rw [ho] at this; exact (Option.some.inj this).symm
    rw [kp_yes ho hc, List.map_append, ih, List.take_succ_eq_append_getElem hl, e1]
    rfl
theorem lo_last {out : List OrV} (h : out.Pairwise Ro2) : LastSays out out := by
  have e := kp_all h out.length (Nat.le_refl _)
  rw [List.take_length] at e
  refine ⟨kp out out.length, List.Perm.refl _, ?_, e.symm⟩
  have h1 := kp_tags (l := out) out.length
  have h2 : ((kp out out.length).map Prod.fst).Pairwise Ro2 := by rw [e]; exact h
  rw [List.pairwise_map] at h2
  exact (h1.and h2).imp fun ⟨a, b⟩ => .inr ⟨b.1, a⟩
theorem LastSays.again {l out : List OrV} (h : LastSays l out) : LastSays out out := lo_last h.lo
theorem LastSays.fault {l out : List OrV} (h : LastSays l out) (hf : Od.faults l = 0) : Od.faults out = 0 := by
  obtain ⟨h1, h2⟩ := Od.faults_ok hf
  exact Od.faults_of (Nat.le_trans h.len h1) fun o ho => h2 o (h.mem ho)
def l1 : List OrV := [⟨1, 7, 1, 5⟩, ⟨1, 7, 0, 0⟩]
theorem l1_last : LastSays l1 [⟨1, 7, 0, 0⟩] := by
  refine ⟨[(⟨1, 7, 0, 0⟩, 1)], ?_, by simp, rfl⟩
  have e : kp l1 l1.length = [(⟨1, 7, 0, 0⟩, 1)] := by
    show kp l1 2 = _
    simp [kp, lf, updAt, l1]
  rw [e]
theorem l1_fault : Od.faults l1 = 0 := Od.faults_of (by decide) (by intro o ho; simp [l1] at ho; rcases ho with rfl | rfl <;> (unfold Od.bad; simp only; omega))
end So
end Go.Proofs.YtoabhfipikkkeaaGreatDoor

namespace Go.Proofs.YtoabhfipikkkeaaGreatDoor
open Go.RowKit Go.Proofs.YtoabhfipikkkeaaGreatDoor.So
set_option linter.unusedVariables false

namespace Wy
/-- each is t, or has one beside it that is nearer by just the step onto it. -/
def snd (nb : Nat → List Int) (st : Nat → Nat → Int) (t : Nat) (l : List Int) (n : Nat) : Bool := (List.range n).all fun i => (decide (i = t) && decide (l.getD i 0 = 0)) || (nb i).any fun x => decide (0 ≤ x) && decide (0 < st i x.toNat) && decide (0 ≤ l.getD x.toNat (-1)) && decide (l.getD i 0 = st i x.toNat + l.getD x.toNat (-1))
theorem snd_sound {nb : Nat → List Int} {st : Nat → Nat → Int} {t : Nat} {l : List Int} {n : Nat} (hn : l.length = n) (h : snd nb st t l n = true) : Sound nb st t l := by
  have key : ∀ (m i : Nat) (x : Int), l[i]? = some x → x ≤ (m : Int) → Way nb st t i x := by
    intro m
    induction m using Nat.strongRecOn with
    | ind m ih =>
      intro i x hx hm
      have hi : i < n := by rw [← hn]; exact (List.getElem?_eq_some_iff.1 hx).1
      unfold snd at h
      rw [List.all_eq_true] at h
      have h1 := h i (List.mem_range.2 hi)
      have hg : l.getD i 0 = x := by rw [List.getD_eq_getElem?_getD, hx]; rfl
      rw [Bool.or_eq_true] at h1
      rcases h1 with h1 | h1
      · rw [Bool.and_eq_true, decide_eq_true_eq, decide_eq_true_eq, hg] at h1
        obtain ⟨rfl, rfl⟩ := h1
        exact .here
      · rw [List.any_eq_true] at h1
        obtain ⟨y, hy, h2⟩ := h1
        simp only [Bool.and_eq_true, decide_eq_true_eq, hg] at h2
        obtain ⟨⟨⟨h3, h4⟩, h5⟩, h6⟩ := h2
        have hyl : ∃ z, l[y.toNat]? = some z ∧ l.getD y.toNat (-1) = z := by
          rw [List.getD_eq_getElem?_getD] at h5 ⊢
          cases e : l[y.toNat]? with
          | none => rw [e] at h5; simp at h5
          | some z => exact ⟨z, rfl, rfl⟩
        obtain ⟨z, hz, ez⟩ := hyl
        rw [ez] at h5 h6
        have hz0 : z < (m : Int) := by omega
        have hw := ih z.toNat (by omega) y.toNat z hz (by omega)
        rw [h6]
        exact .step (by rw [Int.toNat_of_nonneg h3]; exact hy) h4 hw
  intro i x hx
  by_cases h0 : 0 ≤ x
  · exact .inr (key x.toNat i x hx (by omega))
  · exact .inr (key 0 i x hx (by omega))
theorem far_dec {W H : Nat} {st : Nat → Nat → Int} {t : Nat} {l : List Int} (hW : 0 < W) (h1 : l.length = W * H) (h2 : l[t]? = some 0) (h3 : snd (Fd.near W H) st t l (W * H) = true) (h4 : pchk (Fd.near W H) st l (W * H) = true) : IsFar (Fd.near W H) st t (W * H) l := by
  refine far_of h1 ?_ h2 (snd_sound h1 h3) (chk_shut h4)
  intro i j hi hj
  obtain ⟨t, h1, h2, -⟩ := Fd.near_cell (W := W) (H := H) hW hi hj
  omega
theorem flat_dec {l : List Int} (h : l.all (fun x => decide (x < 0 ∨ x + 2 ≤ 2 * told l)) = true) : Flat l := by
  intro i x hx
  rw [List.all_eq_true] at h
  have := h x (List.mem_of_getElem? hx)
  simpa using this
theorem nx_dec {nb : Nat → List Int} {ss l : List Int} {i j : Nat} (k : Nat) (h1 : (nb i)[k]? = some (j : Int)) (h2 : pn ss l i j = true) (h3 : ((nb i).take k).any (pn ss l i) = false) : Nx nb ss l i j := ⟨k, h1, h2, h3⟩
end Wy
open Wy

/-- the fact's kinds of package marchtop. -/
def OB : KV := ⟨⟨#[98, 97, 115, 101]⟩, 50, 0, 0, 0, 0, 0, 0, 0, false, true⟩
def OD : KV := ⟨⟨#[100, 105, 103, 103, 101, 114]⟩, 10, 0, 0, 0, 2, 0, 0, 20, false, false⟩
def OK : List KV := [OB, OD]
def OSS : List Int := SG.map fun g => Fd.onto g false
def ob : UnV := ⟨1, 0, 0, 0, 50, 0, 0, 0⟩
def od (a ld tk g : Int) : UnV := ⟨2, 0, 1, a, 10, ld, tk, g⟩
def OW (tn : Int) (ore : Int) (gold : Int) (d : UnV) : WV := ⟨tn, 3, 4, 2, SG, [0, 0, 0, 0, 0, 0, ore, 0], [gold], [ob, d], []⟩
def l0 : List Int := [0, 1, 2, 3, 1, 2, 3, 4]
def l6 : List Int := [3, 2, 1, 2, 2, 1, 0, 1]
def l2 : List Int := [2, 1, 0, 1, 3, 2, 1, 2]
def l1 : List Int := [1, 0, 1, 2, 2, 1, 2, 3]
theorem far0 : IsFar (Fd.near 4 2) (fun _ j => OSS.getD j 0) 0 8 l0 := far_dec (W := 4) (H := 2) (by decide) rfl rfl (by decide +kernel) (by decide +kernel)
theorem far6 : IsFar (Fd.near 4 2) (fun _ j => OSS.getD j 0) 6 8 l6 := far_dec (W := 4) (H := 2) (by decide) rfl rfl (by decide +kernel) (by decide +kernel)
theorem from6 : IsFar (Fd.near 4 2) (fun i _ => OSS.getD i 0) 6 8 l6 := far_dec (W := 4) (H := 2) (by decide) rfl rfl (by decide +kernel) (by decide +kernel)
theorem from2 : IsFar (Fd.near 4 2) (fun i _ => OSS.getD i 0) 2 8 l2 := far_dec (W := 4) (H := 2) (by decide) rfl rfl (by decide +kernel) (by decide +kernel)
theorem from1 : IsFar (Fd.near 4 2) (fun i _ => OSS.getD i 0) 1 8 l1 := far_dec (W := 4) (H := 2) (by decide) rfl rfl (by decide +kernel) (by decide +kernel)
/-- where the base wishes. -/
theorem wish_b (tn ore gold : Int) (d : UnV) : WishSays OK (OW tn ore gold d) 4 2 ob OB 0 := ⟨0, 0, l0, rfl, .inl ⟨rfl, rfl⟩, by decide, ⟨far0, flat_dec (by decide +kernel)⟩, .inr ⟨by decide, .inl ⟨rfl, rfl⟩⟩⟩
theorem goes_b (tn ore gold : Int) (d : UnV) : Goes OK (OW tn ore gold d) 4 2 OB 0 [ob, d] OB.n4 [] [ob, d] :=
  .stop (u := ob) (c := 0) (gg := 0) rfl (wish_b tn ore gold d) rfl (.inl (by decide))
/-- where the digger wishes while it digs. -/
theorem wish_d (tn ore gold : Int) {a c : Nat} {ld : Int} (h1 : (ld == 20 || ore == 0) = false) (h2 : Nxt (Fd.near 4 2) OSS l6 6 a c) (h3 : 0 ≤ l6.getD a 0) : WishSays OK (OW tn ore gold (od a ld 2 6)) 4 2 (od a ld 2 6) OD c :=
  ⟨a, 6, l6, rfl, .inr (.inl ⟨by simp [od], fun h => by
    have h9 : doneU (OW tn ore gold (od a ld 2 6)).os (od a ld 2 6) OD = (ld == 20 || ore == 0) := rfl
    rw [h9, h1] at h
    exact Bool.noConfusion h.2, rfl⟩), by decide, ⟨far6, flat_dec (by decide +kernel)⟩, .inr ⟨h3, h2⟩⟩
/-- where it wishes when it has all it can carry. -/
theorem wish_h (tn ore gold : Int) {a c : Nat} {l : List Int} (hl : IsFar (Fd.near 4 2) (fun i _ => OSS.getD i 0) a 8 l) (hf : Flat l) (hh : homeAt OK [ob, od a 20 2 6] l (od a 20 2 6) = 0) (h2 : Nxt (Fd.near 4 2) OSS l0 0 a c) (h3 : 0 ≤ l0.getD a 0) : WishSays OK (OW tn ore gold (od a 20 2 6)) 4 2 (od a 20 2 6) OD c :=
  ⟨a, 0, l0, rfl, .inr (.inr ⟨rfl, rfl, l, ⟨hl, hf⟩, hh.symm⟩), by decide, ⟨far0, flat_dec (by decide +kernel)⟩, .inr ⟨h3, h2⟩⟩
theorem moves1 : ∃ evs, Moves OK (OW 0 30 0 (od 1 0 2 6)) 4 2 0 [ob, od 1 0 2 6] evs [ob, od 6 0 2 6] := by
  have g3 : Goes OK (OW 0 30 0 (od 1 0 2 6)) 4 2 OD 1 [ob, od 6 0 2 6] 0 [] [ob, od 6 0 2 6] := .stop (u := od 6 0 2 6) (c := 6) (gg := 0) rfl (wish_d 0 30 0 (a := 6) (by decide) (.inl ⟨rfl, rfl⟩) (by decide)) rfl (.inl (by decide))
  have g2 : Goes OK (OW 0 30 0 (od 1 0 2 6)) 4 2 OD 1 [ob, od 2 0 2 6] 1 [6] [ob, od 6 0 2 6] := .step (u := od 2 0 2 6) (c := 6) (gg := 0) rfl (wish_d 0 30 0 (a := 2) (by decide) (.inr ⟨by decide, nx_dec 2 (by decide +kernel) (by decide +kernel) (by decide +kernel)⟩) (by decide)) rfl (by decide) (by decide) g3
  have g1 : Goes OK (OW 0 30 0 (od 1 0 2 6)) 4 2 OD 1 [ob, od 1 0 2 6] OD.n4 [2, 6] [ob, od 6 0 2 6] := .step (u := od 1 0 2 6) (c := 2) (gg := 0) rfl (wish_d 0 30 0 (a := 1) (by decide) (.inr ⟨by decide, nx_dec 1 (by decide +kernel) (by decide +kernel) (by decide +kernel)⟩) (by decide)) rfl (by decide) (by decide) g2
  exact ⟨_, .unit (u := ob) (k := OB) (u1 := ob) rfl rfl (goes_b _ _ _ _) rfl (.unit (u := od 1 0 2 6) (k := OD) (u1 := od 6 0 2 6) rfl rfl g1 rfl (.done rfl))⟩
end Go.Proofs.YtoabhfipikkkeaaGreatDoor

namespace Go.Proofs.YtoabhfipikkkeaaGreatDoor
open Go.RowKit Go.Proofs.YtoabhfipikkkeaaGreatDoor.So Wy
set_option linter.unusedVariables false

theorem moves2 : ∃ evs, Moves OK (OW 1 20 0 (od 6 10 2 6)) 4 2 0 [ob, od 6 10 2 6] evs [ob, od 6 10 2 6] := by
  have g1 : Goes OK (OW 1 20 0 (od 6 10 2 6)) 4 2 OD 1 [ob, od 6 10 2 6] OD.n4 [] [ob, od 6 10 2 6] := .stop (u := od 6 10 2 6) (c := 6) (gg := 0) rfl (wish_d 1 20 0 (a := 6) (by decide) (.inl ⟨rfl, rfl⟩) (by decide)) rfl (.inr (by decide))
  exact ⟨_, .unit (u := ob) (k := OB) (u1 := ob) rfl rfl (goes_b _ _ _ _) rfl (.unit (u := od 6 10 2 6) (k := OD) (u1 := od 6 10 2 6) rfl rfl g1 rfl (.done rfl))⟩
theorem moves3 : ∃ evs, Moves OK (OW 2 10 0 (od 6 20 2 6)) 4 2 0 [ob, od 6 20 2 6] evs [ob, od 1 20 2 6] := by
  have g3 : Goes OK (OW 2 10 0 (od 6 20 2 6)) 4 2 OD 1 [ob, od 1 20 2 6] 0 [] [ob, od 1 20 2 6] := .stop (u := od 1 20 2 6) (c := 0) (gg := 0) rfl (wish_h 2 10 0 (a := 1) from1 (flat_dec (by decide +kernel)) (by decide +kernel) (.inr ⟨by decide, nx_dec 0 (by decide +kernel) (by decide +kernel) (by decide +kernel)⟩) (by decide)) rfl (.inl (by decide))
  have g2 : Goes OK (OW 2 10 0 (od 6 20 2 6)) 4 2 OD 1 [ob, od 2 20 2 6] 1 [1] [ob, od 1 20 2 6] := .step (u := od 2 20 2 6) (c := 1) (gg := 0) rfl (wish_h 2 10 0 (a := 2) from2 (flat_dec (by decide +kernel)) (by decide +kernel) (.inr ⟨by decide, nx_dec 0 (by decide +kernel) (by decide +kernel) (by decide +kernel)⟩) (by decide)) rfl (by decide) (by decide) g3
  have g1 : Goes OK (OW 2 10 0 (od 6 20 2 6)) 4 2 OD 1 [ob, od 6 20 2 6] OD.n4 [2, 1] [ob, od 1 20 2 6] := .step (u := od 6 20 2 6) (c := 2) (gg := 0) rfl (wish_h 2 10 0 (a := 6) from6 (flat_dec (by decide +kernel)) (by decide +kernel) (.inr ⟨by decide, nx_dec 0 (by decide +kernel) (by decide +kernel) (by decide +kernel)⟩) (by decide)) rfl (by decide) (by decide) g2
  exact ⟨_, .unit (u := ob) (k := OB) (u1 := ob) rfl rfl (goes_b _ _ _ _) rfl (.unit (u := od 6 20 2 6) (k := OD) (u1 := od 1 20 2 6) rfl rfl g1 rfl (.done rfl))⟩
def oo : OrV := ⟨0, 2, 2, 6⟩
def OX : WV := OW 0 30 0 (od 1 0 0 0)
theorem gv1 : (gv OK OX [oo] 1).1 = OW 0 30 0 (od 1 0 2 6) := by rfl
theorem dug1 : dug OK 4 2 (OW 0 30 0 (od 6 0 2 6)) = OW 0 20 0 (od 6 10 2 6) := by rfl
theorem dug2 : dug OK 4 2 (OW 1 20 0 (od 6 10 2 6)) = OW 1 10 0 (od 6 20 2 6) := by rfl
theorem dug3 : dug OK 4 2 (OW 2 10 0 (od 1 20 2 6)) = OW 2 10 20 (od 1 0 2 6) := by rfl
theorem fgt (tn ore gold a ld : Int) (h : True) : fought OK 4 (OW tn ore gold (od a ld 2 6)) = OW tn ore gold (od a ld 2 6) := by rfl
theorem ph_of {A B C : WV} {us : List UnV} {evs : List EvV} (hq : A.qs = []) (hm : Moves OK A 4 2 0 A.us evs us) (hb : { A with us := us } = B) (hd : dug OK 4 2 B = C) (hf : fought OK 4 C = C) : ∃ es, Ph OK 4 2 A 4 C es := by
  have t : Tr OK A A.qs.length A [] [] := by rw [hq]; exact .zero
  have p1 : Ph OK 4 2 A 1 { A with qs := [] } [] := .one t
  have e : { A with qs := [] } = A := by rw [← hq]
  rw [e] at p1
  have p2 := Ph.two p1 hm
  rw [hb] at p2
  have p3 := Ph.three p2
  rw [hd] at p3
  have p4 := Ph.four p3
  rw [hf] at p4
  exact ⟨_, p4⟩
theorem step1 : ∃ es, StepR OK OX [oo] (OW 1 20 0 (od 6 10 2 6)) es := by
  obtain ⟨evs, hm⟩ := moves1
  obtain ⟨es, hp⟩ := ph_of (A := OW 0 30 0 (od 1 0 2 6)) rfl hm rfl dug1 (fgt _ _ _ _ _ trivial)
  exact ⟨es, [oo], 4, 2, _, lo_last (by simp), rfl, rfl, by rw [show [oo].length = 1 from rfl, gv1]; exact hp, rfl⟩
theorem step2 : ∃ es, StepR OK (OW 1 20 0 (od 6 10 2 6)) [] (OW 2 10 0 (od 6 20 2 6)) es := by
  obtain ⟨evs, hm⟩ := moves2
  obtain ⟨es, hp⟩ := ph_of (A := OW 1 20 0 (od 6 10 2 6)) rfl hm rfl dug2 (fgt _ _ _ _ _ trivial)
  exact ⟨es, [], 4, 2, _, lo_last (by simp), rfl, rfl, hp, rfl⟩
theorem step3 : ∃ es, StepR OK (OW 2 10 0 (od 6 20 2 6)) [] (OW 3 10 20 (od 1 0 2 6)) es := by
  obtain ⟨evs, hm⟩ := moves3
  obtain ⟨es, hp⟩ := ph_of (A := OW 2 10 0 (od 6 20 2 6)) rfl hm rfl dug3 (fgt _ _ _ _ _ trivial)
  exact ⟨es, [], 4, 2, _, lo_last (by simp), rfl, rfl, hp, rfl⟩
theorem ox_ok : Wd.wfault OK OX = 0 := by decide +kernel
theorem fault1 : stepFault OK OX [oo] = 0 := by decide +kernel
theorem fault2 : stepFault OK (OW 1 20 0 (od 6 10 2 6)) [] = 0 := by decide +kernel
theorem fault3 : stepFault OK (OW 2 10 0 (od 6 20 2 6)) [] = 0 := by decide +kernel
theorem play0 : PlayR OK OX [[oo], [], []] 0 OX := .zero
theorem play1 : PlayR OK OX [[oo], [], []] 1 (OW 1 20 0 (od 6 10 2 6)) := by
  obtain ⟨es, h⟩ := step1
  exact .turn .zero rfl fault1 h
theorem play2 : PlayR OK OX [[oo], [], []] 2 (OW 2 10 0 (od 6 20 2 6)) := by
  obtain ⟨es, h⟩ := step2
  exact .turn play1 rfl fault2 h
theorem play3 : PlayR OK OX [[oo], [], []] 3 (OW 3 10 20 (od 1 0 2 6)) := by
  obtain ⟨es, h⟩ := step3
  exact .turn play2 rfl fault3 h
/-- what the fact's Play tells. -/
theorem one_play {F : Int} {w w' : World} {v r : Value} (hs : PlaySays OK OX [[oo], [], []] F w w' v) (he : Er r F) : r = .nilIface ∧ Wo w' w.heap.size v (OW 3 10 20 (od 1 0 2 6)) := by
  rcases hs with ⟨hn, -, h1 | h1 | ⟨-, -, n, Z, l, p, hl', hf⟩⟩ | ⟨rfl, h1, h2, B, h3, h4⟩
  · exact absurd ox_ok h1.1
  · have := h1.2.1; simp at this
  · exfalso
    have hn2 : n < 3 := (List.getElem?_eq_some_iff.1 hl').1
    match n, hn2, hl', p with
    | 0, _, h, p =>
      obtain rfl := play_uniq play0 p
      simp at h
      subst h
      exact hn (hf.symm.trans fault1)
    | 1, _, h, p =>
      obtain rfl := play_uniq play1 p
      simp at h
      subst h
      exact hn (hf.symm.trans fault2)
    | 2, _, h, p =>
      obtain rfl := play_uniq play2 p
      simp at h
      subst h
      exact hn (hf.symm.trans fault3)
  · refine ⟨?_, ?_⟩
    · rcases he with ⟨-, h⟩ | ⟨h, -⟩
      · exact h
      · exact absurd rfl h
    · rw [play_uniq play3 h3]
      exact h4
end Go.Proofs.YtoabhfipikkkeaaGreatDoor

namespace Go.Proofs.YtoabhfipikkkeaaGreatDoor
open Go.RowKit
set_option linter.unusedVariables false

set_option maxRecDepth 100000 in
set_option maxHeartbeats 1000000 in
theorem lite_any (s : ByteArray) (c : Int) (w : World) :
    Calls Tryz.prog 196 #[.string s, .int .u8 c] w fun e w' => e = .returned (.int .i64 (Lib.indexByte s.data.toList c.toNat.toUInt8)) ∧ w' = w := by
  have hx := run_callFunc_extern (w := w) (args := #[.string s, .int .u8 c]) Tryz.func214 (by kernel_rfl) (by kernel_rfl) (by kernel_rfl) (e := Extern.BytealgIndexByte.indexByte) (by kernel_rfl)
  go_enter Tryz.func196, Tryz.ntmps196
  go_wp2
  rw [Lib.run_indexByteString]
  simp only [Result.andThen]
  rw [Oper.upon_value]
  go_wp2
  go_ret
  exact ⟨rfl, rfl⟩

set_option maxHeartbeats 1000000 in
theorem idx_byte (s : ByteArray) (c : Int) (w : World) :
    Calls Tryz.prog 160 #[.string s, .int .u8 c] w fun e w' => e = .returned (.int .i64 (Lib.indexByte s.data.toList c.toNat.toUInt8)) ∧ w' = w := by
  have K : Hid (Calls Tryz.prog 196 #[.string s, .int .u8 c] w fun e w' => e = .returned (.int .i64 (Lib.indexByte s.data.toList c.toNat.toUInt8)) ∧ w' = w) := lite_any s c w
  go_enter Tryz.func160, Tryz.ntmps160
  go_wp2_with fail
  refine Calls.mono K.out ?_
  rintro e w' ⟨rfl, rfl⟩
  go_wp2
  go_ret
  exact ⟨rfl, rfl⟩

namespace Fd
/-- the number of a sign's ground; -1: there is none. -/
def gnum (b : UInt8) : Int := if b = 46 then 0 else if b = 35 then 1 else if b = 126 then 2 else if b = 94 then 3 else -1
theorem gnum_meant (b : UInt8) (h : ¬ (49 ≤ b.toNat ∧ b.toNat ≤ 57)) : meant b = if 0 ≤ gnum b then some (gnum b, 0) else none := by
  unfold meant gnum
  rw [if_neg h]
  split
  · rfl
  · split
    · rfl
    · split
      · rfl
      · split
        · rfl
        · rfl
end Fd

theorem idx_sign (b : UInt8) : Lib.indexByte [46, 35, 126, 94] b = Fd.gnum b := by
  unfold Fd.gnum
  by_cases h1 : b = 46
  · subst h1; decide
  · by_cases h2 : b = 35
    · subst h2; decide
    · by_cases h3 : b = 126
      · subst h3; decide
      · by_cases h4 : b = 94
        · subst h4; decide
        · have g1 : ¬ 46 = b := fun h => h1 h.symm
          have g2 : ¬ 35 = b := fun h => h2 h.symm
          have g3 : ¬ 126 = b := fun h => h3 h.symm
          have g4 : ¬ 94 = b := fun h => h4 h.symm
          simp [Lib.indexByte, h1, h2, h3, h4, g1, g2, g3, g4]

set_option maxHeartbeats 1000000 in
theorem meant_any (b : UInt8) (w : World) :
    Calls Tryz.prog 126 #[.int .u8 (b.toNat : Nat)] w fun e w' => (∃ g o, Fd.meant b = some (g, o) ∧ e = .returned (.tuple #[.int .i64 g, .int .i64 o, .bool true]) ∧ w' = w) ∨ (Fd.meant b = none ∧ e = .returned (.tuple #[.int .i64 (-1), .int .i64 0, .bool false]) ∧ w' = w) := by
  have hb := b.toNat_lt
  by_cases h : 49 ≤ b.toNat ∧ b.toNat ≤ 57
  · have e : Fd.meant b = some (0, ((b.toNat : Int) - 48) * 10) := by unfold Fd.meant; rw [if_pos h]
    have E : Hid _ := e
    obtain ⟨h1, h2⟩ := h
    clear e
    generalize b.toNat = n at *
    have w1 : IntKind.u8.wrap ((n : Int) - 48) = (n : Int) - 48 := by rw [IntKind.wrap_u8]; omega
    go_enter Tryz.func126, Tryz.ntmps126
    go_wp2
    go_ret3
    exact .inl ⟨_, _, E.out, rfl, rfl⟩
  · have e := Fd.gnum_meant b h
    have I : Hid (Calls Tryz.prog 160 #[.string ⟨#[46, 35, 126, 94]⟩, .int .u8 (b.toNat : Nat)] w fun e w' => e = .returned (.int .i64 (Fd.gnum b)) ∧ w' = w) := by
      refine (idx_byte ⟨#[46, 35, 126, 94]⟩ (b.toNat : Nat) w).mono ?_
      rintro e w' ⟨rfl, rfl⟩
      refine ⟨?_, rfl⟩
      have e2 : ((b.toNat : Nat) : Int).toNat.toUInt8 = b := by rw [Int.toNat_natCast]; exact UInt8.ofNat_toNat
      rw [e2]
      rw [← idx_sign b]
    have gl : -1 ≤ Fd.gnum b := by unfold Fd.gnum; split <;> (try split) <;> (try split) <;> (try split) <;> omega
    generalize Fd.gnum b = g at *
    by_cases hg : 0 ≤ g
    · have E : Hid (Fd.meant b = some (g, 0)) := by unfold Hid; rw [e, if_pos hg]
      clear e
      by_cases h1 : 49 ≤ b.toNat
      · have h2 : ¬ b.toNat ≤ 57 := by omega
        clear h
        go_enter Tryz.func126, Tryz.ntmps126
        go_wp2_with fail
        refine Calls.mono I.out ?_
        rintro e w' ⟨rfl, rfl⟩
        go_wp2
        go_ret3
        exact .inl ⟨_, _, E.out, rfl, rfl⟩
      · clear h
        go_enter Tryz.func126, Tryz.ntmps126
        go_wp2_with fail
        refine Calls.mono I.out ?_
        rintro e w' ⟨rfl, rfl⟩
        go_wp2
        go_ret3
        exact .inl ⟨_, _, E.out, rfl, rfl⟩
    · obtain rfl : g = -1 := by omega
      have E : Hid (Fd.meant b = none) := by unfold Hid; rw [e, if_neg hg]
      clear e gl hg
      by_cases h1 : 49 ≤ b.toNat
      · have h2 : ¬ b.toNat ≤ 57 := by omega
        clear h
        go_enter Tryz.func126, Tryz.ntmps126
        go_wp2_with fail
        refine Calls.mono I.out ?_
        rintro e w' ⟨rfl, rfl⟩
        go_wp2
        go_ret3
        exact .inr ⟨E.out, rfl, rfl⟩
      · clear h
        go_enter Tryz.func126, Tryz.ntmps126
        go_wp2_with fail
        refine Calls.mono I.out ?_
        rintro e w' ⟨rfl, rfl⟩
        go_wp2
        go_ret3
        exact .inr ⟨E.out, rfl, rfl⟩
end Go.Proofs.YtoabhfipikkkeaaGreatDoor

namespace Go.Proofs.YtoabhfipikkkeaaGreatDoor
open Go.RowKit
set_option linter.unusedVariables false

/-- two lists in blocks of their own, which are two. -/
structure Two (w : World) (base : Nat) (u1 u2 : Value) (gs os : List Int) : Prop where
  o1 : Ow w base u1 gs
  o2 : Ow w base u2 os
  ne : ∀ k, u1.ownBlock = some k → u2.ownBlock ≠ some k
theorem Two.below {w w' : World} {base n : Nat} {u1 u2 : Value} {gs os : List Int} (h : Two w base u1 u2 gs os) (hb : Below n w w') (hn : w.heap.size ≤ n) : Two w' base u1 u2 gs os :=
  ⟨h.o1.below (hb.mono hn), h.o2.below (hb.mono hn), h.ne⟩
/-- what stays where one block below the base turns. -/
theorem Two.kp {w w' : World} {base z : Nat} {u1 u2 : Value} {gs os : List Int} (h : Two w base u1 u2 gs os) (hk : Kp z w w') (hz : z < base) : Two w' base u1 u2 gs os := by
  have hg : w.grownBy w' (some z) := ⟨hk.os, hk.tape, hk.output, hk.size, fun k hk' hne => hk.block k hk' (fun e => hne (by rw [e]))⟩
  refine ⟨h.o1.kept hg ?_, h.o2.kept hg ?_, h.ne⟩
  · right; intro e; have := (h.o1.block z e).1; omega
  · right; intro e; have := (h.o2.block z e).1; omega

/-- the block of a draft. -/
def Dt (w : World) (z : Nat) (u1 u2 : Value) (s : Fd.St) : Prop := w.heap[z]? = some (.cells #[.int .i64 (s.W : Nat), .int .i64 (s.H : Nat), u1, u2, .int .i64 (s.c : Nat)] 132 (0, 0))
/-- a draft. -/
def Dr (w : World) (z : Nat) (s : Fd.St) : Prop := ∃ u1 u2, Dt w z u1 u2 s ∧ Two w (z + 1) u1 u2 s.gs s.os

section
variable {w : World} {z : Nat} {u1 u2 : Value} {s : Fd.St}
theorem Dt.c0 (h : Dt w z u1 u2 s) : w.cell? ⟨z, 0, none⟩ = some (.int .i64 (s.W : Nat)) := by unfold Dt at h; simp [World.cell?, h]
theorem Dt.c1 (h : Dt w z u1 u2 s) : w.cell? ⟨z, 1, none⟩ = some (.int .i64 (s.H : Nat)) := by unfold Dt at h; simp [World.cell?, h]
theorem Dt.c2 (h : Dt w z u1 u2 s) : w.cell? ⟨z, 2, none⟩ = some u1 := by unfold Dt at h; simp [World.cell?, h]
theorem Dt.c3 (h : Dt w z u1 u2 s) : w.cell? ⟨z, 3, none⟩ = some u2 := by unfold Dt at h; simp [World.cell?, h]
theorem Dt.c4 (h : Dt w z u1 u2 s) : w.cell? ⟨z, 4, none⟩ = some (.int .i64 (s.c : Nat)) := by unfold Dt at h; simp [World.cell?, h]
theorem Dt.fz (h : Dt w z u1 u2 s) (i : Nat) : w.frozen? ⟨z, i, none⟩ = false := by unfold Dt at h; simp [World.frozen?, h]
theorem Dt.lt (h : Dt w z u1 u2 s) : z < w.heap.size := lt_of_block h
theorem Dt.below {w' : World} {n : Nat} (h : Dt w z u1 u2 s) (hb : Below n w w') (hz : z < n) : Dt w' z u1 u2 s := (hb.block z hz).trans h
end

set_option maxHeartbeats 1000000 in
theorem end_bad (z : Nat) (u1 u2 : Value) (s : Fd.St) (w : World) (h : Dt w z u1 u2 s) (hc : s.c ≤ 12) (hw : s.W ≤ 12) (hb : s.c = 0 ∨ s.c < s.W) :
    Calls Tryz.prog 125 #[.pointer (some ⟨z, 0, none⟩)] w fun e w' => e = .returned (.iface 99 (.int .i64 2)) ∧ ∃ n, w' = w.drewN n := by
  have c0 := h.c0
  have c4 := h.c4
  obtain ⟨c, W, H, gs, os⟩ := s
  simp only at hc hw hb c0 c4
  clear h
  by_cases q : c = 0
  · subst q
    go_enter Tryz.func125, Tryz.ntmps125
    go_wp2_with fail
    go_quiet (fail)
    go_wp2
    go_ret
    exact ⟨rfl, _, rfl⟩
  · have q2 : c < W := by omega
    have q' : ((c : Int) == 0) = false := by rw [beq_eq_false_iff_ne]; omega
    clear hb
    go_enter Tryz.func125, Tryz.ntmps125
    go_wp2_with fail
    go_quiet (fail)
    go_wp2
    go_ret
    exact ⟨rfl, _, rfl⟩

set_option maxHeartbeats 1000000 in
theorem end_ok (z : Nat) (u1 u2 : Value) (s : Fd.St) (w : World) (h : Dt w z u1 u2 s) (hc : s.c ≤ 12) (hw : s.W ≤ 12) (hh : s.H ≤ 12) (h0 : s.c ≠ 0) (h1 : ¬ s.c < s.W) :
    Calls Tryz.prog 125 #[.pointer (some ⟨z, 0, none⟩)] w fun e w' => e = .returned .nilIface ∧ Dt w' z u1 u2 ⟨0, s.c, s.H + 1, s.gs, s.os⟩ ∧ Kp z w w' := by
  have D : Hid (Dt w z u1 u2 s) := h
  have c0 := h.c0
  have c1 := h.c1
  have c4 := h.c4
  have f0 := h.fz 0
  have f1 := h.fz 1
  have f4 := h.fz 4
  obtain ⟨c, W, H, gs, os⟩ := s
  simp only at hc hw hh h0 h1 c0 c1 c4
  have q' : ((c : Int) == 0) = false := by rw [beq_eq_false_iff_ne]; omega
  clear h
  go_enter Tryz.func125, Tryz.ntmps125
  go_wp2_with fail
  go_quiet (fail)
  have Dq : Hid (Dt (w.drewN nq) z u1 u2 ⟨c, W, H, gs, os⟩) := D.out
  have Kq : Hid (Kp z w (w.drewN nq)) := (Kp.refl z w).drewN nq
  have c0 : (w.drewN nq).cell? ⟨z, 0, none⟩ = some (.int .i64 (W : Nat)) := Dq.out.c0
  have c1 : (w.drewN nq).cell? ⟨z, 1, none⟩ = some (.int .i64 (H : Nat)) := Dq.out.c1
  have c4 : (w.drewN nq).cell? ⟨z, 4, none⟩ = some (.int .i64 (c : Nat)) := Dq.out.c4
  have f0 := Dq.out.fz 0
  have f1 := Dq.out.fz 1
  have f4 := Dq.out.fz 4
  generalize w.drewN nq = w1 at *
  go_wp2
  go_ret
  refine ⟨rfl, ?_, ?_⟩
  · unfold Dt
    rw [heap_setCell_same _ z 4 _ _ _ (heap_setCell_same _ z 1 _ _ _ (heap_setCell_same w1 z 0 _ _ _ Dq.out))]
    simp
  · exact ((Kq.out.trans (Kp.set _ _ _)).trans (Kp.set _ _ _)).trans (Kp.set _ _ _)
end Go.Proofs.YtoabhfipikkkeaaGreatDoor

