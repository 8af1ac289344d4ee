/- The reference's Step. · Whole lists behind whole lists, as long as the machine's reach lets them be; the reference's Copy of any world wants them. · The reference's Copy of any world that came in. · Lists of lists of orders. · turn.Play. · Move: there is one answer: plain mathematics. · Turns have one answer; played in parts they come to the same; a world stays right. Plain mathematics. -/
import Derived.Test.YteieikgkmfglaaaGreatDoorZTurnPlays8
import Derived.Test.YteieikgkmfglaaaGreatDoorZTurnPlays11
import Derived.Test.YteieikgkmfglaaaGreatDoorZTurnPlays17
import Derived.Test.YteieikgkmfglaaaGreatDoorZTurnPlays19
import Derived.Test.YteieikgkmfglaaaGreatDoorZTurnPlays23
import Derived.Test.YteieikgkmfglaaaGreatDoorZTurnPlays6
import Derived.Test.YteieikgkmfglaaaGreatDoorZTurnPlays25
import Derived.Test.YteieikgkmfglaaaGreatDoorZTurnPlays32
import Derived.Test.YteieikgkmfglaaaGreatDoorZTurnPlays1
import Derived.Test.YteieikgkmfglaaaGreatDoorZTurnPlays5
import Derived.Test.YteieikgkmfglaaaGreatDoorZTurnPlays4
import Derived.Test.YteieikgkmfglaaaGreatDoorZTurnPlays18
import Derived.Test.YteieikgkmfglaaaGreatDoorZTurnPlays13
namespace Go.Proofs.YteieikgkmfglaaaGreatDoor
open Go.RowKit Go.Proofs.YteieikgkmfglaaaGreatDoor.So
set_option linter.unusedVariables false

/-- hidden from all that looks for contradictions. -/
structure Sc (p : Prop) : Prop where
  out : p
theorem turn_in {ks : List KV} {X : WV} (h : WRight ks X) : 0 ≤ X.turn ∧ X.turn ≤ 1000000 := by
  have := h.nums
  unfold Wd.numsBad at this
  simp only [Bool.or_eq_false_iff] at this
  obtain ⟨h1, -⟩ := this
  unfold Wd.off at h1
  simpa using h1
set_option maxRecDepth 100000 in
set_option maxHeartbeats 64000000 in
theorem rstep_any (vk vw vl : Value) (ks : List KV) (X : WV) (l : List OrV) (w : World) (hk : Kl w vk ks) (hkb : ∀ k ∈ ks, k.b.size ≤ 9223372036854775807) (hw : Wl w vw X) (hl : Orl w vl l) (hs : Sd w) :
    Calls Tryz.prog 21 #[vk, vw, vl] w fun e w' => ∃ v ev, e = .returned (.tuple #[v, ev, .int .i64 (stepFault ks X l)]) ∧ StepSays ks X l w w' v ev ∧ Below w.heap.size w w' := by
  have K : Hid (Kl w vk ks ∧ ∀ k ∈ ks, k.b.size ≤ 9223372036854775807) := ⟨hk, hkb⟩
  have H : Hid (Wl w vw X) := hw
  have L : Hid (Orl w vl l) := hl
  have SDH : Hid (Sd w) := hs
  obtain ⟨p1, q1, p2, q2, p3, q3, p4, q4, p5, q5, rfl⟩ := wl_shape9 hw
  obtain ⟨pk, qk, rfl, ck1, ck2, -⟩ := hk
  obtain ⟨pl, ql, rfl, cl1, cl2, -⟩ := hl
  clear hw hs hkb
  go_enter Tryz.func21, Tryz.ntmps21
  go_upto_region 1 with fail
  obtain ⟨b, hb0⟩ : ∃ z, w.heap.size = z := ⟨_, rfl⟩
  have B0 : Hid (Below w.heap.size w ((w.alloc (Obj.cells #[.int .i64 X.turn, .int .i64 X.next, .int .i64 X.wide, .int .i64 X.high, .slice p1 X.gs.length q1, .slice p2 X.os.length q2, .slice p3 X.gold.length q3, .slice p4 X.us.length q4, .slice p5 X.qs.length q5] 29)).alloc (Obj.cells #[.int .i64 0, .int .i64 0, .int .i64 0, .int .i64 0, .slice none 0 0, .slice none 0 0, .slice none 0 0, .slice none 0 0, .slice none 0 0] 29))) := ((Below.refl _ _).alloc (Nat.le_refl _) _).alloc (by simp) _
  have X0 : Hid (Wx ((w.alloc (Obj.cells #[.int .i64 X.turn, .int .i64 X.next, .int .i64 X.wide, .int .i64 X.high, .slice p1 X.gs.length q1, .slice p2 X.os.length q2, .slice p3 X.gold.length q3, .slice p4 X.us.length q4, .slice p5 X.qs.length q5] 29)).alloc (Obj.cells #[.int .i64 0, .int .i64 0, .int .i64 0, .int .i64 0, .slice none 0 0, .slice none 0 0, .slice none 0 0, .slice none 0 0, .slice none 0 0] 29)) b (.int .i64 X.turn) (.int .i64 X.next) (.int .i64 X.wide) (.int .i64 X.high) (.slice p1 X.gs.length q1) (.slice p2 X.os.length q2) (.slice p3 X.gold.length q3) (.slice p4 X.us.length q4) (.slice p5 X.qs.length q5)) := (Wx.new (w := w) _ _ _ _ _ _ _ _ _ hb0).below ((Below.refl _ _).alloc (Nat.le_refl _) _) (by rw [← hb0]; simp)
  have Z0 : Hid (Wx ((w.alloc (Obj.cells #[.int .i64 X.turn, .int .i64 X.next, .int .i64 X.wide, .int .i64 X.high, .slice p1 X.gs.length q1, .slice p2 X.os.length q2, .slice p3 X.gold.length q3, .slice p4 X.us.length q4, .slice p5 X.qs.length q5] 29)).alloc (Obj.cells #[.int .i64 0, .int .i64 0, .int .i64 0, .int .i64 0, .slice none 0 0, .slice none 0 0, .slice none 0 0, .slice none 0 0, .slice none 0 0] 29)) (b + 1) (.int .i64 0) (.int .i64 0) (.int .i64 0) (.int .i64 0) (.slice none 0 0) (.slice none 0 0) (.slice none 0 0) (.slice none 0 0) (.slice none 0 0)) := Wx.new _ _ _ _ _ _ _ _ _ (by rw [← hb0]; simp)
  have HB : Hid (w.heap.size = b) := hb0
  (try rw [hb0])
  clear hb0
  generalize ((w.alloc (Obj.cells #[.int .i64 X.turn, .int .i64 X.next, .int .i64 X.wide, .int .i64 X.high, .slice p1 X.gs.length q1, .slice p2 X.os.length q2, .slice p3 X.gold.length q3, .slice p4 X.us.length q4, .slice p5 X.qs.length q5] 29)).alloc (Obj.cells #[.int .i64 0, .int .i64 0, .int .i64 0, .int .i64 0, .slice none 0 0, .slice none 0 0, .slice none 0 0, .slice none 0 0, .slice none 0 0] 29)) = w0 at *
  obtain ⟨x0, x1, x2, x3, x4, x5, x6, x7, x8⟩ := X0.out.cells
  go_wp2_with fail
  refine (rcheck_any _ _ ks X w0 (K.out.1.below B0.out) K.out.2 (H.out.below B0.out)).mono ?_
  rintro e w1 ⟨f, rfl, hf, hb⟩
  have HF : Sc (Wd.wfault ks X = f) := ⟨hf.symm⟩
  have B1 : Hid (Below w.heap.size w w1) := B0.out.trans (hb.mono B0.out.size)
  have X1 : Hid (Wx w1 b (.int .i64 X.turn) (.int .i64 X.next) (.int .i64 X.wide) (.int .i64 X.high) (.slice p1 X.gs.length q1) (.slice p2 X.os.length q2) (.slice p3 X.gold.length q3) (.slice p4 X.us.length q4) (.slice p5 X.qs.length q5)) := X0.out.below hb X0.out.lt
  have Z1 : Hid (Wx w1 (b + 1) (.int .i64 0) (.int .i64 0) (.int .i64 0) (.int .i64 0) (.slice none 0 0) (.slice none 0 0) (.slice none 0 0) (.slice none 0 0) (.slice none 0 0)) := Z0.out.below hb Z0.out.lt
  clear hf hb x0 x1 x2 x3 x4 x5 x6 x7 x8 X0 Z0 B0
  obtain ⟨x0, x1, x2, x3, x4, x5, x6, x7, x8⟩ := X1.out.cells
  by_cases hf0 : f = 0
  case neg =>
    have HN : Sc (f ≠ 0) := ⟨hf0⟩
    have hf1 : (f == 0) = false := by rw [beq_eq_false_iff_ne]; exact hf0
    have SF : Sc (stepFault ks X l = f) := ⟨by unfold stepFault; rw [HF.out, if_pos hf0]⟩
    clear hf0
    go_upto_region 7 with fail
    obtain ⟨z0, z1, z2, z3, z4, z5, z6, z7, z8⟩ := Z1.out.cells
    obtain ⟨t0, t1, t2, t3, t4, t5, t6, t7, t8⟩ := Z1.out.thaws
    have KZ : Hid (Kp (b + 1) w1 (((((((((w1.setCell ⟨b + 1, 0, none⟩ (.int .i64 0)).setCell ⟨b + 1, 1, none⟩ (.int .i64 0)).setCell ⟨b + 1, 2, none⟩ (.int .i64 0)).setCell ⟨b + 1, 3, none⟩ (.int .i64 0)).setCell ⟨b + 1, 4, none⟩ (.slice none 0 0)).setCell ⟨b + 1, 5, none⟩ (.slice none 0 0)).setCell ⟨b + 1, 6, none⟩ (.slice none 0 0)).setCell ⟨b + 1, 7, none⟩ (.slice none 0 0)).setCell ⟨b + 1, 8, none⟩ (.slice none 0 0))) := put_kp _ _ _ _ _ _ _ _ _ _ _
    obtain ⟨y0, y1, y2, y3, y4, y5, y6, y7, y8⟩ := (Z1.out.put (.int .i64 0) (.int .i64 0) (.int .i64 0) (.int .i64 0) (.slice none 0 0) (.slice none 0 0) (.slice none 0 0) (.slice none 0 0) (.slice none 0 0)).cells
    go_wp2
    clear z0 z1 z2 z3 z4 z5 z6 z7 z8 t0 t1 t2 t3 t4 t5 t6 t7 t8
    generalize (((((((((w1.setCell ⟨b + 1, 0, none⟩ (.int .i64 0)).setCell ⟨b + 1, 1, none⟩ (.int .i64 0)).setCell ⟨b + 1, 2, none⟩ (.int .i64 0)).setCell ⟨b + 1, 3, none⟩ (.int .i64 0)).setCell ⟨b + 1, 4, none⟩ (.slice none 0 0)).setCell ⟨b + 1, 5, none⟩ (.slice none 0 0)).setCell ⟨b + 1, 6, none⟩ (.slice none 0 0)).setCell ⟨b + 1, 7, none⟩ (.slice none 0 0)).setCell ⟨b + 1, 8, none⟩ (.slice none 0 0)) = wz at *
    refine bodyPost_ret (v := .tuple #[.agg #[.int .i64 0, .int .i64 0, .int .i64 0, .int .i64 0, .slice none 0 0, .slice none 0 0, .slice none 0 0, .slice none 0 0, .slice none 0 0], .slice none 0 0, .int .i64 f]) (by simp [results, Tryz.results21, go_sem, y0, y1, y2, y3, y4, y5, y6, y7, y8]) rfl ⟨_, _, by rw [SF.out], .inl ⟨by rw [SF.out]; exact HN.out, rfl, rfl⟩, KZ.out.below B1.out B1.out.size (by rw [HB.out]; omega)⟩
  case pos =>
  subst hf0
  have WR : Hid (WRight ks X) := wright_of HF.out
  have TI : Hid (0 ≤ X.turn ∧ X.turn ≤ 1000000) := turn_in WR.out
  by_cases ht : X.turn = 1000000
  · have SF : Sc (stepFault ks X l = 4) := ⟨by unfold stepFault; rw [HF.out, if_neg (by simp), if_pos (by omega)]⟩
    have HN : Sc ((4 : Int) ≠ 0) := ⟨by decide⟩
    rw [ht] at x0
    have HT : Hid (X.turn = 1000000) := ht
    clear ht
    have Z1' : Hid (Wx w1 (b + 1) (.int .i64 0) (.int .i64 0) (.int .i64 0) (.int .i64 0) (.slice none 0 0) (.slice none 0 0) (.slice none 0 0) (.slice none 0 0) (.slice none 0 0)) := Z1.out
    go_upto_region 7 with fail
    obtain ⟨z0, z1, z2, z3, z4, z5, z6, z7, z8⟩ := Z1'.out.cells
    obtain ⟨t0, t1, t2, t3, t4, t5, t6, t7, t8⟩ := Z1'.out.thaws
    have KZ : Hid (Kp (b + 1) w1 (((((((((w1.setCell ⟨b + 1, 0, none⟩ (.int .i64 0)).setCell ⟨b + 1, 1, none⟩ (.int .i64 0)).setCell ⟨b + 1, 2, none⟩ (.int .i64 0)).setCell ⟨b + 1, 3, none⟩ (.int .i64 0)).setCell ⟨b + 1, 4, none⟩ (.slice none 0 0)).setCell ⟨b + 1, 5, none⟩ (.slice none 0 0)).setCell ⟨b + 1, 6, none⟩ (.slice none 0 0)).setCell ⟨b + 1, 7, none⟩ (.slice none 0 0)).setCell ⟨b + 1, 8, none⟩ (.slice none 0 0))) := put_kp _ _ _ _ _ _ _ _ _ _ _
    obtain ⟨y0, y1, y2, y3, y4, y5, y6, y7, y8⟩ := (Z1'.out.put (.int .i64 0) (.int .i64 0) (.int .i64 0) (.int .i64 0) (.slice none 0 0) (.slice none 0 0) (.slice none 0 0) (.slice none 0 0) (.slice none 0 0)).cells
    go_wp2
    clear z0 z1 z2 z3 z4 z5 z6 z7 z8 t0 t1 t2 t3 t4 t5 t6 t7 t8
    generalize (((((((((w1.setCell ⟨b + 1, 0, none⟩ (.int .i64 0)).setCell ⟨b + 1, 1, none⟩ (.int .i64 0)).setCell ⟨b + 1, 2, none⟩ (.int .i64 0)).setCell ⟨b + 1, 3, none⟩ (.int .i64 0)).setCell ⟨b + 1, 4, none⟩ (.slice none 0 0)).setCell ⟨b + 1, 5, none⟩ (.slice none 0 0)).setCell ⟨b + 1, 6, none⟩ (.slice none 0 0)).setCell ⟨b + 1, 7, none⟩ (.slice none 0 0)).setCell ⟨b + 1, 8, none⟩ (.slice none 0 0)) = wz at *
    refine bodyPost_ret (v := .tuple #[.agg #[.int .i64 0, .int .i64 0, .int .i64 0, .int .i64 0, .slice none 0 0, .slice none 0 0, .slice none 0 0, .slice none 0 0, .slice none 0 0], .slice none 0 0, .int .i64 4]) (by simp [results, Tryz.results21, go_sem, y0, y1, y2, y3, y4, y5, y6, y7, y8]) rfl ⟨_, _, by rw [SF.out], .inl ⟨by rw [SF.out]; exact HN.out, rfl, rfl⟩, KZ.out.below B1.out B1.out.size (by rw [HB.out]; omega)⟩
  have TX : Hid (0 ≤ X.turn ∧ X.turn < 1000000) := by have := TI.out; unfold Hid; omega
  have ht1 : (X.turn == 1000000) = false := beq_eq_false_iff_ne.2 ht
  clear ht TI
  go_wp2_with fail
  refine (ref_orders _ l w1 (L.out.below B1.out)).mono ?_
  rintro e w3 ⟨rfl, hb⟩
  obtain ⟨g, hg⟩ : ∃ g, Od.faults l = g := ⟨_, rfl⟩
  have LG : Sc (Od.faults l = g) := ⟨hg⟩
  rw [hg]
  have SF : Sc (stepFault ks X l = g) := ⟨by unfold stepFault; rw [HF.out, if_neg (by simp), if_neg (by have := TX.out; omega)]; exact hg⟩
  have B3 : Hid (Below w.heap.size w w3) := B1.out.trans (hb.mono B1.out.size)
  have X3 : Hid (Wx w3 b (.int .i64 X.turn) (.int .i64 X.next) (.int .i64 X.wide) (.int .i64 X.high) (.slice p1 X.gs.length q1) (.slice p2 X.os.length q2) (.slice p3 X.gold.length q3) (.slice p4 X.us.length q4) (.slice p5 X.qs.length q5)) := X1.out.below hb X1.out.lt
  have Z3 : Hid (Wx w3 (b + 1) (.int .i64 0) (.int .i64 0) (.int .i64 0) (.int .i64 0) (.slice none 0 0) (.slice none 0 0) (.slice none 0 0) (.slice none 0 0) (.slice none 0 0)) := Z1.out.below hb Z1.out.lt
  clear hb hg x0 x1 x2 x3 x4 x5 x6 x7 x8 ht1 X1 Z1 B1
  by_cases hg0 : g = 0
  case neg =>
    have HN : Sc (g ≠ 0) := ⟨hg0⟩
    have hg1 : (g == 0) = false := by rw [beq_eq_false_iff_ne]; exact hg0
    clear hg0
    go_upto_region 7 with fail
    obtain ⟨z0, z1, z2, z3, z4, z5, z6, z7, z8⟩ := Z3.out.cells
    obtain ⟨t0, t1, t2, t3, t4, t5, t6, t7, t8⟩ := Z3.out.thaws
    have KZ : Hid (Kp (b + 1) w3 (((((((((w3.setCell ⟨b + 1, 0, none⟩ (.int .i64 0)).setCell ⟨b + 1, 1, none⟩ (.int .i64 0)).setCell ⟨b + 1, 2, none⟩ (.int .i64 0)).setCell ⟨b + 1, 3, none⟩ (.int .i64 0)).setCell ⟨b + 1, 4, none⟩ (.slice none 0 0)).setCell ⟨b + 1, 5, none⟩ (.slice none 0 0)).setCell ⟨b + 1, 6, none⟩ (.slice none 0 0)).setCell ⟨b + 1, 7, none⟩ (.slice none 0 0)).setCell ⟨b + 1, 8, none⟩ (.slice none 0 0))) := put_kp _ _ _ _ _ _ _ _ _ _ _
    obtain ⟨y0, y1, y2, y3, y4, y5, y6, y7, y8⟩ := (Z3.out.put (.int .i64 0) (.int .i64 0) (.int .i64 0) (.int .i64 0) (.slice none 0 0) (.slice none 0 0) (.slice none 0 0) (.slice none 0 0) (.slice none 0 0)).cells
    go_wp2
    clear z0 z1 z2 z3 z4 z5 z6 z7 z8 t0 t1 t2 t3 t4 t5 t6 t7 t8
    generalize (((((((((w3.setCell ⟨b + 1, 0, none⟩ (.int .i64 0)).setCell ⟨b + 1, 1, none⟩ (.int .i64 0)).setCell ⟨b + 1, 2, none⟩ (.int .i64 0)).setCell ⟨b + 1, 3, none⟩ (.int .i64 0)).setCell ⟨b + 1, 4, none⟩ (.slice none 0 0)).setCell ⟨b + 1, 5, none⟩ (.slice none 0 0)).setCell ⟨b + 1, 6, none⟩ (.slice none 0 0)).setCell ⟨b + 1, 7, none⟩ (.slice none 0 0)).setCell ⟨b + 1, 8, none⟩ (.slice none 0 0)) = wz at *
    refine bodyPost_ret (v := .tuple #[.agg #[.int .i64 0, .int .i64 0, .int .i64 0, .int .i64 0, .slice none 0 0, .slice none 0 0, .slice none 0 0, .slice none 0 0, .slice none 0 0], .slice none 0 0, .int .i64 g]) (by simp [results, Tryz.results21, go_sem, y0, y1, y2, y3, y4, y5, y6, y7, y8]) rfl ⟨_, _, by rw [SF.out], .inl ⟨by rw [SF.out]; exact HN.out, rfl, rfl⟩, KZ.out.below B3.out B3.out.size (by rw [HB.out]; omega)⟩
  case pos =>
  subst hg0
  obtain ⟨x0, x1, x2, x3, x4, x5, x6, x7, x8⟩ := X3.out.cells
  go_wp2_with fail
  refine (rgive_any _ _ _ ks X l w3 (K.out.1.below B3.out) (H.out.below B3.out) (L.out.below B3.out) WR.out LG.out).mono ?_
  rintro e w4 ⟨v, ur, out, rfl, hls, hwo, -, hb⟩
  have LS : Hid (LastSays l out) := hls
  obtain ⟨A, hA⟩ : ∃ A, (gv ks X out out.length).1 = A := ⟨_, rfl⟩
  have GA : Sc ((gv ks X out out.length).1 = A) := ⟨hA⟩
  obtain ⟨Wn, Hn, hw1, hw2, -⟩ := WR.out.good
  have GX : Hid (X.wide = (Wn : Nat) ∧ X.high = (Hn : Nat)) := ⟨hw1, hw2⟩
  have RA : Hid (WRight ks A ∧ A.wide = (Wn : Nat) ∧ A.high = (Hn : Nat) ∧ A.turn = X.turn) := by
    have h1 := gv_same (ks := ks) (Y := X) (out := out) out.length
    rw [hA] at h1
    exact ⟨by rw [← hA]; exact gv_right WR.out (fun o ho => faults_mem LS.out LG.out ho) _, h1.2.1.trans hw1, h1.2.2.trans hw2, h1.1⟩
  rw [hA] at hwo
  obtain ⟨k1, k2, k3, k4, k5, rfl, o1, o2, o3, o4, o5⟩ := hwo
  obtain ⟨a1, c1, rfl⟩ := o1.len
  obtain ⟨a2, c2, rfl⟩ := o2.len
  obtain ⟨a3, c3, rfl⟩ := o3.len
  obtain ⟨a4, c4, rfl⟩ := o4.len
  obtain ⟨a5, c5, rfl⟩ := o5.len
  go_upto_region 9 with fail
  obtain ⟨bx, hbx⟩ : ∃ z, w4.heap.size = z := ⟨_, rfl⟩
  have BA : Hid (Below w4.heap.size w4 (w4.alloc (Obj.cells #[.int .i64 A.turn, .int .i64 A.next, .int .i64 A.wide, .int .i64 A.high, Value.slice a1 A.gs.length c1, Value.slice a2 A.os.length c2, Value.slice a3 A.gold.length c3, Value.slice a4 A.us.length c4, Value.slice a5 A.qs.length c5] 29))) := (Below.refl _ _).alloc (Nat.le_refl _) _
  have Pw5 : Hid (Wx (w4.alloc (Obj.cells #[.int .i64 A.turn, .int .i64 A.next, .int .i64 A.wide, .int .i64 A.high, Value.slice a1 A.gs.length c1, Value.slice a2 A.os.length c2, Value.slice a3 A.gold.length c3, Value.slice a4 A.us.length c4, Value.slice a5 A.qs.length c5] 29)) bx (.int .i64 A.turn) (.int .i64 A.next) (.int .i64 A.wide) (.int .i64 A.high) (Value.slice a1 A.gs.length c1) (Value.slice a2 A.os.length c2) (Value.slice a3 A.gold.length c3) (Value.slice a4 A.us.length c4) (Value.slice a5 A.qs.length c5)) := Wx.new _ _ _ _ _ _ _ _ _ hbx
  have NB : Hid (b + 1 < bx ∧ w.heap.size ≤ bx) := by have h1 := hb.size; have h2 := Z3.out.lt; have h3 := HB.out; unfold Hid; omega
  (try rw [hbx])
  generalize w4.alloc (Obj.cells #[.int .i64 A.turn, .int .i64 A.next, .int .i64 A.wide, .int .i64 A.high, Value.slice a1 A.gs.length c1, Value.slice a2 A.os.length c2, Value.slice a3 A.gold.length c3, Value.slice a4 A.us.length c4, Value.slice a5 A.qs.length c5] 29) = w5 at *
  obtain ⟨n0, hn0⟩ : ∃ z, w3.heap.size = z := ⟨_, rfl⟩
  rw [hn0] at o1 o2 o3 o4 o5
  have OWw5 : Hid (Ow w5 n0 (Value.slice a1 A.gs.length c1) A.gs ∧ Ow w5 n0 (Value.slice a2 A.os.length c2) A.os ∧ Ow w5 n0 (Value.slice a3 A.gold.length c3) A.gold ∧ Uno w5 n0 (Value.slice a4 A.us.length c4) A.us ∧ Jbo w5 n0 (Value.slice a5 A.qs.length c5) A.qs) := ⟨o1.below BA.out, o2.below BA.out, o3.below BA.out, o4.below BA.out, o5.below BA.out⟩
  have Bw5 : Hid (Below w.heap.size w w5) := (B3.out.trans (hb.mono B3.out.size)).trans (BA.out.mono (B3.out.trans (hb.mono B3.out.size)).size)
  have Zw5 : Hid (Wx w5 (b + 1) (.int .i64 0) (.int .i64 0) (.int .i64 0) (.int .i64 0) (.slice none 0 0) (.slice none 0 0) (.slice none 0 0) (.slice none 0 0) (.slice none 0 0)) := (Z3.out.below hb Z3.out.lt).below BA.out (by have h1 := hb.size; have h2 := Z3.out.lt; omega)
  clear hls hA hw1 hw2 hb hbx BA x0 x1 x2 x3 x4 x5 x6 x7 x8 o1 o2 o3 o4 o5 hn0 X3 Z3 B3
  obtain ⟨x0, x1, x2, x3, x4, x5, x6, x7, x8⟩ := Pw5.out.cells
  go_wp2_with fail
  obtain ⟨n1, hn1⟩ : ∃ z, w5.heap.size = z := ⟨_, rfl⟩
  have Sn1 : Hid (w5.heap.size = n1 ∧ bx < n1) := ⟨hn1, by rw [← hn1]; exact Pw5.out.lt⟩
  refine (rtrain_any _ _ ks A w5 (K.out.1.below Bw5.out) K.out.2 ⟨_, _, _, _, _, rfl, OWw5.out.1.ro, OWw5.out.2.1.ro, OWw5.out.2.2.1.ro, OWw5.out.2.2.2.1.l, OWw5.out.2.2.2.2.l⟩ RA.out.1 (SDH.out.below Bw5.out)).mono ?_
  rintro e w6 ⟨v, ev1, T, es1, qs, rfl, htr, hwo, hev, hb⟩
  rw [hn1] at hwo hev
  obtain ⟨B, hB⟩ : ∃ B, ({ T with qs := qs } : WV) = B := ⟨_, rfl⟩
  have P1 : Hid (Ph ks Wn Hn A 1 B es1) := by rw [← hB]; exact Ph.one htr
  have KB : Hid (WRight ks B ∧ B.wide = (Wn : Nat) ∧ B.high = (Hn : Nat) ∧ B.turn = A.turn ∧ es1.length ≤ 50000 * 1) := P1.out.keep RA.out.1 RA.out.2.1 RA.out.2.2.1
  rw [hB] at hwo
  clear htr hB
  obtain ⟨k1, k2, k3, k4, k5, rfl, o1, o2, o3, o4, o5⟩ := hwo
  obtain ⟨m1, d1, rfl⟩ := o1.len
  obtain ⟨m2, d2, rfl⟩ := o2.len
  obtain ⟨m3, d3, rfl⟩ := o3.len
  obtain ⟨m4, d4, rfl⟩ := o4.len
  obtain ⟨m5, d5, rfl⟩ := o5.len
  have OB : Hid (Ow w6 n1 (Value.slice m1 B.gs.length d1) B.gs ∧ Ow w6 n1 (Value.slice m2 B.os.length d2) B.os ∧ Ow w6 n1 (Value.slice m3 B.gold.length d3) B.gold ∧ Uno w6 n1 (Value.slice m4 B.us.length d4) B.us ∧ Jbo w6 n1 (Value.slice m5 B.qs.length d5) B.qs) := ⟨o1, o2, o3, o4, o5⟩
  have EN : Hid (Evo w6 n1 ev1 es1) := hev
  have Bw6 : Hid (Below w.heap.size w w6) := Bw5.out.trans (hb.mono Bw5.out.size)
  have Zw6 : Hid (Wx w6 (b + 1) (.int .i64 0) (.int .i64 0) (.int .i64 0) (.int .i64 0) (.slice none 0 0) (.slice none 0 0) (.slice none 0 0) (.slice none 0 0) (.slice none 0 0)) := Zw5.out.below hb Zw5.out.lt
  have Pw6 : Hid (Wx w6 bx (.int .i64 A.turn) (.int .i64 A.next) (.int .i64 A.wide) (.int .i64 A.high) (Value.slice a1 A.gs.length c1) (Value.slice a2 A.os.length c2) (Value.slice a3 A.gold.length c3) (Value.slice a4 A.us.length c4) (Value.slice a5 A.qs.length c5)) := Pw5.out.below hb Pw5.out.lt
  have HS : Hid (n1 ≤ w6.heap.size) := by unfold Hid; rw [← hn1]; exact hb.size
  clear hb hev o1 o2 o3 o4 o5 hn1 x0 x1 x2 x3 x4 x5 x6 x7 x8 Bw5 Zw5 Pw5 OWw5
  obtain ⟨z0, z1, z2, z3, z4, z5, z6, z7, z8⟩ := Pw6.out.cells
  obtain ⟨t0, t1, t2, t3, t4, t5, t6, t7, t8⟩ := Pw6.out.thaws
  have KW : Hid (Kp bx w6 (((((((((w6.setCell ⟨bx, 0, none⟩ (.int .i64 B.turn)).setCell ⟨bx, 1, none⟩ (.int .i64 B.next)).setCell ⟨bx, 2, none⟩ (.int .i64 B.wide)).setCell ⟨bx, 3, none⟩ (.int .i64 B.high)).setCell ⟨bx, 4, none⟩ (Value.slice m1 B.gs.length d1)).setCell ⟨bx, 5, none⟩ (Value.slice m2 B.os.length d2)).setCell ⟨bx, 6, none⟩ (Value.slice m3 B.gold.length d3)).setCell ⟨bx, 7, none⟩ (Value.slice m4 B.us.length d4)).setCell ⟨bx, 8, none⟩ (Value.slice m5 B.qs.length d5))) := put_kp _ _ _ _ _ _ _ _ _ _ _
  have Pw7 : Hid (Wx (((((((((w6.setCell ⟨bx, 0, none⟩ (.int .i64 B.turn)).setCell ⟨bx, 1, none⟩ (.int .i64 B.next)).setCell ⟨bx, 2, none⟩ (.int .i64 B.wide)).setCell ⟨bx, 3, none⟩ (.int .i64 B.high)).setCell ⟨bx, 4, none⟩ (Value.slice m1 B.gs.length d1)).setCell ⟨bx, 5, none⟩ (Value.slice m2 B.os.length d2)).setCell ⟨bx, 6, none⟩ (Value.slice m3 B.gold.length d3)).setCell ⟨bx, 7, none⟩ (Value.slice m4 B.us.length d4)).setCell ⟨bx, 8, none⟩ (Value.slice m5 B.qs.length d5)) bx (.int .i64 B.turn) (.int .i64 B.next) (.int .i64 B.wide) (.int .i64 B.high) (Value.slice m1 B.gs.length d1) (Value.slice m2 B.os.length d2) (Value.slice m3 B.gold.length d3) (Value.slice m4 B.us.length d4) (Value.slice m5 B.qs.length d5)) := Pw6.out.put _ _ _ _ _ _ _ _ _
  go_upto_region 10 with fail
  clear z0 z1 z2 z3 z4 z5 z6 z7 z8 t0 t1 t2 t3 t4 t5 t6 t7 t8
  generalize (((((((((w6.setCell ⟨bx, 0, none⟩ (.int .i64 B.turn)).setCell ⟨bx, 1, none⟩ (.int .i64 B.next)).setCell ⟨bx, 2, none⟩ (.int .i64 B.wide)).setCell ⟨bx, 3, none⟩ (.int .i64 B.high)).setCell ⟨bx, 4, none⟩ (Value.slice m1 B.gs.length d1)).setCell ⟨bx, 5, none⟩ (Value.slice m2 B.os.length d2)).setCell ⟨bx, 6, none⟩ (Value.slice m3 B.gold.length d3)).setCell ⟨bx, 7, none⟩ (Value.slice m4 B.us.length d4)).setCell ⟨bx, 8, none⟩ (Value.slice m5 B.qs.length d5)) = w7 at *
  have Bw7 : Hid (Below w.heap.size w w7) := KW.out.below Bw6.out Bw6.out.size (by have := NB.out; omega)
  have Zw7 : Hid (Wx w7 (b + 1) (.int .i64 0) (.int .i64 0) (.int .i64 0) (.int .i64 0) (.slice none 0 0) (.slice none 0 0) (.slice none 0 0) (.slice none 0 0) (.slice none 0 0)) := Zw6.out.kp KW.out (by have := NB.out; omega)
  have OWw7 : Hid (Ow w7 n1 (Value.slice m1 B.gs.length d1) B.gs ∧ Ow w7 n1 (Value.slice m2 B.os.length d2) B.os ∧ Ow w7 n1 (Value.slice m3 B.gold.length d3) B.gold ∧ Uno w7 n1 (Value.slice m4 B.us.length d4) B.us ∧ Jbo w7 n1 (Value.slice m5 B.qs.length d5) B.qs) := ⟨owns_kp OB.out.1 KW.out Sn1.out.2, owns_kp OB.out.2.1 KW.out Sn1.out.2, owns_kp OB.out.2.2.1 KW.out Sn1.out.2, owns_kp OB.out.2.2.2.1 KW.out Sn1.out.2, owns_kp OB.out.2.2.2.2 KW.out Sn1.out.2⟩
  have EVw7 : Hid (Evo w7 n1 ev1 es1) := owns_kp EN.out KW.out Sn1.out.2
  have Qn1 : Hid (n1 ≤ w7.heap.size) := Nat.le_trans HS.out KW.out.size
  clear HS KW OB EN Bw6 Zw6 Pw6
  obtain ⟨x0, x1, x2, x3, x4, x5, x6, x7, x8⟩ := Pw7.out.cells
  go_wp2_with fail
  obtain ⟨n2, hn2⟩ : ∃ z, w7.heap.size = z := ⟨_, rfl⟩
  have Sn2 : Hid (w7.heap.size = n2 ∧ bx < n2) := ⟨hn2, by rw [← hn2]; exact Pw7.out.lt⟩
  have SQn1n2 : Hid (n1 ≤ n2) := by unfold Hid; rw [← hn2]; exact Qn1.out
  have Ln1n2 : Hid (∀ k, ev1.ownBlock = some k → k < n2) := fun k hk => by rw [← hn2]; exact (EVw7.out.block k hk).2
  obtain ⟨e0, w0', -, ⟨v0, ev0, r0, -, -, hms, -⟩, -⟩ := (Move_any (.slice pk ks.length qk) _ ks B w7 (K.out.1.below Bw7.out) K.out.2 ⟨_, _, _, _, _, rfl, OWw7.out.1.ro, OWw7.out.2.1.ro, OWw7.out.2.2.1.ro, OWw7.out.2.2.2.1.l, OWw7.out.2.2.2.2.l⟩ (SDH.out.below Bw7.out)) []
  obtain ⟨Wm, Hm, hm1, hm2, G, us', es2, hmv, -⟩ : ∃ Wn Hn : Nat, B.wide = (Wn : Nat) ∧ B.high = (Hn : Nat) ∧ Fd.Good Wn Hn B.gs B.os ∧ ∃ us' evs, Moves ks B Wn Hn 0 B.us evs us' ∧ True := by
    rcases hms with ⟨h, -⟩ | ⟨-, Wm, Hm, h1, h2, h3, us', evs, h4, -⟩
    · exact absurd KB.out.1.zero h
    · exact ⟨Wm, Hm, h1, h2, h3, us', evs, h4, trivial⟩
  obtain rfl : Wn = Wm := by have := KB.out; omega
  obtain rfl : Hn = Hm := by have := KB.out; omega
  refine (rmove_any _ _ ks B Wn Hn us' es2 w7 (K.out.1.below Bw7.out) ⟨_, _, _, _, _, rfl, OWw7.out.1.ro, OWw7.out.2.1.ro, OWw7.out.2.2.1.ro, OWw7.out.2.2.2.1.l, OWw7.out.2.2.2.2.l⟩ KB.out.1 G hm1 hm2 hmv).mono ?_
  rintro e w8 ⟨v, ev2, rfl, hwo, hev, hb⟩
  rw [hn2] at hwo hev
  obtain ⟨C, hC⟩ : ∃ C, ({ B with us := us' } : WV) = C := ⟨_, rfl⟩
  have P2 : Hid (Ph ks Wn Hn A 2 C (es1 ++ es2)) := by rw [← hC]; exact Ph.two P1.out hmv
  have KC : Hid (WRight ks C ∧ C.wide = (Wn : Nat) ∧ C.high = (Hn : Nat) ∧ C.turn = A.turn ∧ (es1 ++ es2).length ≤ 50000 * 2) := P2.out.keep RA.out.1 RA.out.2.1 RA.out.2.2.1
  rw [hC] at hwo
  clear hms hm1 hm2 G hmv hC
  obtain ⟨k1, k2, k3, k4, k5, rfl, o1, o2, o3, o4, o5⟩ := hwo
  obtain ⟨g1, i1, rfl⟩ := o1.len
  obtain ⟨g2, i2, rfl⟩ := o2.len
  obtain ⟨g3, i3, rfl⟩ := o3.len
  obtain ⟨g4, i4, rfl⟩ := o4.len
  obtain ⟨g5, i5, rfl⟩ := o5.len
  have OB : Hid (Ow w8 n2 (Value.slice g1 C.gs.length i1) C.gs ∧ Ow w8 n2 (Value.slice g2 C.os.length i2) C.os ∧ Ow w8 n2 (Value.slice g3 C.gold.length i3) C.gold ∧ Uno w8 n2 (Value.slice g4 C.us.length i4) C.us ∧ Jbo w8 n2 (Value.slice g5 C.qs.length i5) C.qs) := ⟨o1, o2, o3, o4, o5⟩
  have EN : Hid (Evo w8 n2 ev2 es2) := hev
  have Bw8 : Hid (Below w.heap.size w w8) := Bw7.out.trans (hb.mono Bw7.out.size)
  have Zw8 : Hid (Wx w8 (b + 1) (.int .i64 0) (.int .i64 0) (.int .i64 0) (.int .i64 0) (.slice none 0 0) (.slice none 0 0) (.slice none 0 0) (.slice none 0 0) (.slice none 0 0)) := Zw7.out.below hb Zw7.out.lt
  have Pw8 : Hid (Wx w8 bx (.int .i64 B.turn) (.int .i64 B.next) (.int .i64 B.wide) (.int .i64 B.high) (Value.slice m1 B.gs.length d1) (Value.slice m2 B.os.length d2) (Value.slice m3 B.gold.length d3) (Value.slice m4 B.us.length d4) (Value.slice m5 B.qs.length d5)) := Pw7.out.below hb Pw7.out.lt
  have EW : Hid (Evo w8 n1 ev1 es1) := EVw7.out.below hb
  have HS : Hid (n2 ≤ w8.heap.size) := by unfold Hid; rw [← hn2]; exact hb.size
  clear hb hev o1 o2 o3 o4 o5 hn2 x0 x1 x2 x3 x4 x5 x6 x7 x8 Bw7 Zw7 Pw7 OWw7 EVw7
  obtain ⟨z0, z1, z2, z3, z4, z5, z6, z7, z8⟩ := Pw8.out.cells
  obtain ⟨t0, t1, t2, t3, t4, t5, t6, t7, t8⟩ := Pw8.out.thaws
  have KW : Hid (Kp bx w8 (((((((((w8.setCell ⟨bx, 0, none⟩ (.int .i64 C.turn)).setCell ⟨bx, 1, none⟩ (.int .i64 C.next)).setCell ⟨bx, 2, none⟩ (.int .i64 C.wide)).setCell ⟨bx, 3, none⟩ (.int .i64 C.high)).setCell ⟨bx, 4, none⟩ (Value.slice g1 C.gs.length i1)).setCell ⟨bx, 5, none⟩ (Value.slice g2 C.os.length i2)).setCell ⟨bx, 6, none⟩ (Value.slice g3 C.gold.length i3)).setCell ⟨bx, 7, none⟩ (Value.slice g4 C.us.length i4)).setCell ⟨bx, 8, none⟩ (Value.slice g5 C.qs.length i5))) := put_kp _ _ _ _ _ _ _ _ _ _ _
  have Pw9 : Hid (Wx (((((((((w8.setCell ⟨bx, 0, none⟩ (.int .i64 C.turn)).setCell ⟨bx, 1, none⟩ (.int .i64 C.next)).setCell ⟨bx, 2, none⟩ (.int .i64 C.wide)).setCell ⟨bx, 3, none⟩ (.int .i64 C.high)).setCell ⟨bx, 4, none⟩ (Value.slice g1 C.gs.length i1)).setCell ⟨bx, 5, none⟩ (Value.slice g2 C.os.length i2)).setCell ⟨bx, 6, none⟩ (Value.slice g3 C.gold.length i3)).setCell ⟨bx, 7, none⟩ (Value.slice g4 C.us.length i4)).setCell ⟨bx, 8, none⟩ (Value.slice g5 C.qs.length i5)) bx (.int .i64 C.turn) (.int .i64 C.next) (.int .i64 C.wide) (.int .i64 C.high) (Value.slice g1 C.gs.length i1) (Value.slice g2 C.os.length i2) (Value.slice g3 C.gold.length i3) (Value.slice g4 C.us.length i4) (Value.slice g5 C.qs.length i5)) := Pw8.out.put _ _ _ _ _ _ _ _ _
  go_upto_region 11 with fail
  clear z0 z1 z2 z3 z4 z5 z6 z7 z8 t0 t1 t2 t3 t4 t5 t6 t7 t8
  generalize (((((((((w8.setCell ⟨bx, 0, none⟩ (.int .i64 C.turn)).setCell ⟨bx, 1, none⟩ (.int .i64 C.next)).setCell ⟨bx, 2, none⟩ (.int .i64 C.wide)).setCell ⟨bx, 3, none⟩ (.int .i64 C.high)).setCell ⟨bx, 4, none⟩ (Value.slice g1 C.gs.length i1)).setCell ⟨bx, 5, none⟩ (Value.slice g2 C.os.length i2)).setCell ⟨bx, 6, none⟩ (Value.slice g3 C.gold.length i3)).setCell ⟨bx, 7, none⟩ (Value.slice g4 C.us.length i4)).setCell ⟨bx, 8, none⟩ (Value.slice g5 C.qs.length i5)) = w9 at *
  have Bw9 : Hid (Below w.heap.size w w9) := KW.out.below Bw8.out Bw8.out.size (by have := NB.out; omega)
  have Zw9 : Hid (Wx w9 (b + 1) (.int .i64 0) (.int .i64 0) (.int .i64 0) (.int .i64 0) (.slice none 0 0) (.slice none 0 0) (.slice none 0 0) (.slice none 0 0) (.slice none 0 0)) := Zw8.out.kp KW.out (by have := NB.out; omega)
  have OWw9 : Hid (Ow w9 n2 (Value.slice g1 C.gs.length i1) C.gs ∧ Ow w9 n2 (Value.slice g2 C.os.length i2) C.os ∧ Ow w9 n2 (Value.slice g3 C.gold.length i3) C.gold ∧ Uno w9 n2 (Value.slice g4 C.us.length i4) C.us ∧ Jbo w9 n2 (Value.slice g5 C.qs.length i5) C.qs) := ⟨owns_kp OB.out.1 KW.out Sn2.out.2, owns_kp OB.out.2.1 KW.out Sn2.out.2, owns_kp OB.out.2.2.1 KW.out Sn2.out.2, owns_kp OB.out.2.2.2.1 KW.out Sn2.out.2, owns_kp OB.out.2.2.2.2 KW.out Sn2.out.2⟩
  have EVw9 : Hid (Evo w9 n1 ev1 es1 ∧ Evo w9 n2 ev2 es2) := ⟨owns_kp (EW.out) KW.out Sn1.out.2, owns_kp EN.out KW.out Sn2.out.2⟩
  have Qn2 : Hid (n2 ≤ w9.heap.size) := Nat.le_trans HS.out KW.out.size
  clear HS KW OB EN Bw8 Zw8 Pw8 EW
  obtain ⟨x0, x1, x2, x3, x4, x5, x6, x7, x8⟩ := Pw9.out.cells
  go_wp2_with fail
  obtain ⟨n3, hn3⟩ : ∃ z, w9.heap.size = z := ⟨_, rfl⟩
  have Sn3 : Hid (w9.heap.size = n3 ∧ bx < n3) := ⟨hn3, by rw [← hn3]; exact Pw9.out.lt⟩
  have SQn2n3 : Hid (n2 ≤ n3) := by unfold Hid; rw [← hn3]; exact Qn2.out
  have Ln1n3 : Hid (∀ k, ev1.ownBlock = some k → k < n3) := fun k hk => by rw [← hn3]; exact (EVw9.out.1.block k hk).2
  have Ln2n3 : Hid (∀ k, ev2.ownBlock = some k → k < n3) := fun k hk => by rw [← hn3]; exact (EVw9.out.2.block k hk).2
  refine (rdig_any _ _ ks C Wn Hn w9 (K.out.1.below Bw9.out) ⟨_, _, _, _, _, rfl, OWw9.out.1.ro, OWw9.out.2.1.ro, OWw9.out.2.2.1.ro, OWw9.out.2.2.2.1.l, OWw9.out.2.2.2.2.l⟩ KC.out.1 KC.out.2.1 KC.out.2.2.1).mono ?_
  rintro e w10 ⟨v, ev3, rfl, hwo, hev, hb⟩
  rw [hn3] at hwo hev
  obtain ⟨D, hD⟩ : ∃ D, dug ks Wn Hn C = D := ⟨_, rfl⟩
  obtain ⟨es3, hE⟩ : ∃ l, dugEv ks Wn Hn C = l := ⟨_, rfl⟩
  have P3 : Hid (Ph ks Wn Hn A 3 D ((es1 ++ es2) ++ es3)) := by rw [← hD, ← hE]; exact Ph.three P2.out
  have KD : Hid (WRight ks D ∧ D.wide = (Wn : Nat) ∧ D.high = (Hn : Nat) ∧ D.turn = A.turn ∧ ((es1 ++ es2) ++ es3).length ≤ 50000 * 3) := P3.out.keep RA.out.1 RA.out.2.1 RA.out.2.2.1
  rw [hD] at hwo
  rw [hE] at hev
  clear hD hE
  obtain ⟨k1, k2, k3, k4, k5, rfl, o1, o2, o3, o4, o5⟩ := hwo
  obtain ⟨j1, u1, rfl⟩ := o1.len
  obtain ⟨j2, u2, rfl⟩ := o2.len
  obtain ⟨j3, u3, rfl⟩ := o3.len
  obtain ⟨j4, u4, rfl⟩ := o4.len
  obtain ⟨j5, u5, rfl⟩ := o5.len
  have OB : Hid (Ow w10 n3 (Value.slice j1 D.gs.length u1) D.gs ∧ Ow w10 n3 (Value.slice j2 D.os.length u2) D.os ∧ Ow w10 n3 (Value.slice j3 D.gold.length u3) D.gold ∧ Uno w10 n3 (Value.slice j4 D.us.length u4) D.us ∧ Jbo w10 n3 (Value.slice j5 D.qs.length u5) D.qs) := ⟨o1, o2, o3, o4, o5⟩
  have EN : Hid (Evo w10 n3 ev3 es3) := hev
  have Bw10 : Hid (Below w.heap.size w w10) := Bw9.out.trans (hb.mono Bw9.out.size)
  have Zw10 : Hid (Wx w10 (b + 1) (.int .i64 0) (.int .i64 0) (.int .i64 0) (.int .i64 0) (.slice none 0 0) (.slice none 0 0) (.slice none 0 0) (.slice none 0 0) (.slice none 0 0)) := Zw9.out.below hb Zw9.out.lt
  have Pw10 : Hid (Wx w10 bx (.int .i64 C.turn) (.int .i64 C.next) (.int .i64 C.wide) (.int .i64 C.high) (Value.slice g1 C.gs.length i1) (Value.slice g2 C.os.length i2) (Value.slice g3 C.gold.length i3) (Value.slice g4 C.us.length i4) (Value.slice g5 C.qs.length i5)) := Pw9.out.below hb Pw9.out.lt
  have EW : Hid (Evo w10 n1 ev1 es1 ∧ Evo w10 n2 ev2 es2) := ⟨EVw9.out.1.below hb, EVw9.out.2.below hb⟩
  have HS : Hid (n3 ≤ w10.heap.size) := by unfold Hid; rw [← hn3]; exact hb.size
  clear hb hev o1 o2 o3 o4 o5 hn3 x0 x1 x2 x3 x4 x5 x6 x7 x8 Bw9 Zw9 Pw9 OWw9 EVw9
  obtain ⟨z0, z1, z2, z3, z4, z5, z6, z7, z8⟩ := Pw10.out.cells
  obtain ⟨t0, t1, t2, t3, t4, t5, t6, t7, t8⟩ := Pw10.out.thaws
  have KW : Hid (Kp bx w10 (((((((((w10.setCell ⟨bx, 0, none⟩ (.int .i64 D.turn)).setCell ⟨bx, 1, none⟩ (.int .i64 D.next)).setCell ⟨bx, 2, none⟩ (.int .i64 D.wide)).setCell ⟨bx, 3, none⟩ (.int .i64 D.high)).setCell ⟨bx, 4, none⟩ (Value.slice j1 D.gs.length u1)).setCell ⟨bx, 5, none⟩ (Value.slice j2 D.os.length u2)).setCell ⟨bx, 6, none⟩ (Value.slice j3 D.gold.length u3)).setCell ⟨bx, 7, none⟩ (Value.slice j4 D.us.length u4)).setCell ⟨bx, 8, none⟩ (Value.slice j5 D.qs.length u5))) := put_kp _ _ _ _ _ _ _ _ _ _ _
  have Pw11 : Hid (Wx (((((((((w10.setCell ⟨bx, 0, none⟩ (.int .i64 D.turn)).setCell ⟨bx, 1, none⟩ (.int .i64 D.next)).setCell ⟨bx, 2, none⟩ (.int .i64 D.wide)).setCell ⟨bx, 3, none⟩ (.int .i64 D.high)).setCell ⟨bx, 4, none⟩ (Value.slice j1 D.gs.length u1)).setCell ⟨bx, 5, none⟩ (Value.slice j2 D.os.length u2)).setCell ⟨bx, 6, none⟩ (Value.slice j3 D.gold.length u3)).setCell ⟨bx, 7, none⟩ (Value.slice j4 D.us.length u4)).setCell ⟨bx, 8, none⟩ (Value.slice j5 D.qs.length u5)) bx (.int .i64 D.turn) (.int .i64 D.next) (.int .i64 D.wide) (.int .i64 D.high) (Value.slice j1 D.gs.length u1) (Value.slice j2 D.os.length u2) (Value.slice j3 D.gold.length u3) (Value.slice j4 D.us.length u4) (Value.slice j5 D.qs.length u5)) := Pw10.out.put _ _ _ _ _ _ _ _ _
  go_upto_region 12 with fail
  clear z0 z1 z2 z3 z4 z5 z6 z7 z8 t0 t1 t2 t3 t4 t5 t6 t7 t8
  generalize (((((((((w10.setCell ⟨bx, 0, none⟩ (.int .i64 D.turn)).setCell ⟨bx, 1, none⟩ (.int .i64 D.next)).setCell ⟨bx, 2, none⟩ (.int .i64 D.wide)).setCell ⟨bx, 3, none⟩ (.int .i64 D.high)).setCell ⟨bx, 4, none⟩ (Value.slice j1 D.gs.length u1)).setCell ⟨bx, 5, none⟩ (Value.slice j2 D.os.length u2)).setCell ⟨bx, 6, none⟩ (Value.slice j3 D.gold.length u3)).setCell ⟨bx, 7, none⟩ (Value.slice j4 D.us.length u4)).setCell ⟨bx, 8, none⟩ (Value.slice j5 D.qs.length u5)) = w11 at *
  have Bw11 : Hid (Below w.heap.size w w11) := KW.out.below Bw10.out Bw10.out.size (by have := NB.out; omega)
  have Zw11 : Hid (Wx w11 (b + 1) (.int .i64 0) (.int .i64 0) (.int .i64 0) (.int .i64 0) (.slice none 0 0) (.slice none 0 0) (.slice none 0 0) (.slice none 0 0) (.slice none 0 0)) := Zw10.out.kp KW.out (by have := NB.out; omega)
  have OWw11 : Hid (Ow w11 n3 (Value.slice j1 D.gs.length u1) D.gs ∧ Ow w11 n3 (Value.slice j2 D.os.length u2) D.os ∧ Ow w11 n3 (Value.slice j3 D.gold.length u3) D.gold ∧ Uno w11 n3 (Value.slice j4 D.us.length u4) D.us ∧ Jbo w11 n3 (Value.slice j5 D.qs.length u5) D.qs) := ⟨owns_kp OB.out.1 KW.out Sn3.out.2, owns_kp OB.out.2.1 KW.out Sn3.out.2, owns_kp OB.out.2.2.1 KW.out Sn3.out.2, owns_kp OB.out.2.2.2.1 KW.out Sn3.out.2, owns_kp OB.out.2.2.2.2 KW.out Sn3.out.2⟩
  have EVw11 : Hid (Evo w11 n1 ev1 es1 ∧ Evo w11 n2 ev2 es2 ∧ Evo w11 n3 ev3 es3) := ⟨owns_kp (EW.out.1) KW.out Sn1.out.2, owns_kp (EW.out.2) KW.out Sn2.out.2, owns_kp EN.out KW.out Sn3.out.2⟩
  have Qn3 : Hid (n3 ≤ w11.heap.size) := Nat.le_trans HS.out KW.out.size
  clear HS KW OB EN Bw10 Zw10 Pw10 EW
  obtain ⟨x0, x1, x2, x3, x4, x5, x6, x7, x8⟩ := Pw11.out.cells
  go_wp2_with fail
  obtain ⟨n4, hn4⟩ : ∃ z, w11.heap.size = z := ⟨_, rfl⟩
  have Sn4 : Hid (w11.heap.size = n4 ∧ bx < n4) := ⟨hn4, by rw [← hn4]; exact Pw11.out.lt⟩
  have SQn3n4 : Hid (n3 ≤ n4) := by unfold Hid; rw [← hn4]; exact Qn3.out
  have Ln1n4 : Hid (∀ k, ev1.ownBlock = some k → k < n4) := fun k hk => by rw [← hn4]; exact (EVw11.out.1.block k hk).2
  have Ln2n4 : Hid (∀ k, ev2.ownBlock = some k → k < n4) := fun k hk => by rw [← hn4]; exact (EVw11.out.2.1.block k hk).2
  have Ln3n4 : Hid (∀ k, ev3.ownBlock = some k → k < n4) := fun k hk => by rw [← hn4]; exact (EVw11.out.2.2.block k hk).2
  refine (rfight_any _ _ ks D Wn w11 (K.out.1.below Bw11.out) ⟨_, _, _, _, _, rfl, OWw11.out.1.ro, OWw11.out.2.1.ro, OWw11.out.2.2.1.ro, OWw11.out.2.2.2.1.l, OWw11.out.2.2.2.2.l⟩ KD.out.1 KD.out.2.1).mono ?_
  rintro e w12 ⟨v, ev4, rfl, hwo, hev, hb⟩
  rw [hn4] at hwo hev
  obtain ⟨E, hEE⟩ : ∃ E, fought ks Wn D = E := ⟨_, rfl⟩
  obtain ⟨es4, hE⟩ : ∃ l, fevents ks Wn D = l := ⟨_, rfl⟩
  have P4 : Hid (Ph ks Wn Hn A 4 E (((es1 ++ es2) ++ es3) ++ es4)) := by rw [← hEE, ← hE]; exact Ph.four P3.out
  have KE : Hid (WRight ks E ∧ E.wide = (Wn : Nat) ∧ E.high = (Hn : Nat) ∧ E.turn = A.turn ∧ (((es1 ++ es2) ++ es3) ++ es4).length ≤ 50000 * 4) := P4.out.keep RA.out.1 RA.out.2.1 RA.out.2.2.1
  rw [hEE] at hwo
  rw [hE] at hev
  clear hEE hE
  obtain ⟨k1, k2, k3, k4, k5, rfl, o1, o2, o3, o4, o5⟩ := hwo
  obtain ⟨s1, r1, rfl⟩ := o1.len
  obtain ⟨s2, r2, rfl⟩ := o2.len
  obtain ⟨s3, r3, rfl⟩ := o3.len
  obtain ⟨s4, r4, rfl⟩ := o4.len
  obtain ⟨s5, r5, rfl⟩ := o5.len
  have OB : Hid (Ow w12 n4 (Value.slice s1 E.gs.length r1) E.gs ∧ Ow w12 n4 (Value.slice s2 E.os.length r2) E.os ∧ Ow w12 n4 (Value.slice s3 E.gold.length r3) E.gold ∧ Uno w12 n4 (Value.slice s4 E.us.length r4) E.us ∧ Jbo w12 n4 (Value.slice s5 E.qs.length r5) E.qs) := ⟨o1, o2, o3, o4, o5⟩
  have EN : Hid (Evo w12 n4 ev4 es4) := hev
  have Bw12 : Hid (Below w.heap.size w w12) := Bw11.out.trans (hb.mono Bw11.out.size)
  have Zw12 : Hid (Wx w12 (b + 1) (.int .i64 0) (.int .i64 0) (.int .i64 0) (.int .i64 0) (.slice none 0 0) (.slice none 0 0) (.slice none 0 0) (.slice none 0 0) (.slice none 0 0)) := Zw11.out.below hb Zw11.out.lt
  have Pw12 : Hid (Wx w12 bx (.int .i64 D.turn) (.int .i64 D.next) (.int .i64 D.wide) (.int .i64 D.high) (Value.slice j1 D.gs.length u1) (Value.slice j2 D.os.length u2) (Value.slice j3 D.gold.length u3) (Value.slice j4 D.us.length u4) (Value.slice j5 D.qs.length u5)) := Pw11.out.below hb Pw11.out.lt
  have EW : Hid (Evo w12 n1 ev1 es1 ∧ Evo w12 n2 ev2 es2 ∧ Evo w12 n3 ev3 es3) := ⟨EVw11.out.1.below hb, EVw11.out.2.1.below hb, EVw11.out.2.2.below hb⟩
  have HS : Hid (n4 ≤ w12.heap.size) := by unfold Hid; rw [← hn4]; exact hb.size
  clear hb hev o1 o2 o3 o4 o5 hn4 x0 x1 x2 x3 x4 x5 x6 x7 x8 Bw11 Zw11 Pw11 OWw11 EVw11
  obtain ⟨z0, z1, z2, z3, z4, z5, z6, z7, z8⟩ := Pw12.out.cells
  obtain ⟨t0, t1, t2, t3, t4, t5, t6, t7, t8⟩ := Pw12.out.thaws
  have KW : Hid (Kp bx w12 (((((((((w12.setCell ⟨bx, 0, none⟩ (.int .i64 E.turn)).setCell ⟨bx, 1, none⟩ (.int .i64 E.next)).setCell ⟨bx, 2, none⟩ (.int .i64 E.wide)).setCell ⟨bx, 3, none⟩ (.int .i64 E.high)).setCell ⟨bx, 4, none⟩ (Value.slice s1 E.gs.length r1)).setCell ⟨bx, 5, none⟩ (Value.slice s2 E.os.length r2)).setCell ⟨bx, 6, none⟩ (Value.slice s3 E.gold.length r3)).setCell ⟨bx, 7, none⟩ (Value.slice s4 E.us.length r4)).setCell ⟨bx, 8, none⟩ (Value.slice s5 E.qs.length r5))) := put_kp _ _ _ _ _ _ _ _ _ _ _
  have Pw13 : Hid (Wx (((((((((w12.setCell ⟨bx, 0, none⟩ (.int .i64 E.turn)).setCell ⟨bx, 1, none⟩ (.int .i64 E.next)).setCell ⟨bx, 2, none⟩ (.int .i64 E.wide)).setCell ⟨bx, 3, none⟩ (.int .i64 E.high)).setCell ⟨bx, 4, none⟩ (Value.slice s1 E.gs.length r1)).setCell ⟨bx, 5, none⟩ (Value.slice s2 E.os.length r2)).setCell ⟨bx, 6, none⟩ (Value.slice s3 E.gold.length r3)).setCell ⟨bx, 7, none⟩ (Value.slice s4 E.us.length r4)).setCell ⟨bx, 8, none⟩ (Value.slice s5 E.qs.length r5)) bx (.int .i64 E.turn) (.int .i64 E.next) (.int .i64 E.wide) (.int .i64 E.high) (Value.slice s1 E.gs.length r1) (Value.slice s2 E.os.length r2) (Value.slice s3 E.gold.length r3) (Value.slice s4 E.us.length r4) (Value.slice s5 E.qs.length r5)) := Pw12.out.put _ _ _ _ _ _ _ _ _
  go_upto_region 13 with fail
  clear z0 z1 z2 z3 z4 z5 z6 z7 z8 t0 t1 t2 t3 t4 t5 t6 t7 t8
  generalize (((((((((w12.setCell ⟨bx, 0, none⟩ (.int .i64 E.turn)).setCell ⟨bx, 1, none⟩ (.int .i64 E.next)).setCell ⟨bx, 2, none⟩ (.int .i64 E.wide)).setCell ⟨bx, 3, none⟩ (.int .i64 E.high)).setCell ⟨bx, 4, none⟩ (Value.slice s1 E.gs.length r1)).setCell ⟨bx, 5, none⟩ (Value.slice s2 E.os.length r2)).setCell ⟨bx, 6, none⟩ (Value.slice s3 E.gold.length r3)).setCell ⟨bx, 7, none⟩ (Value.slice s4 E.us.length r4)).setCell ⟨bx, 8, none⟩ (Value.slice s5 E.qs.length r5)) = w13 at *
  have Bw13 : Hid (Below w.heap.size w w13) := KW.out.below Bw12.out Bw12.out.size (by have := NB.out; omega)
  have Zw13 : Hid (Wx w13 (b + 1) (.int .i64 0) (.int .i64 0) (.int .i64 0) (.int .i64 0) (.slice none 0 0) (.slice none 0 0) (.slice none 0 0) (.slice none 0 0) (.slice none 0 0)) := Zw12.out.kp KW.out (by have := NB.out; omega)
  have OWw13 : Hid (Ow w13 n4 (Value.slice s1 E.gs.length r1) E.gs ∧ Ow w13 n4 (Value.slice s2 E.os.length r2) E.os ∧ Ow w13 n4 (Value.slice s3 E.gold.length r3) E.gold ∧ Uno w13 n4 (Value.slice s4 E.us.length r4) E.us ∧ Jbo w13 n4 (Value.slice s5 E.qs.length r5) E.qs) := ⟨owns_kp OB.out.1 KW.out Sn4.out.2, owns_kp OB.out.2.1 KW.out Sn4.out.2, owns_kp OB.out.2.2.1 KW.out Sn4.out.2, owns_kp OB.out.2.2.2.1 KW.out Sn4.out.2, owns_kp OB.out.2.2.2.2 KW.out Sn4.out.2⟩
  have EVw13 : Hid (Evo w13 n1 ev1 es1 ∧ Evo w13 n2 ev2 es2 ∧ Evo w13 n3 ev3 es3 ∧ Evo w13 n4 ev4 es4) := ⟨owns_kp (EW.out.1) KW.out Sn1.out.2, owns_kp (EW.out.2.1) KW.out Sn2.out.2, owns_kp (EW.out.2.2) KW.out Sn3.out.2, owns_kp EN.out KW.out Sn4.out.2⟩
  have Qn4 : Hid (n4 ≤ w13.heap.size) := Nat.le_trans HS.out KW.out.size
  clear HS KW OB EN Bw12 Zw12 Pw12 EW
  have SO : Hid (n1 ≤ n2 ∧ n2 ≤ n3 ∧ n3 ≤ n4 ∧ n4 ≤ w13.heap.size) := by have := SQn1n2.out; have := SQn2n3.out; have := SQn3n4.out; have := Qn4.out; unfold Hid; omega
  have TB : Hid (0 ≤ E.turn ∧ E.turn < 1000000) := by have h1 := KE.out.2.2.2.1; have h2 := RA.out.2.2.2; have h3 := TX.out; unfold Hid; omega
  have wt : IntKind.i64.wrap (E.turn + 1) = E.turn + 1 := by rw [IntKind.wrap_i64]; have := TB.out; omega
  obtain ⟨x0, x1, x2, x3, x4, x5, x6, x7, x8⟩ := Pw13.out.cells
  have t0 := Pw13.out.thaw 0
  have P14 : Hid (Wx (w13.setCell ⟨bx, 0, none⟩ (.int .i64 (E.turn + 1))) bx (.int .i64 (E.turn + 1)) (.int .i64 E.next) (.int .i64 E.wide) (.int .i64 E.high) (Value.slice s1 E.gs.length r1) (Value.slice s2 E.os.length r2) (Value.slice s3 E.gold.length r3) (Value.slice s4 E.us.length r4) (Value.slice s5 E.qs.length r5)) := Pw13.out.set0 _
  have K14 : Hid (Kp bx w13 (w13.setCell ⟨bx, 0, none⟩ (.int .i64 (E.turn + 1)))) := Kp.set _ _ _
  go_upto_region 14 with fail
  clear x0 x1 x2 x3 x4 x5 x6 x7 x8 t0 wt
  generalize (w13.setCell ⟨bx, 0, none⟩ (.int .i64 (E.turn + 1))) = w14 at *
  have B14 : Hid (Below w.heap.size w w14) := K14.out.below Bw13.out Bw13.out.size (by have := NB.out; omega)
  have Z14 : Hid (Wx w14 (b + 1) (.int .i64 0) (.int .i64 0) (.int .i64 0) (.int .i64 0) (.slice none 0 0) (.slice none 0 0) (.slice none 0 0) (.slice none 0 0) (.slice none 0 0)) := Zw13.out.kp K14.out (by have := NB.out; omega)
  obtain ⟨sE, hsE⟩ : ∃ z, w14.heap.size = z := ⟨_, rfl⟩
  have O14 : Hid (Ow w14 n4 (Value.slice s1 E.gs.length r1) E.gs ∧ Ow w14 n4 (Value.slice s2 E.os.length r2) E.os ∧ Ow w14 n4 (Value.slice s3 E.gold.length r3) E.gold ∧ Uno w14 n4 (Value.slice s4 E.us.length r4) E.us ∧ Jbo w14 n4 (Value.slice s5 E.qs.length r5) E.qs) := ⟨owns_kp OWw13.out.1 K14.out Sn4.out.2, owns_kp OWw13.out.2.1 K14.out Sn4.out.2, owns_kp OWw13.out.2.2.1 K14.out Sn4.out.2, owns_kp OWw13.out.2.2.2.1 K14.out Sn4.out.2, owns_kp OWw13.out.2.2.2.2 K14.out Sn4.out.2⟩
  have A14 : Hid (Evo w14 n1 ev1 es1) := owns_kp EVw13.out.1 K14.out Sn1.out.2
  have E2 : Hid (Evo w14 n2 ev2 es2) := owns_kp EVw13.out.2.1 K14.out Sn2.out.2
  have E3 : Hid (Evo w14 n3 ev3 es3) := owns_kp EVw13.out.2.2.1 K14.out Sn3.out.2
  have E4 : Hid (Evo w14 n4 ev4 es4) := owns_kp EVw13.out.2.2.2 K14.out Sn4.out.2
  have NS : Hid (n1 ≤ n2 ∧ n2 ≤ n3 ∧ n3 ≤ n4 ∧ n4 ≤ sE ∧ bx < n1 ∧ b + 1 < bx) := by
    have h1 := SO.out
    have h2 := Sn1.out
    have h3 := NB.out
    have h4 := K14.out.size
    unfold Hid
    omega
  have A14s : Hid (n1 ≤ w14.heap.size ∧ sE ≤ w14.heap.size) := by have := NS.out; unfold Hid; omega
  have LB : Hid (∀ x ∈ [(Value.slice s1 E.gs.length r1), (Value.slice s2 E.os.length r2), (Value.slice s3 E.gold.length r3), (Value.slice s4 E.us.length r4), (Value.slice s5 E.qs.length r5), ev4], ∀ k, x.ownBlock = some k → n4 ≤ k ∧ k < sE) := by
    intro x hx k hk
    rw [← hsE]
    simp only [List.mem_cons, List.not_mem_nil, or_false] at hx
    rcases hx with rfl | rfl | rfl | rfl | rfl | rfl
    · exact O14.out.1.block k hk
    · exact O14.out.2.1.block k hk
    · exact O14.out.2.2.1.block k hk
    · exact O14.out.2.2.2.1.block k hk
    · exact O14.out.2.2.2.2.block k hk
    · exact E4.out.block k hk
  have L3 : Hid (∀ k, ev3.ownBlock = some k → n3 ≤ k ∧ k < sE) := fun k hk => by rw [← hsE]; exact E3.out.block k hk
  clear hsE K14 Pw13 Bw13 Zw13 OWw13 EVw13
  have LV12 : Hid (∀ k, ev1.ownBlock = some k → k < n2 ∨ sE ≤ k) := fun k hk => .inl (Ln1n2.out k hk)
  go_wp2_with (at_builtin; refine app_evl _ rfl _ _ rfl n1 _ (es1) rfl A14.out _ es2 rfl E2.out.l (by have := KE.out.2.2.2.2; simp only [List.length_append] at this ⊢; omega) (by have := A14s.out; omega) ?_)
  intro va w15 o8 g8 a8
  have A15 : Hid (Evo w15 n1 va (es1 ++ es2)) := by
    have h := o8
    unfold Hid
    (try simp only [List.append_assoc] at h ⊢)
    exact h
  have FE : Hid (Fr (fun q => ev1.ownBlock = some q) w14 w15) := Fr.gb g8 (fun k hk => hk)
  have V15 : Hid (∀ k, va.ownBlock = some k → k < n2 ∨ sE ≤ k) := fun k hk => by
    rcases a8 with a8 | a8
    · exact LV12.out k (a8.symm.trans hk)
    · rw [hk] at a8
      injection a8 with a8
      have := A14s.out
      exact .inr (by omega)
  have A15s : Hid (n1 ≤ w15.heap.size ∧ sE ≤ w15.heap.size) := by have h1 := g8.size; have h2 := A14s.out; unfold Hid; omega
  have NO : Hid (∀ k, n3 ≤ k → k < sE → ¬ ev1.ownBlock = some k) := fun k h1 h2 e => by have := LV12.out k e; have := NS.out; omega
  have LO : Hid (∀ k, k < n1 → ¬ ev1.ownBlock = some k) := fun k h1 e => by have := (A14.out.block k e).1; omega
  have P15 : Hid (Wx w15 bx (.int .i64 (E.turn + 1)) (.int .i64 E.next) (.int .i64 E.wide) (.int .i64 E.high) (Value.slice s1 E.gs.length r1) (Value.slice s2 E.os.length r2) (Value.slice s3 E.gold.length r3) (Value.slice s4 E.us.length r4) (Value.slice s5 E.qs.length r5)) := FE.out.wx P14.out (LO.out bx (by have := NS.out; omega))
  have Z15 : Hid (Wx w15 (b + 1) (.int .i64 0) (.int .i64 0) (.int .i64 0) (.int .i64 0) (.slice none 0 0) (.slice none 0 0) (.slice none 0 0) (.slice none 0 0) (.slice none 0 0)) := FE.out.wx Z14.out (LO.out (b + 1) (by have := NS.out; omega))
  have B15 : Hid (Below w.heap.size w w15) := B14.out.trans (FE.out.low B14.out.size (fun k hk => by have h1 := (A14.out.block k hk).1; have h2 := NS.out; have h3 := HB.out; omega))
  have O15 : Hid (Ow w15 n4 (Value.slice s1 E.gs.length r1) E.gs ∧ Ow w15 n4 (Value.slice s2 E.os.length r2) E.os ∧ Ow w15 n4 (Value.slice s3 E.gold.length r3) E.gold ∧ Uno w15 n4 (Value.slice s4 E.us.length r4) E.us ∧ Jbo w15 n4 (Value.slice s5 E.qs.length r5) E.qs) := by
    have nn : ∀ x ∈ [(Value.slice s1 E.gs.length r1), (Value.slice s2 E.os.length r2), (Value.slice s3 E.gold.length r3), (Value.slice s4 E.us.length r4), (Value.slice s5 E.qs.length r5), ev4], ∀ k, x.ownBlock = some k → ¬ ev1.ownBlock = some k := fun x hx k hk => by have := LB.out x hx k hk; have := NS.out; exact NO.out k (by omega) (by omega)
    exact ⟨FE.out.own O14.out.1 (nn _ (by simp)), FE.out.own O14.out.2.1 (nn _ (by simp)), FE.out.own O14.out.2.2.1 (nn _ (by simp)), FE.out.own O14.out.2.2.2.1 (nn _ (by simp)), FE.out.own O14.out.2.2.2.2 (nn _ (by simp))⟩
  have E315 : Hid (Evo w15 n3 ev3 es3) := FE.out.own E3.out (fun k hk => NO.out k (L3.out k hk).1 (L3.out k hk).2)
  have E415 : Hid (Evo w15 n4 ev4 es4) := FE.out.own E4.out (fun k hk => by have := LB.out ev4 (by simp) k hk; have := NS.out; exact NO.out k (by omega) (by omega))
  clear o8 g8 a8 FE NO LO P14 Z14 B14 O14
  go_wp2_with (at_builtin; refine app_evl _ rfl _ _ rfl n1 _ (es1 ++ es2) rfl A15.out _ es3 rfl E315.out.l (by have := KE.out.2.2.2.2; simp only [List.length_append] at this ⊢; omega) (by have := A15s.out; omega) ?_)
  intro vb w16 o8 g8 a8
  have A16 : Hid (Evo w16 n1 vb (es1 ++ es2 ++ es3)) := by
    have h := o8
    unfold Hid
    (try simp only [List.append_assoc] at h ⊢)
    exact h
  have FE : Hid (Fr (fun q => va.ownBlock = some q) w15 w16) := Fr.gb g8 (fun k hk => hk)
  have V16 : Hid (∀ k, vb.ownBlock = some k → k < n2 ∨ sE ≤ k) := fun k hk => by
    rcases a8 with a8 | a8
    · exact V15.out k (a8.symm.trans hk)
    · rw [hk] at a8
      injection a8 with a8
      have := A15s.out
      exact .inr (by omega)
  have A16s : Hid (n1 ≤ w16.heap.size ∧ sE ≤ w16.heap.size) := by have h1 := g8.size; have h2 := A15s.out; unfold Hid; omega
  have NO : Hid (∀ k, n3 ≤ k → k < sE → ¬ va.ownBlock = some k) := fun k h1 h2 e => by have := V15.out k e; have := NS.out; omega
  have LO : Hid (∀ k, k < n1 → ¬ va.ownBlock = some k) := fun k h1 e => by have := (A15.out.block k e).1; omega
  have P16 : Hid (Wx w16 bx (.int .i64 (E.turn + 1)) (.int .i64 E.next) (.int .i64 E.wide) (.int .i64 E.high) (Value.slice s1 E.gs.length r1) (Value.slice s2 E.os.length r2) (Value.slice s3 E.gold.length r3) (Value.slice s4 E.us.length r4) (Value.slice s5 E.qs.length r5)) := FE.out.wx P15.out (LO.out bx (by have := NS.out; omega))
  have Z16 : Hid (Wx w16 (b + 1) (.int .i64 0) (.int .i64 0) (.int .i64 0) (.int .i64 0) (.slice none 0 0) (.slice none 0 0) (.slice none 0 0) (.slice none 0 0) (.slice none 0 0)) := FE.out.wx Z15.out (LO.out (b + 1) (by have := NS.out; omega))
  have B16 : Hid (Below w.heap.size w w16) := B15.out.trans (FE.out.low B15.out.size (fun k hk => by have h1 := (A15.out.block k hk).1; have h2 := NS.out; have h3 := HB.out; omega))
  have O16 : Hid (Ow w16 n4 (Value.slice s1 E.gs.length r1) E.gs ∧ Ow w16 n4 (Value.slice s2 E.os.length r2) E.os ∧ Ow w16 n4 (Value.slice s3 E.gold.length r3) E.gold ∧ Uno w16 n4 (Value.slice s4 E.us.length r4) E.us ∧ Jbo w16 n4 (Value.slice s5 E.qs.length r5) E.qs) := by
    have nn : ∀ x ∈ [(Value.slice s1 E.gs.length r1), (Value.slice s2 E.os.length r2), (Value.slice s3 E.gold.length r3), (Value.slice s4 E.us.length r4), (Value.slice s5 E.qs.length r5), ev4], ∀ k, x.ownBlock = some k → ¬ va.ownBlock = some k := fun x hx k hk => by have := LB.out x hx k hk; have := NS.out; exact NO.out k (by omega) (by omega)
    exact ⟨FE.out.own O15.out.1 (nn _ (by simp)), FE.out.own O15.out.2.1 (nn _ (by simp)), FE.out.own O15.out.2.2.1 (nn _ (by simp)), FE.out.own O15.out.2.2.2.1 (nn _ (by simp)), FE.out.own O15.out.2.2.2.2 (nn _ (by simp))⟩
  have E416 : Hid (Evo w16 n4 ev4 es4) := FE.out.own E415.out (fun k hk => by have := LB.out ev4 (by simp) k hk; have := NS.out; exact NO.out k (by omega) (by omega))
  clear o8 g8 a8 FE NO LO P15 Z15 B15 O15
  go_wp2_with (at_builtin; refine app_evl _ rfl _ _ rfl n1 _ ((es1 ++ es2) ++ es3) rfl A16.out _ es4 rfl E416.out.l (by have := KE.out.2.2.2.2; simp only [List.length_append] at this ⊢; omega) (by have := A16s.out; omega) ?_)
  intro vc w17 o8 g8 a8
  have A17 : Hid (Evo w17 n1 vc ((es1 ++ es2) ++ es3 ++ es4)) := by
    have h := o8
    unfold Hid
    (try simp only [List.append_assoc] at h ⊢)
    exact h
  have FE : Hid (Fr (fun q => vb.ownBlock = some q) w16 w17) := Fr.gb g8 (fun k hk => hk)
  have V17 : Hid (∀ k, vc.ownBlock = some k → k < n2 ∨ sE ≤ k) := fun k hk => by
    rcases a8 with a8 | a8
    · exact V16.out k (a8.symm.trans hk)
    · rw [hk] at a8
      injection a8 with a8
      have := A16s.out
      exact .inr (by omega)
  have A17s : Hid (n1 ≤ w17.heap.size ∧ sE ≤ w17.heap.size) := by have h1 := g8.size; have h2 := A16s.out; unfold Hid; omega
  have NO : Hid (∀ k, n3 ≤ k → k < sE → ¬ vb.ownBlock = some k) := fun k h1 h2 e => by have := V16.out k e; have := NS.out; omega
  have LO : Hid (∀ k, k < n1 → ¬ vb.ownBlock = some k) := fun k h1 e => by have := (A16.out.block k e).1; omega
  have P17 : Hid (Wx w17 bx (.int .i64 (E.turn + 1)) (.int .i64 E.next) (.int .i64 E.wide) (.int .i64 E.high) (Value.slice s1 E.gs.length r1) (Value.slice s2 E.os.length r2) (Value.slice s3 E.gold.length r3) (Value.slice s4 E.us.length r4) (Value.slice s5 E.qs.length r5)) := FE.out.wx P16.out (LO.out bx (by have := NS.out; omega))
  have Z17 : Hid (Wx w17 (b + 1) (.int .i64 0) (.int .i64 0) (.int .i64 0) (.int .i64 0) (.slice none 0 0) (.slice none 0 0) (.slice none 0 0) (.slice none 0 0) (.slice none 0 0)) := FE.out.wx Z16.out (LO.out (b + 1) (by have := NS.out; omega))
  have B17 : Hid (Below w.heap.size w w17) := B16.out.trans (FE.out.low B16.out.size (fun k hk => by have h1 := (A16.out.block k hk).1; have h2 := NS.out; have h3 := HB.out; omega))
  have O17 : Hid (Ow w17 n4 (Value.slice s1 E.gs.length r1) E.gs ∧ Ow w17 n4 (Value.slice s2 E.os.length r2) E.os ∧ Ow w17 n4 (Value.slice s3 E.gold.length r3) E.gold ∧ Uno w17 n4 (Value.slice s4 E.us.length r4) E.us ∧ Jbo w17 n4 (Value.slice s5 E.qs.length r5) E.qs) := by
    have nn : ∀ x ∈ [(Value.slice s1 E.gs.length r1), (Value.slice s2 E.os.length r2), (Value.slice s3 E.gold.length r3), (Value.slice s4 E.us.length r4), (Value.slice s5 E.qs.length r5), ev4], ∀ k, x.ownBlock = some k → ¬ vb.ownBlock = some k := fun x hx k hk => by have := LB.out x hx k hk; have := NS.out; exact NO.out k (by omega) (by omega)
    exact ⟨FE.out.own O16.out.1 (nn _ (by simp)), FE.out.own O16.out.2.1 (nn _ (by simp)), FE.out.own O16.out.2.2.1 (nn _ (by simp)), FE.out.own O16.out.2.2.2.1 (nn _ (by simp)), FE.out.own O16.out.2.2.2.2 (nn _ (by simp))⟩
  clear o8 g8 a8 FE NO LO P16 Z16 B16 O16
  go_upto_region 17 with fail
  obtain ⟨x0, x1, x2, x3, x4, x5, x6, x7, x8⟩ := P17.out.cells
  obtain ⟨z0, z1, z2, z3, z4, z5, z6, z7, z8⟩ := Z17.out.cells
  obtain ⟨t0, t1, t2, t3, t4, t5, t6, t7, t8⟩ := Z17.out.thaws
  have KZ : Hid (Kp (b + 1) w17 (((((((((w17.setCell ⟨b + 1, 0, none⟩ (.int .i64 (E.turn + 1))).setCell ⟨b + 1, 1, none⟩ (.int .i64 E.next)).setCell ⟨b + 1, 2, none⟩ (.int .i64 E.wide)).setCell ⟨b + 1, 3, none⟩ (.int .i64 E.high)).setCell ⟨b + 1, 4, none⟩ (Value.slice s1 E.gs.length r1)).setCell ⟨b + 1, 5, none⟩ (Value.slice s2 E.os.length r2)).setCell ⟨b + 1, 6, none⟩ (Value.slice s3 E.gold.length r3)).setCell ⟨b + 1, 7, none⟩ (Value.slice s4 E.us.length r4)).setCell ⟨b + 1, 8, none⟩ (Value.slice s5 E.qs.length r5))) := put_kp _ _ _ _ _ _ _ _ _ _ _
  obtain ⟨y0, y1, y2, y3, y4, y5, y6, y7, y8⟩ := (Z17.out.put (.int .i64 (E.turn + 1)) (.int .i64 E.next) (.int .i64 E.wide) (.int .i64 E.high) (Value.slice s1 E.gs.length r1) (Value.slice s2 E.os.length r2) (Value.slice s3 E.gold.length r3) (Value.slice s4 E.us.length r4) (Value.slice s5 E.qs.length r5)).cells
  go_wp2
  clear x0 x1 x2 x3 x4 x5 x6 x7 x8 z0 z1 z2 z3 z4 z5 z6 z7 z8 t0 t1 t2 t3 t4 t5 t6 t7 t8
  generalize (((((((((w17.setCell ⟨b + 1, 0, none⟩ (.int .i64 (E.turn + 1))).setCell ⟨b + 1, 1, none⟩ (.int .i64 E.next)).setCell ⟨b + 1, 2, none⟩ (.int .i64 E.wide)).setCell ⟨b + 1, 3, none⟩ (.int .i64 E.high)).setCell ⟨b + 1, 4, none⟩ (Value.slice s1 E.gs.length r1)).setCell ⟨b + 1, 5, none⟩ (Value.slice s2 E.os.length r2)).setCell ⟨b + 1, 6, none⟩ (Value.slice s3 E.gold.length r3)).setCell ⟨b + 1, 7, none⟩ (Value.slice s4 E.us.length r4)).setCell ⟨b + 1, 8, none⟩ (Value.slice s5 E.qs.length r5)) = wz at *
  have h4 : Hid (w.heap.size ≤ n4 ∧ b + 1 < n4 ∧ w.heap.size ≤ n1 ∧ b + 1 < n1) := by have := NS.out; have := HB.out; unfold Hid; omega
  refine bodyPost_ret (v := .tuple #[.agg #[.int .i64 (E.turn + 1), .int .i64 E.next, .int .i64 E.wide, .int .i64 E.high, Value.slice s1 E.gs.length r1, Value.slice s2 E.os.length r2, Value.slice s3 E.gold.length r3, Value.slice s4 E.us.length r4, Value.slice s5 E.qs.length r5], vc, .int .i64 0]) (by simp [results, Tryz.results21, go_sem, y0, y1, y2, y3, y4, y5, y6, y7, y8]) rfl ⟨_, _, by rw [SF.out], .inr ⟨SF.out, { E with turn := E.turn + 1 }, ((es1 ++ es2) ++ es3) ++ es4, ⟨out, Wn, Hn, E, LS.out, GX.out.1, GX.out.2, by rw [GA.out]; exact P4.out, rfl⟩, ?_, ?_⟩, KZ.out.below B17.out B17.out.size (by rw [HB.out]; omega)⟩
  · exact ⟨_, _, _, _, _, rfl, (O17.out.1.kp KZ.out h4.out.2.1).mono h4.out.1, (O17.out.2.1.kp KZ.out h4.out.2.1).mono h4.out.1, (O17.out.2.2.1.kp KZ.out h4.out.2.1).mono h4.out.1, (O17.out.2.2.2.1.kp KZ.out h4.out.2.1).mono h4.out.1, (O17.out.2.2.2.2.kp KZ.out h4.out.2.1).mono h4.out.1⟩
  · exact Evo.mono (owns_kp A17.out KZ.out h4.out.2.2.2) h4.out.2.2.1
end Go.Proofs.YteieikgkmfglaaaGreatDoor

namespace Go.Proofs.YteieikgkmfglaaaGreatDoor
open Go.RowKit
set_option linter.unusedVariables false

theorem app_rowz {ops : Array Oper} {rest : List Oper} {o : Oper} {a : Act} {Q : Exit → Act → World → Prop} (w : World) (hgd : o.guard = none) (s x : Operand)
    (ho : o.op = .call { callee := .builtin .append, args := #[s, x], argTypes := #[23, 23] }) (base : Nat) (v : Value) (xs : List Int) (hs : a.eval s = v) (hown : Ow w base v xs)
    (u : Value) (ys : List Int) (hx : a.eval x = u) (hu : Ro w u ys) (hl : (xs.length + ys.length) * 8 ≤ 140737488355328) (hbase : base ≤ w.heap.size)
    (h : ∀ v' w', Ow w' base v' (xs ++ ys) → w.grownBy w' v.ownBlock → (v'.ownBlock = v.ownBlock ∨ v'.ownBlock = some w.heap.size) → wpList Tryz.prog ops Q rest (a.put o.dst v') w') :
    wpList Tryz.prog ops Q (o :: rest) a w := by
  obtain ⟨i0, hi, hz0, hz1, hz2⟩ := info_parts info_int
  obtain ⟨ad, c, rfl, h1, h2, h3⟩ := hu
  by_cases hn : ys = []
  · subst hn
    refine wpList_plain hgd fun K hK => ?_
    have hrun := run_append_no (P := Tryz.prog) (w := w) base 23 o.type 3 i0 1 Tryz.underlying23 hi v xs.length _ hown ad c
    have hx' : a.eval x = .slice ad 0 c := hx
    unfold Oper.wp
    simp [execOp, ho, resolve, invoke, builtin, hs, hx', hrun, Result.andThen]
    exact hK _ _ (h v w (by simpa using hown) (World.grownBy.refl _ _) (.inl rfl))
  · obtain ⟨y, rfl, hy, hc⟩ := h3 hn
    refine wpList_append_lies w hgd s x 23 ho base 3 i0 (.int .i64 0) 1 8 Tryz.underlying23 hi hz0 hz1 hz2 rfl (by decide) v xs.length _ hs hown y ys.length c (ys.map (Value.int .i64)) hx (by simp) ?_ ?_ (List.length_pos_iff.2 hn) (by unfold maxLen; omega) (by omega) hbase _ rfl ?_
    · intro j u hj
      rw [List.getElem?_map] at hj
      cases hd : ys[j]? with
      | none => rw [hd] at hj; cases hj
      | some d => rw [hd] at hj; cases hj; exact hc j d hd
    · exact ints_oneCell _ _
    · intro g cap w' k1 k2 k3 _
      refine h _ w' ?_ k2 ?_
      · unfold Ow
        rw [List.length_append, List.map_append]
        exact k1
      · rcases k3 with k3 | k3
        · exact .inl k3.symm
        · exact .inr (by rw [k3]; rfl)
theorem app_unsz {ops : Array Oper} {rest : List Oper} {o : Oper} {a : Act} {Q : Exit → Act → World → Prop} (w : World) (hgd : o.guard = none) (s x : Operand)
    (ho : o.op = .call { callee := .builtin .append, args := #[s, x], argTypes := #[26, 26] }) (base : Nat) (v : Value) (ks : List UnV) (hs : a.eval s = v) (hown : Uno w base v ks)
    (u : Value) (ys : List UnV) (hx : a.eval x = u) (hu : Unl w u ys) (hl : (ks.length + ys.length) * 64 ≤ 140737488355328) (hbase : base ≤ w.heap.size)
    (h : ∀ v' w', Uno w' base v' (ks ++ ys) → w.grownBy w' v.ownBlock → (v'.ownBlock = v.ownBlock ∨ v'.ownBlock = some w.heap.size) → wpList Tryz.prog ops Q rest (a.put o.dst v') w') :
    wpList Tryz.prog ops Q (o :: rest) a w := by
  obtain ⟨i0, hi, hz0, hz1, hz2⟩ := info_parts info_un
  obtain ⟨ad, c, rfl, h1, h2, h3⟩ := hu
  by_cases hn : ys = []
  · subst hn
    refine wpList_plain hgd fun K hK => ?_
    have hrun := run_append_no (P := Tryz.prog) (w := w) base 26 o.type 44 i0 8 Tryz.underlying26 hi v ks.length _ hown ad c
    have hx' : a.eval x = .slice ad 0 c := hx
    unfold Oper.wp
    simp [execOp, ho, resolve, invoke, builtin, hs, hx', hrun, Result.andThen]
    exact hK _ _ (h v w (by simpa using hown) (World.grownBy.refl _ _) (.inl rfl))
  · obtain ⟨y, rfl, hy, hc⟩ := h3 hn
    refine wpList_append_lies w hgd s x 26 ho base 44 i0 _ 8 64 Tryz.underlying26 hi hz0 hz1 hz2 rfl (by decide) v ks.length _ hs hown y ys.length c (ys.flatMap UnV.cs) hx (len_un ys) (cell_un hc) ?_ (List.length_pos_iff.2 hn) (by unfold maxLen; omega) (by omega) hbase _ rfl ?_
    · intro u hu
      obtain ⟨k, -, hk⟩ := List.mem_flatMap.1 hu
      simp [UnV.cs] at hk
      rcases hk with rfl | rfl | rfl | rfl | rfl | rfl | rfl | rfl <;> rfl
    · intro g cap w' k1 k2 k3 _
      refine h _ w' ?_ k2 ?_
      · unfold Uno
        rw [List.length_append, List.flatMap_append]
        exact k1
      · rcases k3 with k3 | k3
        · exact .inl k3.symm
        · exact .inr (by rw [k3]; rfl)
theorem app_jbsz {ops : Array Oper} {rest : List Oper} {o : Oper} {a : Act} {Q : Exit → Act → World → Prop} (w : World) (hgd : o.guard = none) (s x : Operand)
    (ho : o.op = .call { callee := .builtin .append, args := #[s, x], argTypes := #[27, 27] }) (base : Nat) (v : Value) (ks : List JbV) (hs : a.eval s = v) (hown : Jbo w base v ks)
    (u : Value) (ys : List JbV) (hx : a.eval x = u) (hu : Jbl w u ys) (hl : (ks.length + ys.length) * 32 ≤ 140737488355328) (hbase : base ≤ w.heap.size)
    (h : ∀ v' w', Jbo w' base v' (ks ++ ys) → w.grownBy w' v.ownBlock → (v'.ownBlock = v.ownBlock ∨ v'.ownBlock = some w.heap.size) → wpList Tryz.prog ops Q rest (a.put o.dst v') w') :
    wpList Tryz.prog ops Q (o :: rest) a w := by
  obtain ⟨i0, hi, hz0, hz1, hz2⟩ := info_parts info_jb
  obtain ⟨ad, c, rfl, h1, h2, h3⟩ := hu
  by_cases hn : ys = []
  · subst hn
    refine wpList_plain hgd fun K hK => ?_
    have hrun := run_append_no (P := Tryz.prog) (w := w) base 27 o.type 71 i0 4 Tryz.underlying27 hi v ks.length _ hown ad c
    have hx' : a.eval x = .slice ad 0 c := hx
    unfold Oper.wp
    simp [execOp, ho, resolve, invoke, builtin, hs, hx', hrun, Result.andThen]
    exact hK _ _ (h v w (by simpa using hown) (World.grownBy.refl _ _) (.inl rfl))
  · obtain ⟨y, rfl, hy, hc⟩ := h3 hn
    refine wpList_append_lies w hgd s x 27 ho base 71 i0 _ 4 32 Tryz.underlying27 hi hz0 hz1 hz2 rfl (by decide) v ks.length _ hs hown y ys.length c (ys.flatMap JbV.cs) hx (len_jb ys) (cell_jb hc) ?_ (List.length_pos_iff.2 hn) (by unfold maxLen; omega) (by omega) hbase _ rfl ?_
    · intro u hu
      obtain ⟨k, -, hk⟩ := List.mem_flatMap.1 hu
      simp [JbV.cs] at hk
      rcases hk with rfl | rfl | rfl | rfl <;> rfl
    · intro g cap w' k1 k2 k3 _
      refine h _ w' ?_ k2 ?_
      · unfold Jbo
        rw [List.length_append, List.flatMap_append]
        exact k1
      · rcases k3 with k3 | k3
        · exact .inl k3.symm
        · exact .inr (by rw [k3]; rfl)
/-- lists that came in are no longer than the machine's reach. -/
structure WFit (W : WV) : Prop where
  g : W.gs.length * 8 ≤ 140737488355328
  o : W.os.length * 8 ≤ 140737488355328
  p : W.gold.length * 8 ≤ 140737488355328
  u : W.us.length * 64 ≤ 140737488355328
  q : W.qs.length * 32 ≤ 140737488355328
end Go.Proofs.YteieikgkmfglaaaGreatDoor

namespace Go.Proofs.YteieikgkmfglaaaGreatDoor
open Go.RowKit
set_option linter.unusedVariables false

set_option maxRecDepth 100000 in
set_option maxHeartbeats 8000000 in
theorem rcopyz_any (v : Value) (W : WV) (w : World) (h : Wl w v W) (hl : WFit W) :
    Calls Tryz.prog 23 #[v] w fun e w' => ∃ u, e = .returned u ∧ Wi w' w.heap.size u W ∧ Below w.heap.size w w' := by
  have H : Hid (Wl w v W) := h
  have L : Hid (WFit W) := hl
  obtain ⟨u1, u2, u3, u4, u5, rfl, -, -, -, -, -⟩ := h
  clear hl
  go_enter Tryz.func23, Tryz.ntmps23
  go_upto_region 2 with fail
  have B0 : Hid (Below w.heap.size w (((w.alloc (.cells #[.int .i64 W.turn, .int .i64 W.next, .int .i64 W.wide, .int .i64 W.high, u1, u2, u3, u4, u5] 29)).alloc (.cells #[.int .i64 0, .int .i64 0, .int .i64 0, .int .i64 0, .slice none 0 0, .slice none 0 0, .slice none 0 0, .slice none 0 0, .slice none 0 0] 29)).alloc (.cells #[.int .i64 0, .int .i64 0, .slice none 0 0, .slice none 0 0] 25))) := (((Below.refl _ _).alloc (Nat.le_refl _) _).alloc (by simp) _).alloc (by simp; omega) _
  have X0 : Hid (Bw (((w.alloc (.cells #[.int .i64 W.turn, .int .i64 W.next, .int .i64 W.wide, .int .i64 W.high, u1, u2, u3, u4, u5] 29)).alloc (.cells #[.int .i64 0, .int .i64 0, .int .i64 0, .int .i64 0, .slice none 0 0, .slice none 0 0, .slice none 0 0, .slice none 0 0, .slice none 0 0] 29)).alloc (.cells #[.int .i64 0, .int .i64 0, .slice none 0 0, .slice none 0 0] 25)) w.heap.size W u1 u2 u3 u4 u5) := ((Bw.mk' (w := w) W u1 u2 u3 u4 u5 rfl).below ((Below.refl _ _).alloc (Nat.le_refl _) _) (by simp)).below ((Below.refl _ _).alloc (Nat.le_refl _) _) (by simp; omega)
  have R0 : Hid (Wx (((w.alloc (.cells #[.int .i64 W.turn, .int .i64 W.next, .int .i64 W.wide, .int .i64 W.high, u1, u2, u3, u4, u5] 29)).alloc (.cells #[.int .i64 0, .int .i64 0, .int .i64 0, .int .i64 0, .slice none 0 0, .slice none 0 0, .slice none 0 0, .slice none 0 0, .slice none 0 0] 29)).alloc (.cells #[.int .i64 0, .int .i64 0, .slice none 0 0, .slice none 0 0] 25)) (w.heap.size + 1) (.int .i64 0) (.int .i64 0) (.int .i64 0) (.int .i64 0) (.slice none 0 0) (.slice none 0 0) (.slice none 0 0) (.slice none 0 0) (.slice none 0 0)) := (Wx.new _ _ _ _ _ _ _ _ _ (by simp)).below ((Below.refl _ _).alloc (Nat.le_refl _) _) (by simp)
  have F0 : Hid (Fx (((w.alloc (.cells #[.int .i64 W.turn, .int .i64 W.next, .int .i64 W.wide, .int .i64 W.high, u1, u2, u3, u4, u5] 29)).alloc (.cells #[.int .i64 0, .int .i64 0, .int .i64 0, .int .i64 0, .slice none 0 0, .slice none 0 0, .slice none 0 0, .slice none 0 0, .slice none 0 0] 29)).alloc (.cells #[.int .i64 0, .int .i64 0, .slice none 0 0, .slice none 0 0] 25)) (w.heap.size + 1 + 1) (.int .i64 0) (.int .i64 0) (.slice none 0 0) (.slice none 0 0)) := Fx.new _ _ _ _ (by simp)
  have S0 : Hid (w.heap.size + 3 ≤ (((w.alloc (.cells #[.int .i64 W.turn, .int .i64 W.next, .int .i64 W.wide, .int .i64 W.high, u1, u2, u3, u4, u5] 29)).alloc (.cells #[.int .i64 0, .int .i64 0, .int .i64 0, .int .i64 0, .slice none 0 0, .slice none 0 0, .slice none 0 0, .slice none 0 0, .slice none 0 0] 29)).alloc (.cells #[.int .i64 0, .int .i64 0, .slice none 0 0, .slice none 0 0] 25)).heap.size) := by unfold Hid; simp
  generalize (((w.alloc (.cells #[.int .i64 W.turn, .int .i64 W.next, .int .i64 W.wide, .int .i64 W.high, u1, u2, u3, u4, u5] 29)).alloc (.cells #[.int .i64 0, .int .i64 0, .int .i64 0, .int .i64 0, .slice none 0 0, .slice none 0 0, .slice none 0 0, .slice none 0 0, .slice none 0 0] 29)).alloc (.cells #[.int .i64 0, .int .i64 0, .slice none 0 0, .slice none 0 0] 25)) = w0 at *
  have t := F0.out.thaw 0
  obtain ⟨x, -, -, -⟩ := F0.out.cells
  have y := X0.out.c2
  go_upto_region 3 with fail
  have KW : Hid (Kp (w.heap.size + 1 + 1) w0 (w0.setCell ⟨(w.heap.size + 1 + 1), 0, none⟩ (.int .i64 W.wide))) := Kp.set _ _ _
  have F1 : Hid (Fx (w0.setCell ⟨(w.heap.size + 1 + 1), 0, none⟩ (.int .i64 W.wide)) (w.heap.size + 1 + 1) (.int .i64 W.wide) (.int .i64 0) (.slice none 0 0) (.slice none 0 0)) := F0.out.set0 _
  clear t x y
  generalize (w0.setCell ⟨(w.heap.size + 1 + 1), 0, none⟩ (.int .i64 W.wide)) = w1 at *
  have B1 : Hid (Below w.heap.size w w1) := KW.out.below B0.out B0.out.size (by omega)
  have X1 : Hid (Bw w1 w.heap.size W u1 u2 u3 u4 u5) := X0.out.kp KW.out (by omega)
  have R1 : Hid (Wx w1 (w.heap.size + 1) (.int .i64 0) (.int .i64 0) (.int .i64 0) (.int .i64 0) (.slice none 0 0) (.slice none 0 0) (.slice none 0 0) (.slice none 0 0) (.slice none 0 0)) := R0.out.kp KW.out (by omega)
  have S1 : Hid (w.heap.size + 3 ≤ w1.heap.size) := Nat.le_trans S0.out KW.out.size
  clear KW B0 X0 R0 S0
  have t := F1.out.thaw 1
  obtain ⟨-, x, -, -⟩ := F1.out.cells
  have y := X1.out.c3
  go_upto_region 4 with fail
  have KW : Hid (Kp (w.heap.size + 1 + 1) w1 (w1.setCell ⟨(w.heap.size + 1 + 1), 1, none⟩ (.int .i64 W.high))) := Kp.set _ _ _
  have F2 : Hid (Fx (w1.setCell ⟨(w.heap.size + 1 + 1), 1, none⟩ (.int .i64 W.high)) (w.heap.size + 1 + 1) (.int .i64 W.wide) (.int .i64 W.high) (.slice none 0 0) (.slice none 0 0)) := F1.out.set1 _
  clear t x y
  generalize (w1.setCell ⟨(w.heap.size + 1 + 1), 1, none⟩ (.int .i64 W.high)) = w2 at *
  have B2 : Hid (Below w.heap.size w w2) := KW.out.below B1.out B1.out.size (by omega)
  have X2 : Hid (Bw w2 w.heap.size W u1 u2 u3 u4 u5) := X1.out.kp KW.out (by omega)
  have R2 : Hid (Wx w2 (w.heap.size + 1) (.int .i64 0) (.int .i64 0) (.int .i64 0) (.int .i64 0) (.slice none 0 0) (.slice none 0 0) (.slice none 0 0) (.slice none 0 0) (.slice none 0 0)) := R1.out.kp KW.out (by omega)
  have S2 : Hid (w.heap.size + 3 ≤ w2.heap.size) := Nat.le_trans S1.out KW.out.size
  clear KW B1 X1 R1 S1
  obtain ⟨-, -, x, -⟩ := F2.out.cells
  have y := X2.out.c4
  go_wp2_with (at_builtin; refine app_rowz _ rfl _ _ rfl (w.heap.size + 3) _ [] rfl (Ow.nil _ _) _ W.gs rfl ((H.out.below B2.out).slices.1) (by have := L.out.g; simp only [List.length_nil]; omega) S2.out ?_)
  intro v0 a0 on gn dn
  have BG : Hid (Below w2.heap.size w2 a0) := (Below.refl _ _).grown gn (Nat.le_refl _) (fun k hk => by cases hk)
  try rw [List.nil_append] at on
  have BA : Hid (Below w.heap.size w a0) := B2.out.trans (BG.out.mono B2.out.size)
  have XA : Hid (Bw a0 w.heap.size W u1 u2 u3 u4 u5) := X2.out.below BG.out X2.out.lt
  have RA : Hid (Wx a0 (w.heap.size + 1) (.int .i64 0) (.int .i64 0) (.int .i64 0) (.int .i64 0) (.slice none 0 0) (.slice none 0 0) (.slice none 0 0) (.slice none 0 0) (.slice none 0 0)) := R2.out.below BG.out R2.out.lt
  have FA : Hid (Fx a0 (w.heap.size + 1 + 1) (.int .i64 W.wide) (.int .i64 W.high) (.slice none 0 0) (.slice none 0 0)) := F2.out.below BG.out F2.out.lt
  have SA : Hid (w.heap.size + 3 ≤ a0.heap.size) := Nat.le_trans S2.out BG.out.size
  have P0A : Hid (Ow a0 (w.heap.size + 3) v0 W.gs) := on
  obtain ⟨p0, q0, rfl⟩ := on.len
  clear gn dn on BG x y B2 X2 R2 F2 S2 
  have t := FA.out.thaw 2
  obtain ⟨-, -, x, -⟩ := FA.out.cells
  go_upto_region 5 with fail
  have KW : Hid (Kp (w.heap.size + 1 + 1) a0 (a0.setCell ⟨(w.heap.size + 1 + 1), 2, none⟩ (.slice p0 W.gs.length q0))) := Kp.set _ _ _
  have F3 : Hid (Fx (a0.setCell ⟨(w.heap.size + 1 + 1), 2, none⟩ (.slice p0 W.gs.length q0)) (w.heap.size + 1 + 1) (.int .i64 W.wide) (.int .i64 W.high) (.slice p0 W.gs.length q0) (.slice none 0 0)) := FA.out.set2 _
  clear t x FA
  generalize (a0.setCell ⟨(w.heap.size + 1 + 1), 2, none⟩ (.slice p0 W.gs.length q0)) = w3 at *
  have B3 : Hid (Below w.heap.size w w3) := KW.out.below BA.out BA.out.size (by omega)
  have X3 : Hid (Bw w3 w.heap.size W u1 u2 u3 u4 u5) := XA.out.kp KW.out (by omega)
  have R3 : Hid (Wx w3 (w.heap.size + 1) (.int .i64 0) (.int .i64 0) (.int .i64 0) (.int .i64 0) (.slice none 0 0) (.slice none 0 0) (.slice none 0 0) (.slice none 0 0) (.slice none 0 0)) := RA.out.kp KW.out (by omega)
  have S3 : Hid (w.heap.size + 3 ≤ w3.heap.size) := Nat.le_trans SA.out KW.out.size
  have P0_3 : Hid (Ow w3 (w.heap.size + 3) (.slice p0 W.gs.length q0) W.gs) := owns_kpn P0A.out KW.out (fun b hb => by have := (P0A.out.block b hb).1; omega)
  clear KW BA XA RA SA P0A
  obtain ⟨-, -, -, x⟩ := F3.out.cells
  have y := X3.out.c5
  go_wp2_with (at_builtin; refine app_rowz _ rfl _ _ rfl (w.heap.size + 3) _ [] rfl (Ow.nil _ _) _ W.os rfl ((H.out.below B3.out).slices.2.1) (by have := L.out.o; simp only [List.length_nil]; omega) S3.out ?_)
  intro v1 a1 on gn dn
  have BG : Hid (Below w3.heap.size w3 a1) := (Below.refl _ _).grown gn (Nat.le_refl _) (fun k hk => by cases hk)
  try rw [List.nil_append] at on
  have BA : Hid (Below w.heap.size w a1) := B3.out.trans (BG.out.mono B3.out.size)
  have XA : Hid (Bw a1 w.heap.size W u1 u2 u3 u4 u5) := X3.out.below BG.out X3.out.lt
  have RA : Hid (Wx a1 (w.heap.size + 1) (.int .i64 0) (.int .i64 0) (.int .i64 0) (.int .i64 0) (.slice none 0 0) (.slice none 0 0) (.slice none 0 0) (.slice none 0 0) (.slice none 0 0)) := R3.out.below BG.out R3.out.lt
  have FA : Hid (Fx a1 (w.heap.size + 1 + 1) (.int .i64 W.wide) (.int .i64 W.high) (.slice p0 W.gs.length q0) (.slice none 0 0)) := F3.out.below BG.out F3.out.lt
  have SA : Hid (w.heap.size + 3 ≤ a1.heap.size) := Nat.le_trans S3.out BG.out.size
  have P0A : Hid (Ow a1 (w.heap.size + 3) (.slice p0 W.gs.length q0) W.gs) := P0_3.out.below BG.out
  have D0_1 : Hid (Dif (.slice p0 W.gs.length q0) v1) := Dif.of (n := w3.heap.size) (fun b hb => (P0_3.out.block b hb).2) (fun b hb => by
    rcases dn with dn | dn
    · rw [hb] at dn; cases dn
    · rw [hb] at dn; injection dn with dn; omega)
  have P1A : Hid (Ow a1 (w.heap.size + 3) v1 W.os) := on
  obtain ⟨p1, q1, rfl⟩ := on.len
  clear gn dn on BG x y B3 X3 R3 F3 S3 P0_3
  have t := FA.out.thaw 3
  obtain ⟨-, -, -, x⟩ := FA.out.cells
  go_upto_region 6 with fail
  have KW : Hid (Kp (w.heap.size + 1 + 1) a1 (a1.setCell ⟨(w.heap.size + 1 + 1), 3, none⟩ (.slice p1 W.os.length q1))) := Kp.set _ _ _
  have F4 : Hid (Fx (a1.setCell ⟨(w.heap.size + 1 + 1), 3, none⟩ (.slice p1 W.os.length q1)) (w.heap.size + 1 + 1) (.int .i64 W.wide) (.int .i64 W.high) (.slice p0 W.gs.length q0) (.slice p1 W.os.length q1)) := FA.out.set3 _
  clear t x FA
  generalize (a1.setCell ⟨(w.heap.size + 1 + 1), 3, none⟩ (.slice p1 W.os.length q1)) = w4 at *
  have B4 : Hid (Below w.heap.size w w4) := KW.out.below BA.out BA.out.size (by omega)
  have X4 : Hid (Bw w4 w.heap.size W u1 u2 u3 u4 u5) := XA.out.kp KW.out (by omega)
  have R4 : Hid (Wx w4 (w.heap.size + 1) (.int .i64 0) (.int .i64 0) (.int .i64 0) (.int .i64 0) (.slice none 0 0) (.slice none 0 0) (.slice none 0 0) (.slice none 0 0) (.slice none 0 0)) := RA.out.kp KW.out (by omega)
  have S4 : Hid (w.heap.size + 3 ≤ w4.heap.size) := Nat.le_trans SA.out KW.out.size
  have P0_4 : Hid (Ow w4 (w.heap.size + 3) (.slice p0 W.gs.length q0) W.gs) := owns_kpn P0A.out KW.out (fun b hb => by have := (P0A.out.block b hb).1; omega)
  have P1_4 : Hid (Ow w4 (w.heap.size + 3) (.slice p1 W.os.length q1) W.os) := owns_kpn P1A.out KW.out (fun b hb => by have := (P1A.out.block b hb).1; omega)
  clear KW BA XA RA SA P0A P1A
  go_upto_region 7 with fail
  obtain ⟨z, hz⟩ : ∃ z, w4.heap.size = z := ⟨_, rfl⟩
  have SZ : Hid (w.heap.size + 3 ≤ z) := by rw [← hz]; exact S4.out
  have BN : Hid (Below w4.heap.size w4 (w4.alloc (.cells #[.int .i64 0, .int .i64 0, .int .i64 0, .int .i64 0, .slice none 0 0, .slice none 0 0, .slice none 0 0, .slice none 0 0, .slice none 0 0] 29))) := (Below.refl _ _).alloc (Nat.le_refl _) _
  have Y5 : Hid (Wx (w4.alloc (.cells #[.int .i64 0, .int .i64 0, .int .i64 0, .int .i64 0, .slice none 0 0, .slice none 0 0, .slice none 0 0, .slice none 0 0, .slice none 0 0] 29)) z (.int .i64 0) (.int .i64 0) (.int .i64 0) (.int .i64 0) (.slice none 0 0) (.slice none 0 0) (.slice none 0 0) (.slice none 0 0) (.slice none 0 0)) := Wx.new _ _ _ _ _ _ _ _ _ hz
  have Q0 : Hid (∀ b, ((.slice p0 W.gs.length q0) : Value).ownBlock = some b → b ≠ z) := fun b hb => by have := (P0_4.out.block b hb).2; omega
  have Q1 : Hid (∀ b, ((.slice p1 W.os.length q1) : Value).ownBlock = some b → b ≠ z) := fun b hb => by have := (P1_4.out.block b hb).2; omega
  rw [hz]
  generalize (w4.alloc (.cells #[.int .i64 0, .int .i64 0, .int .i64 0, .int .i64 0, .slice none 0 0, .slice none 0 0, .slice none 0 0, .slice none 0 0, .slice none 0 0] 29)) = w5 at *
  have B5 : Hid (Below w.heap.size w w5) := B4.out.trans (BN.out.mono B4.out.size)
  have X5 : Hid (Bw w5 w.heap.size W u1 u2 u3 u4 u5) := X4.out.below BN.out X4.out.lt
  have R5 : Hid (Wx w5 (w.heap.size + 1) (.int .i64 0) (.int .i64 0) (.int .i64 0) (.int .i64 0) (.slice none 0 0) (.slice none 0 0) (.slice none 0 0) (.slice none 0 0) (.slice none 0 0)) := R4.out.below BN.out R4.out.lt
  have F5 : Hid (Fx w5 (w.heap.size + 1 + 1) (.int .i64 W.wide) (.int .i64 W.high) (.slice p0 W.gs.length q0) (.slice p1 W.os.length q1)) := F4.out.below BN.out F4.out.lt
  have S5 : Hid (w.heap.size + 3 ≤ w5.heap.size) := Nat.le_trans S4.out BN.out.size
  have P0_5 : Hid (Ow w5 (w.heap.size + 3) (.slice p0 W.gs.length q0) W.gs) := P0_4.out.below BN.out
  have P1_5 : Hid (Ow w5 (w.heap.size + 3) (.slice p1 W.os.length q1) W.os) := P1_4.out.below BN.out
  clear hz BN B4 X4 R4 F4 S4 P0_4 P1_4
  have t := Y5.out.thaw 0
  obtain ⟨x, -, -, -, -, -, -, -, -⟩ := Y5.out.cells
  have y := X5.out.c0
  go_upto_region 8 with fail
  have KW : Hid (Kp z w5 (w5.setCell ⟨z, 0, none⟩ (.int .i64 W.turn))) := Kp.set _ _ _
  have Y6 : Hid (Wx (w5.setCell ⟨z, 0, none⟩ (.int .i64 W.turn)) z (.int .i64 W.turn) (.int .i64 0) (.int .i64 0) (.int .i64 0) (.slice none 0 0) (.slice none 0 0) (.slice none 0 0) (.slice none 0 0) (.slice none 0 0)) := Y5.out.set0 _
  clear t x y Y5
  generalize (w5.setCell ⟨z, 0, none⟩ (.int .i64 W.turn)) = w6 at *
  have B6 : Hid (Below w.heap.size w w6) := KW.out.below B5.out B5.out.size (by have := SZ.out; omega)
  have X6 : Hid (Bw w6 w.heap.size W u1 u2 u3 u4 u5) := X5.out.kp KW.out (by have := SZ.out; omega)
  have R6 : Hid (Wx w6 (w.heap.size + 1) (.int .i64 0) (.int .i64 0) (.int .i64 0) (.int .i64 0) (.slice none 0 0) (.slice none 0 0) (.slice none 0 0) (.slice none 0 0) (.slice none 0 0)) := R5.out.kp KW.out (by have := SZ.out; omega)
  have S6 : Hid (w.heap.size + 3 ≤ w6.heap.size) := Nat.le_trans S5.out KW.out.size
  have F6 : Hid (Fx w6 (w.heap.size + 1 + 1) (.int .i64 W.wide) (.int .i64 W.high) (.slice p0 W.gs.length q0) (.slice p1 W.os.length q1)) := F5.out.kp KW.out (by have := SZ.out; omega)
  have P0_6 : Hid (Ow w6 (w.heap.size + 3) (.slice p0 W.gs.length q0) W.gs) := owns_kpn P0_5.out KW.out (fun b hb => by have := (P0_5.out.block b hb).1; have := Q0.out b hb; have := SZ.out; omega)
  have P1_6 : Hid (Ow w6 (w.heap.size + 3) (.slice p1 W.os.length q1) W.os) := owns_kpn P1_5.out KW.out (fun b hb => by have := (P1_5.out.block b hb).1; have := Q1.out b hb; have := SZ.out; omega)
  clear KW B5 X5 R5 S5 F5 P0_5 P1_5
  have t := Y6.out.thaw 1
  obtain ⟨-, x, -, -, -, -, -, -, -⟩ := Y6.out.cells
  have y := X6.out.c1
  go_upto_region 9 with fail
  have KW : Hid (Kp z w6 (w6.setCell ⟨z, 1, none⟩ (.int .i64 W.next))) := Kp.set _ _ _
  have Y7 : Hid (Wx (w6.setCell ⟨z, 1, none⟩ (.int .i64 W.next)) z (.int .i64 W.turn) (.int .i64 W.next) (.int .i64 0) (.int .i64 0) (.slice none 0 0) (.slice none 0 0) (.slice none 0 0) (.slice none 0 0) (.slice none 0 0)) := Y6.out.set1 _
  clear t x y Y6
  generalize (w6.setCell ⟨z, 1, none⟩ (.int .i64 W.next)) = w7 at *
  have B7 : Hid (Below w.heap.size w w7) := KW.out.below B6.out B6.out.size (by have := SZ.out; omega)
  have X7 : Hid (Bw w7 w.heap.size W u1 u2 u3 u4 u5) := X6.out.kp KW.out (by have := SZ.out; omega)
  have R7 : Hid (Wx w7 (w.heap.size + 1) (.int .i64 0) (.int .i64 0) (.int .i64 0) (.int .i64 0) (.slice none 0 0) (.slice none 0 0) (.slice none 0 0) (.slice none 0 0) (.slice none 0 0)) := R6.out.kp KW.out (by have := SZ.out; omega)
  have S7 : Hid (w.heap.size + 3 ≤ w7.heap.size) := Nat.le_trans S6.out KW.out.size
  have F7 : Hid (Fx w7 (w.heap.size + 1 + 1) (.int .i64 W.wide) (.int .i64 W.high) (.slice p0 W.gs.length q0) (.slice p1 W.os.length q1)) := F6.out.kp KW.out (by have := SZ.out; omega)
  have P0_7 : Hid (Ow w7 (w.heap.size + 3) (.slice p0 W.gs.length q0) W.gs) := owns_kpn P0_6.out KW.out (fun b hb => by have := (P0_6.out.block b hb).1; have := Q0.out b hb; have := SZ.out; omega)
  have P1_7 : Hid (Ow w7 (w.heap.size + 3) (.slice p1 W.os.length q1) W.os) := owns_kpn P1_6.out KW.out (fun b hb => by have := (P1_6.out.block b hb).1; have := Q1.out b hb; have := SZ.out; omega)
  clear KW B6 X6 R6 S6 F6 P0_6 P1_6
  obtain ⟨f0, f1, f2, f3⟩ := F7.out.cells
  obtain ⟨-, -, x2, x3, x4, x5, -, -, -⟩ := Y7.out.cells
  have t2 := Y7.out.thaw 2
  have t3 := Y7.out.thaw 3
  have t4 := Y7.out.thaw 4
  have t5 := Y7.out.thaw 5
  go_upto_region 10 with fail
  have KW : Hid (Kp z w7 ((((w7.setCell ⟨z, 2, none⟩ (.int .i64 W.wide)).setCell ⟨z, 3, none⟩ (.int .i64 W.high)).setCell ⟨z, 4, none⟩ (.slice p0 W.gs.length q0)).setCell ⟨z, 5, none⟩ (.slice p1 W.os.length q1))) := (((Kp.set w7 2 (.int .i64 W.wide)).trans (Kp.set _ 3 (.int .i64 W.high))).trans (Kp.set _ 4 (.slice p0 W.gs.length q0))).trans (Kp.set _ 5 (.slice p1 W.os.length q1))
  have Y8 : Hid (Wx ((((w7.setCell ⟨z, 2, none⟩ (.int .i64 W.wide)).setCell ⟨z, 3, none⟩ (.int .i64 W.high)).setCell ⟨z, 4, none⟩ (.slice p0 W.gs.length q0)).setCell ⟨z, 5, none⟩ (.slice p1 W.os.length q1)) z (.int .i64 W.turn) (.int .i64 W.next) (.int .i64 W.wide) (.int .i64 W.high) (.slice p0 W.gs.length q0) (.slice p1 W.os.length q1) (.slice none 0 0) (.slice none 0 0) (.slice none 0 0)) := (((Y7.out.set2 (.int .i64 W.wide)).set3 (.int .i64 W.high)).set4 (.slice p0 W.gs.length q0)).set5 (.slice p1 W.os.length q1)
  clear f0 f1 f2 f3 x2 x3 x4 x5 t2 t3 t4 t5 Y7
  generalize ((((w7.setCell ⟨z, 2, none⟩ (.int .i64 W.wide)).setCell ⟨z, 3, none⟩ (.int .i64 W.high)).setCell ⟨z, 4, none⟩ (.slice p0 W.gs.length q0)).setCell ⟨z, 5, none⟩ (.slice p1 W.os.length q1)) = w8 at *
  have B8 : Hid (Below w.heap.size w w8) := KW.out.below B7.out B7.out.size (by have := SZ.out; omega)
  have X8 : Hid (Bw w8 w.heap.size W u1 u2 u3 u4 u5) := X7.out.kp KW.out (by have := SZ.out; omega)
  have R8 : Hid (Wx w8 (w.heap.size + 1) (.int .i64 0) (.int .i64 0) (.int .i64 0) (.int .i64 0) (.slice none 0 0) (.slice none 0 0) (.slice none 0 0) (.slice none 0 0) (.slice none 0 0)) := R7.out.kp KW.out (by have := SZ.out; omega)
  have S8 : Hid (w.heap.size + 3 ≤ w8.heap.size) := Nat.le_trans S7.out KW.out.size
  have F8 : Hid (Fx w8 (w.heap.size + 1 + 1) (.int .i64 W.wide) (.int .i64 W.high) (.slice p0 W.gs.length q0) (.slice p1 W.os.length q1)) := F7.out.kp KW.out (by have := SZ.out; omega)
  have P0_8 : Hid (Ow w8 (w.heap.size + 3) (.slice p0 W.gs.length q0) W.gs) := owns_kpn P0_7.out KW.out (fun b hb => by have := (P0_7.out.block b hb).1; have := Q0.out b hb; have := SZ.out; omega)
  have P1_8 : Hid (Ow w8 (w.heap.size + 3) (.slice p1 W.os.length q1) W.os) := owns_kpn P1_7.out KW.out (fun b hb => by have := (P1_7.out.block b hb).1; have := Q1.out b hb; have := SZ.out; omega)
  clear KW B7 X7 R7 S7 F7 P0_7 P1_7
  obtain ⟨-, -, -, -, -, -, x, -, -⟩ := Y8.out.cells
  have y := X8.out.c6
  go_wp2_with (at_builtin; refine app_rowz _ rfl _ _ rfl (w.heap.size + 3) _ [] rfl (Ow.nil _ _) _ W.gold rfl ((H.out.below B8.out).slices.2.2.1) (by have := L.out.p; simp only [List.length_nil]; omega) S8.out ?_)
  intro v2 a2 on gn dn
  have BG : Hid (Below w8.heap.size w8 a2) := (Below.refl _ _).grown gn (Nat.le_refl _) (fun k hk => by cases hk)
  try rw [List.nil_append] at on
  have BA : Hid (Below w.heap.size w a2) := B8.out.trans (BG.out.mono B8.out.size)
  have XA : Hid (Bw a2 w.heap.size W u1 u2 u3 u4 u5) := X8.out.below BG.out X8.out.lt
  have RA : Hid (Wx a2 (w.heap.size + 1) (.int .i64 0) (.int .i64 0) (.int .i64 0) (.int .i64 0) (.slice none 0 0) (.slice none 0 0) (.slice none 0 0) (.slice none 0 0) (.slice none 0 0)) := R8.out.below BG.out R8.out.lt
  have FA : Hid (Fx a2 (w.heap.size + 1 + 1) (.int .i64 W.wide) (.int .i64 W.high) (.slice p0 W.gs.length q0) (.slice p1 W.os.length q1)) := F8.out.below BG.out F8.out.lt
  have SA : Hid (w.heap.size + 3 ≤ a2.heap.size) := Nat.le_trans S8.out BG.out.size
  have YA : Hid (Wx a2 z (.int .i64 W.turn) (.int .i64 W.next) (.int .i64 W.wide) (.int .i64 W.high) (.slice p0 W.gs.length q0) (.slice p1 W.os.length q1) (.slice none 0 0) (.slice none 0 0) (.slice none 0 0)) := Y8.out.below BG.out Y8.out.lt
  have QN : Hid (∀ b, v2.ownBlock = some b → z < b) := fun b hb => by
    have h1 := Y8.out.lt
    rcases dn with dn | dn
    · rw [hb] at dn; cases dn
    · rw [hb] at dn; injection dn with dn; omega
  have P0A : Hid (Ow a2 (w.heap.size + 3) (.slice p0 W.gs.length q0) W.gs) := P0_8.out.below BG.out
  have D0_2 : Hid (Dif (.slice p0 W.gs.length q0) v2) := Dif.of (n := w8.heap.size) (fun b hb => (P0_8.out.block b hb).2) (fun b hb => by
    rcases dn with dn | dn
    · rw [hb] at dn; cases dn
    · rw [hb] at dn; injection dn with dn; omega)
  have P1A : Hid (Ow a2 (w.heap.size + 3) (.slice p1 W.os.length q1) W.os) := P1_8.out.below BG.out
  have D1_2 : Hid (Dif (.slice p1 W.os.length q1) v2) := Dif.of (n := w8.heap.size) (fun b hb => (P1_8.out.block b hb).2) (fun b hb => by
    rcases dn with dn | dn
    · rw [hb] at dn; cases dn
    · rw [hb] at dn; injection dn with dn; omega)
  have P2A : Hid (Ow a2 (w.heap.size + 3) v2 W.gold) := on
  obtain ⟨p2, q2, rfl⟩ := on.len
  clear gn dn on BG x y B8 X8 R8 F8 S8 Y8 P0_8 P1_8
  have t := YA.out.thaw 6
  obtain ⟨-, -, -, -, -, -, x, -, -⟩ := YA.out.cells
  go_upto_region 11 with fail
  have Q2 : Hid (∀ b, ((.slice p2 W.gold.length q2) : Value).ownBlock = some b → b ≠ z) := fun b hb => by have := QN.out b hb; omega
  clear QN
  have KW : Hid (Kp z a2 (a2.setCell ⟨z, 6, none⟩ (.slice p2 W.gold.length q2))) := Kp.set _ _ _
  have Y9 : Hid (Wx (a2.setCell ⟨z, 6, none⟩ (.slice p2 W.gold.length q2)) z (.int .i64 W.turn) (.int .i64 W.next) (.int .i64 W.wide) (.int .i64 W.high) (.slice p0 W.gs.length q0) (.slice p1 W.os.length q1) (.slice p2 W.gold.length q2) (.slice none 0 0) (.slice none 0 0)) := YA.out.set6 _
  clear t x YA
  generalize (a2.setCell ⟨z, 6, none⟩ (.slice p2 W.gold.length q2)) = w9 at *
  have B9 : Hid (Below w.heap.size w w9) := KW.out.below BA.out BA.out.size (by have := SZ.out; omega)
  have X9 : Hid (Bw w9 w.heap.size W u1 u2 u3 u4 u5) := XA.out.kp KW.out (by have := SZ.out; omega)
  have R9 : Hid (Wx w9 (w.heap.size + 1) (.int .i64 0) (.int .i64 0) (.int .i64 0) (.int .i64 0) (.slice none 0 0) (.slice none 0 0) (.slice none 0 0) (.slice none 0 0) (.slice none 0 0)) := RA.out.kp KW.out (by have := SZ.out; omega)
  have S9 : Hid (w.heap.size + 3 ≤ w9.heap.size) := Nat.le_trans SA.out KW.out.size
  have F9 : Hid (Fx w9 (w.heap.size + 1 + 1) (.int .i64 W.wide) (.int .i64 W.high) (.slice p0 W.gs.length q0) (.slice p1 W.os.length q1)) := FA.out.kp KW.out (by have := SZ.out; omega)
  have P0_9 : Hid (Ow w9 (w.heap.size + 3) (.slice p0 W.gs.length q0) W.gs) := owns_kpn P0A.out KW.out (fun b hb => by have := (P0A.out.block b hb).1; have := Q0.out b hb; have := SZ.out; omega)
  have P1_9 : Hid (Ow w9 (w.heap.size + 3) (.slice p1 W.os.length q1) W.os) := owns_kpn P1A.out KW.out (fun b hb => by have := (P1A.out.block b hb).1; have := Q1.out b hb; have := SZ.out; omega)
  have P2_9 : Hid (Ow w9 (w.heap.size + 3) (.slice p2 W.gold.length q2) W.gold) := owns_kpn P2A.out KW.out (fun b hb => by have := (P2A.out.block b hb).1; have := Q2.out b hb; have := SZ.out; omega)
  clear KW BA XA RA SA FA P0A P1A P2A
  obtain ⟨-, -, -, -, -, -, -, x, -⟩ := Y9.out.cells
  have y := X9.out.c7
  go_wp2_with (at_builtin; refine app_unsz _ rfl _ _ rfl (w.heap.size + 3) _ [] rfl (Uno.nil _ _) _ W.us rfl ((H.out.below B9.out).slices.2.2.2.1) (by have := L.out.u; simp only [List.length_nil]; omega) S9.out ?_)
  intro v3 a3 on gn dn
  have BG : Hid (Below w9.heap.size w9 a3) := (Below.refl _ _).grown gn (Nat.le_refl _) (fun k hk => by cases hk)
  try rw [List.nil_append] at on
  have BA : Hid (Below w.heap.size w a3) := B9.out.trans (BG.out.mono B9.out.size)
  have XA : Hid (Bw a3 w.heap.size W u1 u2 u3 u4 u5) := X9.out.below BG.out X9.out.lt
  have RA : Hid (Wx a3 (w.heap.size + 1) (.int .i64 0) (.int .i64 0) (.int .i64 0) (.int .i64 0) (.slice none 0 0) (.slice none 0 0) (.slice none 0 0) (.slice none 0 0) (.slice none 0 0)) := R9.out.below BG.out R9.out.lt
  have FA : Hid (Fx a3 (w.heap.size + 1 + 1) (.int .i64 W.wide) (.int .i64 W.high) (.slice p0 W.gs.length q0) (.slice p1 W.os.length q1)) := F9.out.below BG.out F9.out.lt
  have SA : Hid (w.heap.size + 3 ≤ a3.heap.size) := Nat.le_trans S9.out BG.out.size
  have YA : Hid (Wx a3 z (.int .i64 W.turn) (.int .i64 W.next) (.int .i64 W.wide) (.int .i64 W.high) (.slice p0 W.gs.length q0) (.slice p1 W.os.length q1) (.slice p2 W.gold.length q2) (.slice none 0 0) (.slice none 0 0)) := Y9.out.below BG.out Y9.out.lt
  have QN : Hid (∀ b, v3.ownBlock = some b → z < b) := fun b hb => by
    have h1 := Y9.out.lt
    rcases dn with dn | dn
    · rw [hb] at dn; cases dn
    · rw [hb] at dn; injection dn with dn; omega
  have P0A : Hid (Ow a3 (w.heap.size + 3) (.slice p0 W.gs.length q0) W.gs) := P0_9.out.below BG.out
  have D0_3 : Hid (Dif (.slice p0 W.gs.length q0) v3) := Dif.of (n := w9.heap.size) (fun b hb => (P0_9.out.block b hb).2) (fun b hb => by
    rcases dn with dn | dn
    · rw [hb] at dn; cases dn
    · rw [hb] at dn; injection dn with dn; omega)
  have P1A : Hid (Ow a3 (w.heap.size + 3) (.slice p1 W.os.length q1) W.os) := P1_9.out.below BG.out
  have D1_3 : Hid (Dif (.slice p1 W.os.length q1) v3) := Dif.of (n := w9.heap.size) (fun b hb => (P1_9.out.block b hb).2) (fun b hb => by
    rcases dn with dn | dn
    · rw [hb] at dn; cases dn
    · rw [hb] at dn; injection dn with dn; omega)
  have P2A : Hid (Ow a3 (w.heap.size + 3) (.slice p2 W.gold.length q2) W.gold) := P2_9.out.below BG.out
  have D2_3 : Hid (Dif (.slice p2 W.gold.length q2) v3) := Dif.of (n := w9.heap.size) (fun b hb => (P2_9.out.block b hb).2) (fun b hb => by
    rcases dn with dn | dn
    · rw [hb] at dn; cases dn
    · rw [hb] at dn; injection dn with dn; omega)
  have P3A : Hid (Uno a3 (w.heap.size + 3) v3 W.us) := on
  obtain ⟨p3, q3, rfl⟩ := on.len
  clear gn dn on BG x y B9 X9 R9 F9 S9 Y9 P0_9 P1_9 P2_9
  have t := YA.out.thaw 7
  obtain ⟨-, -, -, -, -, -, -, x, -⟩ := YA.out.cells
  go_upto_region 12 with fail
  have Q3 : Hid (∀ b, ((.slice p3 W.us.length q3) : Value).ownBlock = some b → b ≠ z) := fun b hb => by have := QN.out b hb; omega
  clear QN
  have KW : Hid (Kp z a3 (a3.setCell ⟨z, 7, none⟩ (.slice p3 W.us.length q3))) := Kp.set _ _ _
  have Y10 : Hid (Wx (a3.setCell ⟨z, 7, none⟩ (.slice p3 W.us.length q3)) z (.int .i64 W.turn) (.int .i64 W.next) (.int .i64 W.wide) (.int .i64 W.high) (.slice p0 W.gs.length q0) (.slice p1 W.os.length q1) (.slice p2 W.gold.length q2) (.slice p3 W.us.length q3) (.slice none 0 0)) := YA.out.set7 _
  clear t x YA
  generalize (a3.setCell ⟨z, 7, none⟩ (.slice p3 W.us.length q3)) = w10 at *
  have B10 : Hid (Below w.heap.size w w10) := KW.out.below BA.out BA.out.size (by have := SZ.out; omega)
  have X10 : Hid (Bw w10 w.heap.size W u1 u2 u3 u4 u5) := XA.out.kp KW.out (by have := SZ.out; omega)
  have R10 : Hid (Wx w10 (w.heap.size + 1) (.int .i64 0) (.int .i64 0) (.int .i64 0) (.int .i64 0) (.slice none 0 0) (.slice none 0 0) (.slice none 0 0) (.slice none 0 0) (.slice none 0 0)) := RA.out.kp KW.out (by have := SZ.out; omega)
  have S10 : Hid (w.heap.size + 3 ≤ w10.heap.size) := Nat.le_trans SA.out KW.out.size
  have F10 : Hid (Fx w10 (w.heap.size + 1 + 1) (.int .i64 W.wide) (.int .i64 W.high) (.slice p0 W.gs.length q0) (.slice p1 W.os.length q1)) := FA.out.kp KW.out (by have := SZ.out; omega)
  have P0_10 : Hid (Ow w10 (w.heap.size + 3) (.slice p0 W.gs.length q0) W.gs) := owns_kpn P0A.out KW.out (fun b hb => by have := (P0A.out.block b hb).1; have := Q0.out b hb; have := SZ.out; omega)
  have P1_10 : Hid (Ow w10 (w.heap.size + 3) (.slice p1 W.os.length q1) W.os) := owns_kpn P1A.out KW.out (fun b hb => by have := (P1A.out.block b hb).1; have := Q1.out b hb; have := SZ.out; omega)
  have P2_10 : Hid (Ow w10 (w.heap.size + 3) (.slice p2 W.gold.length q2) W.gold) := owns_kpn P2A.out KW.out (fun b hb => by have := (P2A.out.block b hb).1; have := Q2.out b hb; have := SZ.out; omega)
  have P3_10 : Hid (Uno w10 (w.heap.size + 3) (.slice p3 W.us.length q3) W.us) := owns_kpn P3A.out KW.out (fun b hb => by have := (P3A.out.block b hb).1; have := Q3.out b hb; have := SZ.out; omega)
  clear KW BA XA RA SA FA P0A P1A P2A P3A
  obtain ⟨-, -, -, -, -, -, -, -, x⟩ := Y10.out.cells
  have y := X10.out.c8
  go_wp2_with (at_builtin; refine app_jbsz _ rfl _ _ rfl (w.heap.size + 3) _ [] rfl (Jbo.nil _ _) _ W.qs rfl ((H.out.below B10.out).slices.2.2.2.2) (by have := L.out.q; simp only [List.length_nil]; omega) S10.out ?_)
  intro v4 a4 on gn dn
  have BG : Hid (Below w10.heap.size w10 a4) := (Below.refl _ _).grown gn (Nat.le_refl _) (fun k hk => by cases hk)
  try rw [List.nil_append] at on
  have BA : Hid (Below w.heap.size w a4) := B10.out.trans (BG.out.mono B10.out.size)
  have XA : Hid (Bw a4 w.heap.size W u1 u2 u3 u4 u5) := X10.out.below BG.out X10.out.lt
  have RA : Hid (Wx a4 (w.heap.size + 1) (.int .i64 0) (.int .i64 0) (.int .i64 0) (.int .i64 0) (.slice none 0 0) (.slice none 0 0) (.slice none 0 0) (.slice none 0 0) (.slice none 0 0)) := R10.out.below BG.out R10.out.lt
  have FA : Hid (Fx a4 (w.heap.size + 1 + 1) (.int .i64 W.wide) (.int .i64 W.high) (.slice p0 W.gs.length q0) (.slice p1 W.os.length q1)) := F10.out.below BG.out F10.out.lt
  have SA : Hid (w.heap.size + 3 ≤ a4.heap.size) := Nat.le_trans S10.out BG.out.size
  have YA : Hid (Wx a4 z (.int .i64 W.turn) (.int .i64 W.next) (.int .i64 W.wide) (.int .i64 W.high) (.slice p0 W.gs.length q0) (.slice p1 W.os.length q1) (.slice p2 W.gold.length q2) (.slice p3 W.us.length q3) (.slice none 0 0)) := Y10.out.below BG.out Y10.out.lt
  have QN : Hid (∀ b, v4.ownBlock = some b → z < b) := fun b hb => by
    have h1 := Y10.out.lt
    rcases dn with dn | dn
    · rw [hb] at dn; cases dn
    · rw [hb] at dn; injection dn with dn; omega
  have P0A : Hid (Ow a4 (w.heap.size + 3) (.slice p0 W.gs.length q0) W.gs) := P0_10.out.below BG.out
  have D0_4 : Hid (Dif (.slice p0 W.gs.length q0) v4) := Dif.of (n := w10.heap.size) (fun b hb => (P0_10.out.block b hb).2) (fun b hb => by
    rcases dn with dn | dn
    · rw [hb] at dn; cases dn
    · rw [hb] at dn; injection dn with dn; omega)
  have P1A : Hid (Ow a4 (w.heap.size + 3) (.slice p1 W.os.length q1) W.os) := P1_10.out.below BG.out
  have D1_4 : Hid (Dif (.slice p1 W.os.length q1) v4) := Dif.of (n := w10.heap.size) (fun b hb => (P1_10.out.block b hb).2) (fun b hb => by
    rcases dn with dn | dn
    · rw [hb] at dn; cases dn
    · rw [hb] at dn; injection dn with dn; omega)
  have P2A : Hid (Ow a4 (w.heap.size + 3) (.slice p2 W.gold.length q2) W.gold) := P2_10.out.below BG.out
  have D2_4 : Hid (Dif (.slice p2 W.gold.length q2) v4) := Dif.of (n := w10.heap.size) (fun b hb => (P2_10.out.block b hb).2) (fun b hb => by
    rcases dn with dn | dn
    · rw [hb] at dn; cases dn
    · rw [hb] at dn; injection dn with dn; omega)
  have P3A : Hid (Uno a4 (w.heap.size + 3) (.slice p3 W.us.length q3) W.us) := P3_10.out.below BG.out
  have D3_4 : Hid (Dif (.slice p3 W.us.length q3) v4) := Dif.of (n := w10.heap.size) (fun b hb => (P3_10.out.block b hb).2) (fun b hb => by
    rcases dn with dn | dn
    · rw [hb] at dn; cases dn
    · rw [hb] at dn; injection dn with dn; omega)
  have P4A : Hid (Jbo a4 (w.heap.size + 3) v4 W.qs) := on
  obtain ⟨p4, q4, rfl⟩ := on.len
  clear gn dn on BG x y B10 X10 R10 F10 S10 Y10 P0_10 P1_10 P2_10 P3_10
  have t := YA.out.thaw 8
  obtain ⟨-, -, -, -, -, -, -, -, x⟩ := YA.out.cells
  go_upto_region 13 with fail
  have Q4 : Hid (∀ b, ((.slice p4 W.qs.length q4) : Value).ownBlock = some b → b ≠ z) := fun b hb => by have := QN.out b hb; omega
  clear QN
  have KW : Hid (Kp z a4 (a4.setCell ⟨z, 8, none⟩ (.slice p4 W.qs.length q4))) := Kp.set _ _ _
  have Y11 : Hid (Wx (a4.setCell ⟨z, 8, none⟩ (.slice p4 W.qs.length q4)) z (.int .i64 W.turn) (.int .i64 W.next) (.int .i64 W.wide) (.int .i64 W.high) (.slice p0 W.gs.length q0) (.slice p1 W.os.length q1) (.slice p2 W.gold.length q2) (.slice p3 W.us.length q3) (.slice p4 W.qs.length q4)) := YA.out.set8 _
  clear t x YA
  generalize (a4.setCell ⟨z, 8, none⟩ (.slice p4 W.qs.length q4)) = w11 at *
  have B11 : Hid (Below w.heap.size w w11) := KW.out.below BA.out BA.out.size (by have := SZ.out; omega)
  have X11 : Hid (Bw w11 w.heap.size W u1 u2 u3 u4 u5) := XA.out.kp KW.out (by have := SZ.out; omega)
  have R11 : Hid (Wx w11 (w.heap.size + 1) (.int .i64 0) (.int .i64 0) (.int .i64 0) (.int .i64 0) (.slice none 0 0) (.slice none 0 0) (.slice none 0 0) (.slice none 0 0) (.slice none 0 0)) := RA.out.kp KW.out (by have := SZ.out; omega)
  have S11 : Hid (w.heap.size + 3 ≤ w11.heap.size) := Nat.le_trans SA.out KW.out.size
  have F11 : Hid (Fx w11 (w.heap.size + 1 + 1) (.int .i64 W.wide) (.int .i64 W.high) (.slice p0 W.gs.length q0) (.slice p1 W.os.length q1)) := FA.out.kp KW.out (by have := SZ.out; omega)
  have P0_11 : Hid (Ow w11 (w.heap.size + 3) (.slice p0 W.gs.length q0) W.gs) := owns_kpn P0A.out KW.out (fun b hb => by have := (P0A.out.block b hb).1; have := Q0.out b hb; have := SZ.out; omega)
  have P1_11 : Hid (Ow w11 (w.heap.size + 3) (.slice p1 W.os.length q1) W.os) := owns_kpn P1A.out KW.out (fun b hb => by have := (P1A.out.block b hb).1; have := Q1.out b hb; have := SZ.out; omega)
  have P2_11 : Hid (Ow w11 (w.heap.size + 3) (.slice p2 W.gold.length q2) W.gold) := owns_kpn P2A.out KW.out (fun b hb => by have := (P2A.out.block b hb).1; have := Q2.out b hb; have := SZ.out; omega)
  have P3_11 : Hid (Uno w11 (w.heap.size + 3) (.slice p3 W.us.length q3) W.us) := owns_kpn P3A.out KW.out (fun b hb => by have := (P3A.out.block b hb).1; have := Q3.out b hb; have := SZ.out; omega)
  have P4_11 : Hid (Jbo w11 (w.heap.size + 3) (.slice p4 W.qs.length q4) W.qs) := owns_kpn P4A.out KW.out (fun b hb => by have := (P4A.out.block b hb).1; have := Q4.out b hb; have := SZ.out; omega)
  clear KW BA XA RA SA FA P0A P1A P2A P3A P4A
  obtain ⟨x0, x1, x2, x3, x4, x5, x6, x7, x8⟩ := Y11.out.cells
  obtain ⟨z0, z1, z2, z3, z4, z5, z6, z7, z8⟩ := R11.out.cells
  obtain ⟨t0, t1, t2, t3, t4, t5, t6, t7, t8⟩ := R11.out.thaws
  have KZ : Hid (Kp (w.heap.size + 1) w11 (((((((((w11.setCell ⟨w.heap.size + 1, 0, none⟩ (.int .i64 W.turn)).setCell ⟨w.heap.size + 1, 1, none⟩ (.int .i64 W.next)).setCell ⟨w.heap.size + 1, 2, none⟩ (.int .i64 W.wide)).setCell ⟨w.heap.size + 1, 3, none⟩ (.int .i64 W.high)).setCell ⟨w.heap.size + 1, 4, none⟩ (.slice p0 W.gs.length q0)).setCell ⟨w.heap.size + 1, 5, none⟩ (.slice p1 W.os.length q1)).setCell ⟨w.heap.size + 1, 6, none⟩ (.slice p2 W.gold.length q2)).setCell ⟨w.heap.size + 1, 7, none⟩ (.slice p3 W.us.length q3)).setCell ⟨w.heap.size + 1, 8, none⟩ (.slice p4 W.qs.length q4))) := put_kp _ _ _ _ _ _ _ _ _ _ _
  obtain ⟨y0, y1, y2, y3, y4, y5, y6, y7, y8⟩ := (R11.out.put (.int .i64 W.turn) (.int .i64 W.next) (.int .i64 W.wide) (.int .i64 W.high) (.slice p0 W.gs.length q0) (.slice p1 W.os.length q1) (.slice p2 W.gold.length q2) (.slice p3 W.us.length q3) (.slice p4 W.qs.length q4)).cells
  go_wp2
  clear x0 x1 x2 x3 x4 x5 x6 x7 x8 z0 z1 z2 z3 z4 z5 z6 z7 z8 t0 t1 t2 t3 t4 t5 t6 t7 t8
  have s0 := S11.out
  generalize (((((((((w11.setCell ⟨w.heap.size + 1, 0, none⟩ (.int .i64 W.turn)).setCell ⟨w.heap.size + 1, 1, none⟩ (.int .i64 W.next)).setCell ⟨w.heap.size + 1, 2, none⟩ (.int .i64 W.wide)).setCell ⟨w.heap.size + 1, 3, none⟩ (.int .i64 W.high)).setCell ⟨w.heap.size + 1, 4, none⟩ (.slice p0 W.gs.length q0)).setCell ⟨w.heap.size + 1, 5, none⟩ (.slice p1 W.os.length q1)).setCell ⟨w.heap.size + 1, 6, none⟩ (.slice p2 W.gold.length q2)).setCell ⟨w.heap.size + 1, 7, none⟩ (.slice p3 W.us.length q3)).setCell ⟨w.heap.size + 1, 8, none⟩ (.slice p4 W.qs.length q4)) = wz at *
  refine bodyPost_ret (v := .agg #[.int .i64 W.turn, .int .i64 W.next, .int .i64 W.wide, .int .i64 W.high, .slice p0 W.gs.length q0, .slice p1 W.os.length q1, .slice p2 W.gold.length q2, .slice p3 W.us.length q3, .slice p4 W.qs.length q4]) (by simp [results, Tryz.results23, go_sem, y0, y1, y2, y3, y4, y5, y6, y7, y8]) rfl ⟨_, rfl, ⟨_, _, _, _, _, rfl, ⟨Ow.mono (owns_kp P0_11.out KZ.out (by omega)) (by omega), Ow.mono (owns_kp P1_11.out KZ.out (by omega)) (by omega), Ow.mono (owns_kp P2_11.out KZ.out (by omega)) (by omega), Uno.mono (owns_kp P3_11.out KZ.out (by omega)) (by omega), Jbo.mono (owns_kp P4_11.out KZ.out (by omega)) (by omega)⟩, D0_1.out, D0_2.out, D0_3.out, D0_4.out, D1_2.out, D1_3.out, D1_4.out, D2_3.out, D2_4.out, D3_4.out⟩, KZ.out.below B11.out B11.out.size (by omega)⟩
end Go.Proofs.YteieikgkmfglaaaGreatDoor

namespace Go.Proofs.YteieikgkmfglaaaGreatDoor
open Go.RowKit
set_option linter.unusedVariables false

/-- v is a list of lists of orders. -/
def Oll (w : World) (v : Value) (ls : List (List OrV)) : Prop := ∃ a c, v = .slice a ls.length c ∧ ls.length ≤ c ∧ c ≤ 9223372036854775807 ∧ (ls ≠ [] → ∃ x, a = some x ∧ x.block < w.heap.size ∧ ∀ (i : Nat) l, ls[i]? = some l → ∃ u, w.cell? (x.add i) = some u ∧ Orl w u l)
theorem Oll.below {w w' : World} {v : Value} {ls : List (List OrV)} (h : Oll w v ls) (hb : Below w.heap.size w w') : Oll w' v ls := by
  obtain ⟨a, c, h1, h2, h3, h4⟩ := h
  refine ⟨a, c, h1, h2, h3, fun hn => ?_⟩
  obtain ⟨x, e, hx, hy⟩ := h4 hn
  refine ⟨x, e, Nat.lt_of_lt_of_le hx hb.size, fun i l hl => ?_⟩
  obtain ⟨u, c1, c2⟩ := hy i l hl
  exact ⟨u, by rw [hb.cell (by rw [add_block]; exact hx)]; exact c1, c2.below hb⟩
end Go.Proofs.YteieikgkmfglaaaGreatDoor

namespace Go.Proofs.YteieikgkmfglaaaGreatDoor
open Go.RowKit Go.Proofs.YteieikgkmfglaaaGreatDoor.So
set_option linter.unusedVariables false

/-- what n turns come to. -/
inductive PlayR (ks : List KV) (X : WV) (ls : List (List OrV)) : Nat → WV → Prop
  | zero : PlayR ks X ls 0 X
  | turn {n : Nat} {Y Z : WV} {l : List OrV} {es : List EvV} : PlayR ks X ls n Y → ls[n]? = some l → stepFault ks Y l = 0 → StepR ks Y l Z es → PlayR ks X ls (n + 1) Z
/-- what Play tells. -/
def PlaySays (ks : List KV) (X : WV) (ls : List (List OrV)) (F : Int) (w w' : World) (v : Value) : Prop :=
  (F ≠ 0 ∧ v = .agg #[.int .i64 0, .int .i64 0, .int .i64 0, .int .i64 0, .slice none 0 0, .slice none 0 0, .slice none 0 0, .slice none 0 0, .slice none 0 0] ∧ ((Wd.wfault ks X ≠ 0 ∧ F = Wd.wfault ks X) ∨ (Wd.wfault ks X = 0 ∧ 200 < ls.length ∧ F = 4) ∨ (Wd.wfault ks X = 0 ∧ ls.length ≤ 200 ∧ ∃ n Y l, PlayR ks X ls n Y ∧ ls[n]? = some l ∧ stepFault ks Y l = F)))
  ∨ (F = 0 ∧ Wd.wfault ks X = 0 ∧ ls.length ≤ 200 ∧ ∃ Y, PlayR ks X ls ls.length Y ∧ Wo w' w.heap.size v Y)
set_option maxRecDepth 100000 in
set_option maxHeartbeats 64000000 in
theorem Play_any (vk vw vl : Value) (ks : List KV) (X : WV) (ls : List (List OrV)) (w : World) (hk : Kl w vk ks) (hb : ∀ k ∈ ks, k.b.size ≤ 9223372036854775807) (hw : Wl w vw X) (hl : Oll w vl ls) (hs : Sd w) :
    Calls Tryz.prog 24 #[vk, vw, vl] w fun e w' => ∃ v r F, e = .returned (.tuple #[v, r]) ∧ Er r F ∧ PlaySays ks X ls F w w' v ∧ Below w.heap.size w w' := by
  have K : Hid (Kl w vk ks ∧ ∀ k ∈ ks, k.b.size ≤ 9223372036854775807) := ⟨hk, hb⟩
  have H : Hid (Wl w vw X) := hw
  have SD : Hid (Sd w ∧ Oll w vl ls) := ⟨hs, hl⟩
  obtain ⟨pl, ql, rfl, cl1, cl2, -⟩ := hl
  clear hs
  obtain ⟨p1, q1, p2, q2, p3, q3, p4, q4, p5, q5, rfl⟩ := wl_shape9 hw
  obtain ⟨pk, qk, rfl, ck1, ck2, kc⟩ := hk
  clear hb hw kc
  go_enter Tryz.func24, Tryz.ntmps24
  go_upto_region 1 with fail
  have B0 : Hid (Below w.heap.size w ((w.alloc (Obj.cells #[.int .i64 X.turn, .int .i64 X.next, .int .i64 X.wide, .int .i64 X.high, .slice p1 X.gs.length q1, .slice p2 X.os.length q2, .slice p3 X.gold.length q3, .slice p4 X.us.length q4, .slice p5 X.qs.length q5] 29)).alloc (Obj.cells #[.int .i64 0, .int .i64 0, .int .i64 0, .int .i64 0, .slice none 0 0, .slice none 0 0, .slice none 0 0, .slice none 0 0, .slice none 0 0] 29))) := ((Below.refl _ _).alloc (Nat.le_refl _) _).alloc (by simp) _
  have X0 : Hid (Wx ((w.alloc (Obj.cells #[.int .i64 X.turn, .int .i64 X.next, .int .i64 X.wide, .int .i64 X.high, .slice p1 X.gs.length q1, .slice p2 X.os.length q2, .slice p3 X.gold.length q3, .slice p4 X.us.length q4, .slice p5 X.qs.length q5] 29)).alloc (Obj.cells #[.int .i64 0, .int .i64 0, .int .i64 0, .int .i64 0, .slice none 0 0, .slice none 0 0, .slice none 0 0, .slice none 0 0, .slice none 0 0] 29)) (w.heap.size) (.int .i64 X.turn) (.int .i64 X.next) (.int .i64 X.wide) (.int .i64 X.high) (.slice p1 X.gs.length q1) (.slice p2 X.os.length q2) (.slice p3 X.gold.length q3) (.slice p4 X.us.length q4) (.slice p5 X.qs.length q5)) := (Wx.new (.int .i64 X.turn) (.int .i64 X.next) (.int .i64 X.wide) (.int .i64 X.high) (.slice p1 X.gs.length q1) (.slice p2 X.os.length q2) (.slice p3 X.gold.length q3) (.slice p4 X.us.length q4) (.slice p5 X.qs.length q5) rfl).below ((Below.refl _ _).alloc (Nat.le_refl _) _) (by simp)
  have Z0 : Hid (Wx ((w.alloc (Obj.cells #[.int .i64 X.turn, .int .i64 X.next, .int .i64 X.wide, .int .i64 X.high, .slice p1 X.gs.length q1, .slice p2 X.os.length q2, .slice p3 X.gold.length q3, .slice p4 X.us.length q4, .slice p5 X.qs.length q5] 29)).alloc (Obj.cells #[.int .i64 0, .int .i64 0, .int .i64 0, .int .i64 0, .slice none 0 0, .slice none 0 0, .slice none 0 0, .slice none 0 0, .slice none 0 0] 29)) (w.heap.size + 1) (.int .i64 0) (.int .i64 0) (.int .i64 0) (.int .i64 0) (.slice none 0 0) (.slice none 0 0) (.slice none 0 0) (.slice none 0 0) (.slice none 0 0)) := Wx.new (.int .i64 0) (.int .i64 0) (.int .i64 0) (.int .i64 0) (.slice none 0 0) (.slice none 0 0) (.slice none 0 0) (.slice none 0 0) (.slice none 0 0) (by simp)
  generalize ((w.alloc (Obj.cells #[.int .i64 X.turn, .int .i64 X.next, .int .i64 X.wide, .int .i64 X.high, .slice p1 X.gs.length q1, .slice p2 X.os.length q2, .slice p3 X.gold.length q3, .slice p4 X.us.length q4, .slice p5 X.qs.length q5] 29)).alloc (Obj.cells #[.int .i64 0, .int .i64 0, .int .i64 0, .int .i64 0, .slice none 0 0, .slice none 0 0, .slice none 0 0, .slice none 0 0, .slice none 0 0] 29)) = w0 at *
  obtain ⟨x0, x1, x2, x3, x4, x5, x6, x7, x8⟩ := X0.out.cells
  go_wp2_with fail
  refine (wcheck_any _ _ ks X w0 (K.out.1.below B0.out) K.out.2 (H.out.below B0.out)).mono ?_
  rintro e w1 ⟨r, rfl, hr, hb⟩
  obtain ⟨fw, hfw⟩ : ∃ f, Wd.wfault ks X = f := ⟨_, rfl⟩
  have FW : Hid (Wd.wfault ks X = fw) := hfw
  rw [hfw] at hr
  have B1 : Hid (Below w.heap.size w w1) := B0.out.trans (hb.mono B0.out.size)
  have X1 : Hid (Wx w1 (w.heap.size) (.int .i64 X.turn) (.int .i64 X.next) (.int .i64 X.wide) (.int .i64 X.high) (.slice p1 X.gs.length q1) (.slice p2 X.os.length q2) (.slice p3 X.gold.length q3) (.slice p4 X.us.length q4) (.slice p5 X.qs.length q5)) := X0.out.below hb X0.out.lt
  have Z1 : Hid (Wx w1 (w.heap.size + 1) (.int .i64 0) (.int .i64 0) (.int .i64 0) (.int .i64 0) (.slice none 0 0) (.slice none 0 0) (.slice none 0 0) (.slice none 0 0) (.slice none 0 0)) := Z0.out.below hb Z0.out.lt
  clear hb hfw x0 x1 x2 x3 x4 x5 x6 x7 x8 X0 B0 Z0
  rcases hr with ⟨rfl, rfl⟩ | ⟨hf, rfl⟩
  case inr =>
    have HF : Hid (fw ≠ 0) := hf
    clear hf
    obtain ⟨z0, z1, z2, z3, z4, z5, z6, z7, z8⟩ := Z1.out.cells
    obtain ⟨t0, t1, t2, t3, t4, t5, t6, t7, t8⟩ := Z1.out.thaws
    have KZ : Hid (Kp (w.heap.size + 1) w1 (((((((((w1.setCell ⟨w.heap.size + 1, 0, none⟩ (.int .i64 0)).setCell ⟨w.heap.size + 1, 1, none⟩ (.int .i64 0)).setCell ⟨w.heap.size + 1, 2, none⟩ (.int .i64 0)).setCell ⟨w.heap.size + 1, 3, none⟩ (.int .i64 0)).setCell ⟨w.heap.size + 1, 4, none⟩ (.slice none 0 0)).setCell ⟨w.heap.size + 1, 5, none⟩ (.slice none 0 0)).setCell ⟨w.heap.size + 1, 6, none⟩ (.slice none 0 0)).setCell ⟨w.heap.size + 1, 7, none⟩ (.slice none 0 0)).setCell ⟨w.heap.size + 1, 8, none⟩ (.slice none 0 0))) := put_kp _ _ _ _ _ _ _ _ _ _ _
    obtain ⟨y0, y1, y2, y3, y4, y5, y6, y7, y8⟩ := (Z1.out.put (.int .i64 0) (.int .i64 0) (.int .i64 0) (.int .i64 0) (.slice none 0 0) (.slice none 0 0) (.slice none 0 0) (.slice none 0 0) (.slice none 0 0)).cells
    go_wp2
    clear z0 z1 z2 z3 z4 z5 z6 z7 z8 t0 t1 t2 t3 t4 t5 t6 t7 t8
    generalize (((((((((w1.setCell ⟨w.heap.size + 1, 0, none⟩ (.int .i64 0)).setCell ⟨w.heap.size + 1, 1, none⟩ (.int .i64 0)).setCell ⟨w.heap.size + 1, 2, none⟩ (.int .i64 0)).setCell ⟨w.heap.size + 1, 3, none⟩ (.int .i64 0)).setCell ⟨w.heap.size + 1, 4, none⟩ (.slice none 0 0)).setCell ⟨w.heap.size + 1, 5, none⟩ (.slice none 0 0)).setCell ⟨w.heap.size + 1, 6, none⟩ (.slice none 0 0)).setCell ⟨w.heap.size + 1, 7, none⟩ (.slice none 0 0)).setCell ⟨w.heap.size + 1, 8, none⟩ (.slice none 0 0)) = w9 at *
    refine bodyPost_ret (v := .tuple #[.agg #[.int .i64 0, .int .i64 0, .int .i64 0, .int .i64 0, .slice none 0 0, .slice none 0 0, .slice none 0 0, .slice none 0 0, .slice none 0 0], .iface 77 (.int .i64 fw)]) (by simp [results, Tryz.results24, go_sem, y0, y1, y2, y3, y4, y5, y6, y7, y8]) rfl ⟨_, _, fw, rfl, Er.no HF.out, .inl ⟨HF.out, rfl, .inl ⟨by rw [FW.out]; exact HF.out, FW.out.symm⟩⟩, KZ.out.below B1.out B1.out.size (by omega)⟩
  have WR : Hid (WRight ks X) := wright_of FW.out
  obtain ⟨x0, x1, x2, x3, x4, x5, x6, x7, x8⟩ := X1.out.cells
  by_cases hln : 200 < ls.length
  case pos =>
    have hln' : (200 : Int) < (ls.length : Int) := by omega
    have HLN : Hid (200 < ls.length) := hln
    clear hln
    obtain ⟨z0, z1, z2, z3, z4, z5, z6, z7, z8⟩ := Z1.out.cells
    obtain ⟨t0, t1, t2, t3, t4, t5, t6, t7, t8⟩ := Z1.out.thaws
    have KZ : Hid (Kp (w.heap.size + 1) w1 (((((((((w1.setCell ⟨w.heap.size + 1, 0, none⟩ (.int .i64 0)).setCell ⟨w.heap.size + 1, 1, none⟩ (.int .i64 0)).setCell ⟨w.heap.size + 1, 2, none⟩ (.int .i64 0)).setCell ⟨w.heap.size + 1, 3, none⟩ (.int .i64 0)).setCell ⟨w.heap.size + 1, 4, none⟩ (.slice none 0 0)).setCell ⟨w.heap.size + 1, 5, none⟩ (.slice none 0 0)).setCell ⟨w.heap.size + 1, 6, none⟩ (.slice none 0 0)).setCell ⟨w.heap.size + 1, 7, none⟩ (.slice none 0 0)).setCell ⟨w.heap.size + 1, 8, none⟩ (.slice none 0 0))) := put_kp _ _ _ _ _ _ _ _ _ _ _
    obtain ⟨y0, y1, y2, y3, y4, y5, y6, y7, y8⟩ := (Z1.out.put (.int .i64 0) (.int .i64 0) (.int .i64 0) (.int .i64 0) (.slice none 0 0) (.slice none 0 0) (.slice none 0 0) (.slice none 0 0) (.slice none 0 0)).cells
    go_wp2
    clear z0 z1 z2 z3 z4 z5 z6 z7 z8 t0 t1 t2 t3 t4 t5 t6 t7 t8
    generalize (((((((((w1.setCell ⟨w.heap.size + 1, 0, none⟩ (.int .i64 0)).setCell ⟨w.heap.size + 1, 1, none⟩ (.int .i64 0)).setCell ⟨w.heap.size + 1, 2, none⟩ (.int .i64 0)).setCell ⟨w.heap.size + 1, 3, none⟩ (.int .i64 0)).setCell ⟨w.heap.size + 1, 4, none⟩ (.slice none 0 0)).setCell ⟨w.heap.size + 1, 5, none⟩ (.slice none 0 0)).setCell ⟨w.heap.size + 1, 6, none⟩ (.slice none 0 0)).setCell ⟨w.heap.size + 1, 7, none⟩ (.slice none 0 0)).setCell ⟨w.heap.size + 1, 8, none⟩ (.slice none 0 0)) = wz at *
    refine bodyPost_ret (v := .tuple #[.agg #[.int .i64 0, .int .i64 0, .int .i64 0, .int .i64 0, .slice none 0 0, .slice none 0 0, .slice none 0 0, .slice none 0 0, .slice none 0 0], .iface 77 (.int .i64 4)]) (by simp [results, Tryz.results24, go_sem, y0, y1, y2, y3, y4, y5, y6, y7, y8]) rfl ⟨_, _, 4, rfl, Er.no (by decide), .inl ⟨by decide, rfl, .inr (.inl ⟨FW.out, HLN.out, rfl⟩)⟩, KZ.out.below B1.out B1.out.size (by omega)⟩
  have HLN : Hid (ls.length ≤ 200) := by unfold Hid; omega
  have hln' : ¬ (200 : Int) < (ls.length : Int) := by omega
  clear hln
  go_wp2_with fail
  refine (copy_any _ X w1 (H.out.below B1.out) WR.out.len).mono ?_
  rintro e w2 ⟨cu, rfl, ⟨k1, k2, k3, k4, k5, rfl, ⟨o1, o2, o3, o4, o5⟩, -⟩, hb⟩
  obtain ⟨a1, r1, rfl⟩ := o1.len
  obtain ⟨a2, r2, rfl⟩ := o2.len
  obtain ⟨a3, r3, rfl⟩ := o3.len
  obtain ⟨a4, r4, rfl⟩ := o4.len
  obtain ⟨a5, r5, rfl⟩ := o5.len
  have B2 : Hid (Below w.heap.size w w2) := B1.out.trans (hb.mono B1.out.size)
  have X2 : Hid (Wx w2 w.heap.size (.int .i64 X.turn) (.int .i64 X.next) (.int .i64 X.wide) (.int .i64 X.high) (.slice p1 X.gs.length q1) (.slice p2 X.os.length q2) (.slice p3 X.gold.length q3) (.slice p4 X.us.length q4) (.slice p5 X.qs.length q5)) := X1.out.below hb X1.out.lt
  have Z2 : Hid (Wx w2 (w.heap.size + 1) (.int .i64 0) (.int .i64 0) (.int .i64 0) (.int .i64 0) (.slice none 0 0) (.slice none 0 0) (.slice none 0 0) (.slice none 0 0) (.slice none 0 0)) := Z1.out.below hb Z1.out.lt
  have S1 : Hid (w.heap.size + 2 ≤ w1.heap.size) := Z1.out.lt
  have OA : Hid (Ow w2 (w.heap.size + 2) (Value.slice a1 X.gs.length r1) X.gs ∧ Ow w2 (w.heap.size + 2) (Value.slice a2 X.os.length r2) X.os ∧ Ow w2 (w.heap.size + 2) (Value.slice a3 X.gold.length r3) X.gold ∧ Uno w2 (w.heap.size + 2) (Value.slice a4 X.us.length r4) X.us ∧ Jbo w2 (w.heap.size + 2) (Value.slice a5 X.qs.length r5) X.qs) := ⟨o1.mono S1.out, o2.mono S1.out, o3.mono S1.out, o4.mono S1.out, o5.mono S1.out⟩
  clear hb x0 x1 x2 x3 x4 x5 x6 x7 x8 X1 B1 Z1 o1 o2 o3 o4 o5
  obtain ⟨c0, c1, c2, c3, c4, c5, c6, c7, c8⟩ := X2.out.cells
  obtain ⟨d0, d1, d2, d3, d4, d5, d6, d7, d8⟩ := X2.out.thaws
  have KB : Hid (Kp w.heap.size w2 (((((((((w2.setCell ⟨w.heap.size, 0, none⟩ (.int .i64 X.turn)).setCell ⟨w.heap.size, 1, none⟩ (.int .i64 X.next)).setCell ⟨w.heap.size, 2, none⟩ (.int .i64 X.wide)).setCell ⟨w.heap.size, 3, none⟩ (.int .i64 X.high)).setCell ⟨w.heap.size, 4, none⟩ (Value.slice a1 X.gs.length r1)).setCell ⟨w.heap.size, 5, none⟩ (Value.slice a2 X.os.length r2)).setCell ⟨w.heap.size, 6, none⟩ (Value.slice a3 X.gold.length r3)).setCell ⟨w.heap.size, 7, none⟩ (Value.slice a4 X.us.length r4)).setCell ⟨w.heap.size, 8, none⟩ (Value.slice a5 X.qs.length r5))) := put_kp _ _ _ _ _ _ _ _ _ _ _
  have XB : Hid (Wx (((((((((w2.setCell ⟨w.heap.size, 0, none⟩ (.int .i64 X.turn)).setCell ⟨w.heap.size, 1, none⟩ (.int .i64 X.next)).setCell ⟨w.heap.size, 2, none⟩ (.int .i64 X.wide)).setCell ⟨w.heap.size, 3, none⟩ (.int .i64 X.high)).setCell ⟨w.heap.size, 4, none⟩ (Value.slice a1 X.gs.length r1)).setCell ⟨w.heap.size, 5, none⟩ (Value.slice a2 X.os.length r2)).setCell ⟨w.heap.size, 6, none⟩ (Value.slice a3 X.gold.length r3)).setCell ⟨w.heap.size, 7, none⟩ (Value.slice a4 X.us.length r4)).setCell ⟨w.heap.size, 8, none⟩ (Value.slice a5 X.qs.length r5)) w.heap.size (.int .i64 X.turn) (.int .i64 X.next) (.int .i64 X.wide) (.int .i64 X.high) (Value.slice a1 X.gs.length r1) (Value.slice a2 X.os.length r2) (Value.slice a3 X.gold.length r3) (Value.slice a4 X.us.length r4) (Value.slice a5 X.qs.length r5)) := X2.out.put (.int .i64 X.turn) (.int .i64 X.next) (.int .i64 X.wide) (.int .i64 X.high) (Value.slice a1 X.gs.length r1) (Value.slice a2 X.os.length r2) (Value.slice a3 X.gold.length r3) (Value.slice a4 X.us.length r4) (Value.slice a5 X.qs.length r5)
  go_upto_region 7 with fail
  clear c0 c1 c2 c3 c4 c5 c6 c7 c8 d0 d1 d2 d3 d4 d5 d6 d7 d8
  generalize (((((((((w2.setCell ⟨w.heap.size, 0, none⟩ (.int .i64 X.turn)).setCell ⟨w.heap.size, 1, none⟩ (.int .i64 X.next)).setCell ⟨w.heap.size, 2, none⟩ (.int .i64 X.wide)).setCell ⟨w.heap.size, 3, none⟩ (.int .i64 X.high)).setCell ⟨w.heap.size, 4, none⟩ (Value.slice a1 X.gs.length r1)).setCell ⟨w.heap.size, 5, none⟩ (Value.slice a2 X.os.length r2)).setCell ⟨w.heap.size, 6, none⟩ (Value.slice a3 X.gold.length r3)).setCell ⟨w.heap.size, 7, none⟩ (Value.slice a4 X.us.length r4)).setCell ⟨w.heap.size, 8, none⟩ (Value.slice a5 X.qs.length r5)) = w5 at *
  have B5 : Hid (Below w.heap.size w w5) := KB.out.below B2.out B2.out.size (Nat.le_refl _)
  have Z5 : Hid (Wx w5 (w.heap.size + 1) (.int .i64 0) (.int .i64 0) (.int .i64 0) (.int .i64 0) (.slice none 0 0) (.slice none 0 0) (.slice none 0 0) (.slice none 0 0) (.slice none 0 0)) := Z2.out.kp KB.out (by omega)
  obtain ⟨be, hbe⟩ : ∃ b, w5.heap.size = b := ⟨_, rfl⟩
  have SZ : Hid (w5.heap.size = be ∧ w.heap.size + 2 ≤ be) := ⟨hbe, by rw [← hbe]; exact Z5.out.lt⟩
  have T5 : Hid (StS X [] w.heap.size (w.heap.size + 2) be w5 (Value.slice a1 X.gs.length r1) (Value.slice a2 X.os.length r2) (Value.slice a3 X.gold.length r3) (Value.slice a4 X.us.length r4) (Value.slice a5 X.qs.length r5) (.slice none 0 0) w5) := ⟨XB.out, OA.out.1.kp KB.out (by omega), OA.out.2.1.kp KB.out (by omega), OA.out.2.2.1.kp KB.out (by omega), OA.out.2.2.2.1.kp KB.out (by omega), OA.out.2.2.2.2.kp KB.out (by omega), Evo.nil _ _, Fr.below (Below.refl _ _), ⟨by omega, SZ.out.2, hbe⟩⟩
  clear hbe KB X2 B2 Z2 OA XB
  go_wp2_with fail
  go_loopw [30] (fun j V => ∃ n : Nat, n ≤ ls.length ∧ j = .int .i64 (n : Nat) ∧ ∃ Y, PlayR ks X ls n Y ∧ ∃ u1 u2 u3 u4 u5, StS Y [] w.heap.size (w.heap.size + 2) be w5 u1 u2 u3 u4 u5 (.slice none 0 0) V) (fun j _ => ls.length - (intOf j).toNat)
  case atStart => exact ⟨0, Nat.zero_le _, rfl, X, .zero, _, _, _, _, _, T5.out⟩
  case round =>
  obtain ⟨n, hn, rfl, Y, hp, u1, u2, u3, u4, u5, hT⟩ := hrel
  have PR : Hid (PlayR ks X ls n Y) := hp
  have TQ : Hid (StS Y [] w.heap.size (w.heap.size + 2) be w5 u1 u2 u3 u4 u5 (.slice none 0 0) wr) := hT
  clear hp hT
  have ZW : Hid (Wx wr (w.heap.size + 1) (.int .i64 0) (.int .i64 0) (.int .i64 0) (.int .i64 0) (.slice none 0 0) (.slice none 0 0) (.slice none 0 0) (.slice none 0 0) (.slice none 0 0)) := TQ.out.f.wx Z5.out (by omega)
  have BW : Hid (Below w.heap.size w wr) := B5.out.trans (TQ.out.f.low B5.out.size (fun k hk => by omega))
  have SW : Hid (w.heap.size + 2 ≤ wr.heap.size) := ZW.out.lt
  obtain ⟨g1, l1, rfl⟩ := TQ.out.o1.len
  obtain ⟨g2, l2, rfl⟩ := TQ.out.o2.len
  obtain ⟨g3, l3, rfl⟩ := TQ.out.o3.len
  obtain ⟨g4, l4, rfl⟩ := TQ.out.o4.len
  obtain ⟨g5, l5, rfl⟩ := TQ.out.o5.len
  by_cases hne : n = ls.length
  case pos =>
    have PE : Hid (PlayR ks X ls ls.length Y) := by rw [← hne]; exact PR.out
    subst hne
    obtain ⟨x0, x1, x2, x3, x4, x5, x6, x7, x8⟩ := TQ.out.x.cells
    obtain ⟨z0, z1, z2, z3, z4, z5, z6, z7, z8⟩ := ZW.out.cells
    obtain ⟨t0, t1, t2, t3, t4, t5, t6, t7, t8⟩ := ZW.out.thaws
    have KZ : Hid (Kp (w.heap.size + 1) wr (((((((((wr.setCell ⟨w.heap.size + 1, 0, none⟩ (.int .i64 Y.turn)).setCell ⟨w.heap.size + 1, 1, none⟩ (.int .i64 Y.next)).setCell ⟨w.heap.size + 1, 2, none⟩ (.int .i64 Y.wide)).setCell ⟨w.heap.size + 1, 3, none⟩ (.int .i64 Y.high)).setCell ⟨w.heap.size + 1, 4, none⟩ (Value.slice g1 Y.gs.length l1)).setCell ⟨w.heap.size + 1, 5, none⟩ (Value.slice g2 Y.os.length l2)).setCell ⟨w.heap.size + 1, 6, none⟩ (Value.slice g3 Y.gold.length l3)).setCell ⟨w.heap.size + 1, 7, none⟩ (Value.slice g4 Y.us.length l4)).setCell ⟨w.heap.size + 1, 8, none⟩ (Value.slice g5 Y.qs.length l5))) := put_kp _ _ _ _ _ _ _ _ _ _ _
    obtain ⟨y0, y1, y2, y3, y4, y5, y6, y7, y8⟩ := (ZW.out.put (.int .i64 Y.turn) (.int .i64 Y.next) (.int .i64 Y.wide) (.int .i64 Y.high) (Value.slice g1 Y.gs.length l1) (Value.slice g2 Y.os.length l2) (Value.slice g3 Y.gold.length l3) (Value.slice g4 Y.us.length l4) (Value.slice g5 Y.qs.length l5)).cells
    go_wp2
    clear x0 x1 x2 x3 x4 x5 x6 x7 x8 z0 z1 z2 z3 z4 z5 z6 z7 z8 t0 t1 t2 t3 t4 t5 t6 t7 t8
    generalize (((((((((wr.setCell ⟨w.heap.size + 1, 0, none⟩ (.int .i64 Y.turn)).setCell ⟨w.heap.size + 1, 1, none⟩ (.int .i64 Y.next)).setCell ⟨w.heap.size + 1, 2, none⟩ (.int .i64 Y.wide)).setCell ⟨w.heap.size + 1, 3, none⟩ (.int .i64 Y.high)).setCell ⟨w.heap.size + 1, 4, none⟩ (Value.slice g1 Y.gs.length l1)).setCell ⟨w.heap.size + 1, 5, none⟩ (Value.slice g2 Y.os.length l2)).setCell ⟨w.heap.size + 1, 6, none⟩ (Value.slice g3 Y.gold.length l3)).setCell ⟨w.heap.size + 1, 7, none⟩ (Value.slice g4 Y.us.length l4)).setCell ⟨w.heap.size + 1, 8, none⟩ (Value.slice g5 Y.qs.length l5)) = wt at *
    refine bodyPost_ret (v := .tuple #[.agg #[.int .i64 Y.turn, .int .i64 Y.next, .int .i64 Y.wide, .int .i64 Y.high, Value.slice g1 Y.gs.length l1, Value.slice g2 Y.os.length l2, Value.slice g3 Y.gold.length l3, Value.slice g4 Y.us.length l4, Value.slice g5 Y.qs.length l5], .nilIface]) (by simp [results, Tryz.results24, go_sem, y0, y1, y2, y3, y4, y5, y6, y7, y8]) rfl ⟨_, _, 0, rfl, Er.nil, .inr ⟨rfl, FW.out, HLN.out, Y, PE.out, ?_⟩, KZ.out.below BW.out BW.out.size (by omega)⟩
    exact ⟨_, _, _, _, _, rfl, (TQ.out.o1.kp KZ.out (by omega)).mono (by omega), (TQ.out.o2.kp KZ.out (by omega)).mono (by omega), (TQ.out.o3.kp KZ.out (by omega)).mono (by omega), (TQ.out.o4.kp KZ.out (by omega)).mono (by omega), (TQ.out.o5.kp KZ.out (by omega)).mono (by omega)⟩
  case neg =>
  have hnl : n < ls.length := by omega
  have hnl' : (n : Int) < (ls.length : Int) := by omega
  have hl2 : ls.length ≤ 200 := HLN.out
  obtain ⟨l, hl⟩ : ∃ l, ls[n]? = some l := ⟨_, List.getElem?_eq_getElem hnl⟩
  have HL : Hid (ls[n]? = some l) := hl
  obtain ⟨a', c', e', -, -, hy⟩ := SD.out.2.below BW.out
  injection e' with e1 e2 e3
  subst e1 e3
  obtain ⟨xl, rfl, -, hy⟩ := hy (by rintro hn; rw [hn] at hnl; simp at hnl)
  obtain ⟨vo, cv, hvo⟩ := hy n l hl
  have VO : Hid (Orl wr vo l) := hvo
  clear hy hl e2 hvo
  obtain ⟨x0, x1, x2, x3, x4, x5, x6, x7, x8⟩ := TQ.out.x.cells
  go_wp2_with fail
  clear cv x0 x1 x2 x3 x4 x5 x6 x7 x8
  refine (Step_any _ _ vo ks Y l wr (K.out.1.below BW.out) K.out.2 TQ.out.wl VO.out (SD.out.1.below BW.out)).mono ?_
  rintro e w7 ⟨v, ev2, r, rfl, hr, hd, hb⟩
  have T7 : Hid (StS Y [] w.heap.size (w.heap.size + 2) be w5 (Value.slice g1 Y.gs.length l1) (Value.slice g2 Y.os.length l2) (Value.slice g3 Y.gold.length l3) (Value.slice g4 Y.us.length l4) (Value.slice g5 Y.qs.length l5) (.slice none 0 0) w7) := TQ.out.below hb
  have B7 : Hid (Below w.heap.size w w7) := BW.out.trans (hb.mono BW.out.size)
  have Z7 : Hid (Wx w7 (w.heap.size + 1) (.int .i64 0) (.int .i64 0) (.int .i64 0) (.int .i64 0) (.slice none 0 0) (.slice none 0 0) (.slice none 0 0) (.slice none 0 0) (.slice none 0 0)) := ZW.out.below hb ZW.out.lt
  clear hb
  obtain ⟨sf, hsf⟩ : ∃ f, stepFault ks Y l = f := ⟨_, rfl⟩
  have SF : Hid (stepFault ks Y l = sf) := hsf
  rw [hsf] at hr
  clear hsf
  rcases hr with ⟨rfl, rfl⟩ | ⟨hf, rfl⟩
  case inr =>
    have HF : Hid (sf ≠ 0) := hf
    rcases hd with ⟨-, rfl, rfl⟩ | ⟨h, -⟩
    case inr => rw [SF.out] at h; exact absurd h hf
    clear hf
    have BN : Hid (Below w7.heap.size w7 (w7.alloc (Obj.cells #[.int .i64 0, .int .i64 0, .int .i64 0, .int .i64 0, .slice none 0 0, .slice none 0 0, .slice none 0 0, .slice none 0 0, .slice none 0 0] 29))) := (Below.refl _ _).alloc (Nat.le_refl _) _
    go_upto_region 12 with fail
    generalize w7.alloc (Obj.cells #[.int .i64 0, .int .i64 0, .int .i64 0, .int .i64 0, .slice none 0 0, .slice none 0 0, .slice none 0 0, .slice none 0 0, .slice none 0 0] 29) = w8 at *
    have B8 : Hid (Below w.heap.size w w8) := B7.out.trans (BN.out.mono B7.out.size)
    have Z8 : Hid (Wx w8 (w.heap.size + 1) (.int .i64 0) (.int .i64 0) (.int .i64 0) (.int .i64 0) (.slice none 0 0) (.slice none 0 0) (.slice none 0 0) (.slice none 0 0) (.slice none 0 0)) := Z7.out.below BN.out Z7.out.lt
    obtain ⟨z0, z1, z2, z3, z4, z5, z6, z7, z8⟩ := Z8.out.cells
    obtain ⟨t0, t1, t2, t3, t4, t5, t6, t7, t8⟩ := Z8.out.thaws
    have KZ : Hid (Kp (w.heap.size + 1) w8 (((((((((w8.setCell ⟨w.heap.size + 1, 0, none⟩ (.int .i64 0)).setCell ⟨w.heap.size + 1, 1, none⟩ (.int .i64 0)).setCell ⟨w.heap.size + 1, 2, none⟩ (.int .i64 0)).setCell ⟨w.heap.size + 1, 3, none⟩ (.int .i64 0)).setCell ⟨w.heap.size + 1, 4, none⟩ (.slice none 0 0)).setCell ⟨w.heap.size + 1, 5, none⟩ (.slice none 0 0)).setCell ⟨w.heap.size + 1, 6, none⟩ (.slice none 0 0)).setCell ⟨w.heap.size + 1, 7, none⟩ (.slice none 0 0)).setCell ⟨w.heap.size + 1, 8, none⟩ (.slice none 0 0))) := put_kp _ _ _ _ _ _ _ _ _ _ _
    obtain ⟨y0, y1, y2, y3, y4, y5, y6, y7, y8⟩ := (Z8.out.put (.int .i64 0) (.int .i64 0) (.int .i64 0) (.int .i64 0) (.slice none 0 0) (.slice none 0 0) (.slice none 0 0) (.slice none 0 0) (.slice none 0 0)).cells
    go_wp2
    clear z0 z1 z2 z3 z4 z5 z6 z7 z8 t0 t1 t2 t3 t4 t5 t6 t7 t8
    generalize (((((((((w8.setCell ⟨w.heap.size + 1, 0, none⟩ (.int .i64 0)).setCell ⟨w.heap.size + 1, 1, none⟩ (.int .i64 0)).setCell ⟨w.heap.size + 1, 2, none⟩ (.int .i64 0)).setCell ⟨w.heap.size + 1, 3, none⟩ (.int .i64 0)).setCell ⟨w.heap.size + 1, 4, none⟩ (.slice none 0 0)).setCell ⟨w.heap.size + 1, 5, none⟩ (.slice none 0 0)).setCell ⟨w.heap.size + 1, 6, none⟩ (.slice none 0 0)).setCell ⟨w.heap.size + 1, 7, none⟩ (.slice none 0 0)).setCell ⟨w.heap.size + 1, 8, none⟩ (.slice none 0 0)) = wz at *
    refine bodyPost_ret (v := .tuple #[.agg #[.int .i64 0, .int .i64 0, .int .i64 0, .int .i64 0, .slice none 0 0, .slice none 0 0, .slice none 0 0, .slice none 0 0, .slice none 0 0], .iface 77 (.int .i64 sf)]) (by simp [results, Tryz.results24, go_sem, y0, y1, y2, y3, y4, y5, y6, y7, y8]) rfl ⟨_, _, sf, rfl, Er.no HF.out, .inl ⟨HF.out, rfl, .inr (.inr ⟨FW.out, HLN.out, n, Y, l, PR.out, HL.out, SF.out⟩)⟩, KZ.out.below B8.out B8.out.size (by omega)⟩
  rcases hd with ⟨h, -⟩ | ⟨-, Z, es, hsr, ho, -⟩
  case inl => exact absurd SF.out h
  have PN : Hid (PlayR ks X ls (n + 1) Z) := .turn PR.out HL.out SF.out hsr
  obtain ⟨v1, v2, v3, v4, v5, rfl, o1, o2, o3, o4, o5⟩ := ho
  obtain ⟨m1, k1, rfl⟩ := o1.len
  obtain ⟨m2, k2, rfl⟩ := o2.len
  obtain ⟨m3, k3, rfl⟩ := o3.len
  obtain ⟨m4, k4, rfl⟩ := o4.len
  obtain ⟨m5, k5, rfl⟩ := o5.len
  have OZ : Hid (Ow w7 (w.heap.size + 2) (Value.slice m1 Z.gs.length k1) Z.gs ∧ Ow w7 (w.heap.size + 2) (Value.slice m2 Z.os.length k2) Z.os ∧ Ow w7 (w.heap.size + 2) (Value.slice m3 Z.gold.length k3) Z.gold ∧ Uno w7 (w.heap.size + 2) (Value.slice m4 Z.us.length k4) Z.us ∧ Jbo w7 (w.heap.size + 2) (Value.slice m5 Z.qs.length k5) Z.qs) := ⟨o1.mono SW.out, o2.mono SW.out, o3.mono SW.out, o4.mono SW.out, o5.mono SW.out⟩
  clear o1 o2 o3 o4 o5 hsr
  obtain ⟨bn, hbn⟩ : ∃ b, w7.heap.size = b := ⟨_, rfl⟩
  have BN : Hid (Below w7.heap.size w7 (w7.alloc (Obj.cells #[.int .i64 Z.turn, .int .i64 Z.next, .int .i64 Z.wide, .int .i64 Z.high, Value.slice m1 Z.gs.length k1, Value.slice m2 Z.os.length k2, Value.slice m3 Z.gold.length k3, Value.slice m4 Z.us.length k4, Value.slice m5 Z.qs.length k5] 29))) := (Below.refl _ _).alloc (Nat.le_refl _) _
  have XN : Hid (Wx (w7.alloc (Obj.cells #[.int .i64 Z.turn, .int .i64 Z.next, .int .i64 Z.wide, .int .i64 Z.high, Value.slice m1 Z.gs.length k1, Value.slice m2 Z.os.length k2, Value.slice m3 Z.gold.length k3, Value.slice m4 Z.us.length k4, Value.slice m5 Z.qs.length k5] 29)) bn (.int .i64 Z.turn) (.int .i64 Z.next) (.int .i64 Z.wide) (.int .i64 Z.high) (Value.slice m1 Z.gs.length k1) (Value.slice m2 Z.os.length k2) (Value.slice m3 Z.gold.length k3) (Value.slice m4 Z.us.length k4) (Value.slice m5 Z.qs.length k5)) := Wx.new (w := w7) (.int .i64 Z.turn) (.int .i64 Z.next) (.int .i64 Z.wide) (.int .i64 Z.high) (Value.slice m1 Z.gs.length k1) (Value.slice m2 Z.os.length k2) (Value.slice m3 Z.gold.length k3) (Value.slice m4 Z.us.length k4) (Value.slice m5 Z.qs.length k5) hbn
  go_upto_region 13 with fail
  (try rw [hbn])
  clear hbn
  generalize w7.alloc (Obj.cells #[.int .i64 Z.turn, .int .i64 Z.next, .int .i64 Z.wide, .int .i64 Z.high, Value.slice m1 Z.gs.length k1, Value.slice m2 Z.os.length k2, Value.slice m3 Z.gold.length k3, Value.slice m4 Z.us.length k4, Value.slice m5 Z.qs.length k5] 29) = w8 at *
  have T8 : Hid (StS Y [] w.heap.size (w.heap.size + 2) be w5 (Value.slice g1 Y.gs.length l1) (Value.slice g2 Y.os.length l2) (Value.slice g3 Y.gold.length l3) (Value.slice g4 Y.us.length l4) (Value.slice g5 Y.qs.length l5) (.slice none 0 0) w8) := T7.out.below BN.out
  have O8 : Hid (Ow w8 (w.heap.size + 2) (Value.slice m1 Z.gs.length k1) Z.gs ∧ Ow w8 (w.heap.size + 2) (Value.slice m2 Z.os.length k2) Z.os ∧ Ow w8 (w.heap.size + 2) (Value.slice m3 Z.gold.length k3) Z.gold ∧ Uno w8 (w.heap.size + 2) (Value.slice m4 Z.us.length k4) Z.us ∧ Jbo w8 (w.heap.size + 2) (Value.slice m5 Z.qs.length k5) Z.qs) := ⟨OZ.out.1.below BN.out, OZ.out.2.1.below BN.out, OZ.out.2.2.1.below BN.out, OZ.out.2.2.2.1.below BN.out, OZ.out.2.2.2.2.below BN.out⟩
  obtain ⟨x0, x1, x2, x3, x4, x5, x6, x7, x8⟩ := XN.out.cells
  obtain ⟨z0, z1, z2, z3, z4, z5, z6, z7, z8⟩ := T8.out.x.cells
  obtain ⟨t0, t1, t2, t3, t4, t5, t6, t7, t8⟩ := T8.out.x.thaws
  have KZ : Hid (Kp w.heap.size w8 (((((((((w8.setCell ⟨w.heap.size, 0, none⟩ (.int .i64 Z.turn)).setCell ⟨w.heap.size, 1, none⟩ (.int .i64 Z.next)).setCell ⟨w.heap.size, 2, none⟩ (.int .i64 Z.wide)).setCell ⟨w.heap.size, 3, none⟩ (.int .i64 Z.high)).setCell ⟨w.heap.size, 4, none⟩ (Value.slice m1 Z.gs.length k1)).setCell ⟨w.heap.size, 5, none⟩ (Value.slice m2 Z.os.length k2)).setCell ⟨w.heap.size, 6, none⟩ (Value.slice m3 Z.gold.length k3)).setCell ⟨w.heap.size, 7, none⟩ (Value.slice m4 Z.us.length k4)).setCell ⟨w.heap.size, 8, none⟩ (Value.slice m5 Z.qs.length k5))) := put_kp _ _ _ _ _ _ _ _ _ _ _
  have XZ : Hid (Wx (((((((((w8.setCell ⟨w.heap.size, 0, none⟩ (.int .i64 Z.turn)).setCell ⟨w.heap.size, 1, none⟩ (.int .i64 Z.next)).setCell ⟨w.heap.size, 2, none⟩ (.int .i64 Z.wide)).setCell ⟨w.heap.size, 3, none⟩ (.int .i64 Z.high)).setCell ⟨w.heap.size, 4, none⟩ (Value.slice m1 Z.gs.length k1)).setCell ⟨w.heap.size, 5, none⟩ (Value.slice m2 Z.os.length k2)).setCell ⟨w.heap.size, 6, none⟩ (Value.slice m3 Z.gold.length k3)).setCell ⟨w.heap.size, 7, none⟩ (Value.slice m4 Z.us.length k4)).setCell ⟨w.heap.size, 8, none⟩ (Value.slice m5 Z.qs.length k5)) w.heap.size (.int .i64 Z.turn) (.int .i64 Z.next) (.int .i64 Z.wide) (.int .i64 Z.high) (Value.slice m1 Z.gs.length k1) (Value.slice m2 Z.os.length k2) (Value.slice m3 Z.gold.length k3) (Value.slice m4 Z.us.length k4) (Value.slice m5 Z.qs.length k5)) := T8.out.x.put (.int .i64 Z.turn) (.int .i64 Z.next) (.int .i64 Z.wide) (.int .i64 Z.high) (Value.slice m1 Z.gs.length k1) (Value.slice m2 Z.os.length k2) (Value.slice m3 Z.gold.length k3) (Value.slice m4 Z.us.length k4) (Value.slice m5 Z.qs.length k5)
  go_upto_region 14 with fail
  clear x0 x1 x2 x3 x4 x5 x6 x7 x8 z0 z1 z2 z3 z4 z5 z6 z7 z8 t0 t1 t2 t3 t4 t5 t6 t7 t8
  generalize (((((((((w8.setCell ⟨w.heap.size, 0, none⟩ (.int .i64 Z.turn)).setCell ⟨w.heap.size, 1, none⟩ (.int .i64 Z.next)).setCell ⟨w.heap.size, 2, none⟩ (.int .i64 Z.wide)).setCell ⟨w.heap.size, 3, none⟩ (.int .i64 Z.high)).setCell ⟨w.heap.size, 4, none⟩ (Value.slice m1 Z.gs.length k1)).setCell ⟨w.heap.size, 5, none⟩ (Value.slice m2 Z.os.length k2)).setCell ⟨w.heap.size, 6, none⟩ (Value.slice m3 Z.gold.length k3)).setCell ⟨w.heap.size, 7, none⟩ (Value.slice m4 Z.us.length k4)).setCell ⟨w.heap.size, 8, none⟩ (Value.slice m5 Z.qs.length k5)) = w9 at *
  have T9 : Hid (StS Z [] w.heap.size (w.heap.size + 2) be w5 (Value.slice m1 Z.gs.length k1) (Value.slice m2 Z.os.length k2) (Value.slice m3 Z.gold.length k3) (Value.slice m4 Z.us.length k4) (Value.slice m5 Z.qs.length k5) (.slice none 0 0) w9) := T8.out.puts KZ.out XZ.out O8.out.1 O8.out.2.1 O8.out.2.2.1 O8.out.2.2.2.1 O8.out.2.2.2.2
  go_wp2
  go_round
  case rel => exact ⟨n + 1, by omega, by go_num, Z, PN.out, _, _, _, _, _, T9.out⟩
  case measure => simp [intOf]; omega
end Go.Proofs.YteieikgkmfglaaaGreatDoor

namespace Go.Proofs.YteieikgkmfglaaaGreatDoor
open Go.RowKit Wy
set_option linter.unusedVariables false

theorem aim_uniq {ks : List KV} {X : WV} {Wn Hn : Nat} {u : UnV} {k : KV} {c c' : Int} (h : AimSays ks X Wn Hn u k c) (h' : AimSays ks X Wn Hn u k c') : c = c' := by
  rcases h with ⟨h1, h2⟩ | ⟨h1, h2, h3⟩ | ⟨h1, h2, l, h3, h4⟩
  · rcases h' with ⟨g1, g2⟩ | ⟨g1, -⟩ | ⟨g1, -⟩
    · rw [h2, g2]
    · exact absurd h1 g1
    · omega
  · rcases h' with ⟨g1, g2⟩ | ⟨g1, g2, g3⟩ | ⟨g1, g2, -⟩
    · exact absurd g1 h1
    · rw [h3, g3]
    · exact absurd ⟨g1, g2⟩ h2
  · rcases h' with ⟨g1, g2⟩ | ⟨g1, g2, g3⟩ | ⟨g1, g2, l', g3, g4⟩
    · omega
    · exact absurd ⟨h1, h2⟩ g2
    · have : l = l' := h3.1.uniq g3.1
      subst this
      rw [h4, g4]
theorem wish_uniq {ks : List KV} {X : WV} {Wn Hn : Nat} {u : UnV} {k : KV} {c c' : Nat} (h : WishSays ks X Wn Hn u k c) (h' : WishSays ks X Wn Hn u k c') : c = c' := by
  obtain ⟨an, bn, l, h1, h2, -, h3, h4⟩ := h
  obtain ⟨an', bn', l', g1, g2, -, g3, g4⟩ := h'
  obtain rfl : an = an' := by omega
  obtain rfl : bn = bn' := by have := aim_uniq h2 g2; omega
  have : l = l' := h3.1.uniq g3.1
  subst this
  rcases h4 with ⟨h4, h5⟩ | ⟨h4, h5⟩
  · rcases g4 with ⟨g4, g5⟩ | ⟨g4, -⟩
    · rw [h5, g5]
    · omega
  · rcases g4 with ⟨g4, -⟩ | ⟨-, g5⟩
    · omega
    · exact h5.uniq g5
theorem goes_uniq {ks : List KV} {X : WV} {Wn Hn : Nat} {k : KV} {i : Nat} {us us' : List UnV} {left : Int} {cells : List Int} (h : Goes ks X Wn Hn k i us left cells us') : ∀ {cells2 : List Int} {us2 : List UnV}, Goes ks X Wn Hn k i us left cells2 us2 → cells = cells2 ∧ us' = us2 := by
  induction h with
  | stop hu hw hg h =>
    intro cells2 us2 h'
    obtain ⟨u', c', gg', hu', hw', hg', hh⟩ := goes_cases h'
    rw [hu] at hu'
    injection hu' with hu'
    subst hu'
    obtain rfl := wish_uniq hw hw'
    rw [hg] at hg'
    injection hg' with hg'
    subst hg'
    rcases hh with ⟨-, h1, h2⟩ | ⟨h1, h2, -⟩
    · exact ⟨h1.symm, h2.symm⟩
    · rcases h with h | h
      · exact absurd h h1
      · rw [h] at h2; cases h2
  | step hu hw hg h1 h2 h3 ih =>
    intro cells2 us2 h'
    obtain ⟨u', c', gg', hu', hw', hg', hh⟩ := goes_cases h'
    rw [hu] at hu'
    injection hu' with hu'
    subst hu'
    obtain rfl := wish_uniq hw hw'
    rw [hg] at hg'
    injection hg' with hg'
    subst hg'
    rcases hh with ⟨g1, -⟩ | ⟨-, -, cells', g1, g2⟩
    · rcases g1 with g1 | g1
      · exact absurd g1 h1
      · rw [h2] at g1; cases g1
    · obtain ⟨e1, e2⟩ := ih g2
      exact ⟨by rw [g1, e1], e2⟩
theorem moves_uniq {ks : List KV} {X : WV} {Wn Hn n : Nat} {us us' : List UnV} {evs : List EvV} (h : Moves ks X Wn Hn n us evs us') : ∀ {evs2 : List EvV} {us2 : List UnV}, Moves ks X Wn Hn n us evs2 us2 → evs = evs2 ∧ us' = us2 := by
  induction h with
  | done h =>
    intro evs2 us2 h'
    rcases moves_cases h' with ⟨-, h1, h2⟩ | ⟨u, u1, k, cells, us1, evs', hu, -⟩
    · exact ⟨h1.symm, h2.symm⟩
    · have := (List.getElem?_eq_some_iff.1 hu).1
      omega
  | unit hu hk hg h1 hm ih =>
    intro evs2 us2 h'
    rcases moves_cases h' with ⟨h2, -⟩ | ⟨u', u1', k', cells', us1', evs', hu', hk', hg', h1', hm', he⟩
    · have := (List.getElem?_eq_some_iff.1 hu).1
      omega
    · rw [hu] at hu'
      injection hu' with hu'
      subst hu'
      rw [hk] at hk'
      injection hk' with hk'
      subst hk'
      obtain ⟨e1, e2⟩ := goes_uniq hg hg'
      subst e1
      subst e2
      rw [h1] at h1'
      injection h1' with h1'
      subst h1'
      obtain ⟨e3, e4⟩ := ih hm'
      exact ⟨by rw [he, e3], e4⟩
end Go.Proofs.YteieikgkmfglaaaGreatDoor

namespace Go.Proofs.YteieikgkmfglaaaGreatDoor
open Go.RowKit Go.Proofs.YteieikgkmfglaaaGreatDoor.So
set_option linter.unusedVariables false

theorem ph_uniq {ks : List KV} {Wn Hn : Nat} {A : WV} {n : Nat} {Y : WV} {es : List EvV} (p : Ph ks Wn Hn A n Y es) : ∀ {Y' : WV} {es' : List EvV}, Ph ks Wn Hn A n Y' es' → Y = Y' ∧ es = es' := by
  induction p with
  | zero => intro Y' es' q; cases q; exact ⟨rfl, rfl⟩
  | one t =>
    intro Y' es' q
    cases q with
    | one t' => obtain ⟨rfl, rfl, rfl⟩ := tr_uniq t t'; exact ⟨rfl, rfl⟩
  | two p0 m ih =>
    intro Y' es' q
    cases q with
    | two q0 m' =>
      obtain ⟨rfl, rfl⟩ := ih q0
      obtain ⟨rfl, rfl⟩ := moves_uniq m m'
      exact ⟨rfl, rfl⟩
  | three p0 ih =>
    intro Y' es' q
    cases q with
    | three q0 => obtain ⟨rfl, rfl⟩ := ih q0; exact ⟨rfl, rfl⟩
  | four p0 ih =>
    intro Y' es' q
    cases q with
    | four q0 => obtain ⟨rfl, rfl⟩ := ih q0; exact ⟨rfl, rfl⟩
theorem step_uniq {ks : List KV} {X : WV} {l : List OrV} {Y Y' : WV} {es es' : List EvV} (h : StepR ks X l Y es) (h' : StepR ks X l Y' es') : Y = Y' ∧ es = es' := by
  obtain ⟨out, Wn, Hn, Z, a1, a2, a3, a4, rfl⟩ := h
  obtain ⟨out', Wn', Hn', Z', b1, b2, b3, b4, rfl⟩ := h'
  obtain rfl := a1.one b1
  obtain rfl : Wn = Wn' := by omega
  obtain rfl : Hn = Hn' := by omega
  obtain ⟨rfl, rfl⟩ := ph_uniq a4 b4
  exact ⟨rfl, rfl⟩
theorem play_uniq {ks : List KV} {X : WV} {ls : List (List OrV)} {n : Nat} {Y : WV} (h : PlayR ks X ls n Y) : ∀ {Y' : WV}, PlayR ks X ls n Y' → Y = Y' := by
  induction h with
  | zero => intro Y' k; cases k; rfl
  | turn p hl hf hs ih =>
    intro Y' k
    cases k with
    | turn p' hl' hf' hs' =>
      obtain rfl := ih p'
      rw [hl] at hl'
      injection hl' with e
      subst e
      exact (step_uniq hs hs').1
/-- what n turns come to, where more turns are listed, or fewer. -/
theorem play_like {ks : List KV} {X : WV} {ls ms : List (List OrV)} {n : Nat} {Y : WV} (h : PlayR ks X ls n Y) : (∀ i, i < n → ls[i]? = ms[i]?) → PlayR ks X ms n Y := by
  induction h with
  | zero => intro _; exact .zero
  | @turn n Y Z l es p hl hf hs ih => intro e; exact .turn (ih (fun i hi => e i (by omega))) (by rw [← e n (by omega)]; exact hl) hf hs
/-- turns behind turns. -/
theorem play_join {ks : List KV} {X A : WV} {ls : List (List OrV)} {c m : Nat} {B : WV} (h : PlayR ks X ls c A) (k : PlayR ks A (ls.drop c) m B) : PlayR ks X ls (c + m) B := by
  induction k with
  | zero => exact h
  | @turn n Y Z l es p hl hf hs ih => exact .turn ih (by rw [List.getElem?_drop] at hl; exact hl) hf hs
theorem play_back {ks : List KV} {X : WV} {ls : List (List OrV)} {n : Nat} {Y : WV} (h : PlayR ks X ls n Y) : ∀ m, m ≤ n → ∃ Z, PlayR ks X ls m Z ∧ (m < n → ∃ l, ls[m]? = some l ∧ stepFault ks Z l = 0) := by
  induction h with
  | zero => intro m hm; obtain rfl : m = 0 := by omega
            exact ⟨X, .zero, fun h => absurd h (Nat.lt_irrefl _)⟩
  | @turn n Y Z l es p hl hf hs ih =>
    intro m hm
    by_cases e : m = n + 1
    · subst e
      exact ⟨Z, .turn p hl hf hs, fun h => absurd h (Nat.lt_irrefl _)⟩
    · by_cases e2 : m = n
      · subst e2
        exact ⟨Y, p, fun _ => ⟨l, hl, hf⟩⟩
      · obtain ⟨W, h1, h2⟩ := ih m (by omega)
        exact ⟨W, h1, fun _ => h2 (by omega)⟩
/-- behind a turn a world is right, one turn further. -/
theorem step_right {ks : List KV} {X : WV} {l : List OrV} {Y : WV} {es : List EvV} (hf : stepFault ks X l = 0) (h : StepR ks X l Y es) : Wd.wfault ks Y = 0 ∧ Y.turn = X.turn + 1 := by
  have hw : Wd.wfault ks X = 0 := by
    by_cases e : Wd.wfault ks X = 0
    · exact e
    · rw [step_w e] at hf; exact absurd hf e
  have ht : ¬ 1000000 ≤ X.turn := fun e => by rw [step_t hw e] at hf; cases hf
  have ho : Od.faults l = 0 := by rw [step_o hw ht] at hf; exact hf
  have R := wright_of hw
  obtain ⟨out, Wn, Hn, Z, a1, a2, a3, a4, rfl⟩ := h
  obtain ⟨g1, g2, g3⟩ := gv_same (ks := ks) (Y := X) (out := out) out.length
  have AR := gv_right R (out := out) (fun o h => (Od.faults_ok ho).2 o (a1.mem h)) out.length
  obtain ⟨r, -, -, t, -⟩ := a4.keep AR (by rw [g2, a2]) (by rw [g3, a3])
  have tx : Z.turn = X.turn := t.trans g1
  refine ⟨?_, by show Z.turn + 1 = _; rw [tx]⟩
  obtain ⟨W', H', e1, e2, G⟩ := r.good
  refine Wd.wfault_zero r.kinds (by show Fd.fault Z.wide Z.high Z.gs Z.os = 0; rw [e1, e2]; exact Fd.fault_good G) ?_ r.ul (fun i u hu => ?_) r.ql (fun j hj => r.job hj)
  · have hn := r.nums
    unfold Wd.numsBad at hn ⊢
    simp only [Bool.or_eq_false_iff] at hn ⊢
    refine ⟨?_, hn.2⟩
    have h1 := hn.1
    unfold Wd.off at h1 ⊢
    simp at h1 ⊢
    omega
  · obtain ⟨k, F⟩ := r.fine hu
    exact ⟨k, F.id1, F.id2, F.up, F.p, F.k0, F.kk, F.life, F.load, F.task, F.at_, F.goal, F.opn, F.rest⟩
theorem play_right {ks : List KV} {X : WV} {ls : List (List OrV)} {n : Nat} {Y : WV} (hw : Wd.wfault ks X = 0) (h : PlayR ks X ls n Y) : Wd.wfault ks Y = 0 ∧ Y.turn = X.turn + (n : Int) := by
  induction h with
  | zero => exact ⟨hw, by simp⟩
  | turn p hl hf hs ih =>
    obtain ⟨s1, s2⟩ := step_right hf hs
    exact ⟨s1, by rw [s2, ih.2]; omega⟩
/-- without orders a turn of a right world comes. -/
theorem rest_fault {ks : List KV} {X : WV} (hw : Wd.wfault ks X = 0) (ht : X.turn < 1000000) : stepFault ks X [] = 0 := by
  rw [step_o hw (by omega)]
  rfl
/-- where all turns come, those in front come, too, and those behind. -/
theorem parts_front {ks : List KV} {X : WV} {ls : List (List OrV)} {Y : WV} (h : PlayR ks X ls ls.length Y) {c : Nat} (hc : c ≤ ls.length) {n : Nat} {Z : WV} {l : List OrV} (p : PlayR ks X (ls.take c) n Z) (hl : (ls.take c)[n]? = some l) : stepFault ks Z l = 0 := by
  have hn : n < c := by
    have := (List.getElem?_eq_some_iff.1 hl).1
    rw [List.length_take] at this
    omega
  obtain ⟨W, w1, w2⟩ := play_back h n (by omega)
  have p' : PlayR ks X ls n Z := play_like p (fun i hi => by rw [List.getElem?_take, if_pos (by omega)])
  obtain rfl := play_uniq w1 p'
  obtain ⟨l', e, f⟩ := w2 (by omega)
  rw [List.getElem?_take, if_pos hn, e] at hl
  injection hl with hl
  subst hl
  exact f
theorem parts_back {ks : List KV} {X A : WV} {ls : List (List OrV)} {Y : WV} (h : PlayR ks X ls ls.length Y) {c : Nat} (hc : c ≤ ls.length) (ha : PlayR ks X ls c A) {n : Nat} {Z : WV} {l : List OrV} (p : PlayR ks A (ls.drop c) n Z) (hl : (ls.drop c)[n]? = some l) : stepFault ks Z l = 0 := by
  have hn : c + n < ls.length := by
    have := (List.getElem?_eq_some_iff.1 hl).1
    rw [List.length_drop] at this
    omega
  obtain ⟨W, w1, w2⟩ := play_back h (c + n) (by omega)
  obtain rfl := play_uniq w1 (play_join ha p)
  obtain ⟨l', e, f⟩ := w2 hn
  rw [List.getElem?_drop, e] at hl
  injection hl with hl
  subst hl
  exact f
end Go.Proofs.YteieikgkmfglaaaGreatDoor

