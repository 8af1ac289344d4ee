/- world.Place. · works.come. · works.Train. · The reference: what is wrong with a kind, and with some. · The reference: what is wrong with some kinds. · What the reference says of a field (cut out of RfA). -/
import Derived.Test.YteieikgkmfglaaaGreatDoorZWorksDo5
import Derived.Test.YteieikgkmfglaaaGreatDoorZWorksDo11
import Derived.Test.YteieikgkmfglaaaGreatDoorZWorksDo4
import Derived.Test.YteieikgkmfglaaaGreatDoorZWorksDo8
import Derived.Test.YteieikgkmfglaaaGreatDoorZWorksDo1
import Derived.Test.YteieikgkmfglaaaGreatDoorZWorksDo9
import Derived.Test.YteieikgkmfglaaaGreatDoorZWorksDo3
import Derived.Test.YteieikgkmfglaaaGreatDoorZWorksDo10
import Derived.Laws.Closers25
import Derived.Deep.DeepCutAuto
import Derived.IntWalk
import Derived.Test.YteieikgkmfglaaaGreatDoorZWorksDo2
namespace Go.Proofs.YteieikgkmfglaaaGreatDoor
open Go.RowKit
set_option linter.unusedVariables false
set_option maxRecDepth 100000 in
set_option maxHeartbeats 8000000 in
theorem place_any (vk vw : Value) (ks : List KV) (W : WV) (pl kd at_ : Int) (w : World) (hk : Kl w vk ks) (hb : ∀ k ∈ ks, k.b.size ≤ 9223372036854775807) (hw : Wl w vw W) :
  Calls Tryz.prog 63 #[vk, vw, .int .i64 pl, .int .i64 kd, .int .i64 at_] w fun e w' => ∃ u r, e = .returned (.tuple #[u, r]) ∧ Er r (Wd.putFault ks W pl kd at_) ∧ Wo w' w.heap.size u (Wd.placed ks W pl kd at_) ∧ Below w.heap.size w w' := by
 have K : Hid (Kl w vk ks ∧ ∀ k ∈ ks, k.b.size ≤ 9223372036854775807) := ⟨hk, hb⟩
 have H : Hid (Wl w vw W) := hw
 obtain ⟨u1, u2, u3, u4, u5, rfl, r1, r2, r3, r4, r5⟩ := hw
 obtain ⟨p1, q1, rfl, -⟩ := r1
 obtain ⟨p2, q2, rfl, -⟩ := r2
 obtain ⟨p3, q3, rfl, -⟩ := r3
 obtain ⟨p4, q4, rfl, -⟩ := r4
 obtain ⟨p5, q5, rfl, -⟩ := r5
 obtain ⟨pk, qk, rfl, -, -, kc⟩ := hk
 have KC : Hid (ks ≠ [] → ∃ x, pk = some x ∧ x.block < w.heap.size ∧ ∀ (i : Nat) k, ks[i]? = some k → Kc w (x.add (i * 11)) k) := kc
 clear hb kc
 go_enter Tryz.func63, Tryz.ntmps63
 go_upto_region 1 with fail
 have B0 : Hid (Below w.heap.size w ((w.alloc (.cells #[.int .i64 W.turn, .int .i64 W.next, .int .i64 W.wide, .int .i64 W.high, .slice p1 W.gs.length q1, .slice p2 W.os.length q2, .slice p3 W.gold.length q3, .slice p4 W.us.length q4, .slice p5 W.qs.length q5] 29)).alloc (.cells #[.int .i64 0, .int .i64 0, .int .i64 0, .int .i64 0, .slice none 0 0, .slice none 0 0, .slice none 0 0, .slice none 0 0, .slice none 0 0] 29))) := ((Below.refl _ _).alloc (Nat.le_refl _) _).alloc (by simp) _
 have X0 : Hid (Wx ((w.alloc (.cells #[.int .i64 W.turn, .int .i64 W.next, .int .i64 W.wide, .int .i64 W.high, .slice p1 W.gs.length q1, .slice p2 W.os.length q2, .slice p3 W.gold.length q3, .slice p4 W.us.length q4, .slice p5 W.qs.length q5] 29)).alloc (.cells #[.int .i64 0, .int .i64 0, .int .i64 0, .int .i64 0, .slice none 0 0, .slice none 0 0, .slice none 0 0, .slice none 0 0, .slice none 0 0] 29)) w.heap.size (.int .i64 W.turn) (.int .i64 W.next) (.int .i64 W.wide) (.int .i64 W.high) (.slice p1 W.gs.length q1) (.slice p2 W.os.length q2) (.slice p3 W.gold.length q3) (.slice p4 W.us.length q4) (.slice p5 W.qs.length q5)) := (Wx.new (w := w) _ _ _ _ _ _ _ _ _ rfl).below ((Below.refl _ _).alloc (Nat.le_refl _) _) (by simp)
 have Z0 : Hid (Wx ((w.alloc (.cells #[.int .i64 W.turn, .int .i64 W.next, .int .i64 W.wide, .int .i64 W.high, .slice p1 W.gs.length q1, .slice p2 W.os.length q2, .slice p3 W.gold.length q3, .slice p4 W.us.length q4, .slice p5 W.qs.length q5] 29)).alloc (.cells #[.int .i64 0, .int .i64 0, .int .i64 0, .int .i64 0, .slice none 0 0, .slice none 0 0, .slice none 0 0, .slice none 0 0, .slice none 0 0] 29)) (w.heap.size + 1) (.int .i64 0) (.int .i64 0) (.int .i64 0) (.int .i64 0) (.slice none 0 0) (.slice none 0 0) (.slice none 0 0) (.slice none 0 0) (.slice none 0 0)) := Wx.new _ _ _ _ _ _ _ _ _ (by simp)
 have S0 : Hid (w.heap.size + 2 ≤ ((w.alloc (.cells #[.int .i64 W.turn, .int .i64 W.next, .int .i64 W.wide, .int .i64 W.high, .slice p1 W.gs.length q1, .slice p2 W.os.length q2, .slice p3 W.gold.length q3, .slice p4 W.us.length q4, .slice p5 W.qs.length q5] 29)).alloc (.cells #[.int .i64 0, .int .i64 0, .int .i64 0, .int .i64 0, .slice none 0 0, .slice none 0 0, .slice none 0 0, .slice none 0 0, .slice none 0 0] 29)).heap.size) := by unfold Hid; simp
 generalize ((w.alloc (.cells #[.int .i64 W.turn, .int .i64 W.next, .int .i64 W.wide, .int .i64 W.high, .slice p1 W.gs.length q1, .slice p2 W.os.length q2, .slice p3 W.gold.length q3, .slice p4 W.us.length q4, .slice p5 W.qs.length q5] 29)).alloc (.cells #[.int .i64 0, .int .i64 0, .int .i64 0, .int .i64 0, .slice none 0 0, .slice none 0 0, .slice none 0 0, .slice none 0 0, .slice none 0 0] 29)) = w0 at *
 obtain ⟨x0, x1, x2, x3, x4, x5, x6, x7, x8⟩ := X0.out.cells
 go_wp2_with fail
 refine (wcheck_any _ _ ks W w0 (K.out.1.below B0.out) K.out.2 (H.out.below B0.out)).mono ?_
 rintro e w1 ⟨r, rfl, hr, hb1⟩
 clear x0 x1 x2 x3 x4 x5 x6 x7 x8
 have B1 : Hid (Below w.heap.size w w1) := B0.out.trans (hb1.mono B0.out.size)
 have X1 : Hid (Wx w1 w.heap.size (.int .i64 W.turn) (.int .i64 W.next) (.int .i64 W.wide) (.int .i64 W.high) (.slice p1 W.gs.length q1) (.slice p2 W.os.length q2) (.slice p3 W.gold.length q3) (.slice p4 W.us.length q4) (.slice p5 W.qs.length q5)) := X0.out.below hb1 X0.out.lt
 have Z1 : Hid (Wx w1 (w.heap.size + 1) (.int .i64 0) (.int .i64 0) (.int .i64 0) (.int .i64 0) (.slice none 0 0) (.slice none 0 0) (.slice none 0 0) (.slice none 0 0) (.slice none 0 0)) := Z0.out.below hb1 Z0.out.lt
 have S1 : Hid (w.heap.size + 2 ≤ w1.heap.size) := Nat.le_trans S0.out hb1.size
 clear hb1 B0 X0 Z0 S0
 rcases hr with ⟨hf, rfl⟩ | ⟨hf, rfl⟩
 case inr =>
  obtain ⟨fe, hfe⟩ : ∃ f, Wd.wfault ks W = f := ⟨_, rfl⟩
  have HFE : Hid (fe ≠ 0) := by rw [← hfe]; exact hf
  have FE : Hid (Wd.putFault ks W pl kd at_ = fe) := by unfold Hid Wd.putFault; rw [if_neg hf]; exact hfe
  rw [hfe]
  clear hf hfe
  obtain ⟨z0, z1, z2, z3, z4, z5, z6, z7, z8⟩ := Z1.out.cells
  obtain ⟨t0, t1, t2, t3, t4, t5, t6, t7, t8⟩ := Z1.out.thaws
  have KZ : Hid (Kp (w.heap.size + 1) w1 (((((((((w1.setCell ⟨w.heap.size + 1, 0, none⟩ (.int .i64 0)).setCell ⟨w.heap.size + 1, 1, none⟩ (.int .i64 0)).setCell ⟨w.heap.size + 1, 2, none⟩ (.int .i64 0)).setCell ⟨w.heap.size + 1, 3, none⟩ (.int .i64 0)).setCell ⟨w.heap.size + 1, 4, none⟩ (.slice none 0 0)).setCell ⟨w.heap.size + 1, 5, none⟩ (.slice none 0 0)).setCell ⟨w.heap.size + 1, 6, none⟩ (.slice none 0 0)).setCell ⟨w.heap.size + 1, 7, none⟩ (.slice none 0 0)).setCell ⟨w.heap.size + 1, 8, none⟩ (.slice none 0 0))) := put_kp _ _ _ _ _ _ _ _ _ _ _
  obtain ⟨y0, y1, y2, y3, y4, y5, y6, y7, y8⟩ := (Z1.out.put (.int .i64 0) (.int .i64 0) (.int .i64 0) (.int .i64 0) (.slice none 0 0) (.slice none 0 0) (.slice none 0 0) (.slice none 0 0) (.slice none 0 0)).cells
  go_wp2
  clear z0 z1 z2 z3 z4 z5 z6 z7 z8 t0 t1 t2 t3 t4 t5 t6 t7 t8
  generalize (((((((((w1.setCell ⟨w.heap.size + 1, 0, none⟩ (.int .i64 0)).setCell ⟨w.heap.size + 1, 1, none⟩ (.int .i64 0)).setCell ⟨w.heap.size + 1, 2, none⟩ (.int .i64 0)).setCell ⟨w.heap.size + 1, 3, none⟩ (.int .i64 0)).setCell ⟨w.heap.size + 1, 4, none⟩ (.slice none 0 0)).setCell ⟨w.heap.size + 1, 5, none⟩ (.slice none 0 0)).setCell ⟨w.heap.size + 1, 6, none⟩ (.slice none 0 0)).setCell ⟨w.heap.size + 1, 7, none⟩ (.slice none 0 0)).setCell ⟨w.heap.size + 1, 8, none⟩ (.slice none 0 0)) = w9 at *
  refine bodyPost_ret (v := .tuple #[.agg #[.int .i64 0, .int .i64 0, .int .i64 0, .int .i64 0, .slice none 0 0, .slice none 0 0, .slice none 0 0, .slice none 0 0, .slice none 0 0], .iface 77 (.int .i64 fe)]) (by simp [results, Tryz.results63, go_sem, y0, y1, y2, y3, y4, y5, y6, y7, y8]) rfl ⟨_, _, rfl, by rw [FE.out]; exact Er.no HFE.out, by rw [placed_bad (by rw [FE.out]; exact HFE.out)]; exact zero_wo _ _, KZ.out.below B1.out B1.out.size (by omega)⟩
 have HF : Hid (Wd.wfault ks W = 0) := hf
 have PF : Hid (Wd.putFault ks W pl kd at_ = Wd.placeFault ks W pl kd at_) := by unfold Hid Wd.putFault; rw [if_pos hf]
 have RT : Hid (WRight ks W) := wright_of hf
 clear hf
 obtain ⟨x0, x1, x2, x3, x4, x5, x6, x7, x8⟩ := X1.out.cells
 go_wp2_with fail
 refine (cplace_any _ _ ks W pl kd at_ w1 (K.out.1.below B1.out) (H.out.below B1.out) RT.out).mono ?_
 rintro e w2 ⟨r, rfl, hr, hb2⟩
 clear x0 x1 x2 x3 x4 x5 x6 x7 x8
 have B2 : Hid (Below w.heap.size w w2) := B1.out.trans (hb2.mono B1.out.size)
 have X2 : Hid (Wx w2 w.heap.size (.int .i64 W.turn) (.int .i64 W.next) (.int .i64 W.wide) (.int .i64 W.high) (.slice p1 W.gs.length q1) (.slice p2 W.os.length q2) (.slice p3 W.gold.length q3) (.slice p4 W.us.length q4) (.slice p5 W.qs.length q5)) := X1.out.below hb2 X1.out.lt
 have Z2 : Hid (Wx w2 (w.heap.size + 1) (.int .i64 0) (.int .i64 0) (.int .i64 0) (.int .i64 0) (.slice none 0 0) (.slice none 0 0) (.slice none 0 0) (.slice none 0 0) (.slice none 0 0)) := Z1.out.below hb2 Z1.out.lt
 have S2 : Hid (w.heap.size + 2 ≤ w2.heap.size) := Nat.le_trans S1.out hb2.size
 clear hb2 B1 X1 Z1 S1
 rcases hr with ⟨hf, rfl⟩ | ⟨hf, rfl⟩
 case inr =>
  obtain ⟨fe, hfe⟩ : ∃ f, Wd.placeFault ks W pl kd at_ = f := ⟨_, rfl⟩
  have HFE : Hid (fe ≠ 0) := by rw [← hfe]; exact hf
  have FE : Hid (Wd.putFault ks W pl kd at_ = fe) := by unfold Hid; rw [PF.out]; exact hfe
  rw [hfe]
  clear hf hfe
  obtain ⟨z0, z1, z2, z3, z4, z5, z6, z7, z8⟩ := Z2.out.cells
  obtain ⟨t0, t1, t2, t3, t4, t5, t6, t7, t8⟩ := Z2.out.thaws
  have KZ : Hid (Kp (w.heap.size + 1) w2 (((((((((w2.setCell ⟨w.heap.size + 1, 0, none⟩ (.int .i64 0)).setCell ⟨w.heap.size + 1, 1, none⟩ (.int .i64 0)).setCell ⟨w.heap.size + 1, 2, none⟩ (.int .i64 0)).setCell ⟨w.heap.size + 1, 3, none⟩ (.int .i64 0)).setCell ⟨w.heap.size + 1, 4, none⟩ (.slice none 0 0)).setCell ⟨w.heap.size + 1, 5, none⟩ (.slice none 0 0)).setCell ⟨w.heap.size + 1, 6, none⟩ (.slice none 0 0)).setCell ⟨w.heap.size + 1, 7, none⟩ (.slice none 0 0)).setCell ⟨w.heap.size + 1, 8, none⟩ (.slice none 0 0))) := put_kp _ _ _ _ _ _ _ _ _ _ _
  obtain ⟨y0, y1, y2, y3, y4, y5, y6, y7, y8⟩ := (Z2.out.put (.int .i64 0) (.int .i64 0) (.int .i64 0) (.int .i64 0) (.slice none 0 0) (.slice none 0 0) (.slice none 0 0) (.slice none 0 0) (.slice none 0 0)).cells
  go_wp2
  clear z0 z1 z2 z3 z4 z5 z6 z7 z8 t0 t1 t2 t3 t4 t5 t6 t7 t8
  generalize (((((((((w2.setCell ⟨w.heap.size + 1, 0, none⟩ (.int .i64 0)).setCell ⟨w.heap.size + 1, 1, none⟩ (.int .i64 0)).setCell ⟨w.heap.size + 1, 2, none⟩ (.int .i64 0)).setCell ⟨w.heap.size + 1, 3, none⟩ (.int .i64 0)).setCell ⟨w.heap.size + 1, 4, none⟩ (.slice none 0 0)).setCell ⟨w.heap.size + 1, 5, none⟩ (.slice none 0 0)).setCell ⟨w.heap.size + 1, 6, none⟩ (.slice none 0 0)).setCell ⟨w.heap.size + 1, 7, none⟩ (.slice none 0 0)).setCell ⟨w.heap.size + 1, 8, none⟩ (.slice none 0 0)) = w9 at *
  refine bodyPost_ret (v := .tuple #[.agg #[.int .i64 0, .int .i64 0, .int .i64 0, .int .i64 0, .slice none 0 0, .slice none 0 0, .slice none 0 0, .slice none 0 0, .slice none 0 0], .iface 77 (.int .i64 fe)]) (by simp [results, Tryz.results63, go_sem, y0, y1, y2, y3, y4, y5, y6, y7, y8]) rfl ⟨_, _, rfl, by rw [FE.out]; exact Er.no HFE.out, by rw [placed_bad (by rw [FE.out]; exact HFE.out)]; exact zero_wo _ _, KZ.out.below B2.out B2.out.size (by omega)⟩
 obtain ⟨h40, hpl, hat, kn, k, rfl, hkn, hkk, hop⟩ := pf_zero hf
 have P0 : Hid (Wd.putFault ks W pl (kn : Nat) at_ = 0) := by unfold Hid; rw [PF.out]; exact hf
 have NU : Hid (Wd.newUnit ks W pl (kn : Nat) at_ = ⟨W.next, pl, (kn : Nat), at_, k.n0, 0, 0, 0⟩) := by unfold Hid Wd.newUnit; rw [Int.toNat_natCast, hkk]
 have L40 : Hid (W.us.length < 40) := by unfold Hid; omega
 have hnx : W.next < 1000000 := by omega
 have hn1 : 1 ≤ W.next := by
  have := (nums_ok RT.out.nums).1
  unfold Wd.off at this
  simp at this
  omega
 obtain ⟨xk, rfl, hxl, hxc⟩ := KC.out (by intro e; rw [e] at hkn; simp at hkn)
 have HK : Hid (Kc w (xk.add (kn * 11)) k ∧ (xk.add (kn * 11)).block < w.heap.size) := ⟨hxc kn k hkk, by rw [add_block]; exact hxl⟩
 have hki : (kn : Int) < (ks.length : Int) := by omega
 clear hf h40 hpl hat hkn hkk hop hxc hxl
 obtain ⟨x0, x1, x2, x3, x4, x5, x6, x7, x8⟩ := X2.out.cells
 go_wp2_with fail
 refine (copy_any _ W w2 (H.out.below B2.out) RT.out.len).mono ?_
 rintro e w3 ⟨u, rfl, ho, hb3⟩
 clear x0 x1 x2 x3 x4 x5 x6 x7 x8
 have B3 : Hid (Below w.heap.size w w3) := B2.out.trans (hb3.mono B2.out.size)
 have X3 : Hid (Wx w3 w.heap.size (.int .i64 W.turn) (.int .i64 W.next) (.int .i64 W.wide) (.int .i64 W.high) (.slice p1 W.gs.length q1) (.slice p2 W.os.length q2) (.slice p3 W.gold.length q3) (.slice p4 W.us.length q4) (.slice p5 W.qs.length q5)) := X2.out.below hb3 X2.out.lt
 have Z3 : Hid (Wx w3 (w.heap.size + 1) (.int .i64 0) (.int .i64 0) (.int .i64 0) (.int .i64 0) (.slice none 0 0) (.slice none 0 0) (.slice none 0 0) (.slice none 0 0) (.slice none 0 0)) := Z2.out.below hb3 Z2.out.lt
 have S3 : Hid (w.heap.size + 2 ≤ w3.heap.size) := Nat.le_trans S2.out hb3.size
 obtain ⟨v1, v2, v3, v4, v5, rfl, ⟨o1, o2, o3, o4, o5⟩, -, -, d14, -, -, d24, -, d34, -, d45⟩ := ho.mono S2.out
 have O1 : Hid (Ow w3 (w.heap.size + 2) v1 W.gs ∧ Ow w3 (w.heap.size + 2) v2 W.os ∧ Ow w3 (w.heap.size + 2) v3 W.gold ∧ Uno w3 (w.heap.size + 2) v4 W.us ∧ Jbo w3 (w.heap.size + 2) v5 W.qs) := ⟨o1, o2, o3, o4, o5⟩
 have DD : Hid (Dif v1 v4 ∧ Dif v2 v4 ∧ Dif v3 v4 ∧ Dif v5 v4) := ⟨d14, d24, d34, d45.symm⟩
 clear d14 d24 d34 d45
 obtain ⟨a1, b1, rfl⟩ := o1.len
 obtain ⟨a2, b2, rfl⟩ := o2.len
 obtain ⟨a3, b3, rfl⟩ := o3.len
 obtain ⟨a4, b4, rfl⟩ := o4.len
 obtain ⟨a5, b5, rfl⟩ := o5.len
 clear ho hb3 B2 X2 Z2 S2 o1 o2 o3 o4 o5
 obtain ⟨x0, x1, x2, x3, x4, x5, x6, x7, x8⟩ := X3.out.cells
 obtain ⟨t0, t1, t2, t3, t4, t5, t6, t7, t8⟩ := X3.out.thaws
 have K4 : Hid (Kp w.heap.size w3 (((((((((w3.setCell ⟨w.heap.size, 0, none⟩ (.int .i64 W.turn)).setCell ⟨w.heap.size, 1, none⟩ (.int .i64 W.next)).setCell ⟨w.heap.size, 2, none⟩ (.int .i64 W.wide)).setCell ⟨w.heap.size, 3, none⟩ (.int .i64 W.high)).setCell ⟨w.heap.size, 4, none⟩ (.slice a1 W.gs.length b1)).setCell ⟨w.heap.size, 5, none⟩ (.slice a2 W.os.length b2)).setCell ⟨w.heap.size, 6, none⟩ (.slice a3 W.gold.length b3)).setCell ⟨w.heap.size, 7, none⟩ (.slice a4 W.us.length b4)).setCell ⟨w.heap.size, 8, none⟩ (.slice a5 W.qs.length b5))) := put_kp _ _ _ _ _ _ _ _ _ _ _
 have X4 : Hid (Wx (((((((((w3.setCell ⟨w.heap.size, 0, none⟩ (.int .i64 W.turn)).setCell ⟨w.heap.size, 1, none⟩ (.int .i64 W.next)).setCell ⟨w.heap.size, 2, none⟩ (.int .i64 W.wide)).setCell ⟨w.heap.size, 3, none⟩ (.int .i64 W.high)).setCell ⟨w.heap.size, 4, none⟩ (.slice a1 W.gs.length b1)).setCell ⟨w.heap.size, 5, none⟩ (.slice a2 W.os.length b2)).setCell ⟨w.heap.size, 6, none⟩ (.slice a3 W.gold.length b3)).setCell ⟨w.heap.size, 7, none⟩ (.slice a4 W.us.length b4)).setCell ⟨w.heap.size, 8, none⟩ (.slice a5 W.qs.length b5)) w.heap.size (.int .i64 W.turn) (.int .i64 W.next) (.int .i64 W.wide) (.int .i64 W.high) (.slice a1 W.gs.length b1) (.slice a2 W.os.length b2) (.slice a3 W.gold.length b3) (.slice a4 W.us.length b4) (.slice a5 W.qs.length b5)) := X3.out.put (.int .i64 W.turn) (.int .i64 W.next) (.int .i64 W.wide) (.int .i64 W.high) (.slice a1 W.gs.length b1) (.slice a2 W.os.length b2) (.slice a3 W.gold.length b3) (.slice a4 W.us.length b4) (.slice a5 W.qs.length b5)
 go_upto_region 8 with fail
 clear x0 x1 x2 x3 x4 x5 x6 x7 x8 t0 t1 t2 t3 t4 t5 t6 t7 t8
 generalize (((((((((w3.setCell ⟨w.heap.size, 0, none⟩ (.int .i64 W.turn)).setCell ⟨w.heap.size, 1, none⟩ (.int .i64 W.next)).setCell ⟨w.heap.size, 2, none⟩ (.int .i64 W.wide)).setCell ⟨w.heap.size, 3, none⟩ (.int .i64 W.high)).setCell ⟨w.heap.size, 4, none⟩ (.slice a1 W.gs.length b1)).setCell ⟨w.heap.size, 5, none⟩ (.slice a2 W.os.length b2)).setCell ⟨w.heap.size, 6, none⟩ (.slice a3 W.gold.length b3)).setCell ⟨w.heap.size, 7, none⟩ (.slice a4 W.us.length b4)).setCell ⟨w.heap.size, 8, none⟩ (.slice a5 W.qs.length b5)) = w4 at *
 have B4 : Hid (Below w.heap.size w w4) := K4.out.below B3.out B3.out.size (Nat.le_refl _)
 have Z4 : Hid (Wx w4 (w.heap.size + 1) (.int .i64 0) (.int .i64 0) (.int .i64 0) (.int .i64 0) (.slice none 0 0) (.slice none 0 0) (.slice none 0 0) (.slice none 0 0) (.slice none 0 0)) := Z3.out.kp K4.out (by omega)
 have S4 : Hid (w.heap.size + 2 ≤ w4.heap.size) := Nat.le_trans S3.out K4.out.size
 have O4 : Hid (Ow w4 (w.heap.size + 2) (.slice a1 W.gs.length b1) W.gs ∧ Ow w4 (w.heap.size + 2) (.slice a2 W.os.length b2) W.os ∧ Ow w4 (w.heap.size + 2) (.slice a3 W.gold.length b3) W.gold ∧ Uno w4 (w.heap.size + 2) (.slice a4 W.us.length b4) W.us ∧ Jbo w4 (w.heap.size + 2) (.slice a5 W.qs.length b5) W.qs) :=
  ⟨O1.out.1.kp K4.out (by omega), O1.out.2.1.kp K4.out (by omega), O1.out.2.2.1.kp K4.out (by omega), O1.out.2.2.2.1.kp K4.out (by omega), O1.out.2.2.2.2.kp K4.out (by omega)⟩
 clear K4 B3 X3 Z3 S3 O1
 -- the region that draws
 refine wp_region_two [(true, 0), (true, 1), (true, 2), (true, 3), (true, 4), (true, 5), (true, 6), (true, 7), (true, 8), (true, 9), (true, 10), (true, 11), (true, 12), (false, 13), (false, 14)] [(false, 15), (false, 16)] (fun V => V.cell? ⟨w.heap.size, 7, none⟩ = some (.slice a4 W.us.length b4) ∧ V.cell? ⟨w.heap.size, 1, none⟩ = some (.int .i64 W.next) ∧ V.cell? ⟨(xk.add (kn * 11)).block, (xk.add (kn * 11)).off + 1, none⟩ = some (.int .i64 k.n0)) (by kernel_rfl) (by kernel_rfl) (by kernel_rfl) (by kernel_rfl) (by kernel_rfl) ?_ ?_
 ·obtain ⟨-, x1, -, -, -, -, -, x7, -⟩ := X4.out.cells
  exact ⟨x7, x1, (HK.out.1.below B4.out HK.out.2).c1⟩
 have X5 : Hid (Wx { w4 with drawn := w4.drawn + 1 } w.heap.size (.int .i64 W.turn) (.int .i64 W.next) (.int .i64 W.wide) (.int .i64 W.high) (.slice a1 W.gs.length b1) (.slice a2 W.os.length b2) (.slice a3 W.gold.length b3) (.slice a4 W.us.length b4) (.slice a5 W.qs.length b5)) := X4.out
 have B5 : Hid (Below w.heap.size w { w4 with drawn := w4.drawn + 1 }) := B4.out.drew
 have Z5 : Hid (Wx { w4 with drawn := w4.drawn + 1 } (w.heap.size + 1) (.int .i64 0) (.int .i64 0) (.int .i64 0) (.int .i64 0) (.slice none 0 0) (.slice none 0 0) (.slice none 0 0) (.slice none 0 0) (.slice none 0 0)) := Z4.out
 have S5 : Hid (w.heap.size + 2 ≤ ({ w4 with drawn := w4.drawn + 1 } : World).heap.size) := S4.out
 have D5 : Hid (Below w4.heap.size w4 { w4 with drawn := w4.drawn + 1 }) := (Below.refl _ _).drew
 generalize ({ w4 with drawn := w4.drawn + 1 } : World) = w5 at *
 have O5 : Hid (Ow w5 (w.heap.size + 2) (.slice a1 W.gs.length b1) W.gs ∧ Ow w5 (w.heap.size + 2) (.slice a2 W.os.length b2) W.os ∧ Ow w5 (w.heap.size + 2) (.slice a3 W.gold.length b3) W.gold ∧ Uno w5 (w.heap.size + 2) (.slice a4 W.us.length b4) W.us ∧ Jbo w5 (w.heap.size + 2) (.slice a5 W.qs.length b5) W.qs) :=
  ⟨O4.out.1.below D5.out, O4.out.2.1.below D5.out, O4.out.2.2.1.below D5.out, O4.out.2.2.2.1.below D5.out, O4.out.2.2.2.2.below D5.out⟩
 clear X4 B4 Z4 S4 O4 D5
 refine headT_read rfl (.pointer (some ⟨w.heap.size, 7, none⟩)) (by go_simp) (fun V hV => by go_simp) ?_
 go_simp
 refine headT_read rfl (.slice a4 W.us.length b4) (by go_simp) (fun V hV => by obtain ⟨f7, f1, fk⟩ := hV; go_simp) ?_
 go_simp
 refine headT_read rfl (.pointer (some ⟨w.heap.size, 1, none⟩)) (by go_simp) (fun V hV => by go_simp) ?_
 go_simp
 refine headT_read rfl (.int .i64 W.next) (by go_simp) (fun V hV => by obtain ⟨f7, f1, fk⟩ := hV; go_simp) ?_
 go_simp
 refine headT_read rfl (.int .i64 pl) (by go_simp) (fun V hV => by go_simp) ?_
 go_simp
 refine headT_read rfl (.int .i64 (kn : Nat)) (by go_simp) (fun V hV => by go_simp) ?_
 go_simp
 refine headT_read rfl (.int .i64 at_) (by go_simp) (fun V hV => by go_simp) ?_
 go_simp
 refine headT_read rfl (.slice (some xk) ks.length qk) (by go_simp) (fun V hV => by go_simp) ?_
 go_simp
 refine headT_read rfl (.int .i64 (kn : Nat)) (by go_simp) (fun V hV => by go_simp) ?_
 go_simp
 refine headT_read rfl (.pointer (some (xk.add (kn * 11)))) (by go_simp) (fun V hV => by go_simp) ?_
 go_simp
 refine headT_read rfl (.pointer (some ⟨(xk.add (kn * 11)).block, (xk.add (kn * 11)).off + 1, none⟩)) (by go_simp) (fun V hV => by go_simp) ?_
 go_simp
 refine headT_read rfl (.int .i64 k.n0) (by go_simp) (fun V hV => by obtain ⟨f7, f1, fk⟩ := hV; go_simp) ?_
 go_simp
 refine headT_read rfl (.agg #[.int .i64 W.next, .int .i64 pl, .int .i64 (kn : Nat), .int .i64 at_, .int .i64 k.n0, .int .i64 0, .int .i64 0, .int .i64 0]) (by go_simp) (fun V hV => by go_simp) ?_
 go_simp
 have CL : Hid (∀ V, Wx V w.heap.size (.int .i64 W.turn) (.int .i64 W.next) (.int .i64 W.wide) (.int .i64 W.high) (.slice a1 W.gs.length b1) (.slice a2 W.os.length b2) (.slice a3 W.gold.length b3) (.slice a4 W.us.length b4) (.slice a5 W.qs.length b5) → Below w.heap.size w V → V.cell? ⟨w.heap.size, 7, none⟩ = some (.slice a4 W.us.length b4) ∧ V.cell? ⟨w.heap.size, 1, none⟩ = some (.int .i64 W.next) ∧ V.cell? ⟨(xk.add (kn * 11)).block, (xk.add (kn * 11)).off + 1, none⟩ = some (.int .i64 k.n0)) := fun V hX hB => by
  obtain ⟨-, x1, -, -, -, -, -, x7, -⟩ := hX.cells
  exact ⟨x7, x1, (HK.out.1.below hB HK.out.2).c1⟩
 have BA : Hid (Below w5.heap.size w5 (w5.alloc (.cells #[.int .i64 W.next, .int .i64 pl, .int .i64 (kn : Nat), .int .i64 at_, .int .i64 k.n0, .int .i64 0, .int .i64 0, .int .i64 0] 44))) := (Below.refl _ _).alloc (Nat.le_refl _) _
 have SA : Hid ((w5.alloc (.cells #[.int .i64 W.next, .int .i64 pl, .int .i64 (kn : Nat), .int .i64 at_, .int .i64 k.n0, .int .i64 0, .int .i64 0, .int .i64 0] 44)).heap.size = w5.heap.size + 1) := by unfold Hid; simp
 have UA : Hid (Unc (w5.alloc (.cells #[.int .i64 W.next, .int .i64 pl, .int .i64 (kn : Nat), .int .i64 at_, .int .i64 k.n0, .int .i64 0, .int .i64 0, .int .i64 0] 44)) ⟨w5.heap.size, 0, none⟩ (⟨W.next, pl, (kn : Nat), at_, k.n0, 0, 0, 0⟩ : UnV)) := Unc.mk' (w := w5) (⟨W.next, pl, (kn : Nat), at_, k.n0, 0, 0, 0⟩ : UnV) rfl
 have OA : Hid (Uno (w5.alloc (.cells #[.int .i64 W.next, .int .i64 pl, .int .i64 (kn : Nat), .int .i64 at_, .int .i64 k.n0, .int .i64 0, .int .i64 0, .int .i64 0] 44)) (w.heap.size + 2) (.slice a4 W.us.length b4) W.us) := O5.out.2.2.2.1.alloc _
 have XA : Hid (Wx (w5.alloc (.cells #[.int .i64 W.next, .int .i64 pl, .int .i64 (kn : Nat), .int .i64 at_, .int .i64 k.n0, .int .i64 0, .int .i64 0, .int .i64 0] 44)) w.heap.size (.int .i64 W.turn) (.int .i64 W.next) (.int .i64 W.wide) (.int .i64 W.high) (.slice a1 W.gs.length b1) (.slice a2 W.os.length b2) (.slice a3 W.gold.length b3) (.slice a4 W.us.length b4) (.slice a5 W.qs.length b5)) := X5.out.below BA.out X5.out.lt
 have BB : Hid (Below w.heap.size w (w5.alloc (.cells #[.int .i64 W.next, .int .i64 pl, .int .i64 (kn : Nat), .int .i64 at_, .int .i64 k.n0, .int .i64 0, .int .i64 0, .int .i64 0] 44))) := B5.out.trans (BA.out.mono B5.out.size)
 refine headT_value rfl (.slice (some ⟨w5.heap.size, 0, none⟩) 1 1) (w5.alloc (.cells #[.int .i64 W.next, .int .i64 pl, .int .i64 (kn : Nat), .int .i64 at_, .int .i64 k.n0, .int .i64 0, .int .i64 0, .int .i64 0] 44)) (by go_simp) (by go_simp) (CL.out _ XA.out BB.out) ?_
 go_simp
 generalize (w5.alloc (.cells #[.int .i64 W.next, .int .i64 pl, .int .i64 (kn : Nat), .int .i64 at_, .int .i64 k.n0, .int .i64 0, .int .i64 0, .int .i64 0] 44)) = wa at *
 obtain ⟨i0, hi, hz0, hz1, hz2⟩ := info_parts info_un
 obtain ⟨g, cap, w6, hr, ho6, hg6, ha6, hl6⟩ := run_append_lies (P := Tryz.prog) wa 26 26 (w.heap.size + 2) 44 i0 _ 8 64 Tryz.underlying26 hi hz0 hz1 hz2 rfl (by decide) (.slice a4 W.us.length b4) W.us.length _ OA.out ⟨w5.heap.size, 0, none⟩ 1 1 (UnV.cs (⟨W.next, pl, (kn : Nat), at_, k.n0, 0, 0, 0⟩ : UnV)) rfl (fun j u hj => by
  have hd := UA.out
  have hjn : j < 8 := (List.getElem?_eq_some_iff.1 hj).1
  rw [Addr.add_lit, Nat.zero_add]
  match j, hjn, hj with
  | 0, _, hj => simp [UnV.cs] at hj; subst hj; exact hd.c0
  | 1, _, hj => simp [UnV.cs] at hj; subst hj; exact hd.c1
  | 2, _, hj => simp [UnV.cs] at hj; subst hj; exact hd.c2
  | 3, _, hj => simp [UnV.cs] at hj; subst hj; exact hd.c3
  | 4, _, hj => simp [UnV.cs] at hj; subst hj; exact hd.c4
  | 5, _, hj => simp [UnV.cs] at hj; subst hj; exact hd.c5
  | 6, _, hj => simp [UnV.cs] at hj; subst hj; exact hd.c6
  | 7, _, hj => simp [UnV.cs] at hj; subst hj; exact hd.c7) (fun u hu => by
  simp [UnV.cs] at hu
  rcases hu with rfl | rfl | rfl | rfl | rfl | rfl | rfl | rfl <;> rfl) (by decide) (by have := L40.out; unfold maxLen; omega) (by have := L40.out; omega) (by have := S5.out; have := SA.out; omega) _ rfl
 have ON : Hid (Uno w6 (w.heap.size + 2) (.slice (some ⟨g, 0, none⟩) (W.us.length + 1) cap) (W.us ++ [(⟨W.next, pl, (kn : Nat), at_, k.n0, 0, 0, 0⟩ : UnV)])) := by
  unfold Hid Uno
  rw [List.length_append, List.flatMap_append]
  simpa using ho6
 have GB : Hid (∀ b, ((.slice a4 W.us.length b4) : Value).ownBlock = some b → w.heap.size + 2 ≤ b) := fun b hb => (OA.out.block b hb).1
 have BG : Hid (Below (w.heap.size + 2) wa w6) := (Below.refl _ _).grown hg6 (by have := S5.out; have := SA.out; omega) (fun b hb => GB.out b hb)
 have X6 : Hid (Wx w6 w.heap.size (.int .i64 W.turn) (.int .i64 W.next) (.int .i64 W.wide) (.int .i64 W.high) (.slice a1 W.gs.length b1) (.slice a2 W.os.length b2) (.slice a3 W.gold.length b3) (.slice a4 W.us.length b4) (.slice a5 W.qs.length b5)) := XA.out.below BG.out (by omega)
 have Z6 : Hid (Wx w6 (w.heap.size + 1) (.int .i64 0) (.int .i64 0) (.int .i64 0) (.int .i64 0) (.slice none 0 0) (.slice none 0 0) (.slice none 0 0) (.slice none 0 0) (.slice none 0 0)) := (Z5.out.below BA.out Z5.out.lt).below BG.out (by omega)
 have B6 : Hid (Below w.heap.size w w6) := BB.out.trans (BG.out.mono (by omega))
 refine headT_value rfl (.slice (some ⟨g, 0, none⟩) (W.us.length + 1) cap) w6 (by go_simp) (exec_append _ _ _ _ rfl _ _ (by go_simp) (by go_simp) hr) (CL.out _ X6.out B6.out) ?_
 have S6 : Hid (w.heap.size + 2 ≤ w6.heap.size) := by have := S5.out; have := SA.out; have := BG.out.size; unfold Hid; omega
 have N1 : Hid (Ow w6 (w.heap.size + 2) (.slice a1 W.gs.length b1) W.gs) := ((O5.out.1).below BA.out).kept hg6 DD.out.1.ne
 have N2 : Hid (Ow w6 (w.heap.size + 2) (.slice a2 W.os.length b2) W.os) := ((O5.out.2.1).below BA.out).kept hg6 DD.out.2.1.ne
 have N3 : Hid (Ow w6 (w.heap.size + 2) (.slice a3 W.gold.length b3) W.gold) := ((O5.out.2.2.1).below BA.out).kept hg6 DD.out.2.2.1.ne
 have N5 : Hid (Jbo w6 (w.heap.size + 2) (.slice a5 W.qs.length b5) W.qs) := ((O5.out.2.2.2.2).below BA.out).kept hg6 DD.out.2.2.2.ne
 clear hr ho6 hg6 ha6 hl6 hi hz0 hz1 hz2 BG GB OA UA XA BB BA X5 Z5 S5 B5 O5 CL SA DD
 go_simp
 unfold wpHeadT
 refine sched_value rfl (.pointer (some ⟨w.heap.size, 7, none⟩)) w6 (by go_simp) (by go_simp) trivial ?_
 go_simp
 have K7 : Hid (Kp w.heap.size w6 (w6.setCell ⟨w.heap.size, 7, none⟩ (.slice (some ⟨g, 0, none⟩) (W.us.length + 1) cap))) := Kp.set _ _ _
 have X7 : Hid (Wx (w6.setCell ⟨w.heap.size, 7, none⟩ (.slice (some ⟨g, 0, none⟩) (W.us.length + 1) cap)) w.heap.size (.int .i64 W.turn) (.int .i64 W.next) (.int .i64 W.wide) (.int .i64 W.high) (.slice a1 W.gs.length b1) (.slice a2 W.os.length b2) (.slice a3 W.gold.length b3) (.slice (some ⟨g, 0, none⟩) (W.us.length + 1) cap) (.slice a5 W.qs.length b5)) := X6.out.set7 _
 have t7 := X6.out.thaw 7
 obtain ⟨-, -, -, -, -, -, -, x7, -⟩ := X6.out.cells
 refine sched_skip rfl (w6.setCell ⟨w.heap.size, 7, none⟩ (.slice (some ⟨g, 0, none⟩) (W.us.length + 1) cap)) (by go_simp) (by go_simp) trivial ?_
 go_simp
 clear t7 x7
 generalize (w6.setCell ⟨w.heap.size, 7, none⟩ (.slice (some ⟨g, 0, none⟩) (W.us.length + 1) cap)) = w7 at *
 have B7 : Hid (Below w.heap.size w w7) := K7.out.below B6.out B6.out.size (Nat.le_refl _)
 have Z7 : Hid (Wx w7 (w.heap.size + 1) (.int .i64 0) (.int .i64 0) (.int .i64 0) (.int .i64 0) (.slice none 0 0) (.slice none 0 0) (.slice none 0 0) (.slice none 0 0) (.slice none 0 0)) := Z6.out.kp K7.out (by omega)
 have S7 : Hid (w.heap.size + 2 ≤ w7.heap.size) := Nat.le_trans S6.out K7.out.size
 have M : Hid (Ow w7 (w.heap.size + 2) (.slice a1 W.gs.length b1) W.gs ∧ Ow w7 (w.heap.size + 2) (.slice a2 W.os.length b2) W.os ∧ Ow w7 (w.heap.size + 2) (.slice a3 W.gold.length b3) W.gold ∧ Uno w7 (w.heap.size + 2) (.slice (some ⟨g, 0, none⟩) (W.us.length + 1) cap) (W.us ++ [(⟨W.next, pl, (kn : Nat), at_, k.n0, 0, 0, 0⟩ : UnV)]) ∧ Jbo w7 (w.heap.size + 2) (.slice a5 W.qs.length b5) W.qs) :=
  ⟨N1.out.kp K7.out (by omega), N2.out.kp K7.out (by omega), N3.out.kp K7.out (by omega), ON.out.kp K7.out (by omega), N5.out.kp K7.out (by omega)⟩
 clear K7 B6 Z6 S6 N1 N2 N3 N5 ON X6
 unfold wpSched
 have wn : IntKind.i64.wrap (W.next + 1) = W.next + 1 := by rw [IntKind.wrap_i64]; omega
 have K8 : Hid (Kp w.heap.size w7 (w7.setCell ⟨w.heap.size, 1, none⟩ (.int .i64 (W.next + 1)))) := Kp.set _ _ _
 have X8 : Hid (Wx (w7.setCell ⟨w.heap.size, 1, none⟩ (.int .i64 (W.next + 1))) w.heap.size (.int .i64 W.turn) (.int .i64 (W.next + 1)) (.int .i64 W.wide) (.int .i64 W.high) (.slice a1 W.gs.length b1) (.slice a2 W.os.length b2) (.slice a3 W.gold.length b3) (.slice (some ⟨g, 0, none⟩) (W.us.length + 1) cap) (.slice a5 W.qs.length b5)) := X7.out.set1 _
 have t1 := X7.out.thaw 1
 obtain ⟨-, x1, -, -, -, -, -, -, -⟩ := X7.out.cells
 go_upto_region 10 with fail
 clear t1 x1 wn
 generalize (w7.setCell ⟨w.heap.size, 1, none⟩ (.int .i64 (W.next + 1))) = w8 at *
 have B8 : Hid (Below w.heap.size w w8) := K8.out.below B7.out B7.out.size (Nat.le_refl _)
 have Z8 : Hid (Wx w8 (w.heap.size + 1) (.int .i64 0) (.int .i64 0) (.int .i64 0) (.int .i64 0) (.slice none 0 0) (.slice none 0 0) (.slice none 0 0) (.slice none 0 0) (.slice none 0 0)) := Z7.out.kp K8.out (by omega)
 have S8 : Hid (w.heap.size + 2 ≤ w8.heap.size) := Nat.le_trans S7.out K8.out.size
 have M8 : Hid (Ow w8 (w.heap.size + 2) (.slice a1 W.gs.length b1) W.gs ∧ Ow w8 (w.heap.size + 2) (.slice a2 W.os.length b2) W.os ∧ Ow w8 (w.heap.size + 2) (.slice a3 W.gold.length b3) W.gold ∧ Uno w8 (w.heap.size + 2) (.slice (some ⟨g, 0, none⟩) (W.us.length + 1) cap) (W.us ++ [(⟨W.next, pl, (kn : Nat), at_, k.n0, 0, 0, 0⟩ : UnV)]) ∧ Jbo w8 (w.heap.size + 2) (.slice a5 W.qs.length b5) W.qs) :=
  ⟨M.out.1.kp K8.out (by omega), M.out.2.1.kp K8.out (by omega), M.out.2.2.1.kp K8.out (by omega), M.out.2.2.2.1.kp K8.out (by omega), M.out.2.2.2.2.kp K8.out (by omega)⟩
 clear K8 B7 Z7 S7 M X7
 obtain ⟨x0, x1, x2, x3, x4, x5, x6, x7, x8⟩ := X8.out.cells
 obtain ⟨z0, z1, z2, z3, z4, z5, z6, z7, z8⟩ := Z8.out.cells
 obtain ⟨t0, t1, t2, t3, t4, t5, t6, t7, t8⟩ := Z8.out.thaws
 have KZ : Hid (Kp (w.heap.size + 1) w8 (((((((((w8.setCell ⟨w.heap.size + 1, 0, none⟩ (.int .i64 W.turn)).setCell ⟨w.heap.size + 1, 1, none⟩ (.int .i64 (W.next + 1))).setCell ⟨w.heap.size + 1, 2, none⟩ (.int .i64 W.wide)).setCell ⟨w.heap.size + 1, 3, none⟩ (.int .i64 W.high)).setCell ⟨w.heap.size + 1, 4, none⟩ (.slice a1 W.gs.length b1)).setCell ⟨w.heap.size + 1, 5, none⟩ (.slice a2 W.os.length b2)).setCell ⟨w.heap.size + 1, 6, none⟩ (.slice a3 W.gold.length b3)).setCell ⟨w.heap.size + 1, 7, none⟩ (.slice (some ⟨g, 0, none⟩) (W.us.length + 1) cap)).setCell ⟨w.heap.size + 1, 8, none⟩ (.slice a5 W.qs.length b5))) := put_kp _ _ _ _ _ _ _ _ _ _ _
 obtain ⟨y0, y1, y2, y3, y4, y5, y6, y7, y8⟩ := (Z8.out.put (.int .i64 W.turn) (.int .i64 (W.next + 1)) (.int .i64 W.wide) (.int .i64 W.high) (.slice a1 W.gs.length b1) (.slice a2 W.os.length b2) (.slice a3 W.gold.length b3) (.slice (some ⟨g, 0, none⟩) (W.us.length + 1) cap) (.slice a5 W.qs.length b5)).cells
 go_wp2
 clear x0 x1 x2 x3 x4 x5 x6 x7 x8 z0 z1 z2 z3 z4 z5 z6 z7 z8 t0 t1 t2 t3 t4 t5 t6 t7 t8
 generalize (((((((((w8.setCell ⟨w.heap.size + 1, 0, none⟩ (.int .i64 W.turn)).setCell ⟨w.heap.size + 1, 1, none⟩ (.int .i64 (W.next + 1))).setCell ⟨w.heap.size + 1, 2, none⟩ (.int .i64 W.wide)).setCell ⟨w.heap.size + 1, 3, none⟩ (.int .i64 W.high)).setCell ⟨w.heap.size + 1, 4, none⟩ (.slice a1 W.gs.length b1)).setCell ⟨w.heap.size + 1, 5, none⟩ (.slice a2 W.os.length b2)).setCell ⟨w.heap.size + 1, 6, none⟩ (.slice a3 W.gold.length b3)).setCell ⟨w.heap.size + 1, 7, none⟩ (.slice (some ⟨g, 0, none⟩) (W.us.length + 1) cap)).setCell ⟨w.heap.size + 1, 8, none⟩ (.slice a5 W.qs.length b5)) = w9 at *
 refine bodyPost_ret (v := .tuple #[.agg #[.int .i64 W.turn, .int .i64 (W.next + 1), .int .i64 W.wide, .int .i64 W.high, .slice a1 W.gs.length b1, .slice a2 W.os.length b2, .slice a3 W.gold.length b3, .slice (some ⟨g, 0, none⟩) (W.us.length + 1) cap, .slice a5 W.qs.length b5], .nilIface]) (by simp [results, Tryz.results63, go_sem, y0, y1, y2, y3, y4, y5, y6, y7, y8]) rfl ⟨_, _, rfl, by rw [P0.out]; exact Er.nil, ?_, KZ.out.below B8.out B8.out.size (by omega)⟩
 rw [placed_ok P0.out]
 unfold Wd.put
 rw [NU.out]
 exact ⟨_, _, _, _, _, rfl, (M8.out.1.kp KZ.out (by omega)).mono (by omega), (M8.out.2.1.kp KZ.out (by omega)).mono (by omega), (M8.out.2.2.1.kp KZ.out (by omega)).mono (by omega), (M8.out.2.2.2.1.kp KZ.out (by omega)).mono (by omega), (M8.out.2.2.2.2.kp KZ.out (by omega)).mono (by omega)⟩
end Go.Proofs.YteieikgkmfglaaaGreatDoor
namespace Go.Proofs.YteieikgkmfglaaaGreatDoor
open Go.RowKit
set_option linter.unusedVariables false
set_option maxRecDepth 100000 in
set_option maxHeartbeats 16000000 in
theorem come_any (vk vw : Value) (ks : List KV) (Y : WV) (j : JbV) (w : World) (hk : Kl w vk ks) (hb : ∀ k ∈ ks, k.b.size ≤ 9223372036854775807) (hw : Wl w vw Y) (hr : Wd.wfault ks Y = 0) (hs : Sd w) :
  Calls Tryz.prog 38 #[vk, vw, j.val] w fun e w' => ∃ u r Z, e = .returned (.tuple #[u, r]) ∧ Wo w' w.heap.size u Z ∧ Below w.heap.size w w' ∧ ((∃ c, Comes ks Y j c ∧ r = .nilIface ∧ Z = Wd.put ks Y j.player j.kind c) ∨ (NoCome ks Y j ∧ ∃ n : Int, n ≠ 0 ∧ r = .iface 77 (.int .i64 n))) := by
 have K : Hid (Kl w vk ks ∧ ∀ k ∈ ks, k.b.size ≤ 9223372036854775807) := ⟨hk, hb⟩
 have H : Hid (Wl w vw Y ∧ Wd.wfault ks Y = 0 ∧ Sd w) := ⟨hw, hr, hs⟩
 obtain ⟨p1, q1, p2, q2, p3, q3, p4, q4, p5, q5, rfl⟩ := wl_shape9 hw
 obtain ⟨pk, qk, rfl, ck1, ck2, kc⟩ := hk
 clear hb hw kc hr hs
 unfold JbV.val
 go_enter Tryz.func38, Tryz.ntmps38
 go_upto_region 1 with fail
 obtain ⟨z, hz⟩ : ∃ z, w.heap.size = z := ⟨_, rfl⟩
 have HZ : Hid (w.heap.size = z) := hz
 have z1 : (w.alloc (Obj.cells #[.int .i64 Y.turn, .int .i64 Y.next, .int .i64 Y.wide, .int .i64 Y.high, .slice p1 Y.gs.length q1, .slice p2 Y.os.length q2, .slice p3 Y.gold.length q3, .slice p4 Y.us.length q4, .slice p5 Y.qs.length q5] 29)).heap.size = z + 1 := by rw [← hz]; simp
 have z2 : ((w.alloc (Obj.cells #[.int .i64 Y.turn, .int .i64 Y.next, .int .i64 Y.wide, .int .i64 Y.high, .slice p1 Y.gs.length q1, .slice p2 Y.os.length q2, .slice p3 Y.gold.length q3, .slice p4 Y.us.length q4, .slice p5 Y.qs.length q5] 29)).alloc (Obj.cells #[.int .i64 j.player, .int .i64 j.unit, .int .i64 j.kind, .int .i64 j.left] 71)).heap.size = z + 2 := by rw [← hz]; simp
 have X0 : Hid (Wx (((w.alloc (Obj.cells #[.int .i64 Y.turn, .int .i64 Y.next, .int .i64 Y.wide, .int .i64 Y.high, .slice p1 Y.gs.length q1, .slice p2 Y.os.length q2, .slice p3 Y.gold.length q3, .slice p4 Y.us.length q4, .slice p5 Y.qs.length q5] 29)).alloc (Obj.cells #[.int .i64 j.player, .int .i64 j.unit, .int .i64 j.kind, .int .i64 j.left] 71)).alloc (Obj.cells #[.int .i64 0, .int .i64 0, .int .i64 0, .int .i64 0, .slice none 0 0, .slice none 0 0, .slice none 0 0, .slice none 0 0, .slice none 0 0] 29)) z (.int .i64 Y.turn) (.int .i64 Y.next) (.int .i64 Y.wide) (.int .i64 Y.high) (.slice p1 Y.gs.length q1) (.slice p2 Y.os.length q2) (.slice p3 Y.gold.length q3) (.slice p4 Y.us.length q4) (.slice p5 Y.qs.length q5)) := ((Wx.new (w := w) (.int .i64 Y.turn) (.int .i64 Y.next) (.int .i64 Y.wide) (.int .i64 Y.high) (.slice p1 Y.gs.length q1) (.slice p2 Y.os.length q2) (.slice p3 Y.gold.length q3) (.slice p4 Y.us.length q4) (.slice p5 Y.qs.length q5) hz).below ((Below.refl _ _).alloc (Nat.le_refl _) _) (Wx.new (w := w) (.int .i64 Y.turn) (.int .i64 Y.next) (.int .i64 Y.wide) (.int .i64 Y.high) (.slice p1 Y.gs.length q1) (.slice p2 Y.os.length q2) (.slice p3 Y.gold.length q3) (.slice p4 Y.us.length q4) (.slice p5 Y.qs.length q5) hz).lt).below ((Below.refl _ _).alloc (Nat.le_refl _) _) (by rw [z2]; omega)
 have J0 : Hid (Jbc (((w.alloc (Obj.cells #[.int .i64 Y.turn, .int .i64 Y.next, .int .i64 Y.wide, .int .i64 Y.high, .slice p1 Y.gs.length q1, .slice p2 Y.os.length q2, .slice p3 Y.gold.length q3, .slice p4 Y.us.length q4, .slice p5 Y.qs.length q5] 29)).alloc (Obj.cells #[.int .i64 j.player, .int .i64 j.unit, .int .i64 j.kind, .int .i64 j.left] 71)).alloc (Obj.cells #[.int .i64 0, .int .i64 0, .int .i64 0, .int .i64 0, .slice none 0 0, .slice none 0 0, .slice none 0 0, .slice none 0 0, .slice none 0 0] 29)) ⟨z + 1, 0, none⟩ j) := (Jbc.mk' (w := (w.alloc (Obj.cells #[.int .i64 Y.turn, .int .i64 Y.next, .int .i64 Y.wide, .int .i64 Y.high, .slice p1 Y.gs.length q1, .slice p2 Y.os.length q2, .slice p3 Y.gold.length q3, .slice p4 Y.us.length q4, .slice p5 Y.qs.length q5] 29))) j z1).below ((Below.refl _ _).alloc (Nat.le_refl _) _) (Jbc.mk' (w := (w.alloc (Obj.cells #[.int .i64 Y.turn, .int .i64 Y.next, .int .i64 Y.wide, .int .i64 Y.high, .slice p1 Y.gs.length q1, .slice p2 Y.os.length q2, .slice p3 Y.gold.length q3, .slice p4 Y.us.length q4, .slice p5 Y.qs.length q5] 29))) j z1).lt
 have Z0 : Hid (Wx (((w.alloc (Obj.cells #[.int .i64 Y.turn, .int .i64 Y.next, .int .i64 Y.wide, .int .i64 Y.high, .slice p1 Y.gs.length q1, .slice p2 Y.os.length q2, .slice p3 Y.gold.length q3, .slice p4 Y.us.length q4, .slice p5 Y.qs.length q5] 29)).alloc (Obj.cells #[.int .i64 j.player, .int .i64 j.unit, .int .i64 j.kind, .int .i64 j.left] 71)).alloc (Obj.cells #[.int .i64 0, .int .i64 0, .int .i64 0, .int .i64 0, .slice none 0 0, .slice none 0 0, .slice none 0 0, .slice none 0 0, .slice none 0 0] 29)) (z + 2) (.int .i64 0) (.int .i64 0) (.int .i64 0) (.int .i64 0) (.slice none 0 0) (.slice none 0 0) (.slice none 0 0) (.slice none 0 0) (.slice none 0 0)) := Wx.new (w := ((w.alloc (Obj.cells #[.int .i64 Y.turn, .int .i64 Y.next, .int .i64 Y.wide, .int .i64 Y.high, .slice p1 Y.gs.length q1, .slice p2 Y.os.length q2, .slice p3 Y.gold.length q3, .slice p4 Y.us.length q4, .slice p5 Y.qs.length q5] 29)).alloc (Obj.cells #[.int .i64 j.player, .int .i64 j.unit, .int .i64 j.kind, .int .i64 j.left] 71))) (.int .i64 0) (.int .i64 0) (.int .i64 0) (.int .i64 0) (.slice none 0 0) (.slice none 0 0) (.slice none 0 0) (.slice none 0 0) (.slice none 0 0) z2
 have B0 : Hid (Below w.heap.size w (((w.alloc (Obj.cells #[.int .i64 Y.turn, .int .i64 Y.next, .int .i64 Y.wide, .int .i64 Y.high, .slice p1 Y.gs.length q1, .slice p2 Y.os.length q2, .slice p3 Y.gold.length q3, .slice p4 Y.us.length q4, .slice p5 Y.qs.length q5] 29)).alloc (Obj.cells #[.int .i64 j.player, .int .i64 j.unit, .int .i64 j.kind, .int .i64 j.left] 71)).alloc (Obj.cells #[.int .i64 0, .int .i64 0, .int .i64 0, .int .i64 0, .slice none 0 0, .slice none 0 0, .slice none 0 0, .slice none 0 0, .slice none 0 0] 29))) := (((Below.refl _ _).alloc (Nat.le_refl _) _).alloc (by simp) _).alloc (by simp; omega) _
 rw [hz]
 clear hz z1 z2
 generalize (((w.alloc (Obj.cells #[.int .i64 Y.turn, .int .i64 Y.next, .int .i64 Y.wide, .int .i64 Y.high, .slice p1 Y.gs.length q1, .slice p2 Y.os.length q2, .slice p3 Y.gold.length q3, .slice p4 Y.us.length q4, .slice p5 Y.qs.length q5] 29)).alloc (Obj.cells #[.int .i64 j.player, .int .i64 j.unit, .int .i64 j.kind, .int .i64 j.left] 71)).alloc (Obj.cells #[.int .i64 0, .int .i64 0, .int .i64 0, .int .i64 0, .slice none 0 0, .slice none 0 0, .slice none 0 0, .slice none 0 0, .slice none 0 0] 29)) = w0 at *
 obtain ⟨x0, x1, x2, x3, x4, x5, x6, x7, x8⟩ := X0.out.cells
 obtain ⟨j0, j1, j2, j3⟩ := J0.out
 go_wp2_with fail
 refine (spot_any _ _ ks Y j.unit j.kind w0 (K.out.1.below B0.out) K.out.2 (H.out.1.below B0.out) (H.out.2.2.below B0.out)).mono ?_
 rintro e w1 ⟨c, r, F, rfl, hr, hs, hb⟩
 have SS : Hid (SpotSays ks Y j.unit j.kind c F) := hs
 have B1 : Hid (Below w.heap.size w w1) := B0.out.trans (hb.mono B0.out.size)
 have X1 : Hid (Wx w1 z (.int .i64 Y.turn) (.int .i64 Y.next) (.int .i64 Y.wide) (.int .i64 Y.high) (.slice p1 Y.gs.length q1) (.slice p2 Y.os.length q2) (.slice p3 Y.gold.length q3) (.slice p4 Y.us.length q4) (.slice p5 Y.qs.length q5)) := X0.out.below hb X0.out.lt
 have J1 : Hid (Jbc w1 ⟨z + 1, 0, none⟩ j) := J0.out.below hb J0.out.lt
 have Z1 : Hid (Wx w1 (z + 2) (.int .i64 0) (.int .i64 0) (.int .i64 0) (.int .i64 0) (.slice none 0 0) (.slice none 0 0) (.slice none 0 0) (.slice none 0 0) (.slice none 0 0)) := Z0.out.below hb Z0.out.lt
 clear hb hs x0 x1 x2 x3 x4 x5 x6 x7 x8 j0 j1 j2 j3 X0 J0 Z0 B0
 rcases hr with ⟨rfl, rfl⟩ | ⟨hf, rfl⟩
 case inr =>
  have HF : Hid (F ≠ 0) := hf
  clear hf
  obtain ⟨z0, z1, z2, z3, z4, z5, z6, z7, z8⟩ := Z1.out.cells
  obtain ⟨t0, t1, t2, t3, t4, t5, t6, t7, t8⟩ := Z1.out.thaws
  have KZ : Hid (Kp (z + 2) w1 (((((((((w1.setCell ⟨z + 2, 0, none⟩ (.int .i64 0)).setCell ⟨z + 2, 1, none⟩ (.int .i64 0)).setCell ⟨z + 2, 2, none⟩ (.int .i64 0)).setCell ⟨z + 2, 3, none⟩ (.int .i64 0)).setCell ⟨z + 2, 4, none⟩ (.slice none 0 0)).setCell ⟨z + 2, 5, none⟩ (.slice none 0 0)).setCell ⟨z + 2, 6, none⟩ (.slice none 0 0)).setCell ⟨z + 2, 7, none⟩ (.slice none 0 0)).setCell ⟨z + 2, 8, none⟩ (.slice none 0 0))) := put_kp _ _ _ _ _ _ _ _ _ _ _
  obtain ⟨y0, y1, y2, y3, y4, y5, y6, y7, y8⟩ := (Z1.out.put (.int .i64 0) (.int .i64 0) (.int .i64 0) (.int .i64 0) (.slice none 0 0) (.slice none 0 0) (.slice none 0 0) (.slice none 0 0) (.slice none 0 0)).cells
  go_wp2
  clear z0 z1 z2 z3 z4 z5 z6 z7 z8 t0 t1 t2 t3 t4 t5 t6 t7 t8
  generalize (((((((((w1.setCell ⟨z + 2, 0, none⟩ (.int .i64 0)).setCell ⟨z + 2, 1, none⟩ (.int .i64 0)).setCell ⟨z + 2, 2, none⟩ (.int .i64 0)).setCell ⟨z + 2, 3, none⟩ (.int .i64 0)).setCell ⟨z + 2, 4, none⟩ (.slice none 0 0)).setCell ⟨z + 2, 5, none⟩ (.slice none 0 0)).setCell ⟨z + 2, 6, none⟩ (.slice none 0 0)).setCell ⟨z + 2, 7, none⟩ (.slice none 0 0)).setCell ⟨z + 2, 8, none⟩ (.slice none 0 0)) = w2 at *
  refine bodyPost_ret (v := .tuple #[.agg #[.int .i64 0, .int .i64 0, .int .i64 0, .int .i64 0, .slice none 0 0, .slice none 0 0, .slice none 0 0, .slice none 0 0, .slice none 0 0], .iface 77 (.int .i64 F)]) (by simp [results, Tryz.results38, go_sem, y0, y1, y2, y3, y4, y5, y6, y7, y8]) rfl ⟨_, _, WV.zero, rfl, zero_wo _ _, ?_, .inr ⟨⟨c, F, SS.out, .inl HF.out⟩, F, HF.out, rfl⟩⟩
  exact KZ.out.below B1.out B1.out.size (by have := HZ.out; omega)
 obtain ⟨x0, x1, x2, x3, x4, x5, x6, x7, x8⟩ := X1.out.cells
 obtain ⟨j0, j1, j2, j3⟩ := J1.out
 go_wp2_with fail
 refine (place_any _ _ ks Y j.player j.kind c w1 (K.out.1.below B1.out) K.out.2 (H.out.1.below B1.out)).mono ?_
 rintro e w2 ⟨u, r, rfl, hr, hu, hb⟩
 have PF : Hid (Wd.putFault ks Y j.player j.kind c = Wd.placeFault ks Y j.player j.kind c) := by unfold Hid Wd.putFault; rw [if_pos H.out.2.1]
 rw [PF.out] at hr
 have B2 : Hid (Below w.heap.size w w2) := B1.out.trans (hb.mono B1.out.size)
 have X2 : Hid (Wx w2 z (.int .i64 Y.turn) (.int .i64 Y.next) (.int .i64 Y.wide) (.int .i64 Y.high) (.slice p1 Y.gs.length q1) (.slice p2 Y.os.length q2) (.slice p3 Y.gold.length q3) (.slice p4 Y.us.length q4) (.slice p5 Y.qs.length q5)) := X1.out.below hb X1.out.lt
 have J2 : Hid (Jbc w2 ⟨z + 1, 0, none⟩ j) := J1.out.below hb J1.out.lt
 have Z2 : Hid (Wx w2 (z + 2) (.int .i64 0) (.int .i64 0) (.int .i64 0) (.int .i64 0) (.slice none 0 0) (.slice none 0 0) (.slice none 0 0) (.slice none 0 0) (.slice none 0 0)) := Z1.out.below hb Z1.out.lt
 have U2 : Hid (Wo w2 w1.heap.size u (Wd.placed ks Y j.player j.kind c)) := hu
 have S1 : Hid (z + 2 < w1.heap.size) := Z1.out.lt
 obtain ⟨Z, hZ⟩ : ∃ Z, Wd.placed ks Y j.player j.kind c = Z := ⟨_, rfl⟩
 have HP : Hid (Wd.placed ks Y j.player j.kind c = Z) := hZ
 rw [hZ] at U2 hu
 obtain ⟨k1, k2, k3, k4, k5, rfl, o1, o2, o3, o4, o5⟩ := hu
 obtain ⟨a1, r1, rfl⟩ := o1.len
 obtain ⟨a2, r2, rfl⟩ := o2.len
 obtain ⟨a3, r3, rfl⟩ := o3.len
 obtain ⟨a4, r4, rfl⟩ := o4.len
 obtain ⟨a5, r5, rfl⟩ := o5.len
 have OO : Hid (Ow w2 w1.heap.size (Value.slice a1 Z.gs.length r1) Z.gs ∧ Ow w2 w1.heap.size (Value.slice a2 Z.os.length r2) Z.os ∧ Ow w2 w1.heap.size (Value.slice a3 Z.gold.length r3) Z.gold ∧ Uno w2 w1.heap.size (Value.slice a4 Z.us.length r4) Z.us ∧ Jbo w2 w1.heap.size (Value.slice a5 Z.qs.length r5) Z.qs) := ⟨o1, o2, o3, o4, o5⟩
 have ND : Hid (((∃ c, Comes ks Y j c ∧ r = .nilIface ∧ Z = Wd.put ks Y j.player j.kind c) ∨ (NoCome ks Y j ∧ ∃ n : Int, n ≠ 0 ∧ r = .iface 77 (.int .i64 n)))) := by
  unfold Hid
  rcases hr with ⟨h0, rfl⟩ | ⟨h0, rfl⟩
  ·exact .inl ⟨c, ⟨SS.out, h0⟩, rfl, by rw [← HP.out, placed_ok (by rw [PF.out]; exact h0)]⟩
  ·exact .inr ⟨⟨c, 0, SS.out, .inr h0⟩, _, h0, rfl⟩
 clear hb hr hZ o1 o2 o3 o4 o5 x0 x1 x2 x3 x4 x5 x6 x7 x8 j0 j1 j2 j3 X1 J1 Z1 B1 U2 HP PF SS
 obtain ⟨z0, z1, z2, z3, z4, z5, z6, z7, z8⟩ := Z2.out.cells
 obtain ⟨t0, t1, t2, t3, t4, t5, t6, t7, t8⟩ := Z2.out.thaws
 have KZ : Hid (Kp (z + 2) w2 (((((((((w2.setCell ⟨z + 2, 0, none⟩ (.int .i64 Z.turn)).setCell ⟨z + 2, 1, none⟩ (.int .i64 Z.next)).setCell ⟨z + 2, 2, none⟩ (.int .i64 Z.wide)).setCell ⟨z + 2, 3, none⟩ (.int .i64 Z.high)).setCell ⟨z + 2, 4, none⟩ (Value.slice a1 Z.gs.length r1)).setCell ⟨z + 2, 5, none⟩ (Value.slice a2 Z.os.length r2)).setCell ⟨z + 2, 6, none⟩ (Value.slice a3 Z.gold.length r3)).setCell ⟨z + 2, 7, none⟩ (Value.slice a4 Z.us.length r4)).setCell ⟨z + 2, 8, none⟩ (Value.slice a5 Z.qs.length r5))) := put_kp _ _ _ _ _ _ _ _ _ _ _
 obtain ⟨y0, y1, y2, y3, y4, y5, y6, y7, y8⟩ := (Z2.out.put (.int .i64 Z.turn) (.int .i64 Z.next) (.int .i64 Z.wide) (.int .i64 Z.high) (Value.slice a1 Z.gs.length r1) (Value.slice a2 Z.os.length r2) (Value.slice a3 Z.gold.length r3) (Value.slice a4 Z.us.length r4) (Value.slice a5 Z.qs.length r5)).cells
 go_wp2
 clear z0 z1 z2 z3 z4 z5 z6 z7 z8 t0 t1 t2 t3 t4 t5 t6 t7 t8
 generalize (((((((((w2.setCell ⟨z + 2, 0, none⟩ (.int .i64 Z.turn)).setCell ⟨z + 2, 1, none⟩ (.int .i64 Z.next)).setCell ⟨z + 2, 2, none⟩ (.int .i64 Z.wide)).setCell ⟨z + 2, 3, none⟩ (.int .i64 Z.high)).setCell ⟨z + 2, 4, none⟩ (Value.slice a1 Z.gs.length r1)).setCell ⟨z + 2, 5, none⟩ (Value.slice a2 Z.os.length r2)).setCell ⟨z + 2, 6, none⟩ (Value.slice a3 Z.gold.length r3)).setCell ⟨z + 2, 7, none⟩ (Value.slice a4 Z.us.length r4)).setCell ⟨z + 2, 8, none⟩ (Value.slice a5 Z.qs.length r5)) = w3 at *
 have h1 := S1.out
 have h2 := HZ.out
 refine bodyPost_ret (v := .tuple #[.agg #[.int .i64 Z.turn, .int .i64 Z.next, .int .i64 Z.wide, .int .i64 Z.high, Value.slice a1 Z.gs.length r1, Value.slice a2 Z.os.length r2, Value.slice a3 Z.gold.length r3, Value.slice a4 Z.us.length r4, Value.slice a5 Z.qs.length r5], r]) (by simp [results, Tryz.results38, go_sem, y0, y1, y2, y3, y4, y5, y6, y7, y8]) rfl ⟨_, _, Z, rfl, ⟨_, _, _, _, _, rfl, (OO.out.1.kp KZ.out (by omega)).mono (by omega), (OO.out.2.1.kp KZ.out (by omega)).mono (by omega), (OO.out.2.2.1.kp KZ.out (by omega)).mono (by omega), (OO.out.2.2.2.1.kp KZ.out (by omega)).mono (by omega), (OO.out.2.2.2.2.kp KZ.out (by omega)).mono (by omega)⟩, ?_, ND.out⟩
 exact KZ.out.below B2.out B2.out.size (by omega)
end Go.Proofs.YteieikgkmfglaaaGreatDoor
namespace Go.Proofs.YteieikgkmfglaaaGreatDoor
open Go.RowKit
set_option linter.unusedVariables false
theorem job_in {ks : List KV} {X : WV} (h : WRight ks X) {j : JbV} (hj : j ∈ X.qs) : (1 ≤ j.left ∧ j.left ≤ 1000) ∧ 1 ≤ j.unit ∧ j.unit ≤ 1000000 := by
 have hf := h.job hj
 unfold Wd.jobFault at hf
 split at hf
 ·cases hf
 ·rename_i u hu
  split at hf
  ·cases hf
  ·split at hf
   ·cases hf
   ·split at hf
    ·cases hf
    ·rename_i k hk h1 h2
     simp only [Bool.or_eq_true, Bool.not_eq_true', decide_eq_false_iff_not, not_or, Classical.not_not, Bool.not_eq_false] at h2
     refine ⟨h2.2, ?_⟩
     have hm := List.mem_of_find?_eq_some hu
     have he := List.find?_some hu
     simp at he
     obtain ⟨i, hi⟩ := List.mem_iff_getElem?.1 hm
     obtain ⟨k', F⟩ := h.fine hi
     have h3 := F.id1
     have h4 := F.id2
     have h5 := h.nums
     unfold Wd.numsBad at h5
     simp only [Bool.or_eq_false_iff] at h5
     have h6 := h5.2.1
     unfold Wd.off at h6
     simp at h6
     omega
theorem dec1_same (l : List JbV) (j : JbV) : (dec1 l j).player = j.player ∧ (dec1 l j).unit = j.unit ∧ (dec1 l j).kind = j.kind ∧ one1 (dec1 l j) = one1 j := by
 unfold dec1 one1
 split <;> exact ⟨rfl, rfl, rfl, rfl⟩
theorem comes_dec {ks : List KV} {Y : WV} {l : List JbV} {j : JbV} {c : Int} (h : Comes ks Y (dec1 l j) c) : Comes ks Y j c := by
 obtain ⟨e1, e2, e3, -⟩ := dec1_same l j
 unfold Comes at h ⊢
 rw [e1, e2, e3] at h
 exact h
theorem nocome_dec {ks : List KV} {Y : WV} {l : List JbV} {j : JbV} (h : NoCome ks Y (dec1 l j)) : NoCome ks Y j := by
 obtain ⟨e1, e2, e3, -⟩ := dec1_same l j
 unfold NoCome at h ⊢
 rw [e1, e2, e3] at h
 exact h
/-- what Train tells. -/
def TrainSays (ks : List KV) (X : WV) (w w' : World) (v ev : Value) : Prop :=
 (Wd.wfault ks X ≠ 0 ∧ v = .agg #[.int .i64 0, .int .i64 0, .int .i64 0, .int .i64 0, .slice none 0 0, .slice none 0 0, .slice none 0 0, .slice none 0 0, .slice none 0 0] ∧ ev = .slice none 0 0)
 ∨ (Wd.wfault ks X = 0 ∧ ∃ Y es qs, Tr ks X X.qs.length Y es qs ∧ Wo w' w.heap.size v { Y with qs := qs } ∧ Evo w' w.heap.size ev es)
set_option maxRecDepth 100000 in
set_option maxHeartbeats 64000000 in
theorem Train_any (vk vw : Value) (ks : List KV) (X : WV) (w : World) (hk : Kl w vk ks) (hb : ∀ k ∈ ks, k.b.size ≤ 9223372036854775807) (hw : Wl w vw X) (hs : Sd w) :
  Calls Tryz.prog 13 #[vk, vw] w fun e w' => ∃ v ev r, e = .returned (.tuple #[v, ev, r]) ∧ Er r (Wd.wfault ks X) ∧ TrainSays ks X w w' v ev ∧ Below w.heap.size w w' := by
 have K : Hid (Kl w vk ks ∧ ∀ k ∈ ks, k.b.size ≤ 9223372036854775807) := ⟨hk, hb⟩
 have H : Hid (Wl w vw X) := hw
 have SD : Hid (Sd w) := hs
 clear hs
 obtain ⟨p1, q1, p2, q2, p3, q3, p4, q4, p5, q5, rfl⟩ := wl_shape9 hw
 obtain ⟨pk, qk, rfl, ck1, ck2, kc⟩ := hk
 clear hb hw kc
 go_enter Tryz.func13, Tryz.ntmps13
 go_upto_region 1 with fail
 have B0 : Hid (Below w.heap.size w ((w.alloc (Obj.cells #[.int .i64 X.turn, .int .i64 X.next, .int .i64 X.wide, .int .i64 X.high, .slice p1 X.gs.length q1, .slice p2 X.os.length q2, .slice p3 X.gold.length q3, .slice p4 X.us.length q4, .slice p5 X.qs.length q5] 29)).alloc (Obj.cells #[.int .i64 0, .int .i64 0, .int .i64 0, .int .i64 0, .slice none 0 0, .slice none 0 0, .slice none 0 0, .slice none 0 0, .slice none 0 0] 29))) := ((Below.refl _ _).alloc (Nat.le_refl _) _).alloc (by simp) _
 have X0 : Hid (Wx ((w.alloc (Obj.cells #[.int .i64 X.turn, .int .i64 X.next, .int .i64 X.wide, .int .i64 X.high, .slice p1 X.gs.length q1, .slice p2 X.os.length q2, .slice p3 X.gold.length q3, .slice p4 X.us.length q4, .slice p5 X.qs.length q5] 29)).alloc (Obj.cells #[.int .i64 0, .int .i64 0, .int .i64 0, .int .i64 0, .slice none 0 0, .slice none 0 0, .slice none 0 0, .slice none 0 0, .slice none 0 0] 29)) (w.heap.size) (.int .i64 X.turn) (.int .i64 X.next) (.int .i64 X.wide) (.int .i64 X.high) (.slice p1 X.gs.length q1) (.slice p2 X.os.length q2) (.slice p3 X.gold.length q3) (.slice p4 X.us.length q4) (.slice p5 X.qs.length q5)) := (Wx.new (.int .i64 X.turn) (.int .i64 X.next) (.int .i64 X.wide) (.int .i64 X.high) (.slice p1 X.gs.length q1) (.slice p2 X.os.length q2) (.slice p3 X.gold.length q3) (.slice p4 X.us.length q4) (.slice p5 X.qs.length q5) rfl).below ((Below.refl _ _).alloc (Nat.le_refl _) _) (by simp)
 have Z0 : Hid (Wx ((w.alloc (Obj.cells #[.int .i64 X.turn, .int .i64 X.next, .int .i64 X.wide, .int .i64 X.high, .slice p1 X.gs.length q1, .slice p2 X.os.length q2, .slice p3 X.gold.length q3, .slice p4 X.us.length q4, .slice p5 X.qs.length q5] 29)).alloc (Obj.cells #[.int .i64 0, .int .i64 0, .int .i64 0, .int .i64 0, .slice none 0 0, .slice none 0 0, .slice none 0 0, .slice none 0 0, .slice none 0 0] 29)) (w.heap.size + 1) (.int .i64 0) (.int .i64 0) (.int .i64 0) (.int .i64 0) (.slice none 0 0) (.slice none 0 0) (.slice none 0 0) (.slice none 0 0) (.slice none 0 0)) := Wx.new (.int .i64 0) (.int .i64 0) (.int .i64 0) (.int .i64 0) (.slice none 0 0) (.slice none 0 0) (.slice none 0 0) (.slice none 0 0) (.slice none 0 0) (by simp)
 generalize ((w.alloc (Obj.cells #[.int .i64 X.turn, .int .i64 X.next, .int .i64 X.wide, .int .i64 X.high, .slice p1 X.gs.length q1, .slice p2 X.os.length q2, .slice p3 X.gold.length q3, .slice p4 X.us.length q4, .slice p5 X.qs.length q5] 29)).alloc (Obj.cells #[.int .i64 0, .int .i64 0, .int .i64 0, .int .i64 0, .slice none 0 0, .slice none 0 0, .slice none 0 0, .slice none 0 0, .slice none 0 0] 29)) = w0 at *
 obtain ⟨x0, x1, x2, x3, x4, x5, x6, x7, x8⟩ := X0.out.cells
 go_wp2_with fail
 refine (wcheck_any _ _ ks X w0 (K.out.1.below B0.out) K.out.2 (H.out.below B0.out)).mono ?_
 rintro e w1 ⟨r, rfl, hr, hb⟩
 obtain ⟨fw, hfw⟩ : ∃ f, Wd.wfault ks X = f := ⟨_, rfl⟩
 have FW : Hid (Wd.wfault ks X = fw) := hfw
 rw [hfw] at hr
 have B1 : Hid (Below w.heap.size w w1) := B0.out.trans (hb.mono B0.out.size)
 have X1 : Hid (Wx w1 (w.heap.size) (.int .i64 X.turn) (.int .i64 X.next) (.int .i64 X.wide) (.int .i64 X.high) (.slice p1 X.gs.length q1) (.slice p2 X.os.length q2) (.slice p3 X.gold.length q3) (.slice p4 X.us.length q4) (.slice p5 X.qs.length q5)) := X0.out.below hb X0.out.lt
 have Z1 : Hid (Wx w1 (w.heap.size + 1) (.int .i64 0) (.int .i64 0) (.int .i64 0) (.int .i64 0) (.slice none 0 0) (.slice none 0 0) (.slice none 0 0) (.slice none 0 0) (.slice none 0 0)) := Z0.out.below hb Z0.out.lt
 clear hb hfw x0 x1 x2 x3 x4 x5 x6 x7 x8 X0 B0 Z0
 rcases hr with ⟨rfl, rfl⟩ | ⟨hf, rfl⟩
 case inr =>
  have HF : Hid (fw ≠ 0) := hf
  clear hf
  obtain ⟨z0, z1, z2, z3, z4, z5, z6, z7, z8⟩ := Z1.out.cells
  obtain ⟨t0, t1, t2, t3, t4, t5, t6, t7, t8⟩ := Z1.out.thaws
  have KZ : Hid (Kp (w.heap.size + 1) w1 (((((((((w1.setCell ⟨w.heap.size + 1, 0, none⟩ (.int .i64 0)).setCell ⟨w.heap.size + 1, 1, none⟩ (.int .i64 0)).setCell ⟨w.heap.size + 1, 2, none⟩ (.int .i64 0)).setCell ⟨w.heap.size + 1, 3, none⟩ (.int .i64 0)).setCell ⟨w.heap.size + 1, 4, none⟩ (.slice none 0 0)).setCell ⟨w.heap.size + 1, 5, none⟩ (.slice none 0 0)).setCell ⟨w.heap.size + 1, 6, none⟩ (.slice none 0 0)).setCell ⟨w.heap.size + 1, 7, none⟩ (.slice none 0 0)).setCell ⟨w.heap.size + 1, 8, none⟩ (.slice none 0 0))) := put_kp _ _ _ _ _ _ _ _ _ _ _
  obtain ⟨y0, y1, y2, y3, y4, y5, y6, y7, y8⟩ := (Z1.out.put (.int .i64 0) (.int .i64 0) (.int .i64 0) (.int .i64 0) (.slice none 0 0) (.slice none 0 0) (.slice none 0 0) (.slice none 0 0) (.slice none 0 0)).cells
  go_wp2
  clear z0 z1 z2 z3 z4 z5 z6 z7 z8 t0 t1 t2 t3 t4 t5 t6 t7 t8
  generalize (((((((((w1.setCell ⟨w.heap.size + 1, 0, none⟩ (.int .i64 0)).setCell ⟨w.heap.size + 1, 1, none⟩ (.int .i64 0)).setCell ⟨w.heap.size + 1, 2, none⟩ (.int .i64 0)).setCell ⟨w.heap.size + 1, 3, none⟩ (.int .i64 0)).setCell ⟨w.heap.size + 1, 4, none⟩ (.slice none 0 0)).setCell ⟨w.heap.size + 1, 5, none⟩ (.slice none 0 0)).setCell ⟨w.heap.size + 1, 6, none⟩ (.slice none 0 0)).setCell ⟨w.heap.size + 1, 7, none⟩ (.slice none 0 0)).setCell ⟨w.heap.size + 1, 8, none⟩ (.slice none 0 0)) = w9 at *
  refine bodyPost_ret (v := .tuple #[.agg #[.int .i64 0, .int .i64 0, .int .i64 0, .int .i64 0, .slice none 0 0, .slice none 0 0, .slice none 0 0, .slice none 0 0, .slice none 0 0], .slice none 0 0, .iface 77 (.int .i64 fw)]) (by simp [results, Tryz.results13, go_sem, y0, y1, y2, y3, y4, y5, y6, y7, y8]) rfl ⟨_, _, _, rfl, by rw [FW.out]; exact Er.no HF.out, .inl ⟨by rw [FW.out]; exact HF.out, rfl, rfl⟩, KZ.out.below B1.out B1.out.size (by omega)⟩
 have WR : Hid (WRight ks X) := wright_of FW.out
 obtain ⟨Wn, Hn, e1, e2, G⟩ := WR.out.good
 clear e1 e2 G
 obtain ⟨x0, x1, x2, x3, x4, x5, x6, x7, x8⟩ := X1.out.cells
 go_wp2_with fail
 refine (copy_any _ X w1 (H.out.below B1.out) WR.out.len).mono ?_
 rintro e w2 ⟨cu, rfl, ⟨k1, k2, k3, k4, k5, rfl, ⟨o1, o2, o3, o4, o5⟩, -⟩, hb⟩
 obtain ⟨a1, r1, rfl⟩ := o1.len
 obtain ⟨a2, r2, rfl⟩ := o2.len
 obtain ⟨a3, r3, rfl⟩ := o3.len
 obtain ⟨a4, r4, rfl⟩ := o4.len
 obtain ⟨a5, r5, rfl⟩ := o5.len
 obtain ⟨b1, hb1⟩ : ∃ z, w1.heap.size = z := ⟨_, rfl⟩
 rw [hb1] at o1 o2 o3 o4 o5
 have BS : Hid (w.heap.size + 1 < b1 ∧ b1 ≤ w2.heap.size) := ⟨by rw [← hb1]; exact Z1.out.lt, by rw [← hb1]; exact hb.size⟩
 have X2 : Hid (Wx w2 (w.heap.size) (.int .i64 X.turn) (.int .i64 X.next) (.int .i64 X.wide) (.int .i64 X.high) (.slice p1 X.gs.length q1) (.slice p2 X.os.length q2) (.slice p3 X.gold.length q3) (.slice p4 X.us.length q4) (.slice p5 X.qs.length q5)) := X1.out.below hb X1.out.lt
 have Z2 : Hid (Wx w2 (w.heap.size + 1) (.int .i64 0) (.int .i64 0) (.int .i64 0) (.int .i64 0) (.slice none 0 0) (.slice none 0 0) (.slice none 0 0) (.slice none 0 0) (.slice none 0 0)) := Z1.out.below hb Z1.out.lt
 have B2 : Hid (Below w.heap.size w w2) := B1.out.trans (hb.mono B1.out.size)
 have O2 : Hid (Ow w2 b1 (Value.slice a1 X.gs.length r1) X.gs ∧ Ow w2 b1 (Value.slice a2 X.os.length r2) X.os ∧ Ow w2 b1 (Value.slice a3 X.gold.length r3) X.gold ∧ Uno w2 b1 (Value.slice a4 X.us.length r4) X.us ∧ Jbo w2 b1 (Value.slice a5 X.qs.length r5) X.qs) := ⟨o1, o2, o3, o4, o5⟩
 skip
 clear hb hb1 x0 x1 x2 x3 x4 x5 x6 x7 x8 o1 o2 o3 o4 o5 X1 Z1 B1
 obtain ⟨z0, z1, z2, z3, z4, z5, z6, z7, z8⟩ := X2.out.cells
 obtain ⟨t0, t1, t2, t3, t4, t5, t6, t7, t8⟩ := X2.out.thaws
 have KZ : Hid (Kp (w.heap.size) w2 (((((((((w2.setCell ⟨w.heap.size, 0, none⟩ (.int .i64 X.turn)).setCell ⟨w.heap.size, 1, none⟩ (.int .i64 X.next)).setCell ⟨w.heap.size, 2, none⟩ (.int .i64 X.wide)).setCell ⟨w.heap.size, 3, none⟩ (.int .i64 X.high)).setCell ⟨w.heap.size, 4, none⟩ (Value.slice a1 X.gs.length r1)).setCell ⟨w.heap.size, 5, none⟩ (Value.slice a2 X.os.length r2)).setCell ⟨w.heap.size, 6, none⟩ (Value.slice a3 X.gold.length r3)).setCell ⟨w.heap.size, 7, none⟩ (Value.slice a4 X.us.length r4)).setCell ⟨w.heap.size, 8, none⟩ (Value.slice a5 X.qs.length r5))) := put_kp _ _ _ _ _ _ _ _ _ _ _
 have X3 : Hid (Wx (((((((((w2.setCell ⟨w.heap.size, 0, none⟩ (.int .i64 X.turn)).setCell ⟨w.heap.size, 1, none⟩ (.int .i64 X.next)).setCell ⟨w.heap.size, 2, none⟩ (.int .i64 X.wide)).setCell ⟨w.heap.size, 3, none⟩ (.int .i64 X.high)).setCell ⟨w.heap.size, 4, none⟩ (Value.slice a1 X.gs.length r1)).setCell ⟨w.heap.size, 5, none⟩ (Value.slice a2 X.os.length r2)).setCell ⟨w.heap.size, 6, none⟩ (Value.slice a3 X.gold.length r3)).setCell ⟨w.heap.size, 7, none⟩ (Value.slice a4 X.us.length r4)).setCell ⟨w.heap.size, 8, none⟩ (Value.slice a5 X.qs.length r5)) (w.heap.size) (.int .i64 X.turn) (.int .i64 X.next) (.int .i64 X.wide) (.int .i64 X.high) (Value.slice a1 X.gs.length r1) (Value.slice a2 X.os.length r2) (Value.slice a3 X.gold.length r3) (Value.slice a4 X.us.length r4) (Value.slice a5 X.qs.length r5)) := X2.out.put (.int .i64 X.turn) (.int .i64 X.next) (.int .i64 X.wide) (.int .i64 X.high) (Value.slice a1 X.gs.length r1) (Value.slice a2 X.os.length r2) (Value.slice a3 X.gold.length r3) (Value.slice a4 X.us.length r4) (Value.slice a5 X.qs.length r5)
 go_upto_region 5 with fail
 clear z0 z1 z2 z3 z4 z5 z6 z7 z8 t0 t1 t2 t3 t4 t5 t6 t7 t8
 generalize (((((((((w2.setCell ⟨w.heap.size, 0, none⟩ (.int .i64 X.turn)).setCell ⟨w.heap.size, 1, none⟩ (.int .i64 X.next)).setCell ⟨w.heap.size, 2, none⟩ (.int .i64 X.wide)).setCell ⟨w.heap.size, 3, none⟩ (.int .i64 X.high)).setCell ⟨w.heap.size, 4, none⟩ (Value.slice a1 X.gs.length r1)).setCell ⟨w.heap.size, 5, none⟩ (Value.slice a2 X.os.length r2)).setCell ⟨w.heap.size, 6, none⟩ (Value.slice a3 X.gold.length r3)).setCell ⟨w.heap.size, 7, none⟩ (Value.slice a4 X.us.length r4)).setCell ⟨w.heap.size, 8, none⟩ (Value.slice a5 X.qs.length r5)) = w3 at *
 have Z3 : Hid (Wx w3 (w.heap.size + 1) (.int .i64 0) (.int .i64 0) (.int .i64 0) (.int .i64 0) (.slice none 0 0) (.slice none 0 0) (.slice none 0 0) (.slice none 0 0) (.slice none 0 0)) := Z2.out.kp KZ.out (by omega)
 have B3 : Hid (Below w.heap.size w w3) := KZ.out.below B2.out B2.out.size (Nat.le_refl _)
 have O3 : Hid (Ow w3 b1 (Value.slice a1 X.gs.length r1) X.gs ∧ Ow w3 b1 (Value.slice a2 X.os.length r2) X.os ∧ Ow w3 b1 (Value.slice a3 X.gold.length r3) X.gold ∧ Uno w3 b1 (Value.slice a4 X.us.length r4) X.us ∧ Jbo w3 b1 (Value.slice a5 X.qs.length r5) X.qs) := by
  have h := BS.out.1
  exact ⟨O2.out.1.kp KZ.out (by omega), O2.out.2.1.kp KZ.out (by omega), O2.out.2.2.1.kp KZ.out (by omega), O2.out.2.2.2.1.kp KZ.out (by omega), O2.out.2.2.2.2.kp KZ.out (by omega)⟩
 obtain ⟨b3, hb3⟩ : ∃ z, w3.heap.size = z := ⟨_, rfl⟩
 have S3 : Hid (b1 ≤ b3 ∧ w3.heap.size = b3) := ⟨by rw [← hb3]; exact Nat.le_trans BS.out.2 KZ.out.size, hb3⟩
 have L3 : Hid (Wl w3 (.agg #[.int .i64 X.turn, .int .i64 X.next, .int .i64 X.wide, .int .i64 X.high, Value.slice a1 X.gs.length r1, Value.slice a2 X.os.length r2, Value.slice a3 X.gold.length r3, Value.slice a4 X.us.length r4, Value.slice a5 X.qs.length r5]) X) := ⟨(Value.slice a1 X.gs.length r1), (Value.slice a2 X.os.length r2), (Value.slice a3 X.gold.length r3), (Value.slice a4 X.us.length r4), (Value.slice a5 X.qs.length r5), rfl, O3.out.1.ro, O3.out.2.1.ro, O3.out.2.2.1.ro, O3.out.2.2.2.1.l, O3.out.2.2.2.2.l⟩
 clear hb3 KZ X2 Z2 B2 O2
 obtain ⟨x0, x1, x2, x3, x4, x5, x6, x7, x8⟩ := X3.out.cells
 clear x0 x1 x2 x3 x4 x5 x6 x7 x8
 have N3 : Hid (w.heap.size + 1 < b1 ∧ b1 ≤ b3 ∧ w3.heap.size = b3) := ⟨BS.out.1, S3.out.1, S3.out.2⟩
 have B4 : Hid (Below w3.heap.size w3 ((w3.alloc (Obj.map #[] 0)).alloc (Obj.cells #[.map (some b3)] 80))) := ((Below.refl _ _).alloc (Nat.le_refl _) _).alloc (by simp) _
 have M5 : Hid (Im ((w3.alloc (Obj.map #[] 0)).alloc (Obj.cells #[.map (some b3)] 80)) b3 0 (fun u => ((cntU (X.qs.take 0) u : Nat) : Int))) := by
  have h := im_made w3
  rw [N3.out.2.2] at h
  exact h.below ((Below.refl _ _).alloc (Nat.le_refl _) _)
 have C5 : Hid (((w3.alloc (Obj.map #[] 0)).alloc (Obj.cells #[.map (some b3)] 80)).cell? ⟨b3 + 1, 0, none⟩ = some (.map (some b3))) := by
  unfold Hid
  have := N3.out.2.2
  rw [← this]
  simp
 have S5 : Hid (((w3.alloc (Obj.map #[] 0)).alloc (Obj.cells #[.map (some b3)] 80)).heap.size = b3 + 2) := by have := N3.out.2.2; unfold Hid; rw [← this]; simp
 have hb3 : w3.heap.size = b3 := N3.out.2.2
 have hmm := @run_makeMap Tryz.prog
 have x8 := (X3.out.below B4.out X3.out.lt).cells.2.2.2.2.2.2.2.2
 go_wp2_with fail
 clear hb3 hmm x8
 have T5 : Hid (∀ w5, w5 = (w3.alloc (Obj.map #[] 0)).alloc (Obj.cells #[.map (some b3)] 80) → TrS X [] [] w.heap.size b1 b3 (b3 + 2) w5 (Value.slice a1 X.gs.length r1) (Value.slice a2 X.os.length r2) (Value.slice a3 X.gold.length r3) (Value.slice a4 X.us.length r4) (Value.slice a5 X.qs.length r5) (.slice none 0 0) (.slice none 0 0) w5) := fun w5 e => by
  subst e
  have h1 := N3.out
  refine ⟨X3.out.below B4.out X3.out.lt, O3.out.1.below B4.out, O3.out.2.1.below B4.out, O3.out.2.2.1.below B4.out, O3.out.2.2.2.1.below B4.out, O3.out.2.2.2.2.below B4.out, (fun k _ h => by cases h), (fun x hx k hk => .inl ?_), Evo.nil _ _, Jbo.nil _ _, Fr.below (Below.refl _ _), ⟨by omega, h1.2.1, by omega, S5.out⟩⟩
  simp only [List.mem_cons, List.not_mem_nil, or_false] at hx
  rcases hx with rfl | rfl | rfl | rfl | rfl
  ·have := (O3.out.1.block k hk).2; omega
  ·have := (O3.out.2.1.block k hk).2; omega
  ·have := (O3.out.2.2.1.block k hk).2; omega
  ·have := (O3.out.2.2.2.1.block k hk).2; omega
  ·have := (O3.out.2.2.2.2.block k hk).2; omega
 have Z5 : Hid (Wx ((w3.alloc (Obj.map #[] 0)).alloc (Obj.cells #[.map (some b3)] 80)) (w.heap.size + 1) (.int .i64 0) (.int .i64 0) (.int .i64 0) (.int .i64 0) (.slice none 0 0) (.slice none 0 0) (.slice none 0 0) (.slice none 0 0) (.slice none 0 0)) := Z3.out.below B4.out Z3.out.lt
 have B5 : Hid (Below w.heap.size w ((w3.alloc (Obj.map #[] 0)).alloc (Obj.cells #[.map (some b3)] 80))) := B3.out.trans (B4.out.mono B3.out.size)
 have J5 : Hid (Jbo ((w3.alloc (Obj.map #[] 0)).alloc (Obj.cells #[.map (some b3)] 80)) b1 (Value.slice a5 X.qs.length r5) X.qs ∧ ∀ k, (Value.slice a5 X.qs.length r5).ownBlock = some k → b1 ≤ k ∧ k < b3) := ⟨O3.out.2.2.2.2.below B4.out, fun k hk => by have := O3.out.2.2.2.2.block k hk; have := N3.out; omega⟩
 obtain ⟨w5, hw5⟩ : ∃ w5, ((w3.alloc (Obj.map #[] 0)).alloc (Obj.cells #[.map (some b3)] 80)) = w5 := ⟨_, rfl⟩
 have T6 : Hid (TrS X [] [] w.heap.size b1 b3 (b3 + 2) w5 (Value.slice a1 X.gs.length r1) (Value.slice a2 X.os.length r2) (Value.slice a3 X.gold.length r3) (Value.slice a4 X.us.length r4) (Value.slice a5 X.qs.length r5) (.slice none 0 0) (.slice none 0 0) w5) := T5.out w5 hw5.symm
 rw [hw5] at M5 C5 S5 Z5 B5 J5 ⊢
 clear hw5 T5 B4 X3 Z3 B3 O3 L3
 have QN : Hid (X.qs.length ≤ 12) := WR.out.ql
 go_loopw [10, 11, 31] (fun v10 v11 j V => ∃ q : Nat, q ≤ X.qs.length ∧ j = .int .i64 (q : Nat) ∧ ∃ Y es qs, Tr ks X q Y es qs ∧ ∃ u1 u2 u3 u4 u5 ev qv, ev = v10 ∧ qv = v11 ∧ TrS Y es qs w.heap.size b1 b3 (b3 + 2) w5 u1 u2 u3 u4 u5 ev qv V ∧ Im V b3 q (fun u => ((cntU (X.qs.take q) u : Nat) : Int))) (fun _ _ j _ => X.qs.length - (intOf j).toNat)
 case atStart => exact ⟨0, Nat.zero_le _, rfl, X, [], [], .zero, _, _, _, _, _, _, _, rfl, rfl, T6.out, M5.out⟩
 case round =>
  obtain ⟨q, hq, rfl, Y, es, qs, htr, u1, u2, u3, u4, u5, ev, qv, rfl, rfl, hT, hM⟩ := hrel
  have TR : Hid (Tr ks X q Y es qs) := htr
  have KP : Hid (WRight ks Y ∧ Y.qs = X.qs ∧ es.length ≤ q ∧ qs.length ≤ q ∧ Y.turn = X.turn ∧ Y.wide = X.wide ∧ Y.high = X.high ∧ Y.gs = X.gs ∧ Y.os = X.os ∧ Y.gold = X.gold) := htr.keep WR.out
  have QL : Hid (qs.length ≤ 12 ∧ es.length ≤ 12) := by have := KP.out; have := QN.out; unfold Hid; omega
  have TQ : Hid (TrS Y es qs w.heap.size b1 b3 (b3 + 2) w5 u1 u2 u3 u4 u5 ev qv wr) := hT
  have MQ : Hid (Im wr b3 q (fun u => ((cntU (X.qs.take q) u : Nat) : Int))) := hM
  clear htr hT hM
  have CW : Hid (wr.cell? ⟨b3 + 1, 0, none⟩ = some (.map (some b3))) := TQ.out.f.cell C5.out (fun h => by have := N3.out; simp only at h; omega)
  have SW : Hid (b3 + 2 ≤ wr.heap.size) := by have := TQ.out.f.size; have := S5.out; unfold Hid; omega
  have ZW : Hid (Wx wr (w.heap.size + 1) (.int .i64 0) (.int .i64 0) (.int .i64 0) (.int .i64 0) (.slice none 0 0) (.slice none 0 0) (.slice none 0 0) (.slice none 0 0) (.slice none 0 0)) := TQ.out.f.wx Z5.out (fun h => by have := N3.out; omega)
  have BW : Hid (Below w.heap.size w wr) := B5.out.trans (TQ.out.f.low (by have := B5.out.size; exact this) (fun k hk => by have := N3.out; rcases hk with h | h <;> omega))
  have JW : Hid (Jbl wr (Value.slice a5 X.qs.length r5) X.qs) := Jbo.l (TQ.out.f.own J5.out.1 (fun k hk h => by have h1 := J5.out.2 k hk; have h2 := N3.out; rcases h with h | h <;> omega) : Jbo wr b1 (Value.slice a5 X.qs.length r5) X.qs)
  by_cases hne : q = X.qs.length
  case pos =>
   have TE : Hid (Tr ks X X.qs.length Y es qs) := by rw [← hne]; exact TR.out
   subst hne
   obtain ⟨g1, c1, rfl⟩ := TQ.out.o1.len
   obtain ⟨g2, c2, rfl⟩ := TQ.out.o2.len
   obtain ⟨g3, c3, rfl⟩ := TQ.out.o3.len
   obtain ⟨g4, c4, rfl⟩ := TQ.out.o4.len
   obtain ⟨g6, c6, rfl⟩ := TQ.out.o.len
   have XS := TQ.out.x.set8 (.slice g6 qs.length c6)
   have t8 := TQ.out.x.thaw 8
   obtain ⟨x0, x1, x2, x3, x4, x5, x6, x7, x8⟩ := TQ.out.x.cells
   have KS : Hid (Kp w.heap.size wr (wr.setCell ⟨w.heap.size, 8, none⟩ (.slice g6 qs.length c6))) := Kp.set _ _ _
   go_upto_region 24 with fail
   clear x0 x1 x2 x3 x4 x5 x6 x7 x8 t8
   generalize wr.setCell ⟨w.heap.size, 8, none⟩ (.slice g6 qs.length c6) = ws at *
   obtain ⟨x0, x1, x2, x3, x4, x5, x6, x7, x8⟩ := XS.cells
   have ZS : Hid (Wx ws (w.heap.size + 1) (.int .i64 0) (.int .i64 0) (.int .i64 0) (.int .i64 0) (.slice none 0 0) (.slice none 0 0) (.slice none 0 0) (.slice none 0 0) (.slice none 0 0)) := ZW.out.kp KS.out (by omega)
   have BS2 : Hid (Below w.heap.size w ws) := KS.out.below BW.out BW.out.size (Nat.le_refl _)
   obtain ⟨z0, z1, z2, z3, z4, z5, z6, z7, z8⟩ := ZS.out.cells
   obtain ⟨t0, t1, t2, t3, t4, t5, t6, t7, t8⟩ := ZS.out.thaws
   have KZ : Hid (Kp (w.heap.size + 1) ws (((((((((ws.setCell ⟨w.heap.size + 1, 0, none⟩ (.int .i64 Y.turn)).setCell ⟨w.heap.size + 1, 1, none⟩ (.int .i64 Y.next)).setCell ⟨w.heap.size + 1, 2, none⟩ (.int .i64 Y.wide)).setCell ⟨w.heap.size + 1, 3, none⟩ (.int .i64 Y.high)).setCell ⟨w.heap.size + 1, 4, none⟩ (Value.slice g1 Y.gs.length c1)).setCell ⟨w.heap.size + 1, 5, none⟩ (Value.slice g2 Y.os.length c2)).setCell ⟨w.heap.size + 1, 6, none⟩ (Value.slice g3 Y.gold.length c3)).setCell ⟨w.heap.size + 1, 7, none⟩ (Value.slice g4 Y.us.length c4)).setCell ⟨w.heap.size + 1, 8, none⟩ (Value.slice g6 qs.length c6))) := put_kp _ _ _ _ _ _ _ _ _ _ _
   obtain ⟨y0, y1, y2, y3, y4, y5, y6, y7, y8⟩ := (ZS.out.put (.int .i64 Y.turn) (.int .i64 Y.next) (.int .i64 Y.wide) (.int .i64 Y.high) (Value.slice g1 Y.gs.length c1) (Value.slice g2 Y.os.length c2) (Value.slice g3 Y.gold.length c3) (Value.slice g4 Y.us.length c4) (Value.slice g6 qs.length c6)).cells
   go_wp2
   clear x0 x1 x2 x3 x4 x5 x6 x7 x8 z0 z1 z2 z3 z4 z5 z6 z7 z8 t0 t1 t2 t3 t4 t5 t6 t7 t8
   generalize (((((((((ws.setCell ⟨w.heap.size + 1, 0, none⟩ (.int .i64 Y.turn)).setCell ⟨w.heap.size + 1, 1, none⟩ (.int .i64 Y.next)).setCell ⟨w.heap.size + 1, 2, none⟩ (.int .i64 Y.wide)).setCell ⟨w.heap.size + 1, 3, none⟩ (.int .i64 Y.high)).setCell ⟨w.heap.size + 1, 4, none⟩ (Value.slice g1 Y.gs.length c1)).setCell ⟨w.heap.size + 1, 5, none⟩ (Value.slice g2 Y.os.length c2)).setCell ⟨w.heap.size + 1, 6, none⟩ (Value.slice g3 Y.gold.length c3)).setCell ⟨w.heap.size + 1, 7, none⟩ (Value.slice g4 Y.us.length c4)).setCell ⟨w.heap.size + 1, 8, none⟩ (Value.slice g6 qs.length c6)) = wt at *
   have hn := N3.out
   have kp2 : ∀ {T : TypeId} {size : Nat} {u : Value} {n : Nat} {cs : List Value} {base : Nat}, b1 ≤ base → wr.ownsRow base T size u n cs → wt.ownsRow base T size u n cs := fun hb h => (Fr.kp (S := fun k => k = w.heap.size + 1) KZ.out rfl).own ((Fr.kp (S := fun k => k = w.heap.size) KS.out rfl).own h (fun k hk => by have := (World.ownsRow.lt h k hk).1; omega)) (fun k hk => by have := (World.ownsRow.lt h k hk).1; omega)
   refine bodyPost_ret (v := .tuple #[.agg #[.int .i64 Y.turn, .int .i64 Y.next, .int .i64 Y.wide, .int .i64 Y.high, Value.slice g1 Y.gs.length c1, Value.slice g2 Y.os.length c2, Value.slice g3 Y.gold.length c3, Value.slice g4 Y.us.length c4, Value.slice g6 qs.length c6], ev, .nilIface]) (by simp [results, Tryz.results13, go_sem, y0, y1, y2, y3, y4, y5, y6, y7, y8]) rfl ⟨_, _, _, rfl, by rw [FW.out]; exact Er.nil, .inr ⟨FW.out, Y, es, qs, TE.out, ?_, ?_⟩, KZ.out.below BS2.out BS2.out.size (by omega)⟩
   ·exact ⟨_, _, _, _, _, rfl, Ow.mono (kp2 (Nat.le_refl _) TQ.out.o1) (by omega), Ow.mono (kp2 (Nat.le_refl _) TQ.out.o2) (by omega), Ow.mono (kp2 (Nat.le_refl _) TQ.out.o3) (by omega), Uno.mono (kp2 (Nat.le_refl _) TQ.out.o4) (by omega), Jbo.mono (kp2 (by omega) TQ.out.o) (by omega)⟩
   ·exact Evo.mono (kp2 (by omega) TQ.out.e) (by omega)
  case neg =>
  have hql : q < X.qs.length := by omega
  have hqi : ((q : Nat) : Int) < (X.qs.length : Nat) := by omega
  obtain ⟨o, ho⟩ : ∃ o, X.qs[q]? = some o := ⟨_, List.getElem?_eq_getElem hql⟩
  have HO : Hid (X.qs[q]? = some o) := ho
  have JI : Hid ((1 ≤ o.left ∧ o.left ≤ 1000) ∧ 1 ≤ o.unit ∧ o.unit ≤ 1000000) := job_in WR.out (List.mem_of_getElem? ho)
  obtain ⟨a', c', e', -, -, hy⟩ := JW.out
  injection e' with e1 e2 e3
  subst e1 e3
  obtain ⟨xj, rfl, hxl, hy⟩ := hy (by rintro hn; rw [hn] at hql; simp at hql)
  obtain ⟨j0, j1, j2, j3⟩ := hy q o ho
  clear hy hxl ho e2
  go_upto_region 12 with fail
  clear j0 j1 j2 j3
  have BJ : Hid (Below wr.heap.size wr (wr.alloc (Obj.cells #[.int .i64 o.player, .int .i64 o.unit, .int .i64 o.kind, .int .i64 o.left] 71))) := (Below.refl _ _).alloc (Nat.le_refl _) _
  obtain ⟨bj, hbj⟩ : ∃ b, wr.heap.size = b := ⟨_, rfl⟩
  have JB6 : Hid (Jbc (wr.alloc (Obj.cells #[.int .i64 o.player, .int .i64 o.unit, .int .i64 o.kind, .int .i64 o.left] 71)) ⟨bj, 0, none⟩ o) := Jbc.mk' (w := wr) o hbj
  have TH6 : Hid (Jk (wr.alloc (Obj.cells #[.int .i64 o.player, .int .i64 o.unit, .int .i64 o.kind, .int .i64 o.left] 71)) bj [o] []) := by
   unfold Hid Jk
   rw [← hbj]
   exact heap_alloc_new _ _
  have SJ : Hid (b3 + 2 ≤ bj) := by rw [← hbj]; exact SW.out
  rw [hbj]
  have HBJ : Hid (wr.heap.size = bj) := hbj
  have UN : Hid (∀ x ∈ [u1, u2, u3, u4, u5, ev, qv], ∀ k, x.ownBlock = some k → k < bj) := by rw [← hbj]; exact TQ.out.under
  clear hbj
  generalize wr.alloc (Obj.cells #[.int .i64 o.player, .int .i64 o.unit, .int .i64 o.kind, .int .i64 o.left] 71) = w6 at *
  have T7 : Hid (TrS Y es qs w.heap.size b1 b3 (b3 + 2) w5 u1 u2 u3 u4 u5 ev qv w6) := TQ.out.below BJ.out
  have M7 : Hid (Im w6 b3 q (fun u => ((cntU (X.qs.take q) u : Nat) : Int))) := MQ.out.below BJ.out
  have C7 : Hid (w6.cell? ⟨b3 + 1, 0, none⟩ = some (.map (some b3))) := by unfold Hid; rw [BJ.out.cell (p := ⟨b3 + 1, 0, none⟩) (cell_lt CW.out)]; exact CW.out
  have CN : Hid (cntU (X.qs.take q) o.unit ≤ q) := by
   unfold Hid cntU
   exact Nat.le_trans List.countP_le_length (by rw [List.length_take]; omega)
  obtain ⟨j0, j1, j2, j3⟩ := JB6.out
  go_wp2_with fail
  refine (isfirst_any o (b3 + 1) b3 q (fun u => ((cntU (X.qs.take q) u : Nat) : Int)) w6 C7.out M7.out (by omega) (by have := QN.out; omega) (by have := CN.out; have := QN.out; omega) (wfi64 (by have := JI.out; omega) (by have := JI.out; omega))).mono ?_
  rintro e w7 ⟨fb, hfb, rfl, hm, hf⟩
  have FB : Hid (fb = (((cntU (X.qs.take q) o.unit : Nat) : Int) == 0)) := hfb
  have F7 : Hid (Fr (fun k => k = b3) w6 w7) := hf
  have T8 : Hid (TrS Y es qs w.heap.size b1 b3 (b3 + 2) w5 u1 u2 u3 u4 u5 ev qv w7) := T7.out.map hf
  have M8 : Hid (Im w7 b3 (q + 1) (fun u => ((cntU (X.qs.take (q + 1)) u : Nat) : Int))) := by
   have e9 : updI (fun u => ((cntU (X.qs.take q) u : Nat) : Int)) o.unit (((cntU (X.qs.take q) o.unit : Nat) : Int) + 1) = (fun u => ((cntU (X.qs.take (q + 1)) u : Nat) : Int)) := by
    funext u
    unfold updI
    rw [cntU_next HO.out u]
    by_cases h : u = o.unit
    ·rw [if_pos h, h, if_pos rfl]; rfl
    ·rw [if_neg h, if_neg (fun e => h e.symm)]; rfl
   rw [e9] at hm
   exact hm
  have K8 : Hid (Jk w7 bj [o] []) := (F7.out.block bj TH6.out.lt (by have := SJ.out; omega)).trans TH6.out
  clear hfb hm hf j0 j1 j2 j3 T7 M7 C7 JB6
  obtain ⟨d, hd⟩ : ∃ d, dec1 (X.qs.take q) o = d := ⟨_, rfl⟩
  have HD : Hid (dec1 (X.qs.take q) o = d) := hd
  clear hd
  go_upto_if 37 with fail
  go_cut [37] (fun v37 V => v37 = .bool fb ∧ Jk V bj [d] [] ∧ TrS Y es qs w.heap.size b1 b3 (b3 + 2) w5 u1 u2 u3 u4 u5 ev qv V ∧ Im V b3 (q + 1) (fun u => ((cntU (X.qs.take (q + 1)) u : Nat) : Int)))
  case first =>
   cases fb with
   | false =>
    have ED : Hid (o = d) := by
     unfold Hid
     rw [← HD.out]
     unfold dec1
     rw [if_neg]
     intro h
     have := FB.out
     rw [h] at this
     simp at this
    go_wp2_with fail
    go_meet
    case rel => exact ⟨rfl, by rw [← ED.out]; exact K8.out, T8.out, M8.out⟩
   | true =>
    have ED : Hid ({ o with left := o.left - 1 } = d) := by
     unfold Hid
     rw [← HD.out]
     unfold dec1
     rw [if_pos]
     have := FB.out
     have h2 := eq_of_beq this.symm
     omega
    obtain ⟨j0, j1, j2, j3⟩ := K8.out.jbc (i := 0) (o := o) rfl
    simp only [Nat.zero_mul, Nat.zero_add] at j0 j1 j2 j3
    have t3 := K8.out.thaw 3
    have wl : IntKind.i64.wrap (o.left - 1) = o.left - 1 := by have := JI.out; rw [IntKind.wrap_i64]; omega
    have K9 : Hid (Jk (w7.setCell ⟨bj, 3, none⟩ (.int .i64 (o.left - 1))) bj [d] []) := by
     have h := K8.out.set3 (i := 0) (o := o) rfl (o.left - 1)
     simp only [Nat.zero_mul, Nat.zero_add, List.set_cons_zero] at h
     rw [ED.out] at h
     exact h
    have B9 : Hid (Kp bj w7 (w7.setCell ⟨bj, 3, none⟩ (.int .i64 (o.left - 1)))) := Kp.set _ _ _
    go_wp2_with fail
    go_meet
    case rel => exact ⟨rfl, K9.out, T8.out.box B9.out SJ.out UN.out, M8.out.gb (gb_kp B9.out) (by have := SJ.out; simp; omega)⟩
  case rest =>
   obtain ⟨rfl, hK, hT, hM⟩ := hcut
   have K9 : Hid (Jk wc bj [d] []) := hK
   have T9 : Hid (TrS Y es qs w.heap.size b1 b3 (b3 + 2) w5 u1 u2 u3 u4 u5 ev qv wc) := hT
   have M9 : Hid (Im wc b3 (q + 1) (fun u => ((cntU (X.qs.take (q + 1)) u : Nat) : Int))) := hM
   clear hK hT hM K8 T8 M8 F7 TH6
   generalize wc = w8 at *
   have J9 : Hid (Jbc w8 ⟨bj, 0, none⟩ d) := by have h := K9.out.jbc (i := 0) (o := d) rfl; simp only [Nat.zero_mul] at h; exact h
   have B9 : Hid (Below w.heap.size w w8) := B5.out.trans (T9.out.f.low (by have := B5.out.size; exact this) (fun k hk => by have := N3.out; rcases hk with h | h <;> omega))
   have S9 : Hid (b3 + 2 ≤ w8.heap.size) := by have := T9.out.f.size; have := S5.out; unfold Hid; omega
   by_cases hl0 : d.left = 0
   case neg =>
    have hlb : (d.left == 0) = false := by rw [beq_eq_false_iff_ne]; exact hl0
    have HN : Hid (Tr ks X (q + 1) Y es (qs ++ [d])) := by
     have h := Tr.wait TR.out HO.out (by rw [HD.out]; exact hl0)
     rw [HD.out] at h
     exact h
    obtain ⟨j0, j1, j2, j3⟩ := J9.out
    have BA : Hid (Below w8.heap.size w8 (w8.alloc (Obj.cells #[.int .i64 d.player, .int .i64 d.unit, .int .i64 d.kind, .int .i64 d.left] 71))) := (Below.refl _ _).alloc (Nat.le_refl _) _
    have TA : Hid (TrS Y es qs w.heap.size b1 b3 (b3 + 2) w5 u1 u2 u3 u4 u5 ev qv (w8.alloc (Obj.cells #[.int .i64 d.player, .int .i64 d.unit, .int .i64 d.kind, .int .i64 d.left] 71))) := T9.out.below BA.out
    have JA : Hid (Jbc (w8.alloc (Obj.cells #[.int .i64 d.player, .int .i64 d.unit, .int .i64 d.kind, .int .i64 d.left] 71)) ⟨w8.heap.size, 0, none⟩ d) := Jbc.mk' (w := w8) d rfl
    have MA : Hid (Im (w8.alloc (Obj.cells #[.int .i64 d.player, .int .i64 d.unit, .int .i64 d.kind, .int .i64 d.left] 71)) b3 (q + 1) (fun u => ((cntU (X.qs.take (q + 1)) u : Nat) : Int))) := M9.out.below BA.out
    have SA : Hid (b3 + 2 ≤ (w8.alloc (Obj.cells #[.int .i64 d.player, .int .i64 d.unit, .int .i64 d.kind, .int .i64 d.left] 71)).heap.size) := by have h1 := TA.out.f.size; have h2 := TA.out.n; unfold Hid; omega
    go_wp2_with (at_builtin; refine app_jb _ rfl _ _ rfl (b3 + 2) _ qs rfl TA.out.o w8.heap.size d rfl JA.out (by have := QL.out; omega) SA.out ?_)
    intro g cap wE o8 g8 a8 l8
    have TE : Hid (TrS Y es (qs ++ [d]) w.heap.size b1 b3 (b3 + 2) w5 u1 u2 u3 u4 u5 ev (.slice (some ⟨g, 0, none⟩) (qs.length + 1) cap) wE) := TA.out.left g8 o8 rfl (by simpa using a8)
    have ME : Hid (Im wE b3 (q + 1) (fun u => ((cntU (X.qs.take (q + 1)) u : Nat) : Int))) := MA.out.gb g8 (fun h => by have := (TA.out.o.block b3 h.symm).1; omega)
    clear o8 g8 a8 l8 j0 j1 j2 j3
    have hq12 : X.qs.length ≤ 12 := QN.out
    go_wp2
    go_round
    case rel => exact ⟨q + 1, by omega, by go_num, Y, es, _, HN.out, u1, u2, u3, u4, u5, _, _, rfl, rfl, TE.out, ME.out⟩
    case measure => simp [intOf]; omega
   case pos =>
    have DL : Hid (d.left = 0) := hl0
    obtain ⟨j0, j1, j2, j3⟩ := J9.out
    rw [hl0] at j3
    obtain ⟨x0, x1, x2, x3, x4, x5, x6, x7, x8⟩ := T9.out.x.cells
    clear hl0
    go_wp2_with fail
    have CA := come_any (.slice pk ks.length qk) _ ks Y d w8 (K.out.1.below B9.out) K.out.2 T9.out.wl KP.out.1.zero (SD.out.below B9.out)
    unfold JbV.val at CA
    rw [DL.out] at CA
    refine Calls.mono CA ?_
    clear CA
    rintro e w9 ⟨u, r, Z, rfl, hu, hb, hc⟩
    have T10 : Hid (TrS Y es qs w.heap.size b1 b3 (b3 + 2) w5 u1 u2 u3 u4 u5 ev qv w9) := T9.out.below hb
    have M10 : Hid (Im w9 b3 (q + 1) (fun u => ((cntU (X.qs.take (q + 1)) u : Nat) : Int))) := M9.out.below hb
    have K10 : Hid (Jk w9 bj [d] []) := K9.out.below hb K9.out.lt
    have UQ : Hid (∀ x ∈ [u1, u2, u3, u4, u5, ev, qv], ∀ k, x.ownBlock = some k → k < w8.heap.size) := T9.out.under
    have S10 : Hid (w8.heap.size ≤ w9.heap.size) := hb.size
    obtain ⟨B, hB⟩ : ∃ B, w8.heap.size = B := ⟨_, rfl⟩
    rw [hB] at hu UQ S9 S10
    clear hB
    obtain ⟨k1, k2, k3, k4, k5, rfl, o1, o2, o3, o4, o5⟩ := hu
    obtain ⟨n1, m1, rfl⟩ := o1.len
    obtain ⟨n2, m2, rfl⟩ := o2.len
    obtain ⟨n3, m3, rfl⟩ := o3.len
    obtain ⟨n4, m4, rfl⟩ := o4.len
    obtain ⟨n5, m5, rfl⟩ := o5.len
    have OZ : Hid (Ow w9 B (Value.slice n1 Z.gs.length m1) Z.gs ∧ Ow w9 B (Value.slice n2 Z.os.length m2) Z.os ∧ Ow w9 B (Value.slice n3 Z.gold.length m3) Z.gold ∧ Uno w9 B (Value.slice n4 Z.us.length m4) Z.us ∧ Jbo w9 B (Value.slice n5 Z.qs.length m5) Z.qs) := ⟨o1, o2, o3, o4, o5⟩
    clear hb o1 o2 o3 o4 o5 j0 j1 j2 j3 x0 x1 x2 x3 x4 x5 x6 x7 x8 K9 T9 M9 J9
    obtain ⟨bn, hbn⟩ : ∃ b, w9.heap.size = b := ⟨_, rfl⟩
    have BN : Hid (Below w9.heap.size w9 (w9.alloc (Obj.cells #[.int .i64 Z.turn, .int .i64 Z.next, .int .i64 Z.wide, .int .i64 Z.high, Value.slice n1 Z.gs.length m1, Value.slice n2 Z.os.length m2, Value.slice n3 Z.gold.length m3, Value.slice n4 Z.us.length m4, Value.slice n5 Z.qs.length m5] 29))) := (Below.refl _ _).alloc (Nat.le_refl _) _
    have XN : Hid (Wx (w9.alloc (Obj.cells #[.int .i64 Z.turn, .int .i64 Z.next, .int .i64 Z.wide, .int .i64 Z.high, Value.slice n1 Z.gs.length m1, Value.slice n2 Z.os.length m2, Value.slice n3 Z.gold.length m3, Value.slice n4 Z.us.length m4, Value.slice n5 Z.qs.length m5] 29)) bn (.int .i64 Z.turn) (.int .i64 Z.next) (.int .i64 Z.wide) (.int .i64 Z.high) (Value.slice n1 Z.gs.length m1) (Value.slice n2 Z.os.length m2) (Value.slice n3 Z.gold.length m3) (Value.slice n4 Z.us.length m4) (Value.slice n5 Z.qs.length m5)) := Wx.new (w := w9) (.int .i64 Z.turn) (.int .i64 Z.next) (.int .i64 Z.wide) (.int .i64 Z.high) (Value.slice n1 Z.gs.length m1) (Value.slice n2 Z.os.length m2) (Value.slice n3 Z.gold.length m3) (Value.slice n4 Z.us.length m4) (Value.slice n5 Z.qs.length m5) hbn
    have NB : Hid (B ≤ bn) := by rw [← hbn]; exact S10.out
    rcases hc with ⟨c, hc, rfl, hZ⟩ | ⟨hc, n, h0, rfl⟩
    case inr =>
     have NC : Hid (NoCome ks Y o) := nocome_dec (l := X.qs.take q) (by rw [HD.out]; exact hc)
     clear hc h0
     go_upto_region 20 with fail
     (try rw [hbn])
     clear hbn
     generalize w9.alloc (Obj.cells #[.int .i64 Z.turn, .int .i64 Z.next, .int .i64 Z.wide, .int .i64 Z.high, Value.slice n1 Z.gs.length m1, Value.slice n2 Z.os.length m2, Value.slice n3 Z.gold.length m3, Value.slice n4 Z.us.length m4, Value.slice n5 Z.qs.length m5] 29) = wa at *
     have T11 : Hid (TrS Y es qs w.heap.size b1 b3 (b3 + 2) w5 u1 u2 u3 u4 u5 ev qv wa) := T10.out.below BN.out
     have M11 : Hid (Im wa b3 (q + 1) (fun u => ((cntU (X.qs.take (q + 1)) u : Nat) : Int))) := M10.out.below BN.out
     have K11 : Hid (Jk wa bj [d] []) := K10.out.below BN.out K10.out.lt
     obtain ⟨f, hf⟩ : ∃ f, one1 o = f := ⟨_, rfl⟩
     have HF : Hid (one1 d = f) := by unfold Hid; rw [← hf, ← HD.out]; exact (dec1_same _ _).2.2.2
     have HS : Hid (Tr ks X (q + 1) Y es (qs ++ [f])) := by
      rw [← hf]
      exact .stay TR.out HO.out (by rw [HD.out]; exact DL.out) NC.out
     clear hf
     obtain ⟨j0, j1, j2, j3⟩ := K11.out.jbc (i := 0) (o := d) rfl
     simp only [Nat.zero_mul, Nat.zero_add] at j0 j1 j2 j3
     have t3 := K11.out.thaw 3
     have K12 : Hid (Jk (wa.setCell ⟨bj, 3, none⟩ (.int .i64 1)) bj [f] []) := by
      have h := K11.out.set3 (i := 0) (o := d) rfl 1
      simp only [Nat.zero_mul, Nat.zero_add, List.set_cons_zero] at h
      have e9 : ({ d with left := 1 } : JbV) = f := HF.out
      rw [e9] at h
      exact h
     have B12 : Hid (Kp bj wa (wa.setCell ⟨bj, 3, none⟩ (.int .i64 1))) := Kp.set _ _ _
     go_upto_region 21 with fail
     clear j0 j1 j2 j3 t3
     generalize wa.setCell ⟨bj, 3, none⟩ (.int .i64 1) = wb at *
     have T12 : Hid (TrS Y es qs w.heap.size b1 b3 (b3 + 2) w5 u1 u2 u3 u4 u5 ev qv wb) := T11.out.box B12.out SJ.out UN.out
     have M12 : Hid (Im wb b3 (q + 1) (fun u => ((cntU (X.qs.take (q + 1)) u : Nat) : Int))) := M11.out.gb (gb_kp B12.out) (by have := SJ.out; simp; omega)
     have J12 : Hid (Jbc wb ⟨bj, 0, none⟩ f) := by have h := K12.out.jbc (i := 0) (o := f) rfl; simp only [Nat.zero_mul] at h; exact h
     obtain ⟨j0, j1, j2, j3⟩ := J12.out
     have BA : Hid (Below wb.heap.size wb (wb.alloc (Obj.cells #[.int .i64 f.player, .int .i64 f.unit, .int .i64 f.kind, .int .i64 f.left] 71))) := (Below.refl _ _).alloc (Nat.le_refl _) _
     have TA : Hid (TrS Y es qs w.heap.size b1 b3 (b3 + 2) w5 u1 u2 u3 u4 u5 ev qv (wb.alloc (Obj.cells #[.int .i64 f.player, .int .i64 f.unit, .int .i64 f.kind, .int .i64 f.left] 71))) := T12.out.below BA.out
     have JA : Hid (Jbc (wb.alloc (Obj.cells #[.int .i64 f.player, .int .i64 f.unit, .int .i64 f.kind, .int .i64 f.left] 71)) ⟨wb.heap.size, 0, none⟩ f) := Jbc.mk' (w := wb) f rfl
     have MA : Hid (Im (wb.alloc (Obj.cells #[.int .i64 f.player, .int .i64 f.unit, .int .i64 f.kind, .int .i64 f.left] 71)) b3 (q + 1) (fun u => ((cntU (X.qs.take (q + 1)) u : Nat) : Int))) := M12.out.below BA.out
     have SA : Hid (b3 + 2 ≤ (wb.alloc (Obj.cells #[.int .i64 f.player, .int .i64 f.unit, .int .i64 f.kind, .int .i64 f.left] 71)).heap.size) := by have h1 := TA.out.f.size; have h2 := TA.out.n; unfold Hid; omega
     go_wp2_with (at_builtin; refine app_jb _ rfl _ _ rfl (b3 + 2) _ qs rfl TA.out.o wb.heap.size f rfl JA.out (by have := QL.out; omega) SA.out ?_)
     intro g cap wE o8 g8 a8 l8
     have TE : Hid (TrS Y es (qs ++ [f]) w.heap.size b1 b3 (b3 + 2) w5 u1 u2 u3 u4 u5 ev (.slice (some ⟨g, 0, none⟩) (qs.length + 1) cap) wE) := TA.out.left g8 o8 rfl (by simpa using a8)
     have ME : Hid (Im wE b3 (q + 1) (fun u => ((cntU (X.qs.take (q + 1)) u : Nat) : Int))) := MA.out.gb g8 (fun h => by have := (TA.out.o.block b3 h.symm).1; omega)
     clear o8 g8 a8 l8 j0 j1 j2 j3
     have hq12 : X.qs.length ≤ 12 := QN.out
     go_wp2
     go_round
     case rel => exact ⟨q + 1, by omega, by go_num, Y, es, _, HS.out, u1, u2, u3, u4, u5, _, _, rfl, rfl, TE.out, ME.out⟩
     case measure => simp [intOf]; omega
    case inl =>
     have ZE : Hid (Z = Wd.put ks Y o.player o.kind c) := by
      unfold Hid
      obtain ⟨e1, e2, e3, -⟩ := dec1_same (X.qs.take q) o
      rw [hZ, ← HD.out, e1, e3]
     have CM : Hid (Tr ks X (q + 1) Z (es ++ [⟨6, Y.next, c⟩]) qs) := by
      unfold Hid
      rw [ZE.out]
      exact .come TR.out HO.out (by rw [HD.out]; exact DL.out) (comes_dec (l := X.qs.take q) (by rw [HD.out]; exact hc))
     obtain ⟨nu, hnu⟩ : ∃ nu, Wd.newUnit ks Y o.player o.kind c = nu := ⟨_, rfl⟩
     have ZU : Hid (Z.us = Y.us ++ [nu] ∧ nu.id = Y.next ∧ nu.at_ = c) := by
      unfold Hid
      rw [ZE.out, ← hnu]
      exact ⟨rfl, rfl, rfl⟩
     obtain ⟨m, hm⟩ : ∃ m, Y.us.length = m := ⟨_, rfl⟩
     have ZL : Hid (Z.us.length = m + 1) := by unfold Hid; rw [ZU.out.1, ← hm]; simp
     have ml : m ≤ 40 := by rw [← hm]; exact KP.out.1.ul
     have NU : Hid (Z.us[m]? = some nu) := by unfold Hid; rw [ZU.out.1, ← hm]; simp
     clear hc hZ hnu hm
     go_upto_region 17 with fail
     (try rw [hbn])
     clear hbn
     have UA : Hid (Uno (w9.alloc (Obj.cells #[.int .i64 Z.turn, .int .i64 Z.next, .int .i64 Z.wide, .int .i64 Z.high, Value.slice n1 Z.gs.length m1, Value.slice n2 Z.os.length m2, Value.slice n3 Z.gold.length m3, Value.slice n4 Z.us.length m4, Value.slice n5 Z.qs.length m5] 29)) B (Value.slice n4 Z.us.length m4) Z.us) := OZ.out.2.2.2.1.below BN.out
     generalize w9.alloc (Obj.cells #[.int .i64 Z.turn, .int .i64 Z.next, .int .i64 Z.wide, .int .i64 Z.high, Value.slice n1 Z.gs.length m1, Value.slice n2 Z.os.length m2, Value.slice n3 Z.gold.length m3, Value.slice n4 Z.us.length m4, Value.slice n5 Z.qs.length m5] 29) = wa at *
     obtain ⟨x0, x1, x2, x3, x4, x5, x6, x7, x8⟩ := XN.out.cells
     obtain ⟨g', c', e', -, -, hy⟩ := UA.out.l
     injection e' with e1 e2 e3
     subst e1 e3
     obtain ⟨xu, rfl, hxl, hy⟩ := hy (by have h9 := ZL.out; rintro hn; rw [hn] at h9; simp at h9)
     obtain ⟨y0, y1, y2, y3, y4, y5, y6, y7⟩ := hy m nu NU.out
     have mw : IntKind.i64.wrap (m : Int) = (m : Int) := by rw [IntKind.wrap_i64]; omega
     have mz : IntKind.i64.wrap ((Z.us.length : Int) - 1) = (m : Int) := by rw [IntKind.wrap_i64, ZL.out]; omega
     have ml2 : (m : Int) < (Z.us.length : Int) := by rw [ZL.out]; omega
     have ml3 : m < Z.us.length := by rw [ZL.out]; omega
     clear hy hxl e2
     go_upto_region 18 with fail
     clear x0 x1 x2 x3 x4 x5 x6 x7 x8 y0 y1 y2 y3 y4 y5 y6 y7 mw mz ml2 ml3
     have BU : Hid (Below wa.heap.size wa (wa.alloc (Obj.cells #[.int .i64 nu.id, .int .i64 nu.player, .int .i64 nu.kind, .int .i64 nu.at_, .int .i64 nu.life, .int .i64 nu.load, .int .i64 nu.task, .int .i64 nu.goal] 44))) := (Below.refl _ _).alloc (Nat.le_refl _) _
     obtain ⟨bu, hbu⟩ : ∃ b, wa.heap.size = b := ⟨_, rfl⟩
     have XU : Hid (Unc (wa.alloc (Obj.cells #[.int .i64 nu.id, .int .i64 nu.player, .int .i64 nu.kind, .int .i64 nu.at_, .int .i64 nu.life, .int .i64 nu.load, .int .i64 nu.task, .int .i64 nu.goal] 44)) ⟨bu, 0, none⟩ nu) := Unc.mk' (w := wa) nu hbu
     (try rw [hbu])
     clear hbu
     generalize wa.alloc (Obj.cells #[.int .i64 nu.id, .int .i64 nu.player, .int .i64 nu.kind, .int .i64 nu.at_, .int .i64 nu.life, .int .i64 nu.load, .int .i64 nu.task, .int .i64 nu.goal] 44) = wb at *
     have BNB : Hid (Below w9.heap.size w9 wb) := BN.out.trans (BU.out.mono BN.out.size)
     have T11 : Hid (TrS Y es qs w.heap.size b1 b3 (b3 + 2) w5 u1 u2 u3 u4 u5 ev qv wb) := T10.out.below BNB.out
     have M11 : Hid (Im wb b3 (q + 1) (fun u => ((cntU (X.qs.take (q + 1)) u : Nat) : Int))) := M10.out.below BNB.out
     have XB : Hid (Wx wb bn (.int .i64 Z.turn) (.int .i64 Z.next) (.int .i64 Z.wide) (.int .i64 Z.high) (Value.slice n1 Z.gs.length m1) (Value.slice n2 Z.os.length m2) (Value.slice n3 Z.gold.length m3) (Value.slice (some xu) Z.us.length m4) (Value.slice n5 Z.qs.length m5)) := XN.out.below BU.out XN.out.lt
     have OB : Hid (Ow wb B (Value.slice n1 Z.gs.length m1) Z.gs ∧ Ow wb B (Value.slice n2 Z.os.length m2) Z.os ∧ Ow wb B (Value.slice n3 Z.gold.length m3) Z.gold ∧ Uno wb B (Value.slice (some xu) Z.us.length m4) Z.us ∧ Jbo wb B (Value.slice n5 Z.qs.length m5) Z.qs) := ⟨OZ.out.1.below BNB.out, OZ.out.2.1.below BNB.out, OZ.out.2.2.1.below BNB.out, OZ.out.2.2.2.1.below BNB.out, OZ.out.2.2.2.2.below BNB.out⟩
     obtain ⟨y0, y1, y2, y3, y4, y5, y6, y7⟩ := XU.out
     have y0' : wb.cell? ⟨bu, 0, none⟩ = some (.int .i64 Y.next) := by rw [← ZU.out.2.1]; exact y0
     have y3' : wb.cell? ⟨bu, 3, none⟩ = some (.int .i64 c) := by rw [← ZU.out.2.2]; exact y3
     clear y0 y1 y2 y3 y4 y5 y6 y7
     have BE : Hid (Below wb.heap.size wb (wb.alloc (Obj.cells #[.int .i64 6, .int .i64 Y.next, .int .i64 c] 73))) := (Below.refl _ _).alloc (Nat.le_refl _) _
     have TE : Hid (TrS Y es qs w.heap.size b1 b3 (b3 + 2) w5 u1 u2 u3 u4 u5 ev qv (wb.alloc (Obj.cells #[.int .i64 6, .int .i64 Y.next, .int .i64 c] 73))) := T11.out.below BE.out
     have RC : Hid (Evc (wb.alloc (Obj.cells #[.int .i64 6, .int .i64 Y.next, .int .i64 c] 73)) ⟨wb.heap.size, 0, none⟩ ⟨6, Y.next, c⟩) := Evc.mk' (w := wb) ⟨6, Y.next, c⟩ rfl
     have SB : Hid (b3 + 2 ≤ (wb.alloc (Obj.cells #[.int .i64 6, .int .i64 Y.next, .int .i64 c] 73)).heap.size) := by have h1 := TE.out.f.size; have h2 := TE.out.n; unfold Hid; omega
     have ME : Hid (Im (wb.alloc (Obj.cells #[.int .i64 6, .int .i64 Y.next, .int .i64 c] 73)) b3 (q + 1) (fun u => ((cntU (X.qs.take (q + 1)) u : Nat) : Int))) := M11.out.below BE.out
     have XE : Hid (Wx (wb.alloc (Obj.cells #[.int .i64 6, .int .i64 Y.next, .int .i64 c] 73)) bn (.int .i64 Z.turn) (.int .i64 Z.next) (.int .i64 Z.wide) (.int .i64 Z.high) (Value.slice n1 Z.gs.length m1) (Value.slice n2 Z.os.length m2) (Value.slice n3 Z.gold.length m3) (Value.slice (some xu) Z.us.length m4) (Value.slice n5 Z.qs.length m5)) := XB.out.below BE.out XB.out.lt
     have OE : Hid (Ow (wb.alloc (Obj.cells #[.int .i64 6, .int .i64 Y.next, .int .i64 c] 73)) B (Value.slice n1 Z.gs.length m1) Z.gs ∧ Ow (wb.alloc (Obj.cells #[.int .i64 6, .int .i64 Y.next, .int .i64 c] 73)) B (Value.slice n2 Z.os.length m2) Z.os ∧ Ow (wb.alloc (Obj.cells #[.int .i64 6, .int .i64 Y.next, .int .i64 c] 73)) B (Value.slice n3 Z.gold.length m3) Z.gold ∧ Uno (wb.alloc (Obj.cells #[.int .i64 6, .int .i64 Y.next, .int .i64 c] 73)) B (Value.slice (some xu) Z.us.length m4) Z.us ∧ Jbo (wb.alloc (Obj.cells #[.int .i64 6, .int .i64 Y.next, .int .i64 c] 73)) B (Value.slice n5 Z.qs.length m5) Z.qs) := ⟨OB.out.1.below BE.out, OB.out.2.1.below BE.out, OB.out.2.2.1.below BE.out, OB.out.2.2.2.1.below BE.out, OB.out.2.2.2.2.below BE.out⟩
     obtain ⟨ea, ec, rfl⟩ := TE.out.e.len
     go_upto_region 19 with (at_builtin; refine app_ev _ rfl _ _ rfl (b3 + 2) _ es rfl TE.out.e wb.heap.size ⟨6, Y.next, c⟩ rfl RC.out (by have := QL.out; omega) SB.out ?_)
     intro g cap wE o8 g8 a8 l8
     have EVN : Hid (∀ k, (.slice ea es.length ec : Value).ownBlock = some k → b3 + 2 ≤ k ∧ k < B) := fun k hk => ⟨(TE.out.e.block k hk).1, UQ.out _ (by simp) k hk⟩
     have TF : Hid (TrS Y (es ++ [⟨6, Y.next, c⟩]) qs w.heap.size b1 b3 (b3 + 2) w5 u1 u2 u3 u4 u5 (.slice (some ⟨g, 0, none⟩) (es.length + 1) cap) qv wE) := TE.out.told g8 o8
     have MF : Hid (Im wE b3 (q + 1) (fun u => ((cntU (X.qs.take (q + 1)) u : Nat) : Int))) := ME.out.gb g8 (fun h => by have := (EVN.out b3 h.symm).1; omega)
     have XF : Hid (Wx wE bn (.int .i64 Z.turn) (.int .i64 Z.next) (.int .i64 Z.wide) (.int .i64 Z.high) (Value.slice n1 Z.gs.length m1) (Value.slice n2 Z.os.length m2) (Value.slice n3 Z.gold.length m3) (Value.slice (some xu) Z.us.length m4) (Value.slice n5 Z.qs.length m5)) := (Fr.gb (S := fun k => (.slice ea es.length ec : Value).ownBlock = some k) g8 (fun k hk => hk)).wx XE.out (fun h => by have := EVN.out bn h; have := NB.out; omega)
     have OF : Hid (Ow wE B (Value.slice n1 Z.gs.length m1) Z.gs ∧ Ow wE B (Value.slice n2 Z.os.length m2) Z.os ∧ Ow wE B (Value.slice n3 Z.gold.length m3) Z.gold ∧ Uno wE B (Value.slice (some xu) Z.us.length m4) Z.us ∧ Jbo wE B (Value.slice n5 Z.qs.length m5) Z.qs) := ⟨own_gb OE.out.1 g8 (fun k h1 h2 => by have := (OE.out.1.block k h1).1; have := EVN.out k h2; omega), own_gb OE.out.2.1 g8 (fun k h1 h2 => by have := (OE.out.2.1.block k h1).1; have := EVN.out k h2; omega), own_gb OE.out.2.2.1 g8 (fun k h1 h2 => by have := (OE.out.2.2.1.block k h1).1; have := EVN.out k h2; omega), own_gb OE.out.2.2.2.1 g8 (fun k h1 h2 => by have := (OE.out.2.2.2.1.block k h1).1; have := EVN.out k h2; omega), own_gb OE.out.2.2.2.2 g8 (fun k h1 h2 => by have := (OE.out.2.2.2.2.block k h1).1; have := EVN.out k h2; omega)⟩
     clear o8 g8 a8 l8 y0' y3'
     obtain ⟨x0, x1, x2, x3, x4, x5, x6, x7, x8⟩ := XF.out.cells
     obtain ⟨z0, z1, z2, z3, z4, z5, z6, z7, z8⟩ := TF.out.x.cells
     obtain ⟨t0, t1, t2, t3, t4, t5, t6, t7, t8⟩ := TF.out.x.thaws
     have KZ : Hid (Kp w.heap.size wE (((((((((wE.setCell ⟨w.heap.size, 0, none⟩ (.int .i64 Z.turn)).setCell ⟨w.heap.size, 1, none⟩ (.int .i64 Z.next)).setCell ⟨w.heap.size, 2, none⟩ (.int .i64 Z.wide)).setCell ⟨w.heap.size, 3, none⟩ (.int .i64 Z.high)).setCell ⟨w.heap.size, 4, none⟩ (Value.slice n1 Z.gs.length m1)).setCell ⟨w.heap.size, 5, none⟩ (Value.slice n2 Z.os.length m2)).setCell ⟨w.heap.size, 6, none⟩ (Value.slice n3 Z.gold.length m3)).setCell ⟨w.heap.size, 7, none⟩ (Value.slice (some xu) Z.us.length m4)).setCell ⟨w.heap.size, 8, none⟩ (Value.slice n5 Z.qs.length m5))) := put_kp _ _ _ _ _ _ _ _ _ _ _
     have XZ : Hid (Wx (((((((((wE.setCell ⟨w.heap.size, 0, none⟩ (.int .i64 Z.turn)).setCell ⟨w.heap.size, 1, none⟩ (.int .i64 Z.next)).setCell ⟨w.heap.size, 2, none⟩ (.int .i64 Z.wide)).setCell ⟨w.heap.size, 3, none⟩ (.int .i64 Z.high)).setCell ⟨w.heap.size, 4, none⟩ (Value.slice n1 Z.gs.length m1)).setCell ⟨w.heap.size, 5, none⟩ (Value.slice n2 Z.os.length m2)).setCell ⟨w.heap.size, 6, none⟩ (Value.slice n3 Z.gold.length m3)).setCell ⟨w.heap.size, 7, none⟩ (Value.slice (some xu) Z.us.length m4)).setCell ⟨w.heap.size, 8, none⟩ (Value.slice n5 Z.qs.length m5)) w.heap.size (.int .i64 Z.turn) (.int .i64 Z.next) (.int .i64 Z.wide) (.int .i64 Z.high) (Value.slice n1 Z.gs.length m1) (Value.slice n2 Z.os.length m2) (Value.slice n3 Z.gold.length m3) (Value.slice (some xu) Z.us.length m4) (Value.slice n5 Z.qs.length m5)) := TF.out.x.put (.int .i64 Z.turn) (.int .i64 Z.next) (.int .i64 Z.wide) (.int .i64 Z.high) (Value.slice n1 Z.gs.length m1) (Value.slice n2 Z.os.length m2) (Value.slice n3 Z.gold.length m3) (Value.slice (some xu) Z.us.length m4) (Value.slice n5 Z.qs.length m5)
     go_upto_region 22 with fail
     clear x0 x1 x2 x3 x4 x5 x6 x7 x8 z0 z1 z2 z3 z4 z5 z6 z7 z8 t0 t1 t2 t3 t4 t5 t6 t7 t8
     generalize (((((((((wE.setCell ⟨w.heap.size, 0, none⟩ (.int .i64 Z.turn)).setCell ⟨w.heap.size, 1, none⟩ (.int .i64 Z.next)).setCell ⟨w.heap.size, 2, none⟩ (.int .i64 Z.wide)).setCell ⟨w.heap.size, 3, none⟩ (.int .i64 Z.high)).setCell ⟨w.heap.size, 4, none⟩ (Value.slice n1 Z.gs.length m1)).setCell ⟨w.heap.size, 5, none⟩ (Value.slice n2 Z.os.length m2)).setCell ⟨w.heap.size, 6, none⟩ (Value.slice n3 Z.gold.length m3)).setCell ⟨w.heap.size, 7, none⟩ (Value.slice (some xu) Z.us.length m4)).setCell ⟨w.heap.size, 8, none⟩ (Value.slice n5 Z.qs.length m5)) = wF at *
     have TG : Hid (TrS Z (es ++ [⟨6, Y.next, c⟩]) qs w.heap.size b1 b3 (b3 + 2) w5 (Value.slice n1 Z.gs.length m1) (Value.slice n2 Z.os.length m2) (Value.slice n3 Z.gold.length m3) (Value.slice (some xu) Z.us.length m4) (Value.slice n5 Z.qs.length m5) (.slice (some ⟨g, 0, none⟩) (es.length + 1) cap) qv wF) := TF.out.puts S9.out (UQ.out qv (by simp)) KZ.out XZ.out OF.out.1 OF.out.2.1 OF.out.2.2.1 OF.out.2.2.2.1 OF.out.2.2.2.2
     have MG : Hid (Im wF b3 (q + 1) (fun u => ((cntU (X.qs.take (q + 1)) u : Nat) : Int))) := MF.out.gb (gb_kp KZ.out) (by have := N3.out; simp; omega)
     have hq12 : X.qs.length ≤ 12 := QN.out
     go_wp2
     go_round
     case rel => exact ⟨q + 1, by omega, by go_num, Z, _, _, CM.out, _, _, _, _, _, _, _, rfl, rfl, TG.out, MG.out⟩
     case measure => simp [intOf]; omega
end Go.Proofs.YteieikgkmfglaaaGreatDoor
namespace Go.Proofs.YteieikgkmfglaaaGreatDoor
open Go.RowKit
set_option linter.unusedVariables false
theorem ref_numbers (k : KV) (w : World) :
  Calls Tryz.prog 82 #[k.val] w fun e w' => ∃ u, e = .returned u ∧ Ro w' u [k.n0, k.n1, k.n2, k.n3, k.n4, k.n5, k.n6, k.n7] ∧ Below w.heap.size w w' := by
 obtain ⟨b, n0, n1, n2, n3, n4, n5, n6, n7, f, t⟩ := k
 unfold KV.val
 go_enter Tryz.func82, Tryz.ntmps82
 go_wp2_with fail
 go_ret
 refine ⟨_, rfl, ?_, ((Below.refl _ _).alloc (Nat.le_refl _) _).alloc (by simp) _⟩
 exact Ro.lit (w := w.alloc _) (z := w.heap.size + 1) [n0, n1, n2, n3, n4, n5, n6, n7] _ rfl (by simp) (by simp)
theorem name_empty {s : ByteArray} (h : s.data.toList = []) : s.toList.isEmpty = true := by
 rw [← decide_eq_emptyBytes s]
 exact decide_eq_true (WideShapes.bytes_inj (by rw [h]; rfl))
theorem name_some {s : ByteArray} (h : s.data.toList ≠ []) : s.toList.isEmpty = false := by
 rw [← decide_eq_emptyBytes s]
 exact decide_eq_false (fun e => h (by rw [e]; rfl))
theorem kf_name {ah : List Kd.K} {k : Kd.K} (h : Kd.nameOk k.name = false) : Kd.kindFault ah k = 2 := by
 unfold Kd.kindFault
 rw [if_neg (by rw [h]; decide)]
set_option maxRecDepth 100000 in
set_option maxHeartbeats 4000000 in
theorem ref_kind (v : Value) (ks : List KV) (i : Nat) (k : KV) (w : World) (h : Kl w v ks) (hi : ks[i]? = some k) (hn : ks.length ≤ 1000000) (hb : k.b.size ≤ 9223372036854775807) :
  Calls Tryz.prog 52 #[v, .int .i64 (i : Nat)] w fun e w' => e = .returned (.int .i64 (Kd.kindFault ((ks.take i).map KV.k) k.k)) ∧ Below w.heap.size w w' := by
 have hil : i < ks.length := (List.getElem?_eq_some_iff.1 hi).1
 obtain ⟨a, c, rfl, c1, c2, hx⟩ := h
 obtain ⟨x, rfl, xl, hk⟩ := hx (by intro e; rw [e] at hil; simp at hil)
 have Hk : Hid (x.block < w.heap.size ∧ ∀ (i : Nat) k, ks[i]? = some k → Kc w (x.add (i * 11)) k) := ⟨xl, hk⟩
 obtain ⟨q0, q1, q2, q3, q4, q5, q6, q7, q8, q9, q10⟩ := hk i k hi
 clear hx hk xl
 obtain ⟨l, hl⟩ : ∃ l, k.b.data.toList = l := ⟨_, rfl⟩
 have Hl : Hid (k.b.data.toList = l) := hl
 have Ll : Hid (l.length = k.b.size) := by unfold Hid; rw [← hl]; rfl
 have Kn : Hid (k.k.name = l) := hl
 have Km : Hid (k.k.nums = [k.n0, k.n1, k.n2, k.n3, k.n4, k.n5, k.n6, k.n7]) := rfl
 have Hi : Hid (ks[i]? = some k) := hi
 clear hi hl
 obtain ⟨R, hR⟩ : ∃ R, Kd.kindFault ((ks.take i).map KV.k) k.k = R := ⟨_, rfl⟩
 have HR : Hid (Kd.kindFault ((ks.take i).map KV.k) k.k = R) := hR
 rw [hR]
 clear hR
 have NB : Hid (Kd.nameOk l = false → R = 2) := fun h => by rw [← HR.out]; exact kf_name (by rw [Kn.out]; exact h)
 have Z : Hid (k.val = k.val) := rfl
 obtain ⟨kb, n0, n1, n2, n3, n4, n5, n6, n7, kf, kt⟩ := k
 simp only at q0 q1 q2 q3 q4 q5 q6 q7 q8 q9 q10 hb Hl Ll Km
 go_enter Tryz.func52, Tryz.ntmps52
 have B1 : Hid (Below w.heap.size w (w.alloc (Obj.cells #[.string kb, .int .i64 n0, .int .i64 n1, .int .i64 n2, .int .i64 n3, .int .i64 n4, .int .i64 n5, .int .i64 n6, .int .i64 n7, .bool kf, .bool kt] 68))) := (Below.refl _ _).alloc (Nat.le_refl _) _
 have X1 : Hid (Kc (w.alloc (Obj.cells #[.string kb, .int .i64 n0, .int .i64 n1, .int .i64 n2, .int .i64 n3, .int .i64 n4, .int .i64 n5, .int .i64 n6, .int .i64 n7, .bool kf, .bool kt] 68)) ⟨w.heap.size, 0, none⟩ ⟨kb, n0, n1, n2, n3, n4, n5, n6, n7, kf, kt⟩) := Kc.mk' ⟨kb, n0, n1, n2, n3, n4, n5, n6, n7, kf, kt⟩ rfl
 go_upto_region 2 with fail
 generalize w.alloc (Obj.cells #[.string kb, .int .i64 n0, .int .i64 n1, .int .i64 n2, .int .i64 n3, .int .i64 n4, .int .i64 n5, .int .i64 n6, .int .i64 n7, .bool kf, .bool kt] 68) = w1 at *
 have y0 : w1.cell? ⟨w.heap.size, 0, none⟩ = some (.string kb) := X1.out.c0
 have y1 : w1.cell? ⟨w.heap.size, 1, none⟩ = some (.int .i64 n0) := X1.out.c1
 have y2 : w1.cell? ⟨w.heap.size, 2, none⟩ = some (.int .i64 n1) := X1.out.c2
 have y3 : w1.cell? ⟨w.heap.size, 3, none⟩ = some (.int .i64 n2) := X1.out.c3
 have y4 : w1.cell? ⟨w.heap.size, 4, none⟩ = some (.int .i64 n3) := X1.out.c4
 have y5 : w1.cell? ⟨w.heap.size, 5, none⟩ = some (.int .i64 n4) := X1.out.c5
 have y6 : w1.cell? ⟨w.heap.size, 6, none⟩ = some (.int .i64 n5) := X1.out.c6
 have y7 : w1.cell? ⟨w.heap.size, 7, none⟩ = some (.int .i64 n6) := X1.out.c7
 have y8 : w1.cell? ⟨w.heap.size, 8, none⟩ = some (.int .i64 n7) := X1.out.c8
 have y9 : w1.cell? ⟨w.heap.size, 9, none⟩ = some (.bool kf) := X1.out.c9
 have y10 : w1.cell? ⟨w.heap.size, 10, none⟩ = some (.bool kt) := X1.out.c10
 clear q0 q1 q2 q3 q4 q5 q6 q7 q8 q9 q10
 by_cases h0 : l = []
 ·have he : kb.toList.isEmpty = true := name_empty (by rw [Hl.out]; exact h0)
  have E : Hid (R = 2) := NB.out (by rw [h0]; rfl)
  clear h0
  go_wp2
  go_ret
  exact ⟨by rw [E.out]; rfl, B1⟩
 ·have he : kb.toList.isEmpty = false := name_some (by rw [Hl.out]; exact h0)
  by_cases h1 : 8 < kb.size
  ·have E : Hid (R = 2) := NB.out (by
    unfold Kd.nameOk
    rw [decide_eq_false (by rw [Ll.out]; omega)]
    simp)
   have h1' : (8 : Int) < (kb.size : Int) := by omega
   clear h0
   go_wp2
   go_ret
   exact ⟨by rw [E.out]; rfl, B1⟩
  ·have h1' : ¬ (8 : Int) < (kb.size : Int) := by omega
   have NO : Hid (Kd.nameOk l = l.all Kd.isLetter) := by
    unfold Hid Kd.nameOk
    rw [decide_eq_true (by rw [Ll.out]; omega), Bool.true_and]
    cases l with
    | nil => exact absurd rfl h0
    | cons a r => rfl
   clear h0
   go_wp2_with fail
   go_loop [6] (fun j => ∃ q : Nat, q ≤ kb.size ∧ j = .int .i64 (q : Nat) ∧ (l.take q).all Kd.isLetter = true) (fun j => kb.size - (intOf j).toNat)
   case atStart => exact ⟨0, Nat.zero_le _, rfl, by simp⟩
   case round =>
    obtain ⟨q, hq, rfl, hd⟩ := hrel
    have Hd : Hid ((l.take q).all Kd.isLetter = true) := hd
    clear hd
    by_cases hqs : q = kb.size
    ·have Ok : Hid (Kd.nameOk l = true) := by
      unfold Hid
      rw [NO.out]
      have := Hd.out
      rw [List.take_of_length_le (by rw [Ll.out, hqs]; exact Nat.le_refl _)] at this
      exact this
     subst hqs
     clear NO Hd NB
     go_wp2_with fail
     clear y0 y1 y2 y3 y4 y5 y6 y7 y8 y9 y10 he h1 h1' hq
     go_loopw [7] (fun j W' => ∃ q r : Nat, q ≤ i ∧ j = .int .i64 (q : Nat) ∧ (ks.take q).any (fun a => a.k.name == l) = false ∧ W' = w1.drewN r) (fun j _ => i - (intOf j).toNat)
     case atStart => exact ⟨0, 0, Nat.zero_le _, rfl, by simp, rfl⟩
     case round =>
      obtain ⟨q, r, hq, rfl, hany, rfl⟩ := hrel
      have An : Hid ((ks.take q).any (fun a => a.k.name == l) = false) := hany
      clear hany
      have kr : Below w1.heap.size w1 (w1.drewN r) := _root_.Go.below_drewN (Below.refl _ _) _
      have B2 : Hid (Below w.heap.size w (w1.drewN r)) := B1.out.trans (kr.mono B1.out.size)
      have Y2 : Hid (Kc (w1.drewN r) ⟨w.heap.size, 0, none⟩ ⟨kb, n0, n1, n2, n3, n4, n5, n6, n7, kf, kt⟩) := X1.out.below kr X1.out.lt
      have Qr : Hid (∀ n, (w1.drewN r).drewN n = w1.drewN (r + n)) := fun n => by rw [World.drewN_drewN]
      generalize w1.drewN r = w2 at *
      have y0 : w2.cell? ⟨w.heap.size, 0, none⟩ = some (.string kb) := Y2.out.c0
      by_cases hqi : q = i
      ·have R1 : Hid (R = Kd.numsFault [n0, n1, n2, n3, n4, n5, n6, n7]) := by
        unfold Hid
        rw [← HR.out]
        unfold Kd.kindFault
        rw [Kn.out, if_pos Ok.out, List.any_map, if_neg, Km.out]
        have := An.out
        rw [hqi] at this
        intro h9
        rw [show ((fun a : Kd.K => a.name == l) ∘ KV.k) = fun a : KV => a.k.name == l from rfl, this] at h9
        cases h9
       subst hqi
       obtain ⟨x0, x1, x2, x3, x4, x5, x6, x7, x8, x9, x10⟩ := Y2.out
       have x1 : w2.cell? ⟨w.heap.size, 1, none⟩ = some (.int .i64 n0) := x1
       have x2 : w2.cell? ⟨w.heap.size, 2, none⟩ = some (.int .i64 n1) := x2
       have x3 : w2.cell? ⟨w.heap.size, 3, none⟩ = some (.int .i64 n2) := x3
       have x4 : w2.cell? ⟨w.heap.size, 4, none⟩ = some (.int .i64 n3) := x4
       have x5 : w2.cell? ⟨w.heap.size, 5, none⟩ = some (.int .i64 n4) := x5
       have x6 : w2.cell? ⟨w.heap.size, 6, none⟩ = some (.int .i64 n5) := x6
       have x7 : w2.cell? ⟨w.heap.size, 7, none⟩ = some (.int .i64 n6) := x7
       have x8 : w2.cell? ⟨w.heap.size, 8, none⟩ = some (.int .i64 n7) := x8
       have x9 : w2.cell? ⟨w.heap.size, 9, none⟩ = some (.bool kf) := x9
       have x10 : w2.cell? ⟨w.heap.size, 10, none⟩ = some (.bool kt) := x10
       go_wp2_with fail
       refine (ref_numbers ⟨kb, n0, n1, n2, n3, n4, n5, n6, n7, kf, kt⟩ _).mono ?_
       rintro e w3 ⟨u, rfl, hu, k3⟩
       have B3 : Hid (Below w.heap.size w w3) := B2.out.trans (k3.mono B2.out.size)
       have Y3 := Y2.out.below k3 Y2.out.lt
       obtain ⟨au, cu, rfl, g1, g2, hc⟩ := hu
       obtain ⟨yu, rfl, -, hyu⟩ := hc (by simp)
       have Yu : Hid (∀ (j : Nat) d, [n0, n1, n2, n3, n4, n5, n6, n7][j]? = some d → w3.cell? (yu.add j) = some (.int .i64 d)) := hyu
       clear k3 hc hyu x0 x1 x2 x3 x4 x5 x6 x7 x8 x9 x10 y0 An
       obtain ⟨ns, hns⟩ : ∃ ns, [n0, n1, n2, n3, n4, n5, n6, n7] = ns := ⟨_, rfl⟩
       have Hns : Hid ([n0, n1, n2, n3, n4, n5, n6, n7] = ns) := hns
       simp only [List.length_cons, List.length_nil, Nat.zero_add, Nat.reduceAdd] at g1 ⊢
       rw [hns] at R1 Yu
       have nl : Hid (ns.length = 8) := by rw [← hns]; rfl
       clear hns
       go_wp2_with fail
       go_loop [9] (fun j => ∃ p : Nat, p ≤ 8 ∧ j = .int .i64 (p : Nat) ∧ (ns.take p).any (fun x => decide (x < 0 ∨ 1000 < x)) = false) (fun j => 8 - (intOf j).toNat)
       case atStart => exact ⟨0, Nat.zero_le _, rfl, by simp⟩
       case round =>
        obtain ⟨p, hp, rfl, hany⟩ := hrel
        have An : Hid ((ns.take p).any (fun x => decide (x < 0 ∨ 1000 < x)) = false) := hany
        clear hany
        by_cases hp8 : p = 8
        ·have R2 : Hid (R = if n0 < 1 ∨ 4 < n4 ∨ 12 < n2 ∨ 12 < n3 then 1 else 0) := by
          have h9 := An.out
          rw [List.take_of_length_le (by rw [nl.out, hp8]; exact Nat.le_refl _)] at h9
          unfold Hid
          rw [R1.out]
          unfold Kd.numsFault
          rw [if_neg (by rw [h9]; decide), ← Hns.out]
          rfl
         have z1 : w3.cell? ⟨w.heap.size, 1, none⟩ = some (.int .i64 n0) := Y3.c1
         have z3 : w3.cell? ⟨w.heap.size, 3, none⟩ = some (.int .i64 n2) := Y3.c3
         have z4 : w3.cell? ⟨w.heap.size, 4, none⟩ = some (.int .i64 n3) := Y3.c4
         have z5 : w3.cell? ⟨w.heap.size, 5, none⟩ = some (.int .i64 n4) := Y3.c5
         subst hp8
         clear R1 An Y3
         by_cases t1 : n0 < 1
         ·have E : Hid (R = 1) := by unfold Hid; rw [R2.out, if_pos (.inl t1)]
          go_wp2
          go_ret
          exact ⟨by rw [E.out]; rfl, B3⟩
         ·by_cases t2 : 4 < n4
          ·have E : Hid (R = 1) := by unfold Hid; rw [R2.out, if_pos (.inr (.inl t2))]
           go_wp2
           go_ret
           exact ⟨by rw [E.out]; rfl, B3⟩
          ·by_cases t3 : 12 < n2
           ·have E : Hid (R = 1) := by unfold Hid; rw [R2.out, if_pos (.inr (.inr (.inl t3)))]
            go_wp2
            go_ret
            exact ⟨by rw [E.out]; rfl, B3⟩
           ·by_cases t4 : 12 < n3
            ·have E : Hid (R = 1) := by unfold Hid; rw [R2.out, if_pos (.inr (.inr (.inr t4)))]
             go_wp2
             go_ret
             exact ⟨by rw [E.out]; rfl, B3⟩
            ·have E : Hid (R = 0) := by unfold Hid; rw [R2.out, if_neg (by omega)]
             go_wp2
             go_ret
             exact ⟨by rw [E.out]; rfl, B3⟩
        ·have hpn : p < ns.length := by rw [nl.out]; omega
         have hp9 : p < 8 := by omega
         have cp := Yu.out p _ (List.getElem?_eq_getElem hpn)
         have As : Hid ((ns.take (p + 1)).any (fun x => decide (x < 0 ∨ 1000 < x)) = decide (ns[p] < 0 ∨ 1000 < ns[p])) := by
          unfold Hid
          rw [List.take_succ_eq_append_getElem hpn, List.any_append, An.out]
          simp
         have N2 : Hid ((ns[p] < 0 ∨ 1000 < ns[p]) → R = 1) := fun h => by
          rw [R1.out]
          unfold Kd.numsFault
          rw [if_pos]
          rw [List.any_eq_true]
          exact ⟨_, List.getElem_mem hpn, decide_eq_true h⟩
         generalize ns[p] = y at *
         by_cases t1 : y < 0
         ·have E : Hid (R = 1) := N2.out (.inl t1)
          clear N2 As
          go_wp2
          go_ret
          exact ⟨by rw [E.out]; rfl, B3⟩
         ·by_cases t2 : 1000 < y
          ·have E : Hid (R = 1) := N2.out (.inr t2)
           clear N2 As
           go_wp2
           go_ret
           exact ⟨by rw [E.out]; rfl, B3⟩
          ·have As' : Hid ((ns.take (p + 1)).any (fun x => decide (x < 0 ∨ 1000 < x)) = false) := by
            unfold Hid
            rw [As.out]
            exact decide_eq_false (by omega)
           clear N2 As
           go_wp2
           go_round
           case rel => exact ⟨p + 1, by omega, by go_num, As'⟩
           case measure => simp [intOf]; omega
      ·have hqi' : q < i := by omega
       obtain ⟨kj, hkj⟩ : ∃ kj, ks[q]? = some kj := ⟨_, List.getElem?_eq_getElem (by omega)⟩
       have cj : w2.cell? (x.add (q * 11)) = some (.string kj.b) := by
        rw [B2.out.cell (p := x.add (q * 11)) (by rw [add_block]; exact Hk.out.1)]
        exact (Hk.out.2 q kj hkj).c0
       have As : Hid ((ks.take (q + 1)).any (fun a => a.k.name == l) = (kj.b.data.toList == l)) := by
        unfold Hid
        have hql : q < ks.length := by omega
        rw [List.take_succ_eq_append_getElem hql, List.any_append, An.out]
        have e : ks[q] = kj := by
         rw [List.getElem?_eq_getElem hql] at hkj
         injection hkj
        rw [e]
        simp [KV.k]
       have hqk : q < ks.length := by omega
       by_cases hE : kj.b = kb
       ·have E : Hid (R = 8) := by
         unfold Hid
         rw [← HR.out]
         unfold Kd.kindFault
         rw [Kn.out, if_pos Ok.out, List.any_map, if_pos]
         rw [List.any_eq_true]
         refine ⟨kj, ?_, by show (kj.b.data.toList == l) = true; rw [hE, Hl.out]; simp⟩
         rw [List.mem_iff_getElem?]
         exact ⟨q, by rw [List.getElem?_take, if_pos hqi']; exact hkj⟩
        rw [hE] at cj
        clear hE hkj As
        go_wp2
        go_quiet (fail)
        go_wp2
        go_ret
        exact ⟨by rw [E.out]; rfl, _root_.Go.below_drewN B2.out _⟩
       ·have As' : Hid ((ks.take (q + 1)).any (fun a => a.k.name == l) = false) := by
         unfold Hid
         rw [As.out]
         cases h9 : (kj.b.data.toList == l) with
         | false => rfl
         | true =>
          have : kj.b.data.toList = l := by simpa using h9
          exact absurd (WideShapes.bytes_inj (by rw [this, Hl.out])) hE
        have hE2 : (kj.b.toList == kb.toList) = false := by
         rw [ByteArray.toList_eq, ByteArray.toList_eq]
         cases h9 : (kj.b.data.toList == kb.data.toList) with
         | false => rfl
         | true => exact absurd (WideShapes.bytes_inj (by simpa using h9)) hE
        clear As hkj
        generalize kj.b = jb at *
        go_wp2
        go_quiet (fail)
        go_wp2
        go_round
        case rel => exact ⟨q + 1, r + nq, by omega, by go_num, As', Qr.out _⟩
        case measure => simp [intOf]; omega
    ·have hqs' : q < kb.size := by omega
     have hql : q < l.length := by rw [Ll.out]; exact hqs'
     have eb : l[q] = kb[q] := by
      have := Hl.out
      subst this
      rfl
     have TK : Hid (l.take (q + 1) = l.take q ++ [kb[q]]) := by unfold Hid; rw [List.take_succ_eq_append_getElem hql, eb]
     have MB : Hid (kb[q] ∈ l) := by unfold Hid; rw [← eb]; exact List.getElem_mem hql
     have N2 : Hid (Kd.isLetter kb[q] = false → R = 2) := fun h => NB.out (by
      rw [NO.out]
      cases ha : l.all Kd.isLetter with
      | false => rfl
      | true =>
       have := List.all_eq_true.1 ha _ MB.out
       rw [h] at this
       cases this)
     have DS : Hid (Kd.isLetter kb[q] = true → (l.take (q + 1)).all Kd.isLetter = true) := fun h => by rw [TK.out, List.all_append, Hd.out]; simpa using h
     have Db : Hid (Kd.isLetter kb[q] = (decide (97 ≤ kb[q].toNat) && decide (kb[q].toNat ≤ 122))) := rfl
     obtain ⟨b, hb9⟩ : ∃ b, kb[q].toNat = b := ⟨_, rfl⟩
     rw [hb9] at Db
     clear eb hql MB TK
     by_cases p1 : b < 97
     ·have E : Hid (R = 2) := N2.out (by rw [Db.out, decide_eq_false (by omega)]; rfl)
      have p1' : (b : Int) < 97 := by omega
      clear N2 Db DS
      go_wp2
      go_ret
      exact ⟨by rw [E.out]; rfl, B1⟩
     ·have p1' : ¬ (b : Int) < 97 := by omega
      by_cases p2 : 122 < b
      ·have E : Hid (R = 2) := N2.out (by rw [Db.out, decide_eq_false (show ¬ b ≤ 122 by omega), Bool.and_false])
       have p2' : (122 : Int) < (b : Int) := by omega
       clear N2 Db DS
       go_wp2
       go_ret
       exact ⟨by rw [E.out]; rfl, B1⟩
      ·have p2' : ¬ (122 : Int) < (b : Int) := by omega
       have DD : Hid ((l.take (q + 1)).all Kd.isLetter = true) := DS.out (by rw [Db.out, decide_eq_true (by omega), decide_eq_true (by omega)]; rfl)
       clear N2 Db DS
       go_wp2
       go_round
       case rel => exact ⟨q + 1, by omega, by go_num, DD⟩
       case measure => simp [intOf]; omega
end Go.Proofs.YteieikgkmfglaaaGreatDoor
namespace Go.Proofs.YteieikgkmfglaaaGreatDoor
open Go.RowKit
set_option linter.unusedVariables false
theorem kindsGo_at {ks : List KV} {i : Nat} {k : KV} (h : ks[i]? = some k) : Kd.kindsGo ((ks.take i).map KV.k) ((ks.drop i).map KV.k) = if Kd.kindFault ((ks.take i).map KV.k) k.k = 0 then Kd.kindsGo ((ks.take (i + 1)).map KV.k) ((ks.drop (i + 1)).map KV.k) else Kd.kindFault ((ks.take i).map KV.k) k.k := by
 obtain ⟨hi, e⟩ := List.getElem?_eq_some_iff.1 h
 rw [List.drop_eq_getElem_cons hi, e, List.map_cons, Kd.kindsGo, List.take_succ_eq_append_getElem hi, e, List.map_append]
 rfl
set_option maxHeartbeats 1000000 in
theorem ref_kinds (v : Value) (ks : List KV) (w : World) (h : Kl w v ks) (hb : ∀ k ∈ ks, k.b.size ≤ 9223372036854775807) :
  Calls Tryz.prog 25 #[v] w fun e w' => e = .returned (.int .i64 (Kd.kindsFault (ks.map KV.k))) ∧ Below w.heap.size w w' := by
 have K0 : Hid (Kl w v ks) := h
 have Hb : Hid (∀ k ∈ ks, k.b.size ≤ 9223372036854775807) := hb
 obtain ⟨R, hR⟩ : ∃ R, Kd.kindsFault (ks.map KV.k) = R := ⟨_, rfl⟩
 have HR : Hid (Kd.kindsFault (ks.map KV.k) = R) := hR
 rw [hR]
 clear hR hb
 obtain ⟨a, c, rfl, c1, c2, -⟩ := h
 by_cases h8 : 8 < ks.length
 ·have E : Hid (R = 4) := by unfold Hid; rw [← HR.out]; unfold Kd.kindsFault; rw [if_pos (by simpa using h8)]
  have h8' : (8 : Int) < (ks.length : Int) := by omega
  go_enter Tryz.func25, Tryz.ntmps25
  go_wp2
  go_ret
  exact ⟨by rw [E.out]; rfl, Below.refl _ _⟩
 ·have h8' : ¬ (8 : Int) < (ks.length : Int) := by omega
  have R1 : Hid (Kd.kindsGo [] (ks.map KV.k) = R) := by unfold Hid; rw [← HR.out]; unfold Kd.kindsFault; rw [if_neg (by simpa using h8)]
  go_enter Tryz.func25, Tryz.ntmps25
  go_wp2_with fail
  go_loopw [3] (fun j W' => ∃ q : Nat, q ≤ ks.length ∧ j = .int .i64 (q : Nat) ∧ Kd.kindsGo ((ks.take q).map KV.k) ((ks.drop q).map KV.k) = R ∧ Below w.heap.size w W') (fun j _ => ks.length - (intOf j).toNat)
  case atStart => exact ⟨0, Nat.zero_le _, rfl, R1, Below.refl _ _⟩
  case round =>
   obtain ⟨q, hq, rfl, hg, hb⟩ := hrel
   have Gq : Hid (Kd.kindsGo ((ks.take q).map KV.k) ((ks.drop q).map KV.k) = R) := hg
   have B : Hid (Below w.heap.size w wr) := hb
   clear hg hb
   by_cases hql : q = ks.length
   ·have E : Hid (R = 0) := by
     unfold Hid
     rw [← Gq.out, hql, List.drop_of_length_le (Nat.le_refl _)]
     rfl
    subst hql
    go_wp2
    go_ret
    exact ⟨by rw [E.out]; rfl, B⟩
   ·have hqk : q < ks.length := by omega
    obtain ⟨k, hk⟩ : ∃ k, ks[q]? = some k := ⟨_, List.getElem?_eq_getElem hqk⟩
    have At : Hid (R = if Kd.kindFault ((ks.take q).map KV.k) k.k = 0 then Kd.kindsGo ((ks.take (q + 1)).map KV.k) ((ks.drop (q + 1)).map KV.k) else Kd.kindFault ((ks.take q).map KV.k) k.k) := by
     unfold Hid
     rw [← kindsGo_at hk]
     exact Gq.out.symm
    have CK := ref_kind (.slice a ks.length c) ks q k wr (K0.out.below B.out) hk (by omega) (Hb.out k (List.mem_of_getElem? hk))
    generalize Kd.kindFault ((ks.take q).map KV.k) k.k = F at *
    have CK' : Hid (Calls Tryz.prog 52 #[.slice a ks.length c, .int .i64 (q : Nat)] wr fun e w' => e = .returned (.int .i64 F) ∧ Below wr.heap.size wr w') := CK
    clear CK hk
    go_wp2_with fail
    refine Calls.mono CK'.out ?_
    rintro e w2 ⟨rfl, k2⟩
    have B2 : Hid (Below w.heap.size w w2) := B.out.trans (k2.mono B.out.size)
    clear k2 CK'
    by_cases hF : F = 0
    ·have G2 : Hid (Kd.kindsGo ((ks.take (q + 1)).map KV.k) ((ks.drop (q + 1)).map KV.k) = R) := by
      unfold Hid
      have := At.out
      rw [if_pos hF] at this
      exact this.symm
     subst hF
     clear At
     go_wp2
     go_round
     case rel => exact ⟨q + 1, by omega, by go_num, G2, B2⟩
     case measure => simp [intOf]; omega
    ·have E : Hid (R = F) := by
      unfold Hid
      have := At.out
      rw [if_neg hF] at this
      exact this
     clear At
     go_wp2
     go_ret
     exact ⟨by rw [E.out]; rfl, B2⟩
end Go.Proofs.YteieikgkmfglaaaGreatDoor
namespace Go.Proofs.YteieikgkmfglaaaGreatDoor
open Go.RowKit
set_option linter.unusedVariables false
theorem ret_int {k : IntKind} {a b : Int} (h : a = b) : Ending.returned (.int k a) = .returned (.int k b) := by rw [h]
set_option maxHeartbeats 1000000 in
theorem ref_cells (a b : Option Addr) (c d : Nat) (W H : Int) (gs os : List Int) (w : World) (w1 : 1 ≤ W) (w2 : W ≤ 12) (h1 : 1 ≤ H) (h2 : H ≤ 12) (hg : (gs.length : Int) = W * H) (ho : (os.length : Int) = W * H)
  (c1 : gs.length ≤ c) (c2 : c ≤ 9223372036854775807) (d1 : os.length ≤ d) (d2 : d ≤ 9223372036854775807) (ha : Cells w a gs) (hb : Cells w b os) :
  Calls Tryz.prog 26 #[.agg #[.int .i64 W, .int .i64 H, .slice a gs.length c, .slice b os.length d]] w fun e w' => e = .returned (.int .i64 (Fd.cellsFault gs os)) ∧ Below w.heap.size w w' := by
 have Ha : Hid (Cells w a gs) := ha
 have Hb : Hid (Cells w b os) := hb
 have hn : W * H ≤ 144 := by
  have := Int.mul_le_mul w2 h2 (by omega) (by omega)
  omega
 have Ho : Hid (os.length = gs.length) := by unfold Hid; omega
 have e1 : W * H = (gs.length : Int) := by omega
 have e2 : os.length = gs.length := Ho.out
 have hnn : gs.length ≤ 144 := by omega
 clear ha hb
 rw [e2] at d1 ⊢
 clear hg ho e2
 generalize hw0 : w.alloc (Obj.cells #[.int .i64 W, .int .i64 H, .slice a gs.length c, .slice b gs.length d] 25) = w0
 have B0 : Hid (Below w.heap.size w w0) := by rw [← hw0]; exact (Below.refl _ _).alloc (Nat.le_refl _) _
 have f0 : w0.cell? ⟨w.heap.size, 2, none⟩ = some (.slice a gs.length c) := by rw [← hw0]; simp
 have f1 : w0.cell? ⟨w.heap.size, 3, none⟩ = some (.slice b gs.length d) := by rw [← hw0]; simp
 have Hw : Hid (w.alloc (Obj.cells #[.int .i64 W, .int .i64 H, .slice a gs.length c, .slice b gs.length d] 25) = w0) := hw0
 clear hw0
 have Ca : Hid (Cells w0 a gs) := Ha.out.below B0.out
 have Cb : Hid (Cells w0 b os) := Hb.out.below B0.out
 clear Ha Hb
 go_enter Tryz.func26, Tryz.ntmps26
 go_wp2_with fail
 rw [Hw.out]
 go_loop [3] (fun i => ∃ (k : Nat), k ≤ gs.length ∧ i = .int .i64 (k : Nat) ∧ Fd.cellsFault (gs.drop k) (os.drop k) = Fd.cellsFault gs os) (fun i => gs.length - (intOf i).toNat)
 case atStart => exact ⟨0, Nat.zero_le _, rfl, by simp⟩
 case round =>
  obtain ⟨k, hk, rfl, hf⟩ := hrel
  have Hf : Hid (Fd.cellsFault (gs.drop k) (os.drop k) = Fd.cellsFault gs os) := hf
  clear hf
  by_cases h0 : k = gs.length
  ·subst h0
   go_wp2
   go_ret
   refine ⟨?_, B0.out⟩
   rw [← Hf.out, List.drop_of_length_le (Nat.le_refl _)]
   rfl
  ·have hkx : k < gs.length := by omega
   have hky : k < os.length := by rw [Ho.out]; exact hkx
   obtain ⟨x, rfl, -, hx⟩ := Ca.out (by intro h; rw [h] at hkx; simp at hkx)
   obtain ⟨y, rfl, -, hy⟩ := Cb.out (by intro h; rw [h] at hky; simp at hky)
   have cx := hx k gs[k] (List.getElem?_eq_getElem hkx)
   have cy := hy k os[k] (List.getElem?_eq_getElem hky)
   have Te := Fd.cellsFault_drop gs os k gs[k] os[k] (List.getElem?_eq_getElem hkx) (List.getElem?_eq_getElem hky)
   rw [Hf.out] at Te
   have HT : Hid _ := Te
   generalize gs[k] = p at *
   generalize os[k] = r at *
   clear hx hy Te
   have Bad : Hid ((p < 0 ∨ 3 < p ∨ r < 0 ∨ 1000000 < r) → Fd.cellsFault gs os = 1) := fun h => by
    have e : Fd.cellFault p r = 1 := by unfold Fd.cellFault; rw [if_pos h]
    have := HT.out
    rw [e] at this
    exact this
   by_cases q1 : p < 0
   ·go_wp2
    go_ret
    exact ⟨ret_int (Bad.out (.inl q1)).symm, B0.out⟩
   ·by_cases q2 : 3 < p
    ·go_wp2
     go_ret
     exact ⟨ret_int (Bad.out (.inr (.inl q2))).symm, B0.out⟩
    ·by_cases q3 : r < 0
     ·go_wp2
      go_ret
      exact ⟨ret_int (Bad.out (.inr (.inr (.inl q3)))).symm, B0.out⟩
     ·by_cases q4 : 1000000 < r
      ·go_wp2
       go_ret
       exact ⟨ret_int (Bad.out (.inr (.inr (.inr q4)))).symm, B0.out⟩
      ·have HT2 : Hid (Fd.cellsFault gs os = if 0 < r ∧ p ≠ 0 then 7 else Fd.cellsFault (gs.drop (k + 1)) (os.drop (k + 1))) := by
        unfold Hid
        have e : Fd.cellFault p r = if 0 < r ∧ p ≠ 0 then 7 else 0 := by unfold Fd.cellFault; rw [if_neg (by omega)]
        rw [HT.out, e]
        by_cases q : 0 < r ∧ p ≠ 0
        ·rw [if_pos q, if_pos q, if_neg (show ¬ (7 : Int) = 0 by decide)]
        ·rw [if_neg q, if_neg q, if_pos rfl]
       clear HT Bad
       by_cases q5 : 0 < r
       ·by_cases q6 : p = 0
        ·subst q6
         go_wp2
         go_round
         case rel => exact ⟨k + 1, by omega, by go_num, by rw [HT2.out, if_neg (by simp)]⟩
         case measure => simp [intOf]; omega
        ·go_wp2
         go_ret
         exact ⟨ret_int (by rw [HT2.out, if_pos ⟨q5, q6⟩]), B0.out⟩
       ·go_wp2
        go_round
        case rel => exact ⟨k + 1, by omega, by go_num, by rw [HT2.out, if_neg (by omega)]⟩
        case measure => simp [intOf]; omega
set_option maxHeartbeats 1000000 in
theorem ref_range (u1 u2 : Value) (W H : Int) (w : World) (h : W < 1 ∨ 12 < W ∨ H < 1 ∨ 12 < H) :
  Calls Tryz.prog 26 #[.agg #[.int .i64 W, .int .i64 H, u1, u2]] w fun e w' => e = .returned (.int .i64 1) ∧ Below w.heap.size w w' := by
 have B : Hid (∀ o, Below w.heap.size w (w.alloc o)) := fun o => (Below.refl _ _).alloc (Nat.le_refl _) _
 by_cases q1 : W < 1
 ·go_enter Tryz.func26, Tryz.ntmps26
  go_wp2
  go_ret
  exact ⟨rfl, B.out _⟩
 ·by_cases q2 : 12 < W
  ·go_enter Tryz.func26, Tryz.ntmps26
   go_wp2
   go_ret
   exact ⟨rfl, B.out _⟩
  ·by_cases q3 : H < 1
   ·go_enter Tryz.func26, Tryz.ntmps26
    go_wp2
    go_ret
    exact ⟨rfl, B.out _⟩
   ·have q4 : 12 < H := by omega
    clear h
    go_enter Tryz.func26, Tryz.ntmps26
    go_wp2
    go_ret
    exact ⟨rfl, B.out _⟩
set_option maxHeartbeats 1000000 in
theorem ref_shape (a b : Option Addr) (n m c d : Nat) (W H : Int) (w : World) (w1 : 1 ≤ W) (w2 : W ≤ 12) (h1 : 1 ≤ H) (h2 : H ≤ 12) (h : (n : Int) ≠ W * H ∨ (m : Int) ≠ W * H) :
  Calls Tryz.prog 26 #[.agg #[.int .i64 W, .int .i64 H, .slice a n c, .slice b m d]] w fun e w' => e = .returned (.int .i64 3) ∧ Below w.heap.size w w' := by
 have hn : W * H ≤ 144 := by
  have := Int.mul_le_mul w2 h2 (by omega) (by omega)
  omega
 have hp : 0 ≤ W * H := Int.mul_nonneg (by omega) (by omega)
 by_cases e : (n : Int) = W * H
 ·have e2 : ¬ (m : Int) = W * H := by omega
  have e' : W * H = (n : Int) := e.symm
  rw [e'] at e2
  clear h e
  go_enter Tryz.func26, Tryz.ntmps26
  go_wp2
  go_ret
  exact ⟨rfl, (Below.refl _ _).alloc (Nat.le_refl _) _⟩
 ·clear h
  go_enter Tryz.func26, Tryz.ntmps26
  go_wp2
  go_ret
  exact ⟨rfl, (Below.refl _ _).alloc (Nat.le_refl _) _⟩
/-- what the reference says of a field. -/
theorem ref_field (v : Value) (W H : Int) (gs os : List Int) (w : World) (h : Fl w v W H gs os) :
  Calls Tryz.prog 26 #[v] w fun e w' => e = .returned (.int .i64 (Fd.fault W H gs os)) ∧ Below w.heap.size w w' := by
 obtain ⟨u1, u2, rfl, ⟨a, c, rfl, c1, c2, ca⟩, ⟨b, d, rfl, d1, d2, cb⟩⟩ := h
 unfold Fd.fault
 by_cases h1 : W < 1 ∨ 12 < W ∨ H < 1 ∨ 12 < H
 ·rw [if_pos h1]
  exact ref_range _ _ W H w h1
 ·rw [if_neg h1]
  by_cases h2 : (gs.length : Int) ≠ W * H ∨ (os.length : Int) ≠ W * H
  ·rw [if_pos h2]
   exact ref_shape _ _ _ _ _ _ W H w (by omega) (by omega) (by omega) (by omega) h2
  ·rw [if_neg h2]
   exact ref_cells a b c d W H gs os w (by omega) (by omega) (by omega) (by omega) (by omega) (by omega) c1 c2 d1 d2 ca cb
end Go.Proofs.YteieikgkmfglaaaGreatDoor
