/- WorksDo: the walk. · The package variable of the four sides, as it is laid. -/
import Derived.Test.YteieikgkmfglaaaGreatDoorZWorksDo7
import Derived.Test.YteieikgkmfglaaaGreatDoorZWorksDo11
import Derived.Test.YteieikgkmfglaaaGreatDoorZWorksDo5
import Derived.Test.YteieikgkmfglaaaGreatDoorZWorksDo12
import Derived.Test.YteieikgkmfglaaaGreatDoorZWorksDo13
import Derived.Test.YteieikgkmfglaaaGreatDoorZWorksDo14
import Derived.Deep.CutBlock
import Derived.ProofKit
import Derived.OpenShut
import Derived.ChangeSame
import Derived.FnData
import Derived.LaidLaws
namespace Go.Proofs.YteieikgkmfglaaaGreatDoor.worksDo
open Go.RowKit
set_option linter.unusedVariables false
/-- in block z there is the world Q. -/
def WB (V : World) (z : Nat) (Q : WV) : Prop := ∃ g1 l1 g2 l2 g3 l3 g4 l4 g5 l5, Wx V z (.int .i64 Q.turn) (.int .i64 Q.next) (.int .i64 Q.wide) (.int .i64 Q.high) (.slice g1 Q.gs.length l1) (.slice g2 Q.os.length l2) (.slice g3 Q.gold.length l3) (.slice g4 Q.us.length l4) (.slice g5 Q.qs.length l5) ∧ Wl V (.agg #[.int .i64 Q.turn, .int .i64 Q.next, .int .i64 Q.wide, .int .i64 Q.high, .slice g1 Q.gs.length l1, .slice g2 Q.os.length l2, .slice g3 Q.gold.length l3, .slice g4 Q.us.length l4, .slice g5 Q.qs.length l5]) Q
theorem WB.below {W V : World} {z : Nat} {Q : WV} (h : WB W z Q) (hb : Below W.heap.size W V) : WB V z Q := by
 obtain ⟨g1, l1, g2, l2, g3, l3, g4, l4, g5, l5, h1, h2⟩ := h
 exact ⟨g1, l1, g2, l2, g3, l3, g4, l4, g5, l5, h1.below hb h1.lt, h2.below hb⟩
/-- what is wanted: of digging, of training. -/
def Wish (ks : List KV) (X : WV) (f : Int) (D : WV) (de : List EvV) (T : WV) (te : List EvV) : Prop :=
 (f ≠ 0 → D = WV.zero ∧ de = [] ∧ T = WV.zero ∧ te = []) ∧ (f = 0 → ∃ Wn Hn : Nat, X.wide = (Wn : Nat) ∧ X.high = (Hn : Nat) ∧ D = dug ks Wn Hn X ∧ de = dugEv ks Wn Hn X ∧ ∃ Y qs, Tr ks X X.qs.length Y te qs ∧ T = { Y with qs := qs })
theorem dig_is {ks : List KV} {X D T : WV} {f : Int} {de te : List EvV} {w w' : World} {v ev : Value} (hf : Wd.wfault ks X = f) (h : Wish ks X f D de T te) (hy : DigSays ks X w w' v ev) : Wl w' v D ∧ Evl w' ev de := by
 rcases hy with ⟨h1, rfl, rfl⟩ | ⟨h1, Wn, Hn, h2, h3, -, h4, h5⟩
 ·obtain ⟨rfl, rfl, -⟩ := h.1 (by rw [← hf]; exact h1)
  exact ⟨(zero_wo w' 0).l, (Evo.nil w' 0).l⟩
 ·obtain ⟨Wm, Hm, g2, g3, rfl, rfl, -⟩ := h.2 (by rw [← hf]; exact h1)
  obtain rfl : Wn = Wm := by omega
  obtain rfl : Hn = Hm := by omega
  exact ⟨h4.l, h5.l⟩
theorem train_is {ks : List KV} {X D T : WV} {f : Int} {de te : List EvV} {w w' : World} {v ev : Value} (hf : Wd.wfault ks X = f) (h : Wish ks X f D de T te) (hy : TrainSays ks X w w' v ev) : Wl w' v T ∧ Evl w' ev te := by
 rcases hy with ⟨h1, rfl, rfl⟩ | ⟨h1, Y, es, qs, h2, h4, h5⟩
 ·obtain ⟨-, -, rfl, rfl⟩ := h.1 (by rw [← hf]; exact h1)
  exact ⟨(zero_wo w' 0).l, (Evo.nil w' 0).l⟩
 ·obtain ⟨-, -, -, -, -, -, Y', qs', g2, rfl⟩ := h.2 (by rw [← hf]; exact h1)
  obtain ⟨rfl, rfl, rfl⟩ := tr_uniq h2 g2
  exact ⟨h4.l, h5.l⟩
set_option maxRecDepth 100000 in
set_option maxHeartbeats 64000000 in
theorem walk (vk : Value) (ks : List KV) (vw : Value) (X : WV) (unit kind : Int) (w : World)
  (h0 : Kl w vk ks ∧ ∀ k ∈ ks, k.b.size ≤ maxLen) (h1 : Wl w vw X ∧ ∀ n ∈ Wd.nums X, Wd.In64 n) (hg : Et w) (hsd : Sd w) :
  Calls Tryz.prog 3 #[vk, vw, .int .i64 unit, .int .i64 kind] w fun e w' => e = .returned (.bool true) ∧ Below w.heap.size w w' := by
 have K : Hid (Kl w vk ks ∧ ∀ k ∈ ks, k.b.size ≤ 9223372036854775807) := ⟨h0.1, fun k hk => by have := h0.2 k hk; unfold maxLen at this; omega⟩
 have H : Hid (Wl w vw X) := h1.1
 have HG : Hid (Et w) := hg
 have SDH : Hid (Sd w) := hsd
 obtain ⟨p1, q1, p2, q2, p3, q3, p4, q4, p5, q5, rfl⟩ := wl_shape9 h1.1
 obtain ⟨pk, qk, rfl, ck1, ck2, -⟩ := h0.1
 clear h0 h1 hg hsd
 go_enter Tryz.func3, Tryz.ntmps3
 go_upto_region 1 with fail
 have B0 : Hid (Below w.heap.size w (w.alloc (Obj.cells #[.int .i64 X.turn, .int .i64 X.next, .int .i64 X.wide, .int .i64 X.high, .slice p1 X.gs.length q1, .slice p2 X.os.length q2, .slice p3 X.gold.length q3, .slice p4 X.us.length q4, .slice p5 X.qs.length q5] 29))) := (Below.refl _ _).alloc (Nat.le_refl _) _
 have X0 : Hid (Bw (w.alloc (Obj.cells #[.int .i64 X.turn, .int .i64 X.next, .int .i64 X.wide, .int .i64 X.high, .slice p1 X.gs.length q1, .slice p2 X.os.length q2, .slice p3 X.gold.length q3, .slice p4 X.us.length q4, .slice p5 X.qs.length q5] 29)) w.heap.size X (.slice p1 X.gs.length q1) (.slice p2 X.os.length q2) (.slice p3 X.gold.length q3) (.slice p4 X.us.length q4) (.slice p5 X.qs.length q5)) := Bw.mk' (w := w) X _ _ _ _ _ rfl
 generalize (w.alloc (Obj.cells #[.int .i64 X.turn, .int .i64 X.next, .int .i64 X.wide, .int .i64 X.high, .slice p1 X.gs.length q1, .slice p2 X.os.length q2, .slice p3 X.gold.length q3, .slice p4 X.us.length q4, .slice p5 X.qs.length q5] 29)) = w0 at *
 obtain ⟨x0, x1, x2, x3, x4, x5, x6, x7, x8⟩ := X0.out
 go_wp2_with fail
 refine (rcheck_any _ _ ks X w0 (K.out.1.below B0.out) K.out.2 (H.out.below B0.out)).mono ?_
 rintro e w1 ⟨f, rfl, hf, hb⟩
 have HF : Hid (Wd.wfault ks X = f) := hf.symm
 have B1 : Hid (Below w.heap.size w w1) := B0.out.trans (hb.mono B0.out.size)
 have X1 : Hid (Bw w1 w.heap.size X (.slice p1 X.gs.length q1) (.slice p2 X.os.length q2) (.slice p3 X.gold.length q3) (.slice p4 X.us.length q4) (.slice p5 X.qs.length q5)) := X0.out.below hb X0.out.lt
 clear hf hb X0 B0 x0 x1 x2 x3 x4 x5 x6 x7 x8
 go_upto_region 4 with fail
 obtain ⟨bz, hbz⟩ : ∃ z, w1.heap.size = z := ⟨_, rfl⟩
 have BA : Hid (Below w1.heap.size w1 ((w1.alloc (Obj.cells #[.int .i64 0, .int .i64 0, .int .i64 0, .int .i64 0, .slice none 0 0, .slice none 0 0, .slice none 0 0, .slice none 0 0, .slice none 0 0] 29)).alloc (Obj.cells #[.int .i64 0, .int .i64 0, .int .i64 0, .int .i64 0, .slice none 0 0, .slice none 0 0, .slice none 0 0, .slice none 0 0, .slice none 0 0] 29))) := ((Below.refl _ _).alloc (Nat.le_refl _) _).alloc (by simp) _
 have Z2 : Hid (Wx ((w1.alloc (Obj.cells #[.int .i64 0, .int .i64 0, .int .i64 0, .int .i64 0, .slice none 0 0, .slice none 0 0, .slice none 0 0, .slice none 0 0, .slice none 0 0] 29)).alloc (Obj.cells #[.int .i64 0, .int .i64 0, .int .i64 0, .int .i64 0, .slice none 0 0, .slice none 0 0, .slice none 0 0, .slice none 0 0, .slice none 0 0] 29)) bz (.int .i64 0) (.int .i64 0) (.int .i64 0) (.int .i64 0) (.slice none 0 0) (.slice none 0 0) (.slice none 0 0) (.slice none 0 0) (.slice none 0 0)) := (Wx.new (w := w1) _ _ _ _ _ _ _ _ _ hbz).below ((Below.refl _ _).alloc (Nat.le_refl _) _) (by rw [← hbz]; simp)
 have Y2 : Hid (Wx ((w1.alloc (Obj.cells #[.int .i64 0, .int .i64 0, .int .i64 0, .int .i64 0, .slice none 0 0, .slice none 0 0, .slice none 0 0, .slice none 0 0, .slice none 0 0] 29)).alloc (Obj.cells #[.int .i64 0, .int .i64 0, .int .i64 0, .int .i64 0, .slice none 0 0, .slice none 0 0, .slice none 0 0, .slice none 0 0, .slice none 0 0] 29)) (bz + 1) (.int .i64 0) (.int .i64 0) (.int .i64 0) (.int .i64 0) (.slice none 0 0) (.slice none 0 0) (.slice none 0 0) (.slice none 0 0) (.slice none 0 0)) := Wx.new _ _ _ _ _ _ _ _ _ (by rw [← hbz]; simp)
 have N2 : Hid (((w1.alloc (Obj.cells #[.int .i64 0, .int .i64 0, .int .i64 0, .int .i64 0, .slice none 0 0, .slice none 0 0, .slice none 0 0, .slice none 0 0, .slice none 0 0] 29)).alloc (Obj.cells #[.int .i64 0, .int .i64 0, .int .i64 0, .int .i64 0, .slice none 0 0, .slice none 0 0, .slice none 0 0, .slice none 0 0, .slice none 0 0] 29)).heap.size = bz + 2) := by unfold Hid; rw [← hbz]; simp
 (try rw [hbz])
 have NZ : Hid (w.heap.size < bz) := by have := X1.out.lt; unfold Hid; omega
 generalize ((w1.alloc (Obj.cells #[.int .i64 0, .int .i64 0, .int .i64 0, .int .i64 0, .slice none 0 0, .slice none 0 0, .slice none 0 0, .slice none 0 0, .slice none 0 0] 29)).alloc (Obj.cells #[.int .i64 0, .int .i64 0, .int .i64 0, .int .i64 0, .slice none 0 0, .slice none 0 0, .slice none 0 0, .slice none 0 0, .slice none 0 0] 29)) = w2 at *
 have B2 : Hid (Below w.heap.size w w2) := B1.out.trans (BA.out.mono B1.out.size)
 have X2 : Hid (Bw w2 w.heap.size X (.slice p1 X.gs.length q1) (.slice p2 X.os.length q2) (.slice p3 X.gold.length q3) (.slice p4 X.us.length q4) (.slice p5 X.qs.length q5)) := X1.out.below BA.out X1.out.lt
 clear hbz BA B1 X1
 go_upto_if 32 with fail
 go_cut [12, 13] from 28 (fun v12 v13 V => (∃ D de T te, Wish ks X f D de T te ∧ WB V bz D ∧ WB V (bz + 1) T ∧ Evl V v12 de ∧ Evl V v13 te ∧ Below w.heap.size w V ∧ Bw V w.heap.size X (.slice p1 X.gs.length q1) (.slice p2 X.os.length q2) (.slice p3 X.gold.length q3) (.slice p4 X.us.length q4) (.slice p5 X.qs.length q5)))
 case first =>
  by_cases hf0 : f = 0
  case neg =>
   have HN : Hid (f ≠ 0) := hf0
   have hf1 : (f == 0) = false := by rw [beq_eq_false_iff_ne]; exact hf0
   go_wp2_with fail
   go_meet
   case rel => exact ⟨WV.zero, [], WV.zero, [], ⟨fun _ => ⟨rfl, rfl, rfl, rfl⟩, fun h => absurd h HN.out⟩, ⟨none, 0, none, 0, none, 0, none, 0, none, 0, Z2.out, (zero_wo w2 0).l⟩, ⟨none, 0, none, 0, none, 0, none, 0, none, 0, Y2.out, (zero_wo w2 0).l⟩, (Evo.nil w2 0).l, (Evo.nil w2 0).l, B2.out, X2.out⟩
  case pos =>
   subst hf0
   have WR : Hid (WRight ks X) := wright_of HF.out
   obtain ⟨Wn, Hn, hw1, hw2, G⟩ := WR.out.good
   have GD : Hid (X.wide = (Wn : Nat) ∧ X.high = (Hn : Nat)) := ⟨hw1, hw2⟩
   clear hw1 hw2 G
   obtain ⟨x0, x1, x2, x3, x4, x5, x6, x7, x8⟩ := X2.out
   go_wp2_with fail
   refine (rdig_any _ _ ks X Wn Hn w2 (K.out.1.below B2.out) (H.out.below B2.out) WR.out GD.out.1 GD.out.2).mono ?_
   rintro e w3 ⟨v3, ev3, rfl, hwo, hev, hb⟩
   obtain ⟨D, hD⟩ : ∃ D, dug ks Wn Hn X = D := ⟨_, rfl⟩
   obtain ⟨de, hde⟩ : ∃ l, dugEv ks Wn Hn X = l := ⟨_, rfl⟩
   rw [hD, N2.out] at hwo
   rw [hde, N2.out] at hev
   have DE : Hid (D = dug ks Wn Hn X ∧ de = dugEv ks Wn Hn X) := ⟨hD.symm, hde.symm⟩
   obtain ⟨m1, n1, m2, n2, m3, n3, m4, n4, m5, n5, hv3⟩ := wl_shape9 hwo.l
   subst hv3
   have O3 : Hid (Wo w3 (bz + 2) (.agg #[.int .i64 D.turn, .int .i64 D.next, .int .i64 D.wide, .int .i64 D.high, .slice m1 D.gs.length n1, .slice m2 D.os.length n2, .slice m3 D.gold.length n3, .slice m4 D.us.length n4, .slice m5 D.qs.length n5]) D ∧ Evo w3 (bz + 2) ev3 de) := ⟨hwo, hev⟩
   have B3 : Hid (Below w.heap.size w w3) := B2.out.trans (hb.mono B2.out.size)
   have X3 : Hid (Bw w3 w.heap.size X (.slice p1 X.gs.length q1) (.slice p2 X.os.length q2) (.slice p3 X.gold.length q3) (.slice p4 X.us.length q4) (.slice p5 X.qs.length q5)) := X2.out.below hb X2.out.lt
   have Z3 : Hid (Wx w3 bz (.int .i64 0) (.int .i64 0) (.int .i64 0) (.int .i64 0) (.slice none 0 0) (.slice none 0 0) (.slice none 0 0) (.slice none 0 0) (.slice none 0 0)) := Z2.out.below hb Z2.out.lt
   have Y3 : Hid (Wx w3 (bz + 1) (.int .i64 0) (.int .i64 0) (.int .i64 0) (.int .i64 0) (.slice none 0 0) (.slice none 0 0) (.slice none 0 0) (.slice none 0 0) (.slice none 0 0)) := Y2.out.below hb Y2.out.lt
   have S3 : Hid (bz + 2 ≤ w3.heap.size) := by unfold Hid; rw [← N2.out]; exact hb.size
   clear hb hwo hev hD hde x0 x1 x2 x3 x4 x5 x6 x7 x8 Z2 Y2 X2 B2
   obtain ⟨z0, z1, z2, z3, z4, z5, z6, z7, z8⟩ := Z3.out.cells
   obtain ⟨t0, t1, t2, t3, t4, t5, t6, t7, t8⟩ := Z3.out.thaws
   have KW : Hid (Kp (bz) w3 (((((((((w3.setCell ⟨bz, 0, none⟩ (.int .i64 D.turn)).setCell ⟨bz, 1, none⟩ (.int .i64 D.next)).setCell ⟨bz, 2, none⟩ (.int .i64 D.wide)).setCell ⟨bz, 3, none⟩ (.int .i64 D.high)).setCell ⟨bz, 4, none⟩ (.slice m1 D.gs.length n1)).setCell ⟨bz, 5, none⟩ (.slice m2 D.os.length n2)).setCell ⟨bz, 6, none⟩ (.slice m3 D.gold.length n3)).setCell ⟨bz, 7, none⟩ (.slice m4 D.us.length n4)).setCell ⟨bz, 8, none⟩ (.slice m5 D.qs.length n5))) := put_kp _ _ _ _ _ _ _ _ _ _ _
   have PX : Hid (Wx (((((((((w3.setCell ⟨bz, 0, none⟩ (.int .i64 D.turn)).setCell ⟨bz, 1, none⟩ (.int .i64 D.next)).setCell ⟨bz, 2, none⟩ (.int .i64 D.wide)).setCell ⟨bz, 3, none⟩ (.int .i64 D.high)).setCell ⟨bz, 4, none⟩ (.slice m1 D.gs.length n1)).setCell ⟨bz, 5, none⟩ (.slice m2 D.os.length n2)).setCell ⟨bz, 6, none⟩ (.slice m3 D.gold.length n3)).setCell ⟨bz, 7, none⟩ (.slice m4 D.us.length n4)).setCell ⟨bz, 8, none⟩ (.slice m5 D.qs.length n5)) (bz) (.int .i64 D.turn) (.int .i64 D.next) (.int .i64 D.wide) (.int .i64 D.high) (.slice m1 D.gs.length n1) (.slice m2 D.os.length n2) (.slice m3 D.gold.length n3) (.slice m4 D.us.length n4) (.slice m5 D.qs.length n5)) := Z3.out.put _ _ _ _ _ _ _ _ _
   go_upto_region 6 with fail
   clear z0 z1 z2 z3 z4 z5 z6 z7 z8 t0 t1 t2 t3 t4 t5 t6 t7 t8
   generalize (((((((((w3.setCell ⟨bz, 0, none⟩ (.int .i64 D.turn)).setCell ⟨bz, 1, none⟩ (.int .i64 D.next)).setCell ⟨bz, 2, none⟩ (.int .i64 D.wide)).setCell ⟨bz, 3, none⟩ (.int .i64 D.high)).setCell ⟨bz, 4, none⟩ (.slice m1 D.gs.length n1)).setCell ⟨bz, 5, none⟩ (.slice m2 D.os.length n2)).setCell ⟨bz, 6, none⟩ (.slice m3 D.gold.length n3)).setCell ⟨bz, 7, none⟩ (.slice m4 D.us.length n4)).setCell ⟨bz, 8, none⟩ (.slice m5 D.qs.length n5)) = w4 at *
   have B4 : Hid (Below w.heap.size w w4) := KW.out.below B3.out B3.out.size (Nat.le_of_lt NZ.out)
   have X4 : Hid (Bw w4 w.heap.size X (.slice p1 X.gs.length q1) (.slice p2 X.os.length q2) (.slice p3 X.gold.length q3) (.slice p4 X.us.length q4) (.slice p5 X.qs.length q5)) := X3.out.kp9 KW.out (by have := NZ.out; omega)
   have Y4 : Hid (Wx w4 (bz + 1) (.int .i64 0) (.int .i64 0) (.int .i64 0) (.int .i64 0) (.slice none 0 0) (.slice none 0 0) (.slice none 0 0) (.slice none 0 0) (.slice none 0 0)) := Y3.out.kp KW.out (by omega)
   have O4 : Hid (Wo w4 (bz + 2) (.agg #[.int .i64 D.turn, .int .i64 D.next, .int .i64 D.wide, .int .i64 D.high, .slice m1 D.gs.length n1, .slice m2 D.os.length n2, .slice m3 D.gold.length n3, .slice m4 D.us.length n4, .slice m5 D.qs.length n5]) D ∧ Evo w4 (bz + 2) ev3 de) := ⟨O3.out.1.kp KW.out (by omega), O3.out.2.kp9 KW.out (by omega)⟩
   have S4 : Hid (bz + 2 ≤ w4.heap.size) := Nat.le_trans S3.out KW.out.size
   have P4 : Hid (Wx w4 bz (.int .i64 D.turn) (.int .i64 D.next) (.int .i64 D.wide) (.int .i64 D.high) (.slice m1 D.gs.length n1) (.slice m2 D.os.length n2) (.slice m3 D.gold.length n3) (.slice m4 D.us.length n4) (.slice m5 D.qs.length n5)) := PX.out
   clear KW PX B3 X3 Z3 Y3 O3 S3
   obtain ⟨x0, x1, x2, x3, x4, x5, x6, x7, x8⟩ := X4.out
   go_wp2_with fail
   refine (rtrain_any _ _ ks X w4 (K.out.1.below B4.out) K.out.2 (H.out.below B4.out) WR.out (SDH.out.below B4.out)).mono ?_
   rintro e w5 ⟨v5, ev5, Y, te, qs, rfl, htr, hwo, hev, hb⟩
   obtain ⟨T, hT⟩ : ∃ T, ({ Y with qs := qs } : WV) = T := ⟨_, rfl⟩
   rw [hT] at hwo
   have TT : Hid (Tr ks X X.qs.length Y te qs ∧ T = { Y with qs := qs }) := ⟨htr, hT.symm⟩
   obtain ⟨s1, l1, s2, l2, s3, l3, s4, l4, s5, l5, hv5⟩ := wl_shape9 hwo.l
   subst hv5
   have O5 : Hid (Wo w5 (bz + 2) (.agg #[.int .i64 T.turn, .int .i64 T.next, .int .i64 T.wide, .int .i64 T.high, .slice s1 T.gs.length l1, .slice s2 T.os.length l2, .slice s3 T.gold.length l3, .slice s4 T.us.length l4, .slice s5 T.qs.length l5]) T ∧ Evo w5 (bz + 2) ev5 te) := ⟨hwo.mono S4.out, hev.mono S4.out⟩
   have B5 : Hid (Below w.heap.size w w5) := B4.out.trans (hb.mono B4.out.size)
   have X5 : Hid (Bw w5 w.heap.size X (.slice p1 X.gs.length q1) (.slice p2 X.os.length q2) (.slice p3 X.gold.length q3) (.slice p4 X.us.length q4) (.slice p5 X.qs.length q5)) := X4.out.below hb X4.out.lt
   have Y5 : Hid (Wx w5 (bz + 1) (.int .i64 0) (.int .i64 0) (.int .i64 0) (.int .i64 0) (.slice none 0 0) (.slice none 0 0) (.slice none 0 0) (.slice none 0 0) (.slice none 0 0)) := Y4.out.below hb Y4.out.lt
   have P5 : Hid (Wx w5 bz (.int .i64 D.turn) (.int .i64 D.next) (.int .i64 D.wide) (.int .i64 D.high) (.slice m1 D.gs.length n1) (.slice m2 D.os.length n2) (.slice m3 D.gold.length n3) (.slice m4 D.us.length n4) (.slice m5 D.qs.length n5)) := P4.out.below hb P4.out.lt
   have D5 : Hid (Wo w5 (bz + 2) (.agg #[.int .i64 D.turn, .int .i64 D.next, .int .i64 D.wide, .int .i64 D.high, .slice m1 D.gs.length n1, .slice m2 D.os.length n2, .slice m3 D.gold.length n3, .slice m4 D.us.length n4, .slice m5 D.qs.length n5]) D ∧ Evo w5 (bz + 2) ev3 de) := ⟨O4.out.1.below hb, O4.out.2.below hb⟩
   clear hb hwo hev htr hT x0 x1 x2 x3 x4 x5 x6 x7 x8 X4 Y4 P4 O4 B4 S4
   obtain ⟨z0, z1, z2, z3, z4, z5, z6, z7, z8⟩ := Y5.out.cells
   obtain ⟨t0, t1, t2, t3, t4, t5, t6, t7, t8⟩ := Y5.out.thaws
   have KW : Hid (Kp (bz + 1) w5 (((((((((w5.setCell ⟨bz + 1, 0, none⟩ (.int .i64 T.turn)).setCell ⟨bz + 1, 1, none⟩ (.int .i64 T.next)).setCell ⟨bz + 1, 2, none⟩ (.int .i64 T.wide)).setCell ⟨bz + 1, 3, none⟩ (.int .i64 T.high)).setCell ⟨bz + 1, 4, none⟩ (.slice s1 T.gs.length l1)).setCell ⟨bz + 1, 5, none⟩ (.slice s2 T.os.length l2)).setCell ⟨bz + 1, 6, none⟩ (.slice s3 T.gold.length l3)).setCell ⟨bz + 1, 7, none⟩ (.slice s4 T.us.length l4)).setCell ⟨bz + 1, 8, none⟩ (.slice s5 T.qs.length l5))) := put_kp _ _ _ _ _ _ _ _ _ _ _
   have PX : Hid (Wx (((((((((w5.setCell ⟨bz + 1, 0, none⟩ (.int .i64 T.turn)).setCell ⟨bz + 1, 1, none⟩ (.int .i64 T.next)).setCell ⟨bz + 1, 2, none⟩ (.int .i64 T.wide)).setCell ⟨bz + 1, 3, none⟩ (.int .i64 T.high)).setCell ⟨bz + 1, 4, none⟩ (.slice s1 T.gs.length l1)).setCell ⟨bz + 1, 5, none⟩ (.slice s2 T.os.length l2)).setCell ⟨bz + 1, 6, none⟩ (.slice s3 T.gold.length l3)).setCell ⟨bz + 1, 7, none⟩ (.slice s4 T.us.length l4)).setCell ⟨bz + 1, 8, none⟩ (.slice s5 T.qs.length l5)) (bz + 1) (.int .i64 T.turn) (.int .i64 T.next) (.int .i64 T.wide) (.int .i64 T.high) (.slice s1 T.gs.length l1) (.slice s2 T.os.length l2) (.slice s3 T.gold.length l3) (.slice s4 T.us.length l4) (.slice s5 T.qs.length l5)) := Y5.out.put _ _ _ _ _ _ _ _ _
   go_wp2_with fail
   clear z0 z1 z2 z3 z4 z5 z6 z7 z8 t0 t1 t2 t3 t4 t5 t6 t7 t8
   generalize (((((((((w5.setCell ⟨bz + 1, 0, none⟩ (.int .i64 T.turn)).setCell ⟨bz + 1, 1, none⟩ (.int .i64 T.next)).setCell ⟨bz + 1, 2, none⟩ (.int .i64 T.wide)).setCell ⟨bz + 1, 3, none⟩ (.int .i64 T.high)).setCell ⟨bz + 1, 4, none⟩ (.slice s1 T.gs.length l1)).setCell ⟨bz + 1, 5, none⟩ (.slice s2 T.os.length l2)).setCell ⟨bz + 1, 6, none⟩ (.slice s3 T.gold.length l3)).setCell ⟨bz + 1, 7, none⟩ (.slice s4 T.us.length l4)).setCell ⟨bz + 1, 8, none⟩ (.slice s5 T.qs.length l5)) = w6 at *
   have B6 : Hid (Below w.heap.size w w6) := KW.out.below B5.out B5.out.size (by have := NZ.out; omega)
   have X6 : Hid (Bw w6 w.heap.size X (.slice p1 X.gs.length q1) (.slice p2 X.os.length q2) (.slice p3 X.gold.length q3) (.slice p4 X.us.length q4) (.slice p5 X.qs.length q5)) := X5.out.kp9 KW.out (by have := NZ.out; omega)
   have P6 : Hid (Wx w6 bz (.int .i64 D.turn) (.int .i64 D.next) (.int .i64 D.wide) (.int .i64 D.high) (.slice m1 D.gs.length n1) (.slice m2 D.os.length n2) (.slice m3 D.gold.length n3) (.slice m4 D.us.length n4) (.slice m5 D.qs.length n5)) := P5.out.kp KW.out (by omega)
   go_meet
   case rel => exact ⟨D, de, T, te, ⟨fun h => absurd rfl h, fun _ => ⟨Wn, Hn, GD.out.1, GD.out.2, DE.out.1, DE.out.2, Y, qs, TT.out.1, TT.out.2⟩⟩, ⟨m1, n1, m2, n2, m3, n3, m4, n4, m5, n5, P6.out, (D5.out.1.kp KW.out (by omega)).l⟩, ⟨s1, l1, s2, l2, s3, l3, s4, l4, s5, l5, PX.out, (O5.out.1.kp KW.out (by omega)).l⟩, (D5.out.2.kp9 KW.out (by omega)).l, (O5.out.2.kp9 KW.out (by omega)).l, B6.out, X6.out⟩
 case rest =>
 obtain ⟨D, de, T, te, hwi, hD, hT, he1, he2, hb, hx⟩ := hcut
 have WI : Hid (Wish ks X f D de T te) := hwi
 obtain ⟨w7, hw7⟩ : ∃ V, V = wc := ⟨_, rfl⟩
 subst hw7
 have Bw7 : Hid (Below w.heap.size w w7) := hb
 have Xw7 : Hid (Bw w7 w.heap.size X (.slice p1 X.gs.length q1) (.slice p2 X.os.length q2) (.slice p3 X.gold.length q3) (.slice p4 X.us.length q4) (.slice p5 X.qs.length q5)) := hx
 have WDw7 : Hid (WB w7 bz D) := hD
 have WTw7 : Hid (WB w7 (bz + 1) T) := hT
 have E1w7 : Hid (Evl w7 u12 de) := he1
 have E2w7 : Hid (Evl w7 u13 te) := he2
 clear hwi hD hT he1 he2 hb hx Z2 Y2 B2 X2
 obtain ⟨x0, x1, x2, x3, x4, x5, x6, x7, x8⟩ := Xw7.out
 go_wp2_with fail
 refine (Dig_any _ _ ks X w7 (K.out.1.below Bw7.out) K.out.2 (H.out.below Bw7.out) (SDH.out.below Bw7.out)).mono ?_
 rintro e w8 ⟨v, ev, r, rfl, hr, hy, hb⟩
 rw [HF.out] at hr
 have ER : Hid (Er r f) := hr
 have GL : Hid (Wl w8 v D ∧ Evl w8 ev de) := dig_is HF.out WI.out hy
 have Bw8 : Hid (Below w.heap.size w w8) := Bw7.out.trans (hb.mono Bw7.out.size)
 have Xw8 : Hid (Bw w8 w.heap.size X (.slice p1 X.gs.length q1) (.slice p2 X.os.length q2) (.slice p3 X.gold.length q3) (.slice p4 X.us.length q4) (.slice p5 X.qs.length q5)) := Xw7.out.below hb Xw7.out.lt
 have WDw8 : Hid (WB w8 bz D) := WDw7.out.below hb
 have WTw8 : Hid (WB w8 (bz + 1) T) := WTw7.out.below hb
 have E1w8 : Hid (Evl w8 u12 de) := E1w7.out.below hb
 have E2w8 : Hid (Evl w8 u13 te) := E2w7.out.below hb
 obtain ⟨m1, n1, m2, n2, m3, n3, m4, n4, m5, n5, hvv⟩ := wl_shape9 GL.out.1
 subst hvv
 clear hb hr hy x0 x1 x2 x3 x4 x5 x6 x7 x8 Bw7 Xw7 WDw7 WTw7 E1w7 E2w7
 go_upto_region 8 with fail
 have BA : Hid (Below w8.heap.size w8 (w8.alloc (Obj.cells #[.int .i64 D.turn, .int .i64 D.next, .int .i64 D.wide, .int .i64 D.high, .slice m1 D.gs.length n1, .slice m2 D.os.length n2, .slice m3 D.gold.length n3, .slice m4 D.us.length n4, .slice m5 D.qs.length n5] 29))) := (Below.refl _ _).alloc (Nat.le_refl _) _
 obtain ⟨bq, hbq⟩ : ∃ z, w8.heap.size = z := ⟨_, rfl⟩
 have QX : Hid (Wx (w8.alloc (Obj.cells #[.int .i64 D.turn, .int .i64 D.next, .int .i64 D.wide, .int .i64 D.high, .slice m1 D.gs.length n1, .slice m2 D.os.length n2, .slice m3 D.gold.length n3, .slice m4 D.us.length n4, .slice m5 D.qs.length n5] 29)) bq (.int .i64 D.turn) (.int .i64 D.next) (.int .i64 D.wide) (.int .i64 D.high) (.slice m1 D.gs.length n1) (.slice m2 D.os.length n2) (.slice m3 D.gold.length n3) (.slice m4 D.us.length n4) (.slice m5 D.qs.length n5)) := Wx.new _ _ _ _ _ _ _ _ _ hbq
 rw [hbq]
 generalize w8.alloc (Obj.cells #[.int .i64 D.turn, .int .i64 D.next, .int .i64 D.wide, .int .i64 D.high, .slice m1 D.gs.length n1, .slice m2 D.os.length n2, .slice m3 D.gold.length n3, .slice m4 D.us.length n4, .slice m5 D.qs.length n5] 29) = w9 at *
 have Bw9 : Hid (Below w.heap.size w w9) := Bw8.out.trans (BA.out.mono Bw8.out.size)
 have Xw9 : Hid (Bw w9 w.heap.size X (.slice p1 X.gs.length q1) (.slice p2 X.os.length q2) (.slice p3 X.gold.length q3) (.slice p4 X.us.length q4) (.slice p5 X.qs.length q5)) := Xw8.out.below BA.out Xw8.out.lt
 have WDw9 : Hid (WB w9 bz D) := WDw8.out.below BA.out
 have WTw9 : Hid (WB w9 (bz + 1) T) := WTw8.out.below BA.out
 have E1w9 : Hid (Evl w9 u12 de) := E1w8.out.below BA.out
 have E2w9 : Hid (Evl w9 u13 te) := E2w8.out.below BA.out
 have GM : Hid (Wl w9 (.agg #[.int .i64 D.turn, .int .i64 D.next, .int .i64 D.wide, .int .i64 D.high, .slice m1 D.gs.length n1, .slice m2 D.os.length n2, .slice m3 D.gold.length n3, .slice m4 D.us.length n4, .slice m5 D.qs.length n5]) D ∧ Evl w9 ev de) := ⟨GL.out.1.below BA.out, GL.out.2.below BA.out⟩
 clear hbq BA GL Bw8 Xw8 WDw8 WTw8 E1w8 E2w8
 go_wp2_with fail
 refine (er_same _ _ w9 ER.out (HG.out.below Bw9.out)).mono ?_
 rintro e w10 ⟨rfl, hb⟩
 have Bw10 : Hid (Below w.heap.size w w10) := Bw9.out.trans (hb.mono Bw9.out.size)
 have Xw10 : Hid (Bw w10 w.heap.size X (.slice p1 X.gs.length q1) (.slice p2 X.os.length q2) (.slice p3 X.gold.length q3) (.slice p4 X.us.length q4) (.slice p5 X.qs.length q5)) := Xw9.out.below hb Xw9.out.lt
 have WDw10 : Hid (WB w10 bz D) := WDw9.out.below hb
 have WTw10 : Hid (WB w10 (bz + 1) T) := WTw9.out.below hb
 have E1w10 : Hid (Evl w10 u12 de) := E1w9.out.below hb
 have E2w10 : Hid (Evl w10 u13 te) := E2w9.out.below hb
 have GN : Hid (Wl w10 (.agg #[.int .i64 D.turn, .int .i64 D.next, .int .i64 D.wide, .int .i64 D.high, .slice m1 D.gs.length n1, .slice m2 D.os.length n2, .slice m3 D.gold.length n3, .slice m4 D.us.length n4, .slice m5 D.qs.length n5]) D ∧ Evl w10 ev de) := ⟨GM.out.1.below hb, GM.out.2.below hb⟩
 have QY : Hid (Wx w10 bq (.int .i64 D.turn) (.int .i64 D.next) (.int .i64 D.wide) (.int .i64 D.high) (.slice m1 D.gs.length n1) (.slice m2 D.os.length n2) (.slice m3 D.gold.length n3) (.slice m4 D.us.length n4) (.slice m5 D.qs.length n5)) := QX.out.below hb QX.out.lt
 clear hb GM QX ER Bw9 Xw9 WDw9 WTw9 E1w9 E2w9
 obtain ⟨c1, d1, c2, d2, c3, d3, c4, d4, c5, d5, hc1, hc2⟩ := WDw10.out
 obtain ⟨z0, z1, z2, z3, z4, z5, z6, z7, z8⟩ := hc1.cells
 obtain ⟨y0, y1, y2, y3, y4, y5, y6, y7, y8⟩ := QY.out.cells
 have HC2 : Hid (Wl w10 (.agg #[.int .i64 D.turn, .int .i64 D.next, .int .i64 D.wide, .int .i64 D.high, .slice c1 D.gs.length d1, .slice c2 D.os.length d2, .slice c3 D.gold.length d3, .slice c4 D.us.length d4, .slice c5 D.qs.length d5]) D) := hc2
 clear hc1 hc2
 go_wp2_with fail
 refine (worlds_like _ _ D w10 GN.out.1 HC2.out).mono ?_
 rintro e w11 ⟨rfl, hb⟩
 have Bw11 : Hid (Below w.heap.size w w11) := Bw10.out.trans (hb.mono Bw10.out.size)
 have Xw11 : Hid (Bw w11 w.heap.size X (.slice p1 X.gs.length q1) (.slice p2 X.os.length q2) (.slice p3 X.gold.length q3) (.slice p4 X.us.length q4) (.slice p5 X.qs.length q5)) := Xw10.out.below hb Xw10.out.lt
 have WDw11 : Hid (WB w11 bz D) := WDw10.out.below hb
 have WTw11 : Hid (WB w11 (bz + 1) T) := WTw10.out.below hb
 have E1w11 : Hid (Evl w11 u12 de) := E1w10.out.below hb
 have E2w11 : Hid (Evl w11 u13 te) := E2w10.out.below hb
 have GE : Hid (Evl w11 ev de) := GN.out.2.below hb
 clear hb GN QY HC2 z0 z1 z2 z3 z4 z5 z6 z7 z8 y0 y1 y2 y3 y4 y5 y6 y7 y8 Bw10 Xw10 WDw10 WTw10 E1w10 E2w10
 go_wp2_with fail
 refine (events_like _ _ de w11 GE.out E1w11.out).mono ?_
 rintro e w12 ⟨rfl, hb⟩
 have Bw12 : Hid (Below w.heap.size w w12) := Bw11.out.trans (hb.mono Bw11.out.size)
 have Xw12 : Hid (Bw w12 w.heap.size X (.slice p1 X.gs.length q1) (.slice p2 X.os.length q2) (.slice p3 X.gold.length q3) (.slice p4 X.us.length q4) (.slice p5 X.qs.length q5)) := Xw11.out.below hb Xw11.out.lt
 have WDw12 : Hid (WB w12 bz D) := WDw11.out.below hb
 have WTw12 : Hid (WB w12 (bz + 1) T) := WTw11.out.below hb
 have E1w12 : Hid (Evl w12 u12 de) := E1w11.out.below hb
 have E2w12 : Hid (Evl w12 u13 te) := E2w11.out.below hb
 clear hb GE Bw11 Xw11 WDw11 WTw11 E1w11 E2w11
 obtain ⟨x0, x1, x2, x3, x4, x5, x6, x7, x8⟩ := Xw12.out
 go_wp2_with fail
 refine (Train_any _ _ ks X w12 (K.out.1.below Bw12.out) K.out.2 (H.out.below Bw12.out) (SDH.out.below Bw12.out)).mono ?_
 rintro e w13 ⟨v, ev, r, rfl, hr, hy, hb⟩
 rw [HF.out] at hr
 have ER : Hid (Er r f) := hr
 have GL : Hid (Wl w13 v T ∧ Evl w13 ev te) := train_is HF.out WI.out hy
 have Bw13 : Hid (Below w.heap.size w w13) := Bw12.out.trans (hb.mono Bw12.out.size)
 have Xw13 : Hid (Bw w13 w.heap.size X (.slice p1 X.gs.length q1) (.slice p2 X.os.length q2) (.slice p3 X.gold.length q3) (.slice p4 X.us.length q4) (.slice p5 X.qs.length q5)) := Xw12.out.below hb Xw12.out.lt
 have WTw13 : Hid (WB w13 (bz + 1) T) := WTw12.out.below hb
 have E2w13 : Hid (Evl w13 u13 te) := E2w12.out.below hb
 obtain ⟨s1, l1, s2, l2, s3, l3, s4, l4, s5, l5, hvv⟩ := wl_shape9 GL.out.1
 subst hvv
 clear hb hr hy x0 x1 x2 x3 x4 x5 x6 x7 x8 Bw12 Xw12 WTw12 E2w12
 go_upto_region 12 with fail
 have BA : Hid (Below w13.heap.size w13 (w13.alloc (Obj.cells #[.int .i64 T.turn, .int .i64 T.next, .int .i64 T.wide, .int .i64 T.high, .slice s1 T.gs.length l1, .slice s2 T.os.length l2, .slice s3 T.gold.length l3, .slice s4 T.us.length l4, .slice s5 T.qs.length l5] 29))) := (Below.refl _ _).alloc (Nat.le_refl _) _
 obtain ⟨bq, hbq⟩ : ∃ z, w13.heap.size = z := ⟨_, rfl⟩
 have QX : Hid (Wx (w13.alloc (Obj.cells #[.int .i64 T.turn, .int .i64 T.next, .int .i64 T.wide, .int .i64 T.high, .slice s1 T.gs.length l1, .slice s2 T.os.length l2, .slice s3 T.gold.length l3, .slice s4 T.us.length l4, .slice s5 T.qs.length l5] 29)) bq (.int .i64 T.turn) (.int .i64 T.next) (.int .i64 T.wide) (.int .i64 T.high) (.slice s1 T.gs.length l1) (.slice s2 T.os.length l2) (.slice s3 T.gold.length l3) (.slice s4 T.us.length l4) (.slice s5 T.qs.length l5)) := Wx.new _ _ _ _ _ _ _ _ _ hbq
 rw [hbq]
 generalize w13.alloc (Obj.cells #[.int .i64 T.turn, .int .i64 T.next, .int .i64 T.wide, .int .i64 T.high, .slice s1 T.gs.length l1, .slice s2 T.os.length l2, .slice s3 T.gold.length l3, .slice s4 T.us.length l4, .slice s5 T.qs.length l5] 29) = w14 at *
 have Bw14 : Hid (Below w.heap.size w w14) := Bw13.out.trans (BA.out.mono Bw13.out.size)
 have Xw14 : Hid (Bw w14 w.heap.size X (.slice p1 X.gs.length q1) (.slice p2 X.os.length q2) (.slice p3 X.gold.length q3) (.slice p4 X.us.length q4) (.slice p5 X.qs.length q5)) := Xw13.out.below BA.out Xw13.out.lt
 have WTw14 : Hid (WB w14 (bz + 1) T) := WTw13.out.below BA.out
 have E2w14 : Hid (Evl w14 u13 te) := E2w13.out.below BA.out
 have GM : Hid (Wl w14 (.agg #[.int .i64 T.turn, .int .i64 T.next, .int .i64 T.wide, .int .i64 T.high, .slice s1 T.gs.length l1, .slice s2 T.os.length l2, .slice s3 T.gold.length l3, .slice s4 T.us.length l4, .slice s5 T.qs.length l5]) T ∧ Evl w14 ev te) := ⟨GL.out.1.below BA.out, GL.out.2.below BA.out⟩
 clear hbq BA GL Bw13 Xw13 WTw13 E2w13
 go_wp2_with fail
 refine (er_same _ _ w14 ER.out (HG.out.below Bw14.out)).mono ?_
 rintro e w15 ⟨rfl, hb⟩
 have Bw15 : Hid (Below w.heap.size w w15) := Bw14.out.trans (hb.mono Bw14.out.size)
 have Xw15 : Hid (Bw w15 w.heap.size X (.slice p1 X.gs.length q1) (.slice p2 X.os.length q2) (.slice p3 X.gold.length q3) (.slice p4 X.us.length q4) (.slice p5 X.qs.length q5)) := Xw14.out.below hb Xw14.out.lt
 have WTw15 : Hid (WB w15 (bz + 1) T) := WTw14.out.below hb
 have E2w15 : Hid (Evl w15 u13 te) := E2w14.out.below hb
 have GN : Hid (Wl w15 (.agg #[.int .i64 T.turn, .int .i64 T.next, .int .i64 T.wide, .int .i64 T.high, .slice s1 T.gs.length l1, .slice s2 T.os.length l2, .slice s3 T.gold.length l3, .slice s4 T.us.length l4, .slice s5 T.qs.length l5]) T ∧ Evl w15 ev te) := ⟨GM.out.1.below hb, GM.out.2.below hb⟩
 have QY : Hid (Wx w15 bq (.int .i64 T.turn) (.int .i64 T.next) (.int .i64 T.wide) (.int .i64 T.high) (.slice s1 T.gs.length l1) (.slice s2 T.os.length l2) (.slice s3 T.gold.length l3) (.slice s4 T.us.length l4) (.slice s5 T.qs.length l5)) := QX.out.below hb QX.out.lt
 clear hb GM QX ER Bw14 Xw14 WTw14 E2w14
 obtain ⟨c1, d1, c2, d2, c3, d3, c4, d4, c5, d5, hc1, hc2⟩ := WTw15.out
 obtain ⟨z0, z1, z2, z3, z4, z5, z6, z7, z8⟩ := hc1.cells
 obtain ⟨y0, y1, y2, y3, y4, y5, y6, y7, y8⟩ := QY.out.cells
 have HC2 : Hid (Wl w15 (.agg #[.int .i64 T.turn, .int .i64 T.next, .int .i64 T.wide, .int .i64 T.high, .slice c1 T.gs.length d1, .slice c2 T.os.length d2, .slice c3 T.gold.length d3, .slice c4 T.us.length d4, .slice c5 T.qs.length d5]) T) := hc2
 clear hc1 hc2
 go_wp2_with fail
 refine (worlds_like _ _ T w15 GN.out.1 HC2.out).mono ?_
 rintro e w16 ⟨rfl, hb⟩
 have Bw16 : Hid (Below w.heap.size w w16) := Bw15.out.trans (hb.mono Bw15.out.size)
 have Xw16 : Hid (Bw w16 w.heap.size X (.slice p1 X.gs.length q1) (.slice p2 X.os.length q2) (.slice p3 X.gold.length q3) (.slice p4 X.us.length q4) (.slice p5 X.qs.length q5)) := Xw15.out.below hb Xw15.out.lt
 have WTw16 : Hid (WB w16 (bz + 1) T) := WTw15.out.below hb
 have E2w16 : Hid (Evl w16 u13 te) := E2w15.out.below hb
 have GE : Hid (Evl w16 ev te) := GN.out.2.below hb
 clear hb GN QY HC2 z0 z1 z2 z3 z4 z5 z6 z7 z8 y0 y1 y2 y3 y4 y5 y6 y7 y8 Bw15 Xw15 WTw15 E2w15
 go_wp2_with fail
 refine (events_like _ _ te w16 GE.out E2w16.out).mono ?_
 rintro e w17 ⟨rfl, hb⟩
 have Bw17 : Hid (Below w.heap.size w w17) := Bw16.out.trans (hb.mono Bw16.out.size)
 have Xw17 : Hid (Bw w17 w.heap.size X (.slice p1 X.gs.length q1) (.slice p2 X.os.length q2) (.slice p3 X.gold.length q3) (.slice p4 X.us.length q4) (.slice p5 X.qs.length q5)) := Xw16.out.below hb Xw16.out.lt
 have WTw17 : Hid (WB w17 (bz + 1) T) := WTw16.out.below hb
 have E2w17 : Hid (Evl w17 u13 te) := E2w16.out.below hb
 clear hb GE Bw16 Xw16 WTw16 E2w16
 go_upto_if 78 with fail
 go_cut [9, 24, 25] from 28 (fun v9 v24 _ V => ∃ F c : Int, v9 = .int .i64 F ∧ v24 = .int .i64 c ∧ SpotSays ks X unit kind c F ∧ Below w.heap.size w V ∧ Bw V w.heap.size X (.slice p1 X.gs.length q1) (.slice p2 X.os.length q2) (.slice p3 X.gold.length q3) (.slice p4 X.us.length q4) (.slice p5 X.qs.length q5))
 case first =>
  by_cases hf0 : f = 0
  case neg =>
   have HN : Hid (f ≠ 0) := hf0
   have hf1 : (f == 0) = false := by rw [beq_eq_false_iff_ne]; exact hf0
   go_wp2_with fail
   go_meet
   case rel => exact ⟨f, 0, rfl, rfl, .inl ⟨by rw [HF.out]; exact HN.out, HF.out.symm, rfl⟩, Bw17.out, Xw17.out⟩
  case pos =>
  subst hf0
  have WR : Hid (WRight ks X) := wright_of HF.out
  obtain ⟨x0, x1, x2, x3, x4, x5, x6, x7, x8⟩ := Xw17.out
  go_wp2_with fail
  refine (rfind_any _ X unit w17 (H.out.below Bw17.out)).mono ?_
  rintro e w18 ⟨r, rfl, hf, hb⟩
  have B18 : Hid (Below w.heap.size w w18) := Bw17.out.trans (hb.mono Bw17.out.size)
  have X18 : Hid (Bw w18 w.heap.size X (.slice p1 X.gs.length q1) (.slice p2 X.os.length q2) (.slice p3 X.gold.length q3) (.slice p4 X.us.length q4) (.slice p5 X.qs.length q5)) := Xw17.out.below hb Xw17.out.lt
  clear hb x0 x1 x2 x3 x4 x5 x6 x7 x8
  rcases hf with ⟨rfl, hf⟩ | ⟨i, u, rfl, hi, hu, ht⟩
  ·have NF : Hid (X.us.any (fun u => u.id == unit) = false) := hf
   clear hf
   go_wp2_with fail
   go_meet
   case rel => exact ⟨6, 0, rfl, rfl, .inr (.inl ⟨HF.out, NF.out, rfl, rfl⟩), B18.out, X18.out⟩
  have FI : Hid (FstU (fun u => u.id == unit) X.us (i : Nat) ∧ X.us[i]? = some u ∧ X.us.any (fun u => u.id == unit) = true) := ⟨.inr ⟨i, u, rfl, hi, hu, ht⟩, hi, List.any_eq_true.2 ⟨u, List.mem_of_getElem? hi, hu⟩⟩
  have hil : i < X.us.length := (List.getElem?_eq_some_iff.1 hi).1
  have hii : ((i : Nat) : Int) < (X.us.length : Nat) := by omega
  clear hi hu ht
  by_cases hk : 0 ≤ kind ∧ kind < (ks.length : Int)
  case neg =>
   have HK : Hid (¬ (0 ≤ kind ∧ kind < (ks.length : Int))) := hk
   have hk2 : kind < 0 ∨ (¬ kind < 0 ∧ (ks.length : Int) ≤ kind) := by omega
   clear hk
   rcases hk2 with g1 | ⟨g1, g2⟩
   all_goals
    go_wp2_with fail
    go_meet
    case rel => exact ⟨1, 0, rfl, rfl, .inr (.inr (.inl ⟨HF.out, FI.out.2.2, HK.out, rfl, rfl⟩)), B18.out, X18.out⟩
  case pos =>
  obtain ⟨-, -, -, ⟨c0, -, F0, -, -, hsp, -⟩, -⟩ := (spot_any _ _ ks X unit kind w18 (K.out.1.below B18.out) K.out.2 (H.out.below B18.out) (SDH.out.below B18.out)) []
  have SP : Hid (SpotSays ks X unit kind c0 F0) := hsp
  obtain ⟨i', kn, Wn, Hn, an, u', k, l, s1, s2, s3, s4, s5, s6, G, s8, s9, s10, s11⟩ : ∃ (i kn Wn Hn an : Nat) (u : UnV) (k : KV) (l : List Int), FstU (fun u => u.id == unit) X.us (i : Nat) ∧ X.us[i]? = some u ∧ kind = (kn : Nat) ∧ ks[kn]? = some k ∧ X.wide = (Wn : Nat) ∧ X.high = (Hn : Nat) ∧ Fd.Good Wn Hn X.gs X.os ∧ u.at_ = (an : Nat) ∧ an < Wn * Hn
    ∧ Wy.IsFar (Fd.near Wn Hn) (fun i _ => (X.gs.map fun g => Fd.onto g k.f).getD i 0) an (Wn * Hn) l ∧ NearSays l (Wn * Hn) (freeAt X.us) c0 F0 := by
   rcases hsp with ⟨h1, -⟩ | ⟨-, h1, -⟩ | ⟨-, -, h1, -⟩ | ⟨-, h1⟩
   ·exact absurd HF.out h1
   ·rw [FI.out.2.2] at h1; cases h1
   ·exact absurd hk h1
   ·exact h1
  obtain rfl : i = i' := fstu_uniq FI.out.1 s1
  obtain rfl : u = u' := Option.some.inj (FI.out.2.1.symm.trans s2)
  obtain rfl := s3
  have SI : Hid (u.at_ = (an : Nat) ∧ an < Wn * Hn ∧ Fd.Good Wn Hn X.gs X.os ∧ X.wide = (Wn : Nat) ∧ X.high = (Hn : Nat) ∧ ks[kn]? = some k) := ⟨s8, s9, G, s5, s6, s4⟩
  have SL : Hid (Wy.IsFar (Fd.near Wn Hn) (fun i _ => (X.gs.map fun g => Fd.onto g k.f).getD i 0) an (Wn * Hn) l ∧ NearSays l (Wn * Hn) (freeAt X.us) c0 F0) := ⟨s10, s11⟩
  have g1 : ¬ ((kn : Nat) : Int) < 0 := by omega
  have g2 : ¬ (ks.length : Int) ≤ ((kn : Nat) : Int) := by omega
  have g2n : ¬ ks.length ≤ kn := by omega
  obtain ⟨pa, pc, he, -, -, hux⟩ := H.out.slices.2.2.2.1
  obtain ⟨xu, hxu, hxul, hxuc⟩ := hux (by intro h; rw [h] at hil; simp at hil)
  injection he with he1 he2 he3
  subst he1
  subst hxu
  have UC : Hid (Unc w (xu.add (i * 8)) u ∧ (xu.add (i * 8)).block < w.heap.size) := ⟨hxuc i u FI.out.2.1, by rw [add_block]; exact hxul⟩
  clear hsp s1 s2 s4 s5 s6 G s8 s9 s10 s11 hk hux hxul hxuc he2 he3 hil
  go_upto_region 22 with fail
  have CB : Hid (∀ V, Below w18.heap.size w18 V → (Bw V w.heap.size X (.slice p1 X.gs.length q1) (.slice p2 X.os.length q2) (.slice p3 X.gold.length q3) (.slice (some xu) X.us.length q4) (.slice p5 X.qs.length q5) ∧ V.cell? ⟨(xu.add (i * 8)).block, (xu.add (i * 8)).off + 3, none⟩ = some (.int .i64 (an : Nat)))) := fun V hV => by
   have h3 := (UC.out.1.below (B18.out.trans (hV.mono B18.out.size)) UC.out.2).c3
   rw [SI.out.1] at h3
   exact ⟨X18.out.below hV X18.out.lt, h3⟩
  refine wp_region_two [(true, 0), (true, 1), (true, 2), (true, 3), (true, 4), (true, 5), (true, 6), (true, 7), (true, 8), (false, 9)] [(false, 10)] (fun V => Bw V w.heap.size X (.slice p1 X.gs.length q1) (.slice p2 X.os.length q2) (.slice p3 X.gold.length q3) (.slice (some xu) X.us.length q4) (.slice p5 X.qs.length q5) ∧ V.cell? ⟨(xu.add (i * 8)).block, (xu.add (i * 8)).off + 3, none⟩ = some (.int .i64 (an : Nat))) (by kernel_rfl) (by kernel_rfl) (by kernel_rfl) (by decide +kernel) (by decide +kernel) (CB.out _ (Below.refl _ _).drew) ?_
  have D6 : Hid (Below w18.heap.size w18 { w18 with drawn := w18.drawn + 1 }) := (Below.refl _ _).drew
  generalize ({ w18 with drawn := w18.drawn + 1 } : World) = w19 at *
  refine headT_read rfl (.slice pk ks.length qk) (by go_simp) (fun V hV => by go_simp) ?_
  go_simp
  refine headT_read rfl (.agg #[.int .i64 X.turn, .int .i64 X.next, .int .i64 X.wide, .int .i64 X.high, .slice p1 X.gs.length q1, .slice p2 X.os.length q2, .slice p3 X.gold.length q3, .slice (some xu) X.us.length q4, .slice p5 X.qs.length q5]) (by go_simp) (fun V hV => by obtain ⟨hX, d2⟩ := hV; obtain ⟨x0, x1, x2, x3, x4, x5, x6, x7, x8⟩ := hX; go_simp) ?_
  go_simp
  refine headT_read rfl (.pointer (some ⟨w.heap.size, 7, none⟩)) (by go_simp) (fun V hV => by go_simp) ?_
  go_simp
  refine headT_read rfl (.slice (some xu) X.us.length q4) (by go_simp) (fun V hV => by obtain ⟨hX, d2⟩ := hV; obtain ⟨x0, x1, x2, x3, x4, x5, x6, x7, x8⟩ := hX; go_simp) ?_
  go_simp
  refine headT_read rfl (.int .i64 (i : Nat)) (by go_simp) (fun V hV => by go_simp) ?_
  go_simp
  refine headT_read rfl (.pointer (some (xu.add (i * 8)))) (by go_simp) (fun V hV => by go_simp) ?_
  go_simp
  refine headT_read rfl (.pointer (some ⟨(xu.add (i * 8)).block, (xu.add (i * 8)).off + 3, none⟩)) (by go_simp) (fun V hV => by go_simp) ?_
  go_simp
  refine headT_read rfl (.int .i64 (an : Nat)) (by go_simp) (fun V hV => by obtain ⟨hX, d2⟩ := hV; obtain ⟨x0, x1, x2, x3, x4, x5, x6, x7, x8⟩ := hX; go_simp) ?_
  go_simp
  refine headT_read rfl (.int .i64 (kn : Nat)) (by go_simp) (fun V hV => by go_simp) ?_
  go_simp
  refine headT_call rfl 15 #[.slice pk ks.length qk, .agg #[.int .i64 X.turn, .int .i64 X.next, .int .i64 X.wide, .int .i64 X.high, .slice p1 X.gs.length q1, .slice p2 X.os.length q2, .slice p3 X.gold.length q3, .slice (some xu) X.us.length q4, .slice p5 X.qs.length q5], .int .i64 (an : Nat), .int .i64 (kn : Nat)] (by go_simp) (by go_simp) ?_
  have B19 : Hid (Below w.heap.size w w19) := B18.out.trans (D6.out.mono B18.out.size)
  refine (rspot_any _ _ ks X an kn Wn Hn k l w19 (K.out.1.below B19.out) (H.out.below B19.out) SI.out.2.2.1 SI.out.2.2.2.1 SI.out.2.2.2.2.1 SI.out.2.1 SI.out.2.2.2.2.2 SL.out.1).mono ?_
  rintro e w20 ⟨rfl, hb20⟩
  have D8 : Hid (Below w18.heap.size w18 w20) := D6.out.trans (hb20.mono D6.out.size)
  obtain ⟨c, hc⟩ : ∃ c, (rsp l (freeAt X.us) (Wn * Hn)).1 = c := ⟨_, rfl⟩
  have RC := rsp_near SL.out.2
  rw [hc] at RC
  rw [hc]
  refine ⟨_, rfl, CB.out _ D8.out, ?_⟩
  go_simp
  unfold wpHeadT
  refine sched_value rfl (.int .i64 c) w20 (by go_simp) (by go_simp) trivial ?_
  go_simp
  unfold wpSched
  have B20 : Hid (Below w.heap.size w w20) := B18.out.trans (D8.out.mono B18.out.size)
  have X20 : Hid (Bw w20 w.heap.size X (.slice p1 X.gs.length q1) (.slice p2 X.os.length q2) (.slice p3 X.gold.length q3) (.slice (some xu) X.us.length q4) (.slice p5 X.qs.length q5)) := X18.out.below D8.out X18.out.lt
  clear hc hb20 D6 CB g1 g2 g2n
  rcases RC with ⟨h1, h2, rfl⟩ | ⟨h1, h2, rfl⟩
  ·have SQ : Hid (SpotSays ks X unit (kn : Nat) 0 6) := by
    have h := SP.out
    rw [h1, h2] at h
    exact h
   clear h1 h2
   go_wp2_with fail
   go_meet
   case rel => exact ⟨6, 0, rfl, rfl, SQ.out, B20.out, X20.out⟩
  ·have SQ : Hid (SpotSays ks X unit (kn : Nat) c 0) := by
    have h := SP.out
    rw [h1] at h
    exact h
   have g0 : ¬ c < 0 := by omega
   clear h1 h2
   go_wp2_with fail
   go_meet
   case rel => exact ⟨0, c, rfl, rfl, SQ.out, B20.out, X20.out⟩
 case rest =>
 obtain ⟨F, c, rfl, rfl, hsp, hb, hx⟩ := hcut
 have SP : Hid (SpotSays ks X unit kind c F) := hsp
 obtain ⟨w21, hw21⟩ : ∃ V, V = wc := ⟨_, rfl⟩
 subst hw21
 have B21 : Hid (Below w.heap.size w w21) := hb
 obtain ⟨x0, x1, x2, x3, x4, x5, x6, x7, x8⟩ := hx
 clear hsp hb
 go_wp2_with fail
 refine (spot_any _ _ ks X unit kind w21 (K.out.1.below B21.out) K.out.2 (H.out.below B21.out) (SDH.out.below B21.out)).mono ?_
 rintro e w22 ⟨c', r, F', rfl, hr, hs, hb⟩
 obtain ⟨hcc, hff⟩ := spot_uniq hs SP.out
 rw [hff] at hr
 rw [hcc]
 have ER : Hid (Er r F) := hr
 have B22 : Hid (Below w.heap.size w w22) := B21.out.trans (hb.mono B21.out.size)
 clear hr hs hb hcc hff x0 x1 x2 x3 x4 x5 x6 x7 x8
 go_wp2_with fail
 refine (er_same _ _ w22 ER.out (HG.out.below B22.out)).mono ?_
 rintro e w23 ⟨rfl, hb⟩
 have B23 : Hid (Below w.heap.size w w23) := B22.out.trans (hb.mono B22.out.size)
 clear hb
 go_wp2
 go_ret
 exact ⟨rfl, B23.out⟩
end Go.Proofs.YteieikgkmfglaaaGreatDoor.worksDo
namespace Go.Proofs.YteieikgkmfglaaaGreatDoor
open Go.ChangeShapes Go.WideShapes Go.ChangeAt Go.RowKit
set_option linter.unusedVariables false
theorem sides_g : Tryz.prog.globalNamed "marchland/field.sides" = some 1 := by kernel_rfl
theorem sides_t : (Tryz.prog.globals[1]?).map (·.type) = some 203 := by kernel_rfl
theorem side_cs : Tryz.prog.cellsOf 202 = 2 := by kernel_rfl
theorem int_cs : Tryz.prog.cellsOf 3 = 1 := by kernel_rfl
theorem len2 {α : Type} {l : List α} (h : l.length = 2) : ∃ a b, l = [a, b] := by
 match l, h with
 | [a, b], _ => exact ⟨a, b, rfl⟩
theorem len4 {α : Type} {l : List α} (h : l.length = 4) : ∃ a b c d, l = [a, b, c, d] := by
 match l, h with
 | [a, b, c, d], _ => exact ⟨a, b, c, d, rfl⟩
set_option maxRecDepth 100000 in
theorem side_cells {w : World} {fuel : Nat} {cs : List Value} {a b : Int} {y : DataW Unit × List MemPlace} (h : DataW.trod (fun _ => ()) Tryz.prog w 0 (fun _ => true) false fuel 202 cs = some y) (hy : y.1 = .agg [.lit (.int .i64 a), .lit (.int .i64 b)]) : cs = [.int .i64 a, .int .i64 b] := by
 obtain ⟨y0, y1, n, hx, hl, h0, h1⟩ := trod_struct2 Tryz.underlying202 h
 obtain ⟨p, e0, f0, -⟩ := DataW.trod_int Tryz.underlying3 h0
 obtain ⟨q, e1, f1, -⟩ := DataW.trod_int Tryz.underlying3 h1
 rw [hx, f0, f1] at hy
 simp only [DataW.agg.injEq, List.cons.injEq, DataW.lit.injEq, Lit.int.injEq, true_and, and_true] at hy
 obtain ⟨rfl, rfl⟩ := hy
 dsimp only at e0 e1
 rw [int_cs] at e0 e1
 rw [side_cs] at hl
 obtain ⟨c0, c1, rfl⟩ := len2 hl
 simp at e0 e1
 rw [e0, e1]
set_option maxRecDepth 100000 in
theorem sd_of_laid {w : World} (h : laidMet Tryz.prog [("marchland/field.sides", Rows.laid_marchland_field_sides)] w) : Sd w := by
 obtain ⟨ps, ⟨g, t, cs, fuel, p, q, h1, h2, h3, h4, -, -⟩, -, -⟩ := h
 obtain rfl := Option.some.inj (sides_g.symm.trans h1)
 obtain rfl := Option.some.inj (sides_t.symm.trans h2)
 obtain ⟨xs, m, -, hx, hl, hn, hi⟩ := DataW.trod_array Tryz.underlying203 h4
 have hd : xs.map (·.1) = [.agg [.lit (.int .i64 0), .lit (.int .i64 (-1))], .agg [.lit (.int .i64 (-1)), .lit (.int .i64 0)], .agg [.lit (.int .i64 1), .lit (.int .i64 0)], .agg [.lit (.int .i64 0), .lit (.int .i64 1)]] := by
  have e : Rows.laid_marchland_field_sides = DataW.agg (xs.map (·.1)) := congrArg Prod.fst hx
  unfold Rows.laid_marchland_field_sides at e
  injection e with e
  exact e.symm
 obtain ⟨x0, x1, x2, x3, rfl⟩ := len4 hn
 simp only [List.map_cons, List.map_nil, List.cons.injEq, and_true] at hd
 obtain ⟨d0, d1, d2, d3⟩ := hd
 have i0 := side_cells (hi 0 (by decide)) d0
 have i1 := side_cells (hi 1 (by decide)) d1
 have i2 := side_cells (hi 2 (by decide)) d2
 have i3 := side_cells (hi 3 (by decide)) d3
 rw [side_cs] at i0 i1 i2 i3
 have ec : ∀ k : Nat, w.cell? ⟨1, k, none⟩ = cs.toList[k]? := fun k => by
  have e := World.var?_cell sides_g h3 k
  rw [e, Array.getElem?_toList]
 have g0 : ∀ k a b, (cs.toList.drop (k * 2)).take 2 = [.int .i64 a, .int .i64 b] → cs.toList[k * 2]? = some (.int .i64 a) ∧ cs.toList[k * 2 + 1]? = some (.int .i64 b) := by
  intro k a b e
  constructor
  ·have := congrArg (fun l => l[0]?) e
   simpa [List.getElem?_take, List.getElem?_drop] using this
  ·have := congrArg (fun l => l[1]?) e
   simpa [List.getElem?_take, List.getElem?_drop] using this
 have j0 := g0 0 _ _ i0
 have j1 := g0 1 _ _ i1
 have j2 := g0 2 _ _ i2
 have j3 := g0 3 _ _ i3
 exact ⟨(ec 0).trans j0.1, (ec 1).trans j0.2, (ec 2).trans j1.1, (ec 3).trans j1.2, (ec 4).trans j2.1, (ec 5).trans j2.2, (ec 6).trans j3.1, (ec 7).trans j3.2⟩
end Go.Proofs.YteieikgkmfglaaaGreatDoor
