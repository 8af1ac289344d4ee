/- The reference's Train. · A map of integers by integers that a call makes. · works.Train$1: whether a job is its unit's first. · world.checkPlace. -/
import Derived.Test.YteieikgkmfglaaaGreatDoorZWorksDo9
import Derived.Test.YteieikgkmfglaaaGreatDoorZWorksDo10
import Derived.Test.YteieikgkmfglaaaGreatDoorZWorksDo6
import Derived.Test.YteieikgkmfglaaaGreatDoorZWorksDo5
import Derived.BigQuiet
import Derived.Test.YteieikgkmfglaaaGreatDoorZWorksDo1
import Derived.Maps.Own
import Derived.Maps.OwnOps
import Derived.Maps.Views
import Derived.Carry
import Derived.DeepKeys4
import Derived.Test.YteieikgkmfglaaaGreatDoorZWorksDo4
import Derived.Deep.DeepCutAuto
import Derived.Test.YteieikgkmfglaaaGreatDoorZWorksDo3
namespace Go.Proofs.YteieikgkmfglaaaGreatDoor
open Go.RowKit Wy
set_option linter.unusedVariables false
theorem job_one {w : World} {z : Nat} (j : JbV) (hz : w.heap.size = z) : Jk (w.alloc (Obj.cells #[.int .i64 j.player, .int .i64 j.unit, .int .i64 j.kind, .int .i64 j.left] 71)) z [j] [] := by
 subst hz
 exact heap_alloc_new _ _
theorem jk_one {w : World} {z : Nat} {j : JbV} (h : Jk w z [j] []) : Jbc w ⟨z, 0, none⟩ j := by simpa using h.jbc (i := 0) (o := j) rfl
theorem jk_dec {w : World} {z : Nat} {j : JbV} (h : Jk w z [j] []) (a : Int) : Jk (w.setCell ⟨z, 3, none⟩ (.int .i64 a)) z [{ j with left := a }] [] := by simpa using h.set3 (i := 0) (o := j) rfl a
theorem WRight.next0 {ks : List KV} {Y : WV} (h : WRight ks Y) : 0 ≤ Y.next := by
 have := h.nums
 unfold Wd.numsBad at this
 simp only [Bool.or_eq_false_iff] at this
 obtain ⟨-, h2, -⟩ := this
 unfold Wd.off at h2
 simp at h2
 omega
/-- the first q jobs are looked at. -/
def RnI (ks : List KV) (X : WV) (b bE : Nat) (r4o : Option Nat) (w2 : World) (u1 u2 u3 u5 ev qv j : Value) (V : World) : Prop :=
 ∃ (q : Nat) (Y : WV) (es : List EvV) (qs : List JbV) (u4 : Value), q ≤ X.qs.length ∧ j = .int .i64 (q : Nat) ∧ Tr ks X q Y es qs ∧ TnS Y es qs b (b + 2) bE r4o w2 u1 u2 u3 u4 u5 ev qv V
set_option maxRecDepth 100000 in
set_option maxHeartbeats 16000000 in
theorem rtrain_any (vk vw : Value) (ks : List KV) (X : WV) (w : World) (hk : Kl w vk ks) (hkb : ∀ k ∈ ks, k.b.size ≤ 9223372036854775807) (hw : Wl w vw X) (hr : WRight ks X) (hs : Sd w) :
  Calls Tryz.prog 8 #[vk, vw] w fun e w' => ∃ v ev Y es qs, e = .returned (.tuple #[v, ev]) ∧ Tr ks X X.qs.length Y es qs ∧ Wo w' w.heap.size v { Y with qs := qs } ∧ Evo w' w.heap.size ev es ∧ Below w.heap.size w w' := by
 have K : Hid (Kl w vk ks ∧ ∀ k ∈ ks, k.b.size ≤ 9223372036854775807) := ⟨hk, hkb⟩
 have H : Hid (Wl w vw X) := hw
 have WR : Hid (WRight ks X) := hr
 have SDH : Hid (Sd w) := hs
 have hql : X.qs.length ≤ 12 := hr.ql
 obtain ⟨p1, q1, p2, q2, p3, q3, p4, q4, p5, q5, rfl⟩ := wl_shape9 hw
 obtain ⟨pk, qk, rfl, ck1, ck2, kc⟩ := hk
 have KC : Hid (ks ≠ [] → ∃ x, pk = some x ∧ x.block < w.heap.size ∧ ∀ (i : Nat) k, ks[i]? = some k → Kc w (x.add (i * 11)) k) := kc
 clear hw hr kc hs hkb
 go_enter Tryz.func8, Tryz.ntmps8
 go_upto_region 1 with fail
 obtain ⟨b, hb0⟩ : ∃ z, w.heap.size = z := ⟨_, rfl⟩
 have B0 : Hid (Below w.heap.size w ((w.alloc (Obj.cells #[.int .i64 X.turn, .int .i64 X.next, .int .i64 X.wide, .int .i64 X.high, .slice p1 X.gs.length q1, .slice p2 X.os.length q2, .slice p3 X.gold.length q3, .slice p4 X.us.length q4, .slice p5 X.qs.length q5] 29)).alloc (Obj.cells #[.int .i64 0, .int .i64 0, .int .i64 0, .int .i64 0, .slice none 0 0, .slice none 0 0, .slice none 0 0, .slice none 0 0, .slice none 0 0] 29))) := ((Below.refl _ _).alloc (Nat.le_refl _) _).alloc (by simp) _
 have X0 : Hid (Wx ((w.alloc (Obj.cells #[.int .i64 X.turn, .int .i64 X.next, .int .i64 X.wide, .int .i64 X.high, .slice p1 X.gs.length q1, .slice p2 X.os.length q2, .slice p3 X.gold.length q3, .slice p4 X.us.length q4, .slice p5 X.qs.length q5] 29)).alloc (Obj.cells #[.int .i64 0, .int .i64 0, .int .i64 0, .int .i64 0, .slice none 0 0, .slice none 0 0, .slice none 0 0, .slice none 0 0, .slice none 0 0] 29)) b (.int .i64 X.turn) (.int .i64 X.next) (.int .i64 X.wide) (.int .i64 X.high) (.slice p1 X.gs.length q1) (.slice p2 X.os.length q2) (.slice p3 X.gold.length q3) (.slice p4 X.us.length q4) (.slice p5 X.qs.length q5)) := (Wx.new (w := w) _ _ _ _ _ _ _ _ _ hb0).below ((Below.refl _ _).alloc (Nat.le_refl _) _) (by rw [← hb0]; simp)
 have Z0 : Hid (Wx ((w.alloc (Obj.cells #[.int .i64 X.turn, .int .i64 X.next, .int .i64 X.wide, .int .i64 X.high, .slice p1 X.gs.length q1, .slice p2 X.os.length q2, .slice p3 X.gold.length q3, .slice p4 X.us.length q4, .slice p5 X.qs.length q5] 29)).alloc (Obj.cells #[.int .i64 0, .int .i64 0, .int .i64 0, .int .i64 0, .slice none 0 0, .slice none 0 0, .slice none 0 0, .slice none 0 0, .slice none 0 0] 29)) (b + 1) (.int .i64 0) (.int .i64 0) (.int .i64 0) (.int .i64 0) (.slice none 0 0) (.slice none 0 0) (.slice none 0 0) (.slice none 0 0) (.slice none 0 0)) := Wx.new _ _ _ _ _ _ _ _ _ (by rw [← hb0]; simp)
 have N0 : Hid (((w.alloc (Obj.cells #[.int .i64 X.turn, .int .i64 X.next, .int .i64 X.wide, .int .i64 X.high, .slice p1 X.gs.length q1, .slice p2 X.os.length q2, .slice p3 X.gold.length q3, .slice p4 X.us.length q4, .slice p5 X.qs.length q5] 29)).alloc (Obj.cells #[.int .i64 0, .int .i64 0, .int .i64 0, .int .i64 0, .slice none 0 0, .slice none 0 0, .slice none 0 0, .slice none 0 0, .slice none 0 0] 29)).heap.size = b + 2) := by unfold Hid; rw [← hb0]; simp
 have HB : Hid (w.heap.size = b) := hb0
 (try rw [hb0])
 clear hb0
 generalize ((w.alloc (Obj.cells #[.int .i64 X.turn, .int .i64 X.next, .int .i64 X.wide, .int .i64 X.high, .slice p1 X.gs.length q1, .slice p2 X.os.length q2, .slice p3 X.gold.length q3, .slice p4 X.us.length q4, .slice p5 X.qs.length q5] 29)).alloc (Obj.cells #[.int .i64 0, .int .i64 0, .int .i64 0, .int .i64 0, .slice none 0 0, .slice none 0 0, .slice none 0 0, .slice none 0 0, .slice none 0 0] 29)) = w0 at *
 obtain ⟨x0, x1, x2, x3, x4, x5, x6, x7, x8⟩ := X0.out.cells
 go_wp2_with fail
 refine (rcopy_any _ X w0 (H.out.below B0.out) WR.out.len).mono ?_
 rintro e w1 ⟨cu, rfl, ⟨k1, k2, k3, k4, k5, rfl, ⟨o1, o2, o3, o4, o5⟩, d12, d13, d14, d15, d23, d24, d25, d34, d35, d45⟩, hb⟩
 obtain ⟨a1, r1, rfl⟩ := o1.len
 obtain ⟨a2, r2, rfl⟩ := o2.len
 obtain ⟨a3, r3, rfl⟩ := o3.len
 obtain ⟨a4, r4, rfl⟩ := o4.len
 obtain ⟨a5, r5, rfl⟩ := o5.len
 rw [N0.out] at o1 o2 o3 o4 o5
 have B1 : Hid (Below w.heap.size w w1) := B0.out.trans (hb.mono B0.out.size)
 have X1 : Hid (Wx w1 b (.int .i64 X.turn) (.int .i64 X.next) (.int .i64 X.wide) (.int .i64 X.high) (.slice p1 X.gs.length q1) (.slice p2 X.os.length q2) (.slice p3 X.gold.length q3) (.slice p4 X.us.length q4) (.slice p5 X.qs.length q5)) := X0.out.below hb X0.out.lt
 have Z1 : Hid (Wx w1 (b + 1) (.int .i64 0) (.int .i64 0) (.int .i64 0) (.int .i64 0) (.slice none 0 0) (.slice none 0 0) (.slice none 0 0) (.slice none 0 0) (.slice none 0 0)) := Z0.out.below hb Z0.out.lt
 clear x0 x1 x2 x3 x4 x5 x6 x7 x8 X0 Z0 B0
 obtain ⟨x0, x1, x2, x3, x4, x5, x6, x7, x8⟩ := X1.out.cells
 obtain ⟨t0, t1, t2, t3, t4, t5, t6, t7, t8⟩ := X1.out.thaws
 have KW : Hid (Kp b w1 (((((((((w1.setCell ⟨b, 0, none⟩ (.int .i64 X.turn)).setCell ⟨b, 1, none⟩ (.int .i64 X.next)).setCell ⟨b, 2, none⟩ (.int .i64 X.wide)).setCell ⟨b, 3, none⟩ (.int .i64 X.high)).setCell ⟨b, 4, none⟩ (Value.slice a1 X.gs.length r1)).setCell ⟨b, 5, none⟩ (Value.slice a2 X.os.length r2)).setCell ⟨b, 6, none⟩ (Value.slice a3 X.gold.length r3)).setCell ⟨b, 7, none⟩ (Value.slice a4 X.us.length r4)).setCell ⟨b, 8, none⟩ (Value.slice a5 X.qs.length r5))) := put_kp _ _ _ _ _ _ _ _ _ _ _
 have X2 : Hid (Wx (((((((((w1.setCell ⟨b, 0, none⟩ (.int .i64 X.turn)).setCell ⟨b, 1, none⟩ (.int .i64 X.next)).setCell ⟨b, 2, none⟩ (.int .i64 X.wide)).setCell ⟨b, 3, none⟩ (.int .i64 X.high)).setCell ⟨b, 4, none⟩ (Value.slice a1 X.gs.length r1)).setCell ⟨b, 5, none⟩ (Value.slice a2 X.os.length r2)).setCell ⟨b, 6, none⟩ (Value.slice a3 X.gold.length r3)).setCell ⟨b, 7, none⟩ (Value.slice a4 X.us.length r4)).setCell ⟨b, 8, none⟩ (Value.slice a5 X.qs.length r5)) b (.int .i64 X.turn) (.int .i64 X.next) (.int .i64 X.wide) (.int .i64 X.high) (Value.slice a1 X.gs.length r1) (Value.slice a2 X.os.length r2) (Value.slice a3 X.gold.length r3) (Value.slice a4 X.us.length r4) (Value.slice a5 X.qs.length r5)) := X1.out.put _ _ _ _ _ _ _ _ _
 have Z2 : Hid (Wx (((((((((w1.setCell ⟨b, 0, none⟩ (.int .i64 X.turn)).setCell ⟨b, 1, none⟩ (.int .i64 X.next)).setCell ⟨b, 2, none⟩ (.int .i64 X.wide)).setCell ⟨b, 3, none⟩ (.int .i64 X.high)).setCell ⟨b, 4, none⟩ (Value.slice a1 X.gs.length r1)).setCell ⟨b, 5, none⟩ (Value.slice a2 X.os.length r2)).setCell ⟨b, 6, none⟩ (Value.slice a3 X.gold.length r3)).setCell ⟨b, 7, none⟩ (Value.slice a4 X.us.length r4)).setCell ⟨b, 8, none⟩ (Value.slice a5 X.qs.length r5)) (b + 1) (.int .i64 0) (.int .i64 0) (.int .i64 0) (.int .i64 0) (.slice none 0 0) (.slice none 0 0) (.slice none 0 0) (.slice none 0 0) (.slice none 0 0)) := Z1.out.kp KW.out (by omega)
 have B2 : Hid (Below w.heap.size w (((((((((w1.setCell ⟨b, 0, none⟩ (.int .i64 X.turn)).setCell ⟨b, 1, none⟩ (.int .i64 X.next)).setCell ⟨b, 2, none⟩ (.int .i64 X.wide)).setCell ⟨b, 3, none⟩ (.int .i64 X.high)).setCell ⟨b, 4, none⟩ (Value.slice a1 X.gs.length r1)).setCell ⟨b, 5, none⟩ (Value.slice a2 X.os.length r2)).setCell ⟨b, 6, none⟩ (Value.slice a3 X.gold.length r3)).setCell ⟨b, 7, none⟩ (Value.slice a4 X.us.length r4)).setCell ⟨b, 8, none⟩ (Value.slice a5 X.qs.length r5))) := KW.out.below B1.out B1.out.size (by rw [HB.out]; exact Nat.le_refl _)
 have O2 : Hid (Ow (((((((((w1.setCell ⟨b, 0, none⟩ (.int .i64 X.turn)).setCell ⟨b, 1, none⟩ (.int .i64 X.next)).setCell ⟨b, 2, none⟩ (.int .i64 X.wide)).setCell ⟨b, 3, none⟩ (.int .i64 X.high)).setCell ⟨b, 4, none⟩ (Value.slice a1 X.gs.length r1)).setCell ⟨b, 5, none⟩ (Value.slice a2 X.os.length r2)).setCell ⟨b, 6, none⟩ (Value.slice a3 X.gold.length r3)).setCell ⟨b, 7, none⟩ (Value.slice a4 X.us.length r4)).setCell ⟨b, 8, none⟩ (Value.slice a5 X.qs.length r5)) (b + 2) (Value.slice a1 X.gs.length r1) X.gs ∧ Ow (((((((((w1.setCell ⟨b, 0, none⟩ (.int .i64 X.turn)).setCell ⟨b, 1, none⟩ (.int .i64 X.next)).setCell ⟨b, 2, none⟩ (.int .i64 X.wide)).setCell ⟨b, 3, none⟩ (.int .i64 X.high)).setCell ⟨b, 4, none⟩ (Value.slice a1 X.gs.length r1)).setCell ⟨b, 5, none⟩ (Value.slice a2 X.os.length r2)).setCell ⟨b, 6, none⟩ (Value.slice a3 X.gold.length r3)).setCell ⟨b, 7, none⟩ (Value.slice a4 X.us.length r4)).setCell ⟨b, 8, none⟩ (Value.slice a5 X.qs.length r5)) (b + 2) (Value.slice a2 X.os.length r2) X.os ∧ Ow (((((((((w1.setCell ⟨b, 0, none⟩ (.int .i64 X.turn)).setCell ⟨b, 1, none⟩ (.int .i64 X.next)).setCell ⟨b, 2, none⟩ (.int .i64 X.wide)).setCell ⟨b, 3, none⟩ (.int .i64 X.high)).setCell ⟨b, 4, none⟩ (Value.slice a1 X.gs.length r1)).setCell ⟨b, 5, none⟩ (Value.slice a2 X.os.length r2)).setCell ⟨b, 6, none⟩ (Value.slice a3 X.gold.length r3)).setCell ⟨b, 7, none⟩ (Value.slice a4 X.us.length r4)).setCell ⟨b, 8, none⟩ (Value.slice a5 X.qs.length r5)) (b + 2) (Value.slice a3 X.gold.length r3) X.gold ∧ Uno (((((((((w1.setCell ⟨b, 0, none⟩ (.int .i64 X.turn)).setCell ⟨b, 1, none⟩ (.int .i64 X.next)).setCell ⟨b, 2, none⟩ (.int .i64 X.wide)).setCell ⟨b, 3, none⟩ (.int .i64 X.high)).setCell ⟨b, 4, none⟩ (Value.slice a1 X.gs.length r1)).setCell ⟨b, 5, none⟩ (Value.slice a2 X.os.length r2)).setCell ⟨b, 6, none⟩ (Value.slice a3 X.gold.length r3)).setCell ⟨b, 7, none⟩ (Value.slice a4 X.us.length r4)).setCell ⟨b, 8, none⟩ (Value.slice a5 X.qs.length r5)) (b + 2) (Value.slice a4 X.us.length r4) X.us ∧ Jbo (((((((((w1.setCell ⟨b, 0, none⟩ (.int .i64 X.turn)).setCell ⟨b, 1, none⟩ (.int .i64 X.next)).setCell ⟨b, 2, none⟩ (.int .i64 X.wide)).setCell ⟨b, 3, none⟩ (.int .i64 X.high)).setCell ⟨b, 4, none⟩ (Value.slice a1 X.gs.length r1)).setCell ⟨b, 5, none⟩ (Value.slice a2 X.os.length r2)).setCell ⟨b, 6, none⟩ (Value.slice a3 X.gold.length r3)).setCell ⟨b, 7, none⟩ (Value.slice a4 X.us.length r4)).setCell ⟨b, 8, none⟩ (Value.slice a5 X.qs.length r5)) (b + 2) (Value.slice a5 X.qs.length r5) X.qs) := ⟨owns_kp o1 KW.out (by omega), owns_kp o2 KW.out (by omega), owns_kp o3 KW.out (by omega), owns_kp o4 KW.out (by omega), owns_kp o5 KW.out (by omega)⟩
 go_upto_region 2 with fail
 clear o1 o2 o3 o4 o5 d12 d13 d14 d15 d23 d24 d25 d34 d35 d45 hb x0 x1 x2 x3 x4 x5 x6 x7 x8 t0 t1 t2 t3 t4 t5 t6 t7 t8 X1 Z1 B1 KW
 generalize (((((((((w1.setCell ⟨b, 0, none⟩ (.int .i64 X.turn)).setCell ⟨b, 1, none⟩ (.int .i64 X.next)).setCell ⟨b, 2, none⟩ (.int .i64 X.wide)).setCell ⟨b, 3, none⟩ (.int .i64 X.high)).setCell ⟨b, 4, none⟩ (Value.slice a1 X.gs.length r1)).setCell ⟨b, 5, none⟩ (Value.slice a2 X.os.length r2)).setCell ⟨b, 6, none⟩ (Value.slice a3 X.gold.length r3)).setCell ⟨b, 7, none⟩ (Value.slice a4 X.us.length r4)).setCell ⟨b, 8, none⟩ (Value.slice a5 X.qs.length r5)) = w2 at *
 obtain ⟨bE, hbE⟩ : ∃ z, w2.heap.size = z := ⟨_, rfl⟩
 have SE : Hid (w2.heap.size = bE ∧ b + 2 ≤ bE) := ⟨hbE, by rw [← hbE]; exact Z2.out.lt⟩
 obtain ⟨r4o, hr4⟩ : ∃ r, (Value.slice a4 X.us.length r4).ownBlock = r := ⟨_, rfl⟩
 have R4 : Hid (∀ k, r4o = some k → b + 2 ≤ k) := fun k hk => (O2.out.2.2.2.1.block k (hr4.trans hk)).1
 have T2 : Hid (TnS X [] [] b (b + 2) bE r4o w2 (Value.slice a1 X.gs.length r1) (Value.slice a2 X.os.length r2) (Value.slice a3 X.gold.length r3) (Value.slice a4 X.us.length r4) (Value.slice a5 X.qs.length r5) (.slice none 0 0) (.slice none 0 0) w2) := ⟨X2.out, O2.out.1, O2.out.2.1, O2.out.2.2.1, O2.out.2.2.2.1, O2.out.2.2.2.2, (fun k h1 h2 => by cases h2), Evo.nil _ _, Jbo.nil _ _, Fr.below (Below.refl _ _), fun k hk => .inl (hr4.symm.trans hk), by omega, SE.out.2, hbE⟩
 clear hbE hr4
 go_upto_region 5 with fail
 go_loopw [6, 7, 8] (fun ev qv j V => RnI ks X b bE r4o w2 (Value.slice a1 X.gs.length r1) (Value.slice a2 X.os.length r2) (Value.slice a3 X.gold.length r3) (Value.slice a5 X.qs.length r5) ev qv j V) (fun _ _ j _ => X.qs.length - (intOf j).toNat)
 case atStart => exact ⟨0, X, [], [], _, Nat.zero_le _, rfl, Tr.zero, T2.out⟩
 case round =>
  obtain ⟨q, Y, es, qs, u4, hq, rfl, htr, ht⟩ := hrel
  obtain ⟨fa, fc, rfl⟩ := ht.e.len
  obtain ⟨ga, gc, rfl⟩ := ht.o.len
  obtain ⟨f4, c4, rfl⟩ := ht.o4.len
  have TR : Hid (Tr ks X q Y es qs) := htr
  have TS : Hid (TnS Y es qs b (b + 2) bE r4o w2 (Value.slice a1 X.gs.length r1) (Value.slice a2 X.os.length r2) (Value.slice a3 X.gold.length r3) (Value.slice f4 Y.us.length c4) (Value.slice a5 X.qs.length r5) (Value.slice fa es.length fc) (Value.slice ga qs.length gc) wr) := ht
  obtain ⟨kr, kq, ke, kl, -⟩ := htr.keep WR.out
  have RY : Hid (WRight ks Y) := kr
  have QY : Hid (Y.qs = X.qs) := kq
  have KL : Hid (es.length ≤ 12 ∧ qs.length ≤ 12 ∧ Y.us.length ≤ 40) := ⟨by omega, by omega, kr.ul⟩
  have BWR : Hid (Below w.heap.size w wr) := B2.out.trans (ht.f.low B2.out.size (fun k hk => by
   have h9 := HB.out
   rcases hk with rfl | hk
   ·omega
   ·have := R4.out k hk; omega))
  clear htr ht kr kq ke kl
  obtain ⟨x0, x1, x2, x3, x4, x5, x6, x7, x8⟩ := TS.out.x.cells
  by_cases hqn : q = X.qs.length
  ·subst hqn
   have hnl : ¬ (((X.qs.length : Nat) : Int) < (X.qs.length : Nat)) := by omega
   have Z9 : Hid (Wx wr (b + 1) (.int .i64 0) (.int .i64 0) (.int .i64 0) (.int .i64 0) (.slice none 0 0) (.slice none 0 0) (.slice none 0 0) (.slice none 0 0) (.slice none 0 0)) := TS.out.f.wx Z2.out (fun h => by
    rcases h with h | h
    ·omega
    ·have := R4.out _ h; omega)
   have t8 := TS.out.x.thaw 8
   have XN : Hid (Wx (wr.setCell ⟨b, 8, none⟩ (Value.slice ga qs.length gc)) b (.int .i64 Y.turn) (.int .i64 Y.next) (.int .i64 Y.wide) (.int .i64 Y.high) (Value.slice a1 X.gs.length r1) (Value.slice a2 X.os.length r2) (Value.slice a3 X.gold.length r3) (Value.slice f4 Y.us.length c4) (.slice ga qs.length gc)) := TS.out.x.set8 _
   have KN : Hid (Kp b wr (wr.setCell ⟨b, 8, none⟩ (Value.slice ga qs.length gc))) := Kp.set _ _ _
   go_upto_region 26 with fail
   clear x0 x1 x2 x3 x4 x5 x6 x7 x8 hnl t8
   generalize wr.setCell ⟨b, 8, none⟩ (Value.slice ga qs.length gc) = w9 at *
   have Z9' : Hid (Wx w9 (b + 1) (.int .i64 0) (.int .i64 0) (.int .i64 0) (.int .i64 0) (.slice none 0 0) (.slice none 0 0) (.slice none 0 0) (.slice none 0 0) (.slice none 0 0)) := Z9.out.kp KN.out (by omega)
   have B9 : Hid (Below w.heap.size w w9) := KN.out.below BWR.out BWR.out.size (by rw [HB.out]; exact Nat.le_refl _)
   have O9 : Hid (Ow w9 (b + 2) (Value.slice a1 X.gs.length r1) Y.gs ∧ Ow w9 (b + 2) (Value.slice a2 X.os.length r2) Y.os ∧ Ow w9 (b + 2) (Value.slice a3 X.gold.length r3) Y.gold ∧ Uno w9 (b + 2) (Value.slice f4 Y.us.length c4) Y.us ∧ Jbo w9 bE (Value.slice ga qs.length gc) qs ∧ Evo w9 bE (Value.slice fa es.length fc) es) := ⟨owns_kp TS.out.o1 KN.out (by omega), owns_kp TS.out.o2 KN.out (by omega), owns_kp TS.out.o3 KN.out (by omega), owns_kp TS.out.o4 KN.out (by omega), owns_kp TS.out.o KN.out (by have := SE.out; omega), owns_kp TS.out.e KN.out (by have := SE.out; omega)⟩
   obtain ⟨x0, x1, x2, x3, x4, x5, x6, x7, x8⟩ := XN.out.cells
   obtain ⟨z0, z1, z2, z3, z4, z5, z6, z7, z8⟩ := Z9'.out.cells
   obtain ⟨t0, t1, t2, t3, t4, t5, t6, t7, t8⟩ := Z9'.out.thaws
   have KZ : Hid (Kp (b + 1) w9 (((((((((w9.setCell ⟨b + 1, 0, none⟩ (.int .i64 Y.turn)).setCell ⟨b + 1, 1, none⟩ (.int .i64 Y.next)).setCell ⟨b + 1, 2, none⟩ (.int .i64 Y.wide)).setCell ⟨b + 1, 3, none⟩ (.int .i64 Y.high)).setCell ⟨b + 1, 4, none⟩ (Value.slice a1 X.gs.length r1)).setCell ⟨b + 1, 5, none⟩ (Value.slice a2 X.os.length r2)).setCell ⟨b + 1, 6, none⟩ (Value.slice a3 X.gold.length r3)).setCell ⟨b + 1, 7, none⟩ (Value.slice f4 Y.us.length c4)).setCell ⟨b + 1, 8, none⟩ (.slice ga qs.length gc))) := put_kp _ _ _ _ _ _ _ _ _ _ _
   obtain ⟨y0, y1, y2, y3, y4, y5, y6, y7, y8⟩ := (Z9'.out.put (.int .i64 Y.turn) (.int .i64 Y.next) (.int .i64 Y.wide) (.int .i64 Y.high) (Value.slice a1 X.gs.length r1) (Value.slice a2 X.os.length r2) (Value.slice a3 X.gold.length r3) (Value.slice f4 Y.us.length c4) (.slice ga qs.length gc)).cells
   go_wp2
   clear x0 x1 x2 x3 x4 x5 x6 x7 x8 z0 z1 z2 z3 z4 z5 z6 z7 z8 t0 t1 t2 t3 t4 t5 t6 t7 t8
   generalize (((((((((w9.setCell ⟨b + 1, 0, none⟩ (.int .i64 Y.turn)).setCell ⟨b + 1, 1, none⟩ (.int .i64 Y.next)).setCell ⟨b + 1, 2, none⟩ (.int .i64 Y.wide)).setCell ⟨b + 1, 3, none⟩ (.int .i64 Y.high)).setCell ⟨b + 1, 4, none⟩ (Value.slice a1 X.gs.length r1)).setCell ⟨b + 1, 5, none⟩ (Value.slice a2 X.os.length r2)).setCell ⟨b + 1, 6, none⟩ (Value.slice a3 X.gold.length r3)).setCell ⟨b + 1, 7, none⟩ (Value.slice f4 Y.us.length c4)).setCell ⟨b + 1, 8, none⟩ (.slice ga qs.length gc)) = wz at *
   refine bodyPost_ret (v := .tuple #[.agg #[.int .i64 Y.turn, .int .i64 Y.next, .int .i64 Y.wide, .int .i64 Y.high, Value.slice a1 X.gs.length r1, Value.slice a2 X.os.length r2, Value.slice a3 X.gold.length r3, Value.slice f4 Y.us.length c4, .slice ga qs.length gc], (Value.slice fa es.length fc)]) (by simp [results, Tryz.results8, go_sem, y0, y1, y2, y3, y4, y5, y6, y7, y8]) rfl ⟨_, _, Y, es, qs, rfl, TR.out, ?_, ?_, KZ.out.below B9.out B9.out.size (by rw [HB.out]; omega)⟩
   ·have h := HB.out
    have h' := SE.out.2
    exact ⟨_, _, _, _, _, rfl, (O9.out.1.kp KZ.out (by omega)).mono (by omega), (O9.out.2.1.kp KZ.out (by omega)).mono (by omega), (O9.out.2.2.1.kp KZ.out (by omega)).mono (by omega), (O9.out.2.2.2.1.kp KZ.out (by omega)).mono (by omega), (O9.out.2.2.2.2.1.kp KZ.out (by omega)).mono (by omega)⟩
   ·have h := HB.out
    have h' := SE.out.2
    exact (O9.out.2.2.2.2.2.kp9 KZ.out (by omega)).mono (by omega)
  ·have hql2 : q < X.qs.length := by omega
   have hqi : ((q : Nat) : Int) < (X.qs.length : Nat) := by omega
   obtain ⟨j, hj⟩ : ∃ j, X.qs[q]? = some j := ⟨_, List.getElem?_eq_getElem hql2⟩
   have JQ : Hid (X.qs[q]? = some j) := hj
   have JM : Hid (j ∈ Y.qs) := by unfold Hid; rw [QY.out]; exact List.mem_of_getElem? hj
   obtain ⟨ju, hju, hjp, hjk, hjl⟩ := rjob_in RY.out JM.out
   have JL : Hid (1 ≤ j.left ∧ j.left ≤ 1000) := hjl
   obtain ⟨kn, hkn⟩ : ∃ n : Nat, j.kind = n := ⟨j.kind.toNat, by omega⟩
   have hkl : kn < ks.length := by omega
   obtain ⟨k, hkk⟩ : ∃ k, ks[kn]? = some k := ⟨_, List.getElem?_eq_getElem hkl⟩
   have JK : Hid (j.kind = (kn : Nat) ∧ ks[kn]? = some k) := ⟨hkn, hkk⟩
   have hki : ((kn : Nat) : Int) < (ks.length : Nat) := by omega
   obtain ⟨xk, rfl, hxk, hkc⟩ := KC.out (by intro h; rw [h] at hkl; simp at hkl)
   have KCC : Hid (xk.block < w.heap.size ∧ Kc w (xk.add (kn * 11)) k) := ⟨hxk, hkc kn k hkk⟩
   obtain ⟨gj, cj, jr, e5, -, -, -, -, hjb⟩ : ∃ g cap rest, (Value.slice a5 X.qs.length r5) = .slice (some ⟨g, 0, none⟩) X.qs.length cap ∧ b + 2 ≤ g ∧ X.qs.length ≤ cap ∧ cap ≤ maxLen ∧ X.qs.length * 4 + rest.length = cap * 4 ∧ Jk wr g X.qs rest := by
    have h5 := TS.out.o5
    rw [QY.out] at h5
    rcases h5.jk with ⟨-, h⟩ | ⟨g, cap, rest, h⟩
    ·rw [h] at hql2; simp at hql2
    ·exact ⟨g, cap, rest, h⟩
   injection e5 with e51 e52 e53
   subst e51 e53
   have JB : Hid (∀ V, Below wr.heap.size wr V → Jk V gj X.qs jr) := fun V hV => hjb.below hV hjb.lt
   obtain ⟨y0, y1, y2, y3⟩ := hjb.jbc hj
   clear hj hju hjp hjk hjl hkn hkk hkl hxk hkc hjb e52
   go_upto_region 8 with fail
   obtain ⟨zj, hzj⟩ : ∃ z, wr.heap.size = z := ⟨_, rfl⟩
   have D3 : Hid (Below wr.heap.size wr (wr.alloc (Obj.cells #[.int .i64 j.player, .int .i64 j.unit, .int .i64 j.kind, .int .i64 j.left] 71))) := (Below.refl _ _).alloc (Nat.le_refl _) _
   have J3 : Hid (Jk (wr.alloc (Obj.cells #[.int .i64 j.player, .int .i64 j.unit, .int .i64 j.kind, .int .i64 j.left] 71)) zj [j] []) := job_one j hzj
   have ZJ : Hid (bE ≤ zj ∧ ∀ x ∈ [(Value.slice a1 X.gs.length r1), (Value.slice a2 X.os.length r2), (Value.slice a3 X.gold.length r3), (Value.slice f4 Y.us.length c4), (Value.slice (some ⟨gj, 0, none⟩) X.qs.length r5), (Value.slice fa es.length fc), (Value.slice ga qs.length gc)], ∀ k, x.ownBlock = some k → k < zj) := by
    unfold Hid
    rw [← hzj]
    exact ⟨TS.out.size, TS.out.under⟩
   (try rw [hzj])
   generalize wr.alloc (Obj.cells #[.int .i64 j.player, .int .i64 j.unit, .int .i64 j.kind, .int .i64 j.left] 71) = w3 at *
   have TS3 : Hid (TnS Y es qs b (b + 2) bE r4o w2 (Value.slice a1 X.gs.length r1) (Value.slice a2 X.os.length r2) (Value.slice a3 X.gold.length r3) (Value.slice f4 Y.us.length c4) (Value.slice (some ⟨gj, 0, none⟩) X.qs.length r5) (Value.slice fa es.length fc) (Value.slice ga qs.length gc) w3) := TS.out.below D3.out
   have B3 : Hid (Below w.heap.size w w3) := BWR.out.trans (D3.out.mono BWR.out.size)
   clear x0 x1 x2 x3 x4 x5 x6 x7 x8 y0 y1 y2 y3 hzj TS BWR
   generalize wr = wo at *
   go_upto_region 10 with fail
   -- is it the first of its unit?
   go_loopw [10, 11] (fun v10 v11 V => ∃ n : Nat, n ≤ q ∧ v11 = .int .i64 (n : Nat) ∧ v10 = .bool (decide (cntU (X.qs.take n) j.unit = 0)) ∧ Below w3.heap.size w3 V) (fun _ v11 _ => q - (intOf v11).toNat)
   case atStart => exact ⟨0, Nat.zero_le _, rfl, rfl, Below.refl _ _⟩
   case round =>
   obtain ⟨n, hn, rfl, rfl, hbr⟩ := hrel
   have DR : Hid (Below w3.heap.size w3 wr) := hbr
   have JR : Hid (Jk wr zj [j] []) := J3.out.below hbr J3.out.lt
   have TSR : Hid (TnS Y es qs b (b + 2) bE r4o w2 (Value.slice a1 X.gs.length r1) (Value.slice a2 X.os.length r2) (Value.slice a3 X.gold.length r3) (Value.slice f4 Y.us.length c4) (Value.slice (some ⟨gj, 0, none⟩) X.qs.length r5) (Value.slice fa es.length fc) (Value.slice ga qs.length gc) wr) := TS3.out.below hbr
   have BR : Hid (Below w.heap.size w wr) := B3.out.trans (hbr.mono B3.out.size)
   clear hbr
   obtain ⟨fb, hfb⟩ : ∃ f : Bool, decide (cntU (X.qs.take n) j.unit = 0) = f := ⟨_, rfl⟩
   have FB : Hid (decide (cntU (X.qs.take n) j.unit = 0) = fb) := hfb
   rw [hfb]
   clear hfb
   by_cases hnq : n = q
   case neg =>
    have hnl : n < q := by omega
    have hni : ((n : Nat) : Int) < (q : Nat) := by omega
    have hnx : ((n : Nat) : Int) < (X.qs.length : Nat) := by omega
    obtain ⟨o, ho⟩ : ∃ o, X.qs[n]? = some o := ⟨_, List.getElem?_eq_getElem (by omega)⟩
    have CN : Hid (cntU (X.qs.take (n + 1)) j.unit = cntU (X.qs.take n) j.unit + if o.unit = j.unit then 1 else 0) := cntU_next ho j.unit
    obtain ⟨x0, x1, x2, x3, x4, x5, x6, x7, x8⟩ := TSR.out.x.cells
    obtain ⟨-, v1, -, -⟩ := (JB.out wr (D3.out.trans (DR.out.mono D3.out.size))).jbc ho
    have y1 := (jk_one JR.out).c1
    simp only [Nat.zero_add] at y1
    clear ho hnq
    cases fb
    case false =>
     have NF : Hid (decide (cntU (X.qs.take (n + 1)) j.unit = 0) = false) := by
      have h1 := of_decide_eq_false FB.out
      exact decide_eq_false (by rw [CN.out]; omega)
     go_upto_region 12 with fail
     go_quiet (fail)
     have D8 : Hid (Below wr.heap.size wr (wr.drewN nq)) := ⟨rfl, rfl, rfl, Nat.le_refl _, fun _ _ => rfl⟩
     clear x0 x1 x2 x3 x4 x5 x6 x7 x8 v1 y1
     generalize wr.drewN nq = w8 at *
     go_wp2
     go_round
     case rel => exact ⟨n + 1, by omega, by go_num, by rw [NF.out], DR.out.trans (D8.out.mono DR.out.size)⟩
     case measure => simp [intOf]; omega
    case true =>
     by_cases hpq : o.unit = j.unit
     ·have NF : Hid (decide (cntU (X.qs.take (n + 1)) j.unit = 0) = false) := decide_eq_false (by rw [CN.out, if_pos hpq]; omega)
      rw [hpq] at v1
      clear hpq CN
      go_upto_region 12 with fail
      go_quiet (fail)
      have D8 : Hid (Below wr.heap.size wr (wr.drewN nq)) := ⟨rfl, rfl, rfl, Nat.le_refl _, fun _ _ => rfl⟩
      clear x0 x1 x2 x3 x4 x5 x6 x7 x8 v1 y1
      generalize wr.drewN nq = w8 at *
      go_wp2
      go_round
      case rel => exact ⟨n + 1, by omega, by go_num, by rw [NF.out], DR.out.trans (D8.out.mono DR.out.size)⟩
      case measure => simp [intOf]; omega
     ·have NF : Hid (decide (cntU (X.qs.take (n + 1)) j.unit = 0) = true) := by
       have h1 := of_decide_eq_true FB.out
       exact decide_eq_true (by rw [CN.out, if_neg hpq]; omega)
      have hp1 : (o.unit == j.unit) = false := beq_eq_false_iff_ne.2 hpq
      have hp2 : decide (o.unit = j.unit) = false := decide_eq_false hpq
      have HP : Hid ((o.unit == j.unit) = false) := hp1
      clear hpq CN
      go_upto_region 12 with fail
      go_quiet (fail)
      have D8 : Hid (Below wr.heap.size wr (wr.drewN nq)) := ⟨rfl, rfl, rfl, Nat.le_refl _, fun _ _ => rfl⟩
      clear x0 x1 x2 x3 x4 x5 x6 x7 x8 v1 y1 hp1 hp2
      generalize wr.drewN nq = w8 at *
      go_wp2
      go_round
      case rel => exact ⟨n + 1, by omega, by go_num, by rw [NF.out]; show Value.bool (!(o.unit == j.unit)) = _; rw [HP.out]; rfl, DR.out.trans (D8.out.mono DR.out.size)⟩
      case measure => simp [intOf]; omega
   case pos =>
   subst hnq
   have hnl : ¬ ((n : Nat) : Int) < (n : Nat) := by omega
   generalize wr = w4 at *
   cases fb
   case false =>
    have DC : Hid (dec1 (X.qs.take n) j = j) := dec_other (of_decide_eq_false FB.out)
    have TR2 : Hid (Tr ks X (n + 1) Y es (qs ++ [j])) := by
     have h := Tr.wait TR.out JQ.out (by rw [DC.out]; have := JL.out; omega)
     rw [DC.out] at h
     exact h
    obtain ⟨j0, j1, j2, j3⟩ := jk_one JR.out
    simp only [Nat.zero_add] at j0 j1 j2 j3
    have BA : Hid (Below w4.heap.size w4 (w4.alloc (Obj.cells #[.int .i64 j.player, .int .i64 j.unit, .int .i64 j.kind, .int .i64 j.left] 71))) := (Below.refl _ _).alloc (Nat.le_refl _) _
    have JC : Hid (Jbc (w4.alloc (Obj.cells #[.int .i64 j.player, .int .i64 j.unit, .int .i64 j.kind, .int .i64 j.left] 71)) ⟨w4.heap.size, 0, none⟩ j) := Jbc.mk' (w := w4) j rfl
    have TA : Hid (TnS Y es qs b (b + 2) bE r4o w2 (Value.slice a1 X.gs.length r1) (Value.slice a2 X.os.length r2) (Value.slice a3 X.gold.length r3) (Value.slice f4 Y.us.length c4) (Value.slice (some ⟨gj, 0, none⟩) X.qs.length r5) (Value.slice fa es.length fc) (Value.slice ga qs.length gc) (w4.alloc (Obj.cells #[.int .i64 j.player, .int .i64 j.unit, .int .i64 j.kind, .int .i64 j.left] 71))) := TSR.out.below BA.out
    go_wp2_with (at_builtin; refine app_jb _ rfl _ _ rfl bE _ qs rfl TA.out.o w4.heap.size j rfl JC.out (by have := KL.out.2; omega) TA.out.size ?_)
    intro gq cq wE o8 g8 a8 l8
    have TE : Hid (TnS Y es (qs ++ [j]) b (b + 2) bE r4o w2 (Value.slice a1 X.gs.length r1) (Value.slice a2 X.os.length r2) (Value.slice a3 X.gold.length r3) (Value.slice f4 Y.us.length c4) (Value.slice (some ⟨gj, 0, none⟩) X.qs.length r5) (Value.slice fa es.length fc) (.slice (some ⟨gq, 0, none⟩) (qs.length + 1) cq) wE) := TA.out.left g8 o8 rfl (by simpa using a8)
    clear o8 g8 a8 l8 j0 j1 j2 j3
    go_wp2
    go_round
    case rel => exact ⟨n + 1, Y, es, qs ++ [j], _, by omega, by go_num, TR2.out, TE.out⟩
    case measure => simp [intOf]; omega
   case true =>
   have DC : Hid (dec1 (X.qs.take n) j = { j with left := j.left - 1 }) := dec_first (of_decide_eq_true FB.out)
   by_cases hl1 : 1 < j.left
   ·have TR2 : Hid (Tr ks X (n + 1) Y es (qs ++ [{ j with left := j.left - 1 }])) := by
     have h := Tr.wait TR.out JQ.out (by rw [DC.out]; show j.left - 1 ≠ 0; omega)
     rw [DC.out] at h
     exact h
    obtain ⟨j', hj'⟩ : ∃ j', ({ j with left := j.left - 1 } : JbV) = j' := ⟨_, rfl⟩
    have wl1 : IntKind.i64.wrap (j.left - 1) = j.left - 1 := by rw [IntKind.wrap_i64]; have := JL.out; omega
    obtain ⟨y0, y1, y2, y3⟩ := jk_one JR.out
    simp only [Nat.zero_add] at y0 y1 y2 y3
    have t3 := JR.out.thaw 3
    have KJ : Hid (Kp zj w4 (w4.setCell ⟨zj, 3, none⟩ (.int .i64 (j.left - 1)))) := Kp.set _ _ _
    have J5 : Hid (Jk (w4.setCell ⟨zj, 3, none⟩ (.int .i64 (j.left - 1))) zj [j'] []) := by rw [← hj']; exact jk_dec JR.out _
    rw [hj'] at TR2
    clear hj'
    go_upto_region 17 with fail
    clear y0 y1 y2 y3 t3 wl1
    generalize w4.setCell ⟨zj, 3, none⟩ (.int .i64 (j.left - 1)) = w5 at *
    have TS5 : Hid (TnS Y es qs b (b + 2) bE r4o w2 (Value.slice a1 X.gs.length r1) (Value.slice a2 X.os.length r2) (Value.slice a3 X.gold.length r3) (Value.slice f4 Y.us.length c4) (Value.slice (some ⟨gj, 0, none⟩) X.qs.length r5) (Value.slice fa es.length fc) (Value.slice ga qs.length gc) w5) := TSR.out.box KJ.out ZJ.out.1 ZJ.out.2
    obtain ⟨j0, j1, j2, j3⟩ := jk_one J5.out
    simp only [Nat.zero_add] at j0 j1 j2 j3
    have BA : Hid (Below w5.heap.size w5 (w5.alloc (Obj.cells #[.int .i64 j'.player, .int .i64 j'.unit, .int .i64 j'.kind, .int .i64 j'.left] 71))) := (Below.refl _ _).alloc (Nat.le_refl _) _
    have JC : Hid (Jbc (w5.alloc (Obj.cells #[.int .i64 j'.player, .int .i64 j'.unit, .int .i64 j'.kind, .int .i64 j'.left] 71)) ⟨w5.heap.size, 0, none⟩ j') := Jbc.mk' (w := w5) j' rfl
    have TA : Hid (TnS Y es qs b (b + 2) bE r4o w2 (Value.slice a1 X.gs.length r1) (Value.slice a2 X.os.length r2) (Value.slice a3 X.gold.length r3) (Value.slice f4 Y.us.length c4) (Value.slice (some ⟨gj, 0, none⟩) X.qs.length r5) (Value.slice fa es.length fc) (Value.slice ga qs.length gc) (w5.alloc (Obj.cells #[.int .i64 j'.player, .int .i64 j'.unit, .int .i64 j'.kind, .int .i64 j'.left] 71))) := TS5.out.below BA.out
    go_wp2_with (at_builtin; refine app_jb _ rfl _ _ rfl bE _ qs rfl TA.out.o w5.heap.size j' rfl JC.out (by have := KL.out.2; omega) TA.out.size ?_)
    intro gq cq wE o8 g8 a8 l8
    have TE : Hid (TnS Y es (qs ++ [j']) b (b + 2) bE r4o w2 (Value.slice a1 X.gs.length r1) (Value.slice a2 X.os.length r2) (Value.slice a3 X.gold.length r3) (Value.slice f4 Y.us.length c4) (Value.slice (some ⟨gj, 0, none⟩) X.qs.length r5) (Value.slice fa es.length fc) (.slice (some ⟨gq, 0, none⟩) (qs.length + 1) cq) wE) := TA.out.left g8 o8 rfl (by simpa using a8)
    clear o8 g8 a8 l8 j0 j1 j2 j3
    go_wp2
    go_round
    case rel => exact ⟨n + 1, Y, es, qs ++ [j'], _, by omega, by go_num, TR2.out, TE.out⟩
    case measure => simp [intOf]; omega
   have LE1 : Hid (j.left = 1) := by have := JL.out; unfold Hid; omega
   obtain ⟨x0, x1, x2, x3, x4, x5, x6, x7, x8⟩ := TSR.out.x.cells
   obtain ⟨y0, y1, y2, y3⟩ := jk_one JR.out
   simp only [Nat.zero_add] at y0 y1 y2 y3
   obtain ⟨-, -, -, ⟨c0, -, F0, -, -, hsp, -⟩, -⟩ := (spot_any _ _ ks Y j.unit j.kind w4 (K.out.1.below BR.out) K.out.2 TSR.out.wl (SDH.out.below BR.out)) []
   obtain ⟨i, kn', Wn, Hn, an, u, k', l, s1, s2, s3, s4, s5, s6, G, s8, s9, s10, s11⟩ := spot_of RY.out JM.out hsp
   obtain rfl : kn = kn' := by have := JK.out.1; omega
   obtain rfl : k = k' := Option.some.inj (JK.out.2.symm.trans s4)
   have SP : Hid (SpotSays ks Y j.unit j.kind c0 F0) := hsp
   have SI : Hid (FstU (fun u => u.id == j.unit) Y.us (i : Nat) ∧ Y.us[i]? = some u ∧ u.at_ = (an : Nat) ∧ an < Wn * Hn ∧ Fd.Good Wn Hn Y.gs Y.os ∧ Y.wide = (Wn : Nat) ∧ Y.high = (Hn : Nat)) := ⟨s1, s2, s8, s9, G, s5, s6⟩
   have SL : Hid (IsFar (Fd.near Wn Hn) (fun i _ => (Y.gs.map fun g => Fd.onto g k.f).getD i 0) an (Wn * Hn) l ∧ NearSays l (Wn * Hn) (freeAt Y.us) c0 F0) := ⟨s10, s11⟩
   clear hsp s1 s2 s3 s4 s5 s6 G s8 s9 s10 s11
   go_wp2_with fail
   refine (rfind_any _ Y j.unit w4 TSR.out.wl).mono ?_
   rintro e w5 ⟨r, rfl, hf, hb5⟩
   obtain rfl : r = ((i : Nat) : Int) := by
    rcases hf with ⟨-, hf⟩ | ⟨i', y, rfl, e1, e2, e3⟩
    ·obtain ⟨x, x1, x2, -⟩ := fstu_nat SI.out.1
     rw [List.any_eq_false] at hf
     exact (hf x (List.mem_of_getElem? x1) x2).elim
    ·rw [fstu_uniq (.inr ⟨i', y, rfl, e1, e2, e3⟩) SI.out.1]
   have TS5 : Hid (TnS Y es qs b (b + 2) bE r4o w2 (Value.slice a1 X.gs.length r1) (Value.slice a2 X.os.length r2) (Value.slice a3 X.gold.length r3) (Value.slice f4 Y.us.length c4) (Value.slice (some ⟨gj, 0, none⟩) X.qs.length r5) (Value.slice fa es.length fc) (Value.slice ga qs.length gc) w5) := TSR.out.below hb5
   have J5 : Hid (Jk w5 zj [j] []) := JR.out.below hb5 JR.out.lt
   have B5 : Hid (Below w.heap.size w w5) := BR.out.trans (hb5.mono BR.out.size)
   clear hf hb5 x0 x1 x2 x3 x4 x5 x6 x7 x8 y0 y1 y2 y3 TSR JR
   have hil : i < Y.us.length := (List.getElem?_eq_some_iff.1 SI.out.2.1).1
   have hii : ((i : Nat) : Int) < (Y.us.length : Nat) := by omega
   obtain ⟨gu, cu, ur, e4, hub⟩ : ∃ g cap rest, (Value.slice f4 Y.us.length c4) = .slice (some ⟨g, 0, none⟩) Y.us.length cap ∧ Ub w5 g Y.us rest := by
    rcases TS5.out.o4.ub with ⟨-, h⟩ | ⟨g, cap, rest, h1, -, -, -, -, h2⟩
    ·rw [h] at hil; simp at hil
    ·exact ⟨g, cap, rest, h1, h2⟩
   injection e4 with e41 e42 e43
   subst e41 e43
   have UB : Hid (Ub w5 gu Y.us ur) := hub
   clear hub e42 hil
   go_upto_region 19 with fail
   have CB : Hid (∀ V, Below w5.heap.size w5 V → (Wx V b (.int .i64 Y.turn) (.int .i64 Y.next) (.int .i64 Y.wide) (.int .i64 Y.high) (Value.slice a1 X.gs.length r1) (Value.slice a2 X.os.length r2) (Value.slice a3 X.gold.length r3) (Value.slice (some ⟨gu, 0, none⟩) Y.us.length c4) (Value.slice (some ⟨gj, 0, none⟩) X.qs.length r5) ∧ V.cell? ⟨gu, i * 8 + 3, none⟩ = some (.int .i64 (an : Nat)) ∧ V.cell? ⟨zj, 2, none⟩ = some (.int .i64 (kn : Nat)))) := fun V hV => by
    have h2 := (jk_one (J5.out.below hV J5.out.lt)).c2
    have h3 := ((UB.out.below hV UB.out.lt).unc SI.out.2.1).c3
    simp only [Nat.zero_add] at h2
    rw [JK.out.1] at h2
    rw [SI.out.2.2.1] at h3
    exact ⟨TS5.out.x.below hV TS5.out.x.lt, h3, h2⟩
   refine wp_region_two [(true, 0), (true, 1), (true, 2), (true, 3), (true, 4), (true, 5), (true, 6), (true, 7), (true, 8), (true, 9), (false, 10)] [(false, 11)] (fun V => Wx V b (.int .i64 Y.turn) (.int .i64 Y.next) (.int .i64 Y.wide) (.int .i64 Y.high) (Value.slice a1 X.gs.length r1) (Value.slice a2 X.os.length r2) (Value.slice a3 X.gold.length r3) (Value.slice (some ⟨gu, 0, none⟩) Y.us.length c4) (Value.slice (some ⟨gj, 0, none⟩) X.qs.length r5) ∧ V.cell? ⟨gu, i * 8 + 3, none⟩ = some (.int .i64 (an : Nat)) ∧ V.cell? ⟨zj, 2, none⟩ = some (.int .i64 (kn : Nat))) (by kernel_rfl) (by kernel_rfl) (by kernel_rfl) (by decide +kernel) (by decide +kernel) (CB.out _ (Below.refl _ _).drew) ?_
   have D6 : Hid (Below w5.heap.size w5 { w5 with drawn := w5.drawn + 1 }) := (Below.refl _ _).drew
   generalize ({ w5 with drawn := w5.drawn + 1 } : World) = w6 at *
   refine headT_read rfl (.slice (some xk) ks.length qk) (by go_simp) (fun V hV => by go_simp) ?_
   go_simp
   refine headT_read rfl (.agg #[.int .i64 Y.turn, .int .i64 Y.next, .int .i64 Y.wide, .int .i64 Y.high, Value.slice a1 X.gs.length r1, Value.slice a2 X.os.length r2, Value.slice a3 X.gold.length r3, Value.slice (some ⟨gu, 0, none⟩) Y.us.length c4, Value.slice (some ⟨gj, 0, none⟩) X.qs.length r5]) (by go_simp) (fun V hV => by obtain ⟨hX, d2, d3⟩ := hV; obtain ⟨x0, x1, x2, x3, x4, x5, x6, x7, x8⟩ := hX.cells; go_simp) ?_
   go_simp
   refine headT_read rfl (.pointer (some ⟨b, 7, none⟩)) (by go_simp) (fun V hV => by go_simp) ?_
   go_simp
   refine headT_read rfl (Value.slice (some ⟨gu, 0, none⟩) Y.us.length c4) (by go_simp) (fun V hV => by obtain ⟨hX, d2, d3⟩ := hV; obtain ⟨x0, x1, x2, x3, x4, x5, x6, x7, x8⟩ := hX.cells; go_simp) ?_
   go_simp
   refine headT_read rfl (.int .i64 (i : Nat)) (by go_simp) (fun V hV => by go_simp) ?_
   go_simp
   refine headT_read rfl (.pointer (some ⟨gu, i * 8, none⟩)) (by go_simp) (fun V hV => by go_simp) ?_
   go_simp
   refine headT_read rfl (.pointer (some ⟨gu, i * 8 + 3, none⟩)) (by go_simp) (fun V hV => by go_simp) ?_
   go_simp
   refine headT_read rfl (.int .i64 (an : Nat)) (by go_simp) (fun V hV => by obtain ⟨hX, d2, d3⟩ := hV; obtain ⟨x0, x1, x2, x3, x4, x5, x6, x7, x8⟩ := hX.cells; go_simp) ?_
   go_simp
   refine headT_read rfl (.pointer (some ⟨zj, 2, none⟩)) (by go_simp) (fun V hV => by go_simp) ?_
   go_simp
   refine headT_read rfl (.int .i64 (kn : Nat)) (by go_simp) (fun V hV => by obtain ⟨hX, d2, d3⟩ := hV; obtain ⟨x0, x1, x2, x3, x4, x5, x6, x7, x8⟩ := hX.cells; go_simp) ?_
   go_simp
   refine headT_call rfl 15 #[.slice (some xk) ks.length qk, .agg #[.int .i64 Y.turn, .int .i64 Y.next, .int .i64 Y.wide, .int .i64 Y.high, Value.slice a1 X.gs.length r1, Value.slice a2 X.os.length r2, Value.slice a3 X.gold.length r3, Value.slice (some ⟨gu, 0, none⟩) Y.us.length c4, Value.slice (some ⟨gj, 0, none⟩) X.qs.length r5], .int .i64 (an : Nat), .int .i64 (kn : Nat)] (by go_simp) (by go_simp) ?_
   refine (rspot_any _ _ ks Y an kn Wn Hn k l w6 (K.out.1.below (B5.out.trans (D6.out.mono B5.out.size))) (TS5.out.below D6.out).wl SI.out.2.2.2.2.1 SI.out.2.2.2.2.2.1 SI.out.2.2.2.2.2.2 SI.out.2.2.2.1 JK.out.2 SL.out.1).mono ?_
   rintro e w8 ⟨rfl, hb8⟩
   have D8 : Hid (Below w5.heap.size w5 w8) := D6.out.trans (hb8.mono D6.out.size)
   obtain ⟨c, hc⟩ : ∃ c, (rsp l (freeAt Y.us) (Wn * Hn)).1 = c := ⟨_, rfl⟩
   have RC : Hid ((F0 = 6 ∧ c = -1) ∨ (F0 = 0 ∧ 0 ≤ c0 ∧ c = c0)) := by
    have h := rsp_near SL.out.2
    rw [hc] at h
    rcases h with ⟨h1, -, h2⟩ | h
    ·exact .inl ⟨h1, h2⟩
    ·exact .inr h
   rw [hc]
   refine ⟨_, rfl, CB.out _ D8.out, ?_⟩
   go_simp
   unfold wpHeadT
   refine sched_value rfl (.int .i64 c) w8 (by go_simp) (by go_simp) trivial ?_
   go_simp
   unfold wpSched
   have TS8 : Hid (TnS Y es qs b (b + 2) bE r4o w2 (Value.slice a1 X.gs.length r1) (Value.slice a2 X.os.length r2) (Value.slice a3 X.gold.length r3) (Value.slice (some ⟨gu, 0, none⟩) Y.us.length c4) (Value.slice (some ⟨gj, 0, none⟩) X.qs.length r5) (Value.slice fa es.length fc) (Value.slice ga qs.length gc) w8) := TS5.out.below D8.out
   have J8 : Hid (Jk w8 zj [j] []) := J5.out.below D8.out J5.out.lt
   have B8 : Hid (Below w.heap.size w w8) := B5.out.trans (D8.out.mono B5.out.size)
   clear hc hb8 D6 CB
   obtain ⟨x0, x1, x2, x3, x4, x5, x6, x7, x8⟩ := TS8.out.x.cells
   by_cases hst : c < 0 ∨ (40 ≤ (Y.us.length : Int) ∨ 1000000 ≤ Y.next)
   ·have NC : Hid (NoCome ks Y j) := by
     rcases RC.out with ⟨h1, -⟩ | ⟨h1, h2, h3⟩
     ·exact ⟨c0, F0, SP.out, .inl (by omega)⟩
     ·refine ⟨c0, F0, SP.out, .inr ?_⟩
      rw [Wd.pf4 (by rcases hst with h | h; omega; exact h)]
      decide
    have TR2 : Hid (Tr ks X (n + 1) Y es (qs ++ [j])) := by
     have h := Tr.stay TR.out JQ.out (by rw [DC.out]; show j.left - 1 = 0; have := LE1.out; omega) NC.out
     rw [one_is LE1.out] at h
     exact h
    have hst3 : c < 0 ∨ (¬ c < 0 ∧ 40 ≤ Y.us.length ∧ 40 ≤ (Y.us.length : Int)) ∨ (¬ c < 0 ∧ ¬ 40 ≤ Y.us.length ∧ ¬ 40 ≤ (Y.us.length : Int) ∧ 1000000 ≤ Y.next) := by omega
    clear hst
    rcases hst3 with g1 | ⟨g1, g2, g2i⟩ | ⟨g1, g2, g2i, g3⟩
    all_goals
     obtain ⟨j0, j1, j2, j3⟩ := jk_one J8.out
     simp only [Nat.zero_add] at j0 j1 j2 j3
     have BA : Hid (Below w8.heap.size w8 (w8.alloc (Obj.cells #[.int .i64 j.player, .int .i64 j.unit, .int .i64 j.kind, .int .i64 j.left] 71))) := (Below.refl _ _).alloc (Nat.le_refl _) _
     have JC : Hid (Jbc (w8.alloc (Obj.cells #[.int .i64 j.player, .int .i64 j.unit, .int .i64 j.kind, .int .i64 j.left] 71)) ⟨w8.heap.size, 0, none⟩ j) := Jbc.mk' (w := w8) j rfl
     have TA : Hid (TnS Y es qs b (b + 2) bE r4o w2 (Value.slice a1 X.gs.length r1) (Value.slice a2 X.os.length r2) (Value.slice a3 X.gold.length r3) (Value.slice (some ⟨gu, 0, none⟩) Y.us.length c4) (Value.slice (some ⟨gj, 0, none⟩) X.qs.length r5) (Value.slice fa es.length fc) (Value.slice ga qs.length gc) (w8.alloc (Obj.cells #[.int .i64 j.player, .int .i64 j.unit, .int .i64 j.kind, .int .i64 j.left] 71))) := TS8.out.below BA.out
     go_wp2_with (at_builtin; refine app_jb _ rfl _ _ rfl bE _ qs rfl TA.out.o w8.heap.size j rfl JC.out (by have := KL.out.2; omega) TA.out.size ?_)
     intro gq cq wE o8 g8 a8 l8
     have TE : Hid (TnS Y es (qs ++ [j]) b (b + 2) bE r4o w2 (Value.slice a1 X.gs.length r1) (Value.slice a2 X.os.length r2) (Value.slice a3 X.gold.length r3) (Value.slice (some ⟨gu, 0, none⟩) Y.us.length c4) (Value.slice (some ⟨gj, 0, none⟩) X.qs.length r5) (Value.slice fa es.length fc) (.slice (some ⟨gq, 0, none⟩) (qs.length + 1) cq) wE) := TA.out.left g8 o8 rfl (by simpa using a8)
     clear o8 g8 a8 l8 j0 j1 j2 j3
     go_wp2
     go_round
     case rel => exact ⟨n + 1, Y, es, qs ++ [j], _, by omega, by go_num, TR2.out, TE.out⟩
     case measure => simp [intOf]; omega
   ·skip
    obtain ⟨g1, g2, g3⟩ : ¬ c < 0 ∧ ¬ 40 ≤ (Y.us.length : Int) ∧ ¬ 1000000 ≤ Y.next := by omega
    have g2n : ¬ 40 ≤ Y.us.length := by omega
    have SC : Hid (SpotSays ks Y j.unit j.kind c 0) := by
     rcases RC.out with ⟨-, h⟩ | ⟨h1, -, h3⟩
     ·omega
     ·have h := SP.out
      rw [h1] at h
      rw [h3]
      exact h
    clear hst
    -- one comes
    have CM : Hid (Comes ks Y j c) := train_come RY.out JM.out SC.out (by omega)
    have TR2 : Hid (Tr ks X (n + 1) (Wd.put ks Y j.player j.kind c) (es ++ [⟨6, Y.next, c⟩]) qs) := Tr.come TR.out JQ.out (by rw [DC.out]; show j.left - 1 = 0; have := LE1.out; omega) CM.out
    have NXB : Hid (0 ≤ Y.next ∧ Y.next < 1000000) := by have := RY.out.next0; unfold Hid; omega
    have wn : IntKind.i64.wrap (Y.next + 1) = Y.next + 1 := by rw [IntKind.wrap_i64]; have := NXB.out; omega
    obtain ⟨x0, x1, x2, x3, x4, x5, x6, x7, x8⟩ := TS8.out.x.cells
    have BA : Hid (Below w8.heap.size w8 (w8.alloc (Obj.cells #[.int .i64 6, .int .i64 Y.next, .int .i64 c] 73))) := (Below.refl _ _).alloc (Nat.le_refl _) _
    have EC : Hid (Evc (w8.alloc (Obj.cells #[.int .i64 6, .int .i64 Y.next, .int .i64 c] 73)) ⟨w8.heap.size, 0, none⟩ ⟨6, Y.next, c⟩) := Evc.mk' (w := w8) ⟨6, Y.next, c⟩ rfl
    have TA : Hid (TnS Y es qs b (b + 2) bE r4o w2 (Value.slice a1 X.gs.length r1) (Value.slice a2 X.os.length r2) (Value.slice a3 X.gold.length r3) (Value.slice (some ⟨gu, 0, none⟩) Y.us.length c4) (Value.slice (some ⟨gj, 0, none⟩) X.qs.length r5) (Value.slice fa es.length fc) (Value.slice ga qs.length gc) (w8.alloc (Obj.cells #[.int .i64 6, .int .i64 Y.next, .int .i64 c] 73))) := TS8.out.below BA.out
    go_wp2_with (at_builtin; refine app_ev _ rfl _ _ rfl bE _ es rfl TA.out.e w8.heap.size ⟨6, Y.next, c⟩ rfl EC.out (by have := KL.out.1; omega) TA.out.size ?_)
    intro ge ce w9 o9 g9 a9 l9
    have TS9 : Hid (TnS Y (es ++ [⟨6, Y.next, c⟩]) qs b (b + 2) bE r4o w2 (Value.slice a1 X.gs.length r1) (Value.slice a2 X.os.length r2) (Value.slice a3 X.gold.length r3) (Value.slice (some ⟨gu, 0, none⟩) Y.us.length c4) (Value.slice (some ⟨gj, 0, none⟩) X.qs.length r5) (.slice (some ⟨ge, 0, none⟩) (es.length + 1) ce) (Value.slice ga qs.length gc) w9) := TA.out.told g9 o9
    have F9 : Hid (Fr (fun q => (Value.slice fa es.length fc).ownBlock = some q) w8 w9) := (Fr.below BA.out).trans (Fr.gb g9 (fun k hk => hk))
    have J9 : Hid (Jk w9 zj [j] []) := (F9.out.block zj J8.out.lt (fun e => by have := ZJ.out.2 _ (by simp) zj e; omega)).trans J8.out
    have K9 : Hid (Below w.heap.size w w9) := B8.out.trans (F9.out.low B8.out.size (fun k hk => by have := (TS8.out.e.block k hk).1; have := SE.out; have := HB.out; omega))
    clear x0 x1 x2 x3 x4 x5 x6 x7 x8 o9 g9 a9 l9 BA EC TA F9
    go_upto_region 23 with fail
    have CB : Hid (∀ V, Below w9.heap.size w9 V → (V.cell? ⟨b, 7, none⟩ = some (Value.slice (some ⟨gu, 0, none⟩) Y.us.length c4) ∧ V.cell? ⟨b, 1, none⟩ = some (.int .i64 Y.next) ∧ V.cell? ⟨zj, 0, none⟩ = some (.int .i64 j.player) ∧ V.cell? ⟨zj, 2, none⟩ = some (.int .i64 (kn : Nat)) ∧ V.cell? ⟨(xk.add (kn * 11)).block, (xk.add (kn * 11)).off + 1, none⟩ = some (.int .i64 k.n0))) := fun V hV => by
     have h0 := (jk_one (J9.out.below hV J9.out.lt)).c0
     have h2 := (jk_one (J9.out.below hV J9.out.lt)).c2
     simp only [Nat.zero_add] at h0 h2
     rw [JK.out.1] at h2
     exact ⟨(TS9.out.x.below hV TS9.out.x.lt).cells.2.2.2.2.2.2.2.1, (TS9.out.x.below hV TS9.out.x.lt).cells.2.1, h0, h2, (KCC.out.2.below (K9.out.trans (hV.mono K9.out.size)) (by rw [add_block]; exact KCC.out.1)).c1⟩
    refine wp_region_two [(true, 0), (true, 1), (true, 2), (true, 3), (true, 4), (true, 5), (true, 6), (true, 7), (true, 8), (true, 9), (true, 10), (true, 11), (true, 12), (true, 13), (true, 14), (true, 15), (false, 16), (false, 17), (true, 18)] [(false, 19)] (fun V => V.cell? ⟨b, 7, none⟩ = some (Value.slice (some ⟨gu, 0, none⟩) Y.us.length c4) ∧ V.cell? ⟨b, 1, none⟩ = some (.int .i64 Y.next) ∧ V.cell? ⟨zj, 0, none⟩ = some (.int .i64 j.player) ∧ V.cell? ⟨zj, 2, none⟩ = some (.int .i64 (kn : Nat)) ∧ V.cell? ⟨(xk.add (kn * 11)).block, (xk.add (kn * 11)).off + 1, none⟩ = some (.int .i64 k.n0)) (by kernel_rfl) (by kernel_rfl) (by kernel_rfl) (by decide +kernel) (by decide +kernel) (CB.out _ (Below.refl _ _).drew) ?_
    have DD : Hid (Below w9.heap.size w9 { w9 with drawn := w9.drawn + 1 }) := (Below.refl _ _).drew
    generalize ({ w9 with drawn := w9.drawn + 1 } : World) = wd at *
    refine headT_read rfl (.pointer (some ⟨b, 7, none⟩)) (by go_simp) (fun V hV => by go_simp) ?_
    go_simp
    refine headT_read rfl (Value.slice (some ⟨gu, 0, none⟩) Y.us.length c4) (by go_simp) (fun V hV => by obtain ⟨d1, d2, d3, d4, d5⟩ := hV; go_simp) ?_
    go_simp
    refine headT_read rfl (.pointer (some ⟨b, 1, none⟩)) (by go_simp) (fun V hV => by go_simp) ?_
    go_simp
    refine headT_read rfl (.int .i64 Y.next) (by go_simp) (fun V hV => by obtain ⟨d1, d2, d3, d4, d5⟩ := hV; go_simp) ?_
    go_simp
    refine headT_read rfl (.pointer (some ⟨zj, 0, none⟩)) (by go_simp) (fun V hV => by go_simp) ?_
    go_simp
    refine headT_read rfl (.int .i64 j.player) (by go_simp) (fun V hV => by obtain ⟨d1, d2, d3, d4, d5⟩ := hV; go_simp) ?_
    go_simp
    refine headT_read rfl (.pointer (some ⟨zj, 2, none⟩)) (by go_simp) (fun V hV => by go_simp) ?_
    go_simp
    refine headT_read rfl (.int .i64 (kn : Nat)) (by go_simp) (fun V hV => by obtain ⟨d1, d2, d3, d4, d5⟩ := hV; go_simp) ?_
    go_simp
    refine headT_read rfl (.int .i64 c) (by go_simp) (fun V hV => by go_simp) ?_
    go_simp
    refine headT_read rfl (.slice (some xk) ks.length qk) (by go_simp) (fun V hV => by go_simp) ?_
    go_simp
    refine headT_read rfl (.pointer (some ⟨zj, 2, none⟩)) (by go_simp) (fun V hV => by go_simp) ?_
    go_simp
    refine headT_read rfl (.int .i64 (kn : Nat)) (by go_simp) (fun V hV => by obtain ⟨d1, d2, d3, d4, d5⟩ := hV; go_simp) ?_
    go_simp
    refine headT_read rfl (.pointer (some (xk.add (kn * 11)))) (by go_simp) (fun V hV => by go_simp) ?_
    go_simp
    refine headT_read rfl (.pointer (some ⟨(xk.add (kn * 11)).block, (xk.add (kn * 11)).off + 1, none⟩)) (by go_simp) (fun V hV => by go_simp) ?_
    go_simp
    refine headT_read rfl (.int .i64 k.n0) (by go_simp) (fun V hV => by obtain ⟨d1, d2, d3, d4, d5⟩ := hV; go_simp) ?_
    go_simp
    refine headT_read rfl (.agg #[.int .i64 Y.next, .int .i64 j.player, .int .i64 (kn : Nat), .int .i64 c, .int .i64 k.n0, .int .i64 0, .int .i64 0, .int .i64 0]) (by go_simp) (fun V hV => by go_simp) ?_
    go_simp
    have BA : Hid (Below wd.heap.size wd (wd.alloc (Obj.cells #[.int .i64 Y.next, .int .i64 j.player, .int .i64 (kn : Nat), .int .i64 c, .int .i64 k.n0, .int .i64 0, .int .i64 0, .int .i64 0] 44))) := (Below.refl _ _).alloc (Nat.le_refl _) _
    have UC : Hid (Unc (wd.alloc (Obj.cells #[.int .i64 Y.next, .int .i64 j.player, .int .i64 (kn : Nat), .int .i64 c, .int .i64 k.n0, .int .i64 0, .int .i64 0, .int .i64 0] 44)) ⟨wd.heap.size, 0, none⟩ ⟨Y.next, j.player, (kn : Nat), c, k.n0, 0, 0, 0⟩) := Unc.mk' (w := wd) ⟨Y.next, j.player, (kn : Nat), c, k.n0, 0, 0, 0⟩ rfl
    have D10 : Hid (Below w9.heap.size w9 (wd.alloc (Obj.cells #[.int .i64 Y.next, .int .i64 j.player, .int .i64 (kn : Nat), .int .i64 c, .int .i64 k.n0, .int .i64 0, .int .i64 0, .int .i64 0] 44))) := DD.out.trans (BA.out.mono DD.out.size)
    refine headT_value rfl (.slice (some ⟨wd.heap.size, 0, none⟩) 1 1) (wd.alloc (Obj.cells #[.int .i64 Y.next, .int .i64 j.player, .int .i64 (kn : Nat), .int .i64 c, .int .i64 k.n0, .int .i64 0, .int .i64 0, .int .i64 0] 44)) (by go_simp) (by go_simp) (CB.out _ D10.out) ?_
    go_simp
    generalize wd.alloc (Obj.cells #[.int .i64 Y.next, .int .i64 j.player, .int .i64 (kn : Nat), .int .i64 c, .int .i64 k.n0, .int .i64 0, .int .i64 0, .int .i64 0] 44) = wa at *
    have TSa : Hid (TnS Y (es ++ [⟨6, Y.next, c⟩]) qs b (b + 2) bE r4o w2 (Value.slice a1 X.gs.length r1) (Value.slice a2 X.os.length r2) (Value.slice a3 X.gold.length r3) (Value.slice (some ⟨gu, 0, none⟩) Y.us.length c4) (Value.slice (some ⟨gj, 0, none⟩) X.qs.length r5) (.slice (some ⟨ge, 0, none⟩) (es.length + 1) ce) (Value.slice ga qs.length gc) wa) := TS9.out.below D10.out
    obtain ⟨gq, cq, wb, hr, ho, hg, ha, hl⟩ := run_un wa 26 (b + 2) _ Y.us TSa.out.o4 _ _ UC.out (by have := KL.out; omega) (Nat.le_trans TSa.out.n.2.1 TSa.out.size)
    have FU : Hid (Fr (fun q => (Value.slice (some ⟨gu, 0, none⟩) Y.us.length c4).ownBlock = some q) wa wb) := Fr.gb hg (fun k hk => hk)
    have NZ : Hid (∀ x, x = b ∨ x = zj → ¬ (Value.slice (some ⟨gu, 0, none⟩) Y.us.length c4).ownBlock = some x) := fun x hx e => by
     have h1 := (TSa.out.o4.block x e).1
     rcases hx with rfl | rfl
     ·omega
     ·have := ZJ.out.2 _ (by simp) _ e; omega
    have XB : Hid (Wx wb b (.int .i64 Y.turn) (.int .i64 Y.next) (.int .i64 Y.wide) (.int .i64 Y.high) (Value.slice a1 X.gs.length r1) (Value.slice a2 X.os.length r2) (Value.slice a3 X.gold.length r3) (Value.slice (some ⟨gu, 0, none⟩) Y.us.length c4) (Value.slice (some ⟨gj, 0, none⟩) X.qs.length r5)) := FU.out.wx TSa.out.x (NZ.out b (.inl rfl))
    have CBb : Hid (wb.cell? ⟨b, 7, none⟩ = some (Value.slice (some ⟨gu, 0, none⟩) Y.us.length c4) ∧ wb.cell? ⟨b, 1, none⟩ = some (.int .i64 Y.next) ∧ wb.cell? ⟨zj, 0, none⟩ = some (.int .i64 j.player) ∧ wb.cell? ⟨zj, 2, none⟩ = some (.int .i64 (kn : Nat)) ∧ wb.cell? ⟨(xk.add (kn * 11)).block, (xk.add (kn * 11)).off + 1, none⟩ = some (.int .i64 k.n0)) := by
     have h := CB.out wa D10.out
     refine ⟨XB.out.cells.2.2.2.2.2.2.2.1, XB.out.cells.2.1, FU.out.cell h.2.2.1 (NZ.out zj (.inr rfl)), FU.out.cell h.2.2.2.1 (NZ.out zj (.inr rfl)), FU.out.cell h.2.2.2.2 (fun e => ?_)⟩
     have h1 := (TSa.out.o4.block _ e).1
     have h2 := KCC.out.1
     have h3 := HB.out
     rw [add_block] at h1
     omega
    refine headT_value rfl (.slice (some ⟨gq, 0, none⟩) (Y.us.length + 1) cq) wb (by go_simp) (exec_append _ _ _ _ rfl _ _ (by go_simp) (by go_simp) hr) CBb.out ?_
    go_simp
    refine headT_read rfl (.pointer (some ⟨b, 7, none⟩)) (by go_simp) (fun V hV => by go_simp) ?_
    go_simp
    unfold wpHeadT
    have t7 := XB.out.thaw 7
    have x7 := XB.out.cells.2.2.2.2.2.2.2.1
    refine sched_skip rfl (wb.setCell ⟨b, 7, none⟩ (.slice (some ⟨gq, 0, none⟩) (Y.us.length + 1) cq)) (by go_simp) (by go_simp) trivial ?_
    go_simp
    have XC : Hid (Wx (wb.setCell ⟨b, 7, none⟩ (.slice (some ⟨gq, 0, none⟩) (Y.us.length + 1) cq)) b (.int .i64 Y.turn) (.int .i64 Y.next) (.int .i64 Y.wide) (.int .i64 Y.high) (Value.slice a1 X.gs.length r1) (Value.slice a2 X.os.length r2) (Value.slice a3 X.gold.length r3) (.slice (some ⟨gq, 0, none⟩) (Y.us.length + 1) cq) (Value.slice (some ⟨gj, 0, none⟩) X.qs.length r5)) := XB.out.set7 _
    have KC1 : Hid (Kp b wb (wb.setCell ⟨b, 7, none⟩ (.slice (some ⟨gq, 0, none⟩) (Y.us.length + 1) cq))) := Kp.set _ _ _
    clear t7 x7 CB CBb
    generalize wb.setCell ⟨b, 7, none⟩ (.slice (some ⟨gq, 0, none⟩) (Y.us.length + 1) cq) = wc1 at *
    unfold wpSched
    obtain ⟨x0, x1, x2, x3, x4, x5, x6, x7, x8⟩ := XC.out.cells
    have t1 := XC.out.thaw 1
    have XD : Hid (Wx (wc1.setCell ⟨b, 1, none⟩ (.int .i64 (Y.next + 1))) b (.int .i64 Y.turn) (.int .i64 (Y.next + 1)) (.int .i64 Y.wide) (.int .i64 Y.high) (Value.slice a1 X.gs.length r1) (Value.slice a2 X.os.length r2) (Value.slice a3 X.gold.length r3) (.slice (some ⟨gq, 0, none⟩) (Y.us.length + 1) cq) (Value.slice (some ⟨gj, 0, none⟩) X.qs.length r5)) := XC.out.set1 _
    have KD : Hid (Kp b wb (wc1.setCell ⟨b, 1, none⟩ (.int .i64 (Y.next + 1)))) := KC1.out.trans (Kp.set _ _ _)
    have PE : Hid (Wd.put ks Y j.player j.kind c = { Y with next := Y.next + 1, us := Y.us ++ [⟨Y.next, j.player, (kn : Nat), c, k.n0, 0, 0, 0⟩] }) := by
     unfold Hid Wd.put Wd.newUnit
     rw [JK.out.1, Int.toNat_natCast, JK.out.2]
    have HL9 : Hid ((Wd.put ks Y j.player j.kind c).us.length = Y.us.length + 1) := by unfold Hid Wd.put; simp
    go_upto_region 6 with fail
    clear x0 x1 x2 x3 x4 x5 x6 x7 x8 t1 wn
    generalize wc1.setCell ⟨b, 1, none⟩ (.int .i64 (Y.next + 1)) = we at *
    have TE : Hid (TnS (Wd.put ks Y j.player j.kind c) (es ++ [⟨6, Y.next, c⟩]) qs b (b + 2) bE r4o w2 (Value.slice a1 X.gs.length r1) (Value.slice a2 X.os.length r2) (Value.slice a3 X.gold.length r3) (.slice (some ⟨gq, 0, none⟩) (Y.us.length + 1) cq) (Value.slice (some ⟨gj, 0, none⟩) X.qs.length r5) (.slice (some ⟨ge, 0, none⟩) (es.length + 1) ce) (Value.slice ga qs.length gc) we) := by
     rw [PE.out]
     exact TSa.out.more hg ho rfl ha KD.out XD.out
    clear hr ho hg ha hl
    go_wp2
    go_round
    case rel => exact ⟨n + 1, _, _, _, _, by omega, by go_num, TR2.out, TE.out⟩
    case measure => simp [intOf]; omega
end Go.Proofs.YteieikgkmfglaaaGreatDoor
namespace Go.Proofs.YteieikgkmfglaaaGreatDoor
open Go.RowKit
set_option linter.unusedVariables false
set_option maxRecDepth 100000
theorem im_law : Maps.Keyed Tryz.prog 3 := Maps.int_keyed Tryz.underlying3
theorem im_key {p : Int} (hp : (Lit.int .i64 p).wf = true) : ∃ kl, keyOf Tryz.prog 3 (.int .i64 p) = some kl := ⟨_, Maps.keyOf_int_mk Tryz.underlying3 hp⟩
theorem im_zero (w : World) : (zeroValue 3).run Tryz.prog w = .ok (.int .i64 0) w := by kernel_rfl
theorem wfi64 {n : Int} (h0 : -9223372036854775808 ≤ n) (h1 : n ≤ 9223372036854775807) : (Lit.int .i64 n).wf = true := WalkArith.wf_i64 (by omega)
/-- block b is a map: f tells what stands at each number. -/
def Im (w : World) (b n : Nat) (f : Int → Int) : Prop := ∃ D : DataW Unit, w.ownsMap Tryz.prog 3 (plainElem Tryz.prog 3) b n D ∧ Maps.IsMap D ∧ ∀ p kl, keyOf Tryz.prog 3 (.int .i64 p) = some kl → D.atKey kl (.lit (.int .i64 0)) = .lit (.int .i64 (f p))
def updI (f : Int → Int) (p v : Int) : Int → Int := fun p' => if p' = p then v else f p'
theorem im_made (w : World) : Im (w.alloc (.map #[] 0)) w.heap.size 0 (fun _ => 0) :=
 ⟨.map [], World.ownsMap_made _ _ _ _, Maps.isMap_empty, fun p kl _ => Maps.atKey_of_not_has rfl _⟩
theorem Im.lt {w : World} {b n : Nat} {f : Int → Int} (h : Im w b n f) : b < w.heap.size := by
 obtain ⟨D, h1, -⟩ := h
 exact h1.lt
theorem Im.gb {w w' : World} {b n : Nat} {f : Int → Int} {r : Option Nat} (h : Im w b n f) (g : w.grownBy w' r) (hr : some b ≠ r) : Im w' b n f := by
 obtain ⟨D, h1, h2⟩ := h
 exact ⟨D, h1.kept g hr, h2⟩
theorem Im.below {w w' : World} {b n : Nat} {f : Int → Int} (h : Im w b n f) (g : Below w.heap.size w w') : Im w' b n f :=
 h.gb (r := none) ⟨g.os, g.tape, g.output, g.size, fun k hk _ => g.block k hk⟩ (by simp)
theorem Im.put {w : World} {b n : Nat} {f : Int → Int} (h : Im w b n f) (hn : n < maxLen) {p v : Int} (hp : (Lit.int .i64 p).wf = true) (hv : (Lit.int .i64 v).wf = true) :
  ∃ w', (Instr.mapUpdate 80 (.map (some b)) (.int .i64 p) (.int .i64 v)).run Tryz.prog w = .ok () w' ∧ Im w' b (n + 1) (updI f p v) ∧ w.grownBy w' (some b) := by
 obtain ⟨D, h1, hD, h2⟩ := h
 obtain ⟨kl, hk⟩ := im_key hp
 obtain ⟨w', r, o, g⟩ := World.ownsMap.update h1 im_law Tryz.underlying80 hn hk (plainElem_int Tryz.underlying3 hv)
 refine ⟨w', r, ⟨_, o, hD.put _ _, fun p' kl' hk' => ?_⟩, g⟩
 unfold updI
 by_cases e : kl' = kl
 ·subst e
  have ei := im_law.inj hk hk'
  simp only [Value.int.injEq, true_and] at ei
  rw [if_pos ei.symm]
  exact Maps.atKey_put_same hD (im_law.key hk) _ _
 ·rw [Maps.atKey_put_other e, if_neg, h2 p' kl' hk']
  rintro rfl
  exact e (Option.some.inj (hk'.symm.trans hk))
theorem Im.look {w : World} {b n : Nat} {f : Int → Int} (h : Im w b n f) {p : Int} (hp : (Lit.int .i64 p).wf = true) :
  (Instr.lookup 80 (.map (some b)) (.int .i64 p) false).run Tryz.prog w = .ok (.int .i64 (f p)) w := by
 obtain ⟨D, h1, hD, h2⟩ := h
 obtain ⟨kl, hk⟩ := im_key hp
 obtain ⟨c, hr, hat, -⟩ := h1.lookup_int im_law Tryz.underlying80 Tryz.underlying3 (im_zero w) hk
 rw [h2 p kl hk] at hat
 injection hat with e
 injection e with _ e
 rw [e]
 exact hr
end Go.Proofs.YteieikgkmfglaaaGreatDoor
namespace Go.Proofs.YteieikgkmfglaaaGreatDoor
open Go.RowKit
set_option linter.unusedVariables false
set_option maxRecDepth 100000 in
set_option maxHeartbeats 4000000 in
theorem isfirst_any (j : JbV) (bc bm n : Nat) (f : Int → Int) (w : World) (hc : w.cell? ⟨bc, 0, none⟩ = some (.map (some bm))) (hm : Im w bm n f) (hne : bc ≠ bm) (hn : n ≤ 1000) (hf : 0 ≤ f j.unit ∧ f j.unit ≤ 1000) (hu : (Lit.int .i64 j.unit).wf = true) :
  Calls Tryz.prog 37 #[j.val, .pointer (some ⟨bc, 0, none⟩)] w fun e w' => ∃ b : Bool, b = (f j.unit == 0) ∧ e = .returned (.bool b) ∧ Im w' bm (n + 1) (updI f j.unit (f j.unit + 1)) ∧ Fr (fun q => q = bm) w w' := by
 have HC : Hid (w.cell? ⟨bc, 0, none⟩ = some (.map (some bm))) := hc
 have HM : Hid (Im w bm n f) := hm
 have WF : Hid ((Lit.int .i64 j.unit).wf = true ∧ (Lit.int .i64 (f j.unit + 1)).wf = true) := ⟨hu, wfi64 (by omega) (by omega)⟩
 obtain ⟨fu, hfu⟩ : ∃ x, f j.unit = x := ⟨_, rfl⟩
 have FU : Hid (f j.unit = fu) := hfu
 rw [hfu] at hf
 clear hc hm hu hfu
 unfold JbV.val
 go_enter Tryz.func37, Tryz.ntmps37
 go_upto_region 1 with fail
 have B1 : Hid (Below w.heap.size w (w.alloc (Obj.cells #[.int .i64 j.player, .int .i64 j.unit, .int .i64 j.kind, .int .i64 j.left] 71))) := (Below.refl _ _).alloc (Nat.le_refl _) _
 obtain ⟨z, hz⟩ : ∃ z, w.heap.size = z := ⟨_, rfl⟩
 have X1 : Hid (Jbc (w.alloc (Obj.cells #[.int .i64 j.player, .int .i64 j.unit, .int .i64 j.kind, .int .i64 j.left] 71)) ⟨z, 0, none⟩ j) := Jbc.mk' (w := w) j hz
 have ZM : Hid (bm < z ∧ bc < z) := by unfold Hid; rw [← hz]; exact ⟨HM.out.lt, cell_lt HC.out⟩
 rw [hz]
 clear hz
 generalize w.alloc (Obj.cells #[.int .i64 j.player, .int .i64 j.unit, .int .i64 j.kind, .int .i64 j.left] 71) = w1 at *
 have c1 : w1.cell? ⟨bc, 0, none⟩ = some (.map (some bm)) := by rw [B1.out.cell (p := ⟨bc, 0, none⟩) (cell_lt HC.out)]; exact HC.out
 have m1 := HM.out.below B1.out
 have j1 : w1.cell? ⟨z, 1, none⟩ = some (.int .i64 j.unit) := X1.out.c1
 have l1 := m1.look WF.out.1
 rw [FU.out] at l1
 obtain ⟨w2, u2, o2, g2⟩ := m1.put (by unfold maxLen; omega) WF.out.1 WF.out.2
 rw [FU.out] at u2
 have M2 : Hid (Im w2 bm (n + 1) (updI f j.unit (f j.unit + 1))) := o2
 have G2 : Hid (w1.grownBy w2 (some bm)) := g2
 have L2 := o2.look WF.out.1
 have e2 : updI f j.unit (f j.unit + 1) j.unit = fu + 1 := by unfold updI; rw [if_pos rfl, FU.out]
 rw [e2] at L2
 have c2 : w2.cell? ⟨bc, 0, none⟩ = some (.map (some bm)) := by
  have := G2.out.block bc (Nat.lt_trans ZM.out.2 X1.out.lt) (by simp; omega)
  unfold World.cell? at c1 ⊢
  rw [this]
  exact c1
 have j2 : w2.cell? ⟨z, 1, none⟩ = some (.int .i64 j.unit) := by
  have := G2.out.block z X1.out.lt (by simp; have := ZM.out; omega)
  unfold World.cell? at j1 ⊢
  rw [this]
  exact j1
 have wf1 : IntKind.i64.wrap (fu + 1) = fu + 1 := by rw [IntKind.wrap_i64]; omega
 have FR : Hid (Fr (fun q => q = bm) w w2) := (Fr.below B1.out).trans (Fr.gb G2.out (fun k hk => by injection hk with hk; exact hk.symm))
 clear m1 o2 g2 e2
 by_cases h0 : fu = 0
 ·subst h0
  simp only [Int.zero_add] at u2 L2 wf1
  go_wp2
  go_ret
  exact ⟨true, by rw [FU.out]; rfl, rfl, by rw [FU.out] at M2; rw [FU.out]; exact M2.out, FR.out⟩
 ·have h1 : (fu + 1 == 1) = false := by rw [beq_eq_false_iff_ne]; omega
  have h1' : ¬ fu + 1 = 1 := by omega
  go_wp2
  go_ret
  exact ⟨false, by rw [FU.out]; exact (beq_eq_false_iff_ne.2 h0).symm, rfl, by rw [FU.out] at M2; rw [FU.out]; exact M2.out, FR.out⟩
end Go.Proofs.YteieikgkmfglaaaGreatDoor
namespace Go.Proofs.YteieikgkmfglaaaGreatDoor
open Go.RowKit
set_option linter.unusedVariables false
set_option maxRecDepth 100000 in
set_option maxHeartbeats 4000000 in
theorem cplace_any (vk vw : Value) (ks : List KV) (W : WV) (pl kd at_ : Int) (w : World) (hk : Kl w vk ks) (hw : Wl w vw W) (hr : WRight ks W) :
  Calls Tryz.prog 98 #[vk, vw, .int .i64 pl, .int .i64 kd, .int .i64 at_] w fun e w' => ∃ r, e = .returned r ∧ Er r (Wd.placeFault ks W pl kd at_) ∧ Below w.heap.size w w' := by
 have K : Hid (Kl w vk ks) := hk
 have H : Hid (Wl w vw W) := hw
 have R : Hid (WRight ks W) := hr
 obtain ⟨u1, u2, u3, u4, u5, rfl, r1, r2, r3, r4, r5⟩ := hw
 obtain ⟨p1, q1, rfl, -⟩ := r1
 obtain ⟨p2, q2, rfl, -⟩ := r2
 obtain ⟨p3, q3, rfl, -⟩ := r3
 obtain ⟨p4, q4, rfl, -⟩ := r4
 obtain ⟨p5, q5, rfl, -⟩ := r5
 obtain ⟨pk, qk, rfl, -, -, kc⟩ := hk
 have KC : Hid (ks ≠ [] → ∃ x, pk = some x ∧ x.block < w.heap.size ∧ ∀ (i : Nat) k, ks[i]? = some k → Kc w (x.add (i * 11)) k) := kc
 have lk : ks.length ≤ 8 := kinds_len hr.kinds
 have lg : W.gold.length ≤ 4 := (nums_ok hr.nums).2
 have lu : W.us.length ≤ 40 := hr.ul
 have lc : W.gs.length ≤ 144 := by
  obtain ⟨Wn, Hn, -, -, G⟩ := hr.good
  have h1 := G.pos
  have h2 := G.gl
  omega
 clear hr kc
 go_enter Tryz.func98, Tryz.ntmps98
 go_upto_region 1 with fail
 have B0 : Hid (Below w.heap.size w (w.alloc (Obj.cells #[.int .i64 W.turn, .int .i64 W.next, .int .i64 W.wide, .int .i64 W.high, .slice p1 W.gs.length q1, .slice p2 W.os.length q2, .slice p3 W.gold.length q3, .slice p4 W.us.length q4, .slice p5 W.qs.length q5] 29))) := (Below.refl _ _).alloc (Nat.le_refl _) _
 have X0 : Hid (Bw (w.alloc (Obj.cells #[.int .i64 W.turn, .int .i64 W.next, .int .i64 W.wide, .int .i64 W.high, .slice p1 W.gs.length q1, .slice p2 W.os.length q2, .slice p3 W.gold.length q3, .slice p4 W.us.length q4, .slice p5 W.qs.length q5] 29)) w.heap.size W (.slice p1 W.gs.length q1) (.slice p2 W.os.length q2) (.slice p3 W.gold.length q3) (.slice p4 W.us.length q4) (.slice p5 W.qs.length q5)) := Bw.mk' W _ _ _ _ _ rfl
 generalize (w.alloc (Obj.cells #[.int .i64 W.turn, .int .i64 W.next, .int .i64 W.wide, .int .i64 W.high, .slice p1 W.gs.length q1, .slice p2 W.os.length q2, .slice p3 W.gold.length q3, .slice p4 W.us.length q4, .slice p5 W.qs.length q5] 29)) = w0 at *
 obtain ⟨x0, x1, x2, x3, x4, x5, x6, x7, x8⟩ := X0.out
 by_cases h40 : (40 : Int) ≤ (W.us.length : Int)
 ·go_wp2
  go_ret
  exact ⟨_, rfl, by rw [Wd.pf4 (.inl h40)]; exact Er.no (by decide), B0.out⟩
 by_cases hnx : (1000000 : Int) ≤ W.next
 ·go_wp2
  go_ret
  exact ⟨_, rfl, by rw [Wd.pf4 (.inr hnx)]; exact Er.no (by decide), B0.out⟩
 have HF : Hid (¬ (40 ≤ (W.us.length : Int) ∨ 1000000 ≤ W.next)) := fun h => h.elim h40 hnx
 by_cases h1 : 0 ≤ pl ∧ pl < (W.gold.length : Int)
 case neg =>
  have t1 : decide (0 ≤ pl ∧ pl < (W.gold.length : Int)) = false := decide_eq_false h1
  have F : Hid (Wd.placeFault ks W pl kd at_ = 1) := Wd.pf1 HF.out (.inl h1)
  clear h1
  go_wp2_with fail
  refine (isone_ints _ _ _ _ _ (by omega)).mono ?_
  rintro e w1 ⟨rfl, hww⟩
  obtain rfl := hww.symm
  rw [t1]
  clear t1
  go_wp2
  go_ret
  exact ⟨_, rfl, by rw [F.out]; exact Er.no (by decide), B0.out⟩
 have t1 : decide (0 ≤ pl ∧ pl < (W.gold.length : Int)) = true := decide_eq_true h1
 have H1 : Hid (0 ≤ pl ∧ pl < (W.gold.length : Int)) := h1
 clear h1
 go_wp2_with fail
 refine (isone_ints _ _ _ _ _ (by omega)).mono ?_
 rintro e w1 ⟨rfl, hww⟩
 obtain rfl := hww.symm
 rw [t1]
 clear t1
 by_cases h2 : 0 ≤ kd ∧ kd < (ks.length : Int)
 case neg =>
  have t1 : decide (0 ≤ kd ∧ kd < (ks.length : Int)) = false := decide_eq_false h2
  have F : Hid (Wd.placeFault ks W pl kd at_ = 1) := Wd.pf1 HF.out (.inr h2)
  clear h2
  go_wp2_with fail
  refine (isone_kinds _ _ _ _ _ (by omega)).mono ?_
  rintro e w1 ⟨rfl, hww⟩
  obtain rfl := hww.symm
  rw [t1]
  clear t1
  go_wp2
  go_ret
  exact ⟨_, rfl, by rw [F.out]; exact Er.no (by decide), B0.out⟩
 have t1 : decide (0 ≤ kd ∧ kd < (ks.length : Int)) = true := decide_eq_true h2
 have H2 : Hid (0 ≤ kd ∧ kd < (ks.length : Int)) := h2
 clear h2
 go_wp2_with fail
 refine (isone_kinds _ _ _ _ _ (by omega)).mono ?_
 rintro e w1 ⟨rfl, hww⟩
 obtain rfl := hww.symm
 rw [t1]
 clear t1
 by_cases h3 : 0 ≤ at_ ∧ at_ < (W.gs.length : Int)
 case neg =>
  have t1 : decide (0 ≤ at_ ∧ at_ < (W.gs.length : Int)) = false := decide_eq_false h3
  have F : Hid (Wd.placeFault ks W pl kd at_ = 6) := Wd.pf6 HF.out H1.out H2.out h3
  clear h3
  go_wp2_with fail
  refine (isone_ints _ _ _ _ _ (by omega)).mono ?_
  rintro e w1 ⟨rfl, hww⟩
  obtain rfl := hww.symm
  rw [t1]
  clear t1
  go_wp2
  go_ret
  exact ⟨_, rfl, by rw [F.out]; exact Er.no (by decide), B0.out⟩
 have t1 : decide (0 ≤ at_ ∧ at_ < (W.gs.length : Int)) = true := decide_eq_true h3
 have H3 : Hid (0 ≤ at_ ∧ at_ < (W.gs.length : Int)) := h3
 go_wp2_with fail
 refine (isone_ints _ _ _ _ _ (by omega)).mono ?_
 rintro e w1 ⟨rfl, hww⟩
 obtain rfl := hww.symm
 rw [t1]
 clear t1
 obtain ⟨an, ea⟩ : ∃ an : Nat, at_ = an := ⟨at_.toNat, by omega⟩
 obtain ⟨kn, ek⟩ : ∃ kn : Nat, kd = kn := ⟨kd.toNat, by have := H2.out; omega⟩
 subst ea
 subst ek
 have hkl : kn < ks.length := by have := H2.out; omega
 have hki : (kn : Int) < (ks.length : Int) := by omega
 obtain ⟨k, hk⟩ : ∃ k, ks[kn]? = some k := ⟨_, List.getElem?_eq_getElem hkl⟩
 obtain ⟨g, hg0⟩ : ∃ g, W.gs[an]? = some g := ⟨_, List.getElem?_eq_getElem (by omega)⟩
 have FK : Hid (Wd.placeFault ks W pl (kn : Nat) (an : Nat) = if Wd.open_ W.gs W.us (an : Nat) k.f = false then 7 else 0) := Wd.pfk HF.out H1.out H2.out H3.out (by simpa using hk)
 have hgan : Hid (W.gs[an]? = some g) := hg0
 obtain ⟨xk, rfl, hxl, hxc⟩ := KC.out (by intro e; rw [e] at hkl; simp at hkl)
 have hkc : Hid (Kc w0 (xk.add (kn * 11)) k) := (hxc kn k hk).below B0.out (by rw [add_block]; exact hxl)
 have FC : Hid (∀ V, Below w0.heap.size w0 V → V.cell? ⟨w.heap.size, 2, none⟩ = some (.int .i64 W.wide) ∧ V.cell? ⟨w.heap.size, 3, none⟩ = some (.int .i64 W.high) ∧ V.cell? ⟨w.heap.size, 4, none⟩ = some (.slice p1 W.gs.length q1) ∧ V.cell? ⟨w.heap.size, 5, none⟩ = some (.slice p2 W.os.length q2) ∧ V.cell? ⟨w.heap.size, 7, none⟩ = some (.slice p4 W.us.length q4) ∧ V.cell? ⟨(xk.add (kn * 11)).block, (xk.add (kn * 11)).off + 9, none⟩ = some (.bool k.f)) := fun V hV => by
  obtain ⟨-, -, z2, z3, z4, z5, -, z7, -⟩ := X0.out.below hV X0.out.lt
  obtain ⟨-, -, -, -, -, -, -, -, -, m9, -⟩ := hkc.out.below hV hkc.out.lt
  exact ⟨z2, z3, z4, z5, z7, m9⟩
 have OPN : Hid (∀ V, Below w0.heap.size w0 V → Calls Tryz.prog 90 #[.agg #[.int .i64 W.wide, .int .i64 W.high, .slice p1 W.gs.length q1, .slice p2 W.os.length q2], .slice p4 W.us.length q4, .int .i64 (an : Nat), .bool k.f] V fun e w' => e = .returned (.bool (Wd.open_ W.gs W.us (an : Nat) k.f)) ∧ Below w0.heap.size w0 w') := fun V hV => by
  have BV : Below w.heap.size w V := B0.out.trans (hV.mono B0.out.size)
  obtain ⟨r1, r2, -, r4, -⟩ := (H.out.below BV).slices
  obtain ⟨Wn, Hn, hWn, hHn, hGood⟩ := R.out.good
  rw [hWn, hHn]
  exact (isopen_any _ _ Wn Hn W.gs W.os W.us an g k.f V ⟨_, _, rfl, r1, r2⟩ hGood r4 (by have := hGood.gl; omega) hgan.out).mono fun e w' ⟨h1, h2⟩ => ⟨h1, hV.trans (h2.mono hV.size)⟩
 have eo : ∀ args w, (callFunc 90 args).run Tryz.prog w = .ok (.enter 90 args) w := by intro args w; go_simp
 clear hxc hk hg0 h3 x0 x1 x2 x3 x4 x5 x6 x7 x8
 go_upto_region 9 with fail
 refine wp_region_class 11 (fun V => Below w0.heap.size w0 V) (by kernel_rfl) (by kernel_rfl) (Below.refl _ _).drew ?_
 simp only [List.take_succ_cons, List.take_zero, List.drop_succ_cons, List.drop_zero]
 refine head_step (.pointer (some ⟨w.heap.size, 2, none⟩)) (by go_simp) (fun V hV => by go_simp) ?_
 go_simp
 refine head_step (.agg #[.int .i64 W.wide, .int .i64 W.high, .slice p1 W.gs.length q1, .slice p2 W.os.length q2]) (by go_simp) (fun V hV => by obtain ⟨f2, f3, f4, f5, -⟩ := FC.out V hV; go_simp) ?_
 go_simp
 refine head_step (.pointer (some ⟨w.heap.size, 7, none⟩)) (by go_simp) (fun V hV => by go_simp) ?_
 go_simp
 refine head_step (.slice p4 W.us.length q4) (by go_simp) (fun V hV => by obtain ⟨-, -, -, -, f7, -⟩ := FC.out V hV; go_simp) ?_
 go_simp
 refine head_step (.int .i64 (an : Nat)) (by go_simp) (fun V hV => by go_simp) ?_
 go_simp
 refine head_step (.slice (some xk) ks.length qk) (by go_simp) (fun V hV => by go_simp) ?_
 go_simp
 refine head_step (.int .i64 (kn : Nat)) (by go_simp) (fun V hV => by go_simp) ?_
 go_simp
 refine head_step (.pointer (some (xk.add (kn * 11)))) (by go_simp) (fun V hV => by go_simp) ?_
 go_simp
 refine head_step (.pointer (some ⟨(xk.add (kn * 11)).block, (xk.add (kn * 11)).off + 9, none⟩)) (by go_simp) (fun V hV => by go_simp) ?_
 go_simp
 refine head_step (.bool k.f) (by go_simp) (fun V hV => by obtain ⟨-, -, -, -, -, f10⟩ := FC.out V hV; go_simp) ?_
 go_simp
 refine head_call (.bool (Wd.open_ W.gs W.us (an : Nat) k.f)) 90 #[.agg #[.int .i64 W.wide, .int .i64 W.high, .slice p1 W.gs.length q1, .slice p2 W.os.length q2], .slice p4 W.us.length q4, .int .i64 (an : Nat), .bool k.f] (by go_simp) (fun V hV => by go_simp) (fun V hV => OPN.out V hV) ?_
 go_simp
 intro V hV
 have BV : Hid (Below w.heap.size w V) := B0.out.trans (hV.mono B0.out.size)
 obtain ⟨b9, hb9⟩ : ∃ b, Wd.open_ W.gs W.us (an : Nat) k.f = b := ⟨_, rfl⟩
 rw [hb9] at FK ⊢
 clear hV FC OPN hb9
 cases b9 with
 | false =>
  go_wp2
  go_ret
  exact ⟨_, rfl, by rw [FK.out]; exact Er.no (by decide), BV.out⟩
 | true =>
  go_wp2
  go_ret
  exact ⟨_, rfl, by rw [FK.out]; exact Er.nil, BV.out⟩
end Go.Proofs.YteieikgkmfglaaaGreatDoor
