/- The reference's Dig. -/
import Derived.Test.YteieikgkmfglaaaGreatDoorZWorksDo5
import Derived.Test.YteieikgkmfglaaaGreatDoorZWorksDo6
import Derived.BigQuiet
namespace Go.Proofs.YteieikgkmfglaaaGreatDoor
open Go.RowKit
set_option linter.unusedVariables false
/-- loop 1: the first q units have taken. -/
def RxI (ks : List KV) (X : WV) (b bE : Nat) (w2 : World) (u1 u2 u3 u4 u5 ev j : Value) (V : World) : Prop :=
 ∃ q : Nat, q ≤ X.us.length ∧ j = .int .i64 (q : Nat) ∧ Wx V b (.int .i64 X.turn) (.int .i64 X.next) (.int .i64 X.wide) (.int .i64 X.high) u1 u2 u3 u4 u5 ∧ TkS ks X (tk ks X q).1 (tk ks X q).2 (b + 2) bE w2 u1 u2 u3 u4 u5 ev V
/-- loop 2: the first q units have brought. -/
def RxJ (ks : List KV) (X Z : WV) (es : List EvV) (Wn Hn b bE : Nat) (w2 : World) (u1 u2 u3 u4 u5 ev j : Value) (V : World) : Prop :=
 ∃ q : Nat, q ≤ X.us.length ∧ j = .int .i64 (q : Nat) ∧ Wx V b (.int .i64 X.turn) (.int .i64 X.next) (.int .i64 X.wide) (.int .i64 X.high) u1 u2 u3 u4 u5 ∧ RxS ks Z (br ks Wn Hn Z q).1 (es ++ (br ks Wn Hn Z q).2) (b + 2) bE w2 u1 u2 u3 u4 u5 ev V
set_option maxRecDepth 100000 in
set_option maxHeartbeats 16000000 in
theorem rdig_any (vk vw : Value) (ks : List KV) (X : WV) (Wn Hn : Nat) (w : World) (hk : Kl w vk ks) (hw : Wl w vw X) (hr : WRight ks X) (e1 : X.wide = (Wn : Nat)) (e2 : X.high = (Hn : Nat)) :
  Calls Tryz.prog 7 #[vk, vw] w fun e w' => ∃ v ev, e = .returned (.tuple #[v, ev]) ∧ Wo w' w.heap.size v (dug ks Wn Hn X) ∧ Evo w' w.heap.size ev (dugEv ks Wn Hn X) ∧ Below w.heap.size w w' := by
 have K : Hid (Kl w vk ks) := hk
 have H : Hid (Wl w vw X) := hw
 have WR : Hid (WRight ks X) := hr
 have GD : Hid (X.wide = (Wn : Nat) ∧ X.high = (Hn : Nat)) := ⟨e1, e2⟩
 have hul : X.us.length ≤ 40 := hr.ul
 obtain ⟨p1, q1, p2, q2, p3, q3, p4, q4, p5, q5, rfl⟩ := wl_shape9 hw
 obtain ⟨pk, qk, rfl, ck1, ck2, kc⟩ := hk
 have KC : Hid (ks ≠ [] → ∃ x, pk = some x ∧ x.block < w.heap.size ∧ ∀ (i : Nat) k, ks[i]? = some k → Kc w (x.add (i * 11)) k) := kc
 clear hw hr kc e1 e2
 go_enter Tryz.func7, Tryz.ntmps7
 go_upto_region 1 with fail
 obtain ⟨b, hb0⟩ : ∃ z, w.heap.size = z := ⟨_, rfl⟩
 have B0 : Hid (Below w.heap.size w ((w.alloc (Obj.cells #[.int .i64 X.turn, .int .i64 X.next, .int .i64 X.wide, .int .i64 X.high, .slice p1 X.gs.length q1, .slice p2 X.os.length q2, .slice p3 X.gold.length q3, .slice p4 X.us.length q4, .slice p5 X.qs.length q5] 29)).alloc (Obj.cells #[.int .i64 0, .int .i64 0, .int .i64 0, .int .i64 0, .slice none 0 0, .slice none 0 0, .slice none 0 0, .slice none 0 0, .slice none 0 0] 29))) := ((Below.refl _ _).alloc (Nat.le_refl _) _).alloc (by simp) _
 have X0 : Hid (Wx ((w.alloc (Obj.cells #[.int .i64 X.turn, .int .i64 X.next, .int .i64 X.wide, .int .i64 X.high, .slice p1 X.gs.length q1, .slice p2 X.os.length q2, .slice p3 X.gold.length q3, .slice p4 X.us.length q4, .slice p5 X.qs.length q5] 29)).alloc (Obj.cells #[.int .i64 0, .int .i64 0, .int .i64 0, .int .i64 0, .slice none 0 0, .slice none 0 0, .slice none 0 0, .slice none 0 0, .slice none 0 0] 29)) b (.int .i64 X.turn) (.int .i64 X.next) (.int .i64 X.wide) (.int .i64 X.high) (.slice p1 X.gs.length q1) (.slice p2 X.os.length q2) (.slice p3 X.gold.length q3) (.slice p4 X.us.length q4) (.slice p5 X.qs.length q5)) := (Wx.new (w := w) _ _ _ _ _ _ _ _ _ hb0).below ((Below.refl _ _).alloc (Nat.le_refl _) _) (by rw [← hb0]; simp)
 have Z0 : Hid (Wx ((w.alloc (Obj.cells #[.int .i64 X.turn, .int .i64 X.next, .int .i64 X.wide, .int .i64 X.high, .slice p1 X.gs.length q1, .slice p2 X.os.length q2, .slice p3 X.gold.length q3, .slice p4 X.us.length q4, .slice p5 X.qs.length q5] 29)).alloc (Obj.cells #[.int .i64 0, .int .i64 0, .int .i64 0, .int .i64 0, .slice none 0 0, .slice none 0 0, .slice none 0 0, .slice none 0 0, .slice none 0 0] 29)) (b + 1) (.int .i64 0) (.int .i64 0) (.int .i64 0) (.int .i64 0) (.slice none 0 0) (.slice none 0 0) (.slice none 0 0) (.slice none 0 0) (.slice none 0 0)) := Wx.new _ _ _ _ _ _ _ _ _ (by rw [← hb0]; simp)
 have N0 : Hid (((w.alloc (Obj.cells #[.int .i64 X.turn, .int .i64 X.next, .int .i64 X.wide, .int .i64 X.high, .slice p1 X.gs.length q1, .slice p2 X.os.length q2, .slice p3 X.gold.length q3, .slice p4 X.us.length q4, .slice p5 X.qs.length q5] 29)).alloc (Obj.cells #[.int .i64 0, .int .i64 0, .int .i64 0, .int .i64 0, .slice none 0 0, .slice none 0 0, .slice none 0 0, .slice none 0 0, .slice none 0 0] 29)).heap.size = b + 2) := by unfold Hid; rw [← hb0]; simp
 have HB : Hid (w.heap.size = b) := hb0
 (try rw [hb0])
 clear hb0
 generalize ((w.alloc (Obj.cells #[.int .i64 X.turn, .int .i64 X.next, .int .i64 X.wide, .int .i64 X.high, .slice p1 X.gs.length q1, .slice p2 X.os.length q2, .slice p3 X.gold.length q3, .slice p4 X.us.length q4, .slice p5 X.qs.length q5] 29)).alloc (Obj.cells #[.int .i64 0, .int .i64 0, .int .i64 0, .int .i64 0, .slice none 0 0, .slice none 0 0, .slice none 0 0, .slice none 0 0, .slice none 0 0] 29)) = w0 at *
 obtain ⟨x0, x1, x2, x3, x4, x5, x6, x7, x8⟩ := X0.out.cells
 go_wp2_with fail
 refine (rcopy_any _ X w0 (H.out.below B0.out) WR.out.len).mono ?_
 rintro e w1 ⟨cu, rfl, ⟨k1, k2, k3, k4, k5, rfl, ⟨o1, o2, o3, o4, o5⟩, d12, d13, d14, d15, d23, d24, d25, d34, d35, d45⟩, hb⟩
 obtain ⟨a1, r1, rfl⟩ := o1.len
 obtain ⟨a2, r2, rfl⟩ := o2.len
 obtain ⟨a3, r3, rfl⟩ := o3.len
 obtain ⟨a4, r4, rfl⟩ := o4.len
 obtain ⟨a5, r5, rfl⟩ := o5.len
 rw [N0.out] at o1 o2 o3 o4 o5
 have B1 : Hid (Below w.heap.size w w1) := B0.out.trans (hb.mono B0.out.size)
 have X1 : Hid (Wx w1 b (.int .i64 X.turn) (.int .i64 X.next) (.int .i64 X.wide) (.int .i64 X.high) (.slice p1 X.gs.length q1) (.slice p2 X.os.length q2) (.slice p3 X.gold.length q3) (.slice p4 X.us.length q4) (.slice p5 X.qs.length q5)) := X0.out.below hb X0.out.lt
 have Z1 : Hid (Wx w1 (b + 1) (.int .i64 0) (.int .i64 0) (.int .i64 0) (.int .i64 0) (.slice none 0 0) (.slice none 0 0) (.slice none 0 0) (.slice none 0 0) (.slice none 0 0)) := Z0.out.below hb Z0.out.lt
 clear x0 x1 x2 x3 x4 x5 x6 x7 x8 X0 Z0 B0
 obtain ⟨x0, x1, x2, x3, x4, x5, x6, x7, x8⟩ := X1.out.cells
 obtain ⟨t0, t1, t2, t3, t4, t5, t6, t7, t8⟩ := X1.out.thaws
 have KW : Hid (Kp b w1 (((((((((w1.setCell ⟨b, 0, none⟩ (.int .i64 X.turn)).setCell ⟨b, 1, none⟩ (.int .i64 X.next)).setCell ⟨b, 2, none⟩ (.int .i64 X.wide)).setCell ⟨b, 3, none⟩ (.int .i64 X.high)).setCell ⟨b, 4, none⟩ (Value.slice a1 X.gs.length r1)).setCell ⟨b, 5, none⟩ (Value.slice a2 X.os.length r2)).setCell ⟨b, 6, none⟩ (Value.slice a3 X.gold.length r3)).setCell ⟨b, 7, none⟩ (Value.slice a4 X.us.length r4)).setCell ⟨b, 8, none⟩ (Value.slice a5 X.qs.length r5))) := put_kp _ _ _ _ _ _ _ _ _ _ _
 have X2 : Hid (Wx (((((((((w1.setCell ⟨b, 0, none⟩ (.int .i64 X.turn)).setCell ⟨b, 1, none⟩ (.int .i64 X.next)).setCell ⟨b, 2, none⟩ (.int .i64 X.wide)).setCell ⟨b, 3, none⟩ (.int .i64 X.high)).setCell ⟨b, 4, none⟩ (Value.slice a1 X.gs.length r1)).setCell ⟨b, 5, none⟩ (Value.slice a2 X.os.length r2)).setCell ⟨b, 6, none⟩ (Value.slice a3 X.gold.length r3)).setCell ⟨b, 7, none⟩ (Value.slice a4 X.us.length r4)).setCell ⟨b, 8, none⟩ (Value.slice a5 X.qs.length r5)) b (.int .i64 X.turn) (.int .i64 X.next) (.int .i64 X.wide) (.int .i64 X.high) (Value.slice a1 X.gs.length r1) (Value.slice a2 X.os.length r2) (Value.slice a3 X.gold.length r3) (Value.slice a4 X.us.length r4) (Value.slice a5 X.qs.length r5)) := X1.out.put _ _ _ _ _ _ _ _ _
 have Z2 : Hid (Wx (((((((((w1.setCell ⟨b, 0, none⟩ (.int .i64 X.turn)).setCell ⟨b, 1, none⟩ (.int .i64 X.next)).setCell ⟨b, 2, none⟩ (.int .i64 X.wide)).setCell ⟨b, 3, none⟩ (.int .i64 X.high)).setCell ⟨b, 4, none⟩ (Value.slice a1 X.gs.length r1)).setCell ⟨b, 5, none⟩ (Value.slice a2 X.os.length r2)).setCell ⟨b, 6, none⟩ (Value.slice a3 X.gold.length r3)).setCell ⟨b, 7, none⟩ (Value.slice a4 X.us.length r4)).setCell ⟨b, 8, none⟩ (Value.slice a5 X.qs.length r5)) (b + 1) (.int .i64 0) (.int .i64 0) (.int .i64 0) (.int .i64 0) (.slice none 0 0) (.slice none 0 0) (.slice none 0 0) (.slice none 0 0) (.slice none 0 0)) := Z1.out.kp KW.out (by omega)
 have B2 : Hid (Below w.heap.size w (((((((((w1.setCell ⟨b, 0, none⟩ (.int .i64 X.turn)).setCell ⟨b, 1, none⟩ (.int .i64 X.next)).setCell ⟨b, 2, none⟩ (.int .i64 X.wide)).setCell ⟨b, 3, none⟩ (.int .i64 X.high)).setCell ⟨b, 4, none⟩ (Value.slice a1 X.gs.length r1)).setCell ⟨b, 5, none⟩ (Value.slice a2 X.os.length r2)).setCell ⟨b, 6, none⟩ (Value.slice a3 X.gold.length r3)).setCell ⟨b, 7, none⟩ (Value.slice a4 X.us.length r4)).setCell ⟨b, 8, none⟩ (Value.slice a5 X.qs.length r5))) := KW.out.below B1.out B1.out.size (by rw [HB.out]; exact Nat.le_refl _)
 have O2 : Hid (Ow (((((((((w1.setCell ⟨b, 0, none⟩ (.int .i64 X.turn)).setCell ⟨b, 1, none⟩ (.int .i64 X.next)).setCell ⟨b, 2, none⟩ (.int .i64 X.wide)).setCell ⟨b, 3, none⟩ (.int .i64 X.high)).setCell ⟨b, 4, none⟩ (Value.slice a1 X.gs.length r1)).setCell ⟨b, 5, none⟩ (Value.slice a2 X.os.length r2)).setCell ⟨b, 6, none⟩ (Value.slice a3 X.gold.length r3)).setCell ⟨b, 7, none⟩ (Value.slice a4 X.us.length r4)).setCell ⟨b, 8, none⟩ (Value.slice a5 X.qs.length r5)) (b + 2) (Value.slice a1 X.gs.length r1) X.gs ∧ Ow (((((((((w1.setCell ⟨b, 0, none⟩ (.int .i64 X.turn)).setCell ⟨b, 1, none⟩ (.int .i64 X.next)).setCell ⟨b, 2, none⟩ (.int .i64 X.wide)).setCell ⟨b, 3, none⟩ (.int .i64 X.high)).setCell ⟨b, 4, none⟩ (Value.slice a1 X.gs.length r1)).setCell ⟨b, 5, none⟩ (Value.slice a2 X.os.length r2)).setCell ⟨b, 6, none⟩ (Value.slice a3 X.gold.length r3)).setCell ⟨b, 7, none⟩ (Value.slice a4 X.us.length r4)).setCell ⟨b, 8, none⟩ (Value.slice a5 X.qs.length r5)) (b + 2) (Value.slice a2 X.os.length r2) X.os ∧ Ow (((((((((w1.setCell ⟨b, 0, none⟩ (.int .i64 X.turn)).setCell ⟨b, 1, none⟩ (.int .i64 X.next)).setCell ⟨b, 2, none⟩ (.int .i64 X.wide)).setCell ⟨b, 3, none⟩ (.int .i64 X.high)).setCell ⟨b, 4, none⟩ (Value.slice a1 X.gs.length r1)).setCell ⟨b, 5, none⟩ (Value.slice a2 X.os.length r2)).setCell ⟨b, 6, none⟩ (Value.slice a3 X.gold.length r3)).setCell ⟨b, 7, none⟩ (Value.slice a4 X.us.length r4)).setCell ⟨b, 8, none⟩ (Value.slice a5 X.qs.length r5)) (b + 2) (Value.slice a3 X.gold.length r3) X.gold ∧ Uno (((((((((w1.setCell ⟨b, 0, none⟩ (.int .i64 X.turn)).setCell ⟨b, 1, none⟩ (.int .i64 X.next)).setCell ⟨b, 2, none⟩ (.int .i64 X.wide)).setCell ⟨b, 3, none⟩ (.int .i64 X.high)).setCell ⟨b, 4, none⟩ (Value.slice a1 X.gs.length r1)).setCell ⟨b, 5, none⟩ (Value.slice a2 X.os.length r2)).setCell ⟨b, 6, none⟩ (Value.slice a3 X.gold.length r3)).setCell ⟨b, 7, none⟩ (Value.slice a4 X.us.length r4)).setCell ⟨b, 8, none⟩ (Value.slice a5 X.qs.length r5)) (b + 2) (Value.slice a4 X.us.length r4) X.us ∧ Jbo (((((((((w1.setCell ⟨b, 0, none⟩ (.int .i64 X.turn)).setCell ⟨b, 1, none⟩ (.int .i64 X.next)).setCell ⟨b, 2, none⟩ (.int .i64 X.wide)).setCell ⟨b, 3, none⟩ (.int .i64 X.high)).setCell ⟨b, 4, none⟩ (Value.slice a1 X.gs.length r1)).setCell ⟨b, 5, none⟩ (Value.slice a2 X.os.length r2)).setCell ⟨b, 6, none⟩ (Value.slice a3 X.gold.length r3)).setCell ⟨b, 7, none⟩ (Value.slice a4 X.us.length r4)).setCell ⟨b, 8, none⟩ (Value.slice a5 X.qs.length r5)) (b + 2) (Value.slice a5 X.qs.length r5) X.qs) := ⟨owns_kp o1 KW.out (by omega), owns_kp o2 KW.out (by omega), owns_kp o3 KW.out (by omega), owns_kp o4 KW.out (by omega), owns_kp o5 KW.out (by omega)⟩
 have DD : Hid ([(Value.slice a1 X.gs.length r1), (Value.slice a2 X.os.length r2), (Value.slice a3 X.gold.length r3), (Value.slice a4 X.us.length r4), (Value.slice a5 X.qs.length r5)].Pairwise Dif) := by
  unfold Hid
  simp only [List.pairwise_cons, List.mem_cons, List.not_mem_nil, or_false, forall_eq_or_imp, forall_eq]
  exact ⟨⟨d12, d13, d14, d15⟩, ⟨d23, d24, d25⟩, ⟨d34, d35⟩, d45, fun _ h => h.elim, List.Pairwise.nil⟩
 go_upto_region 2 with fail
 clear o1 o2 o3 o4 o5 d12 d13 d14 d15 d23 d24 d25 d34 d35 d45 hb x0 x1 x2 x3 x4 x5 x6 x7 x8 t0 t1 t2 t3 t4 t5 t6 t7 t8 X1 Z1 B1 KW
 generalize (((((((((w1.setCell ⟨b, 0, none⟩ (.int .i64 X.turn)).setCell ⟨b, 1, none⟩ (.int .i64 X.next)).setCell ⟨b, 2, none⟩ (.int .i64 X.wide)).setCell ⟨b, 3, none⟩ (.int .i64 X.high)).setCell ⟨b, 4, none⟩ (Value.slice a1 X.gs.length r1)).setCell ⟨b, 5, none⟩ (Value.slice a2 X.os.length r2)).setCell ⟨b, 6, none⟩ (Value.slice a3 X.gold.length r3)).setCell ⟨b, 7, none⟩ (Value.slice a4 X.us.length r4)).setCell ⟨b, 8, none⟩ (Value.slice a5 X.qs.length r5)) = w2 at *
 obtain ⟨bE, hbE⟩ : ∃ z, w2.heap.size = z := ⟨_, rfl⟩
 have SE : Hid (w2.heap.size = bE ∧ b + 2 ≤ bE) := ⟨hbE, by rw [← hbE]; exact Z2.out.lt⟩
 have T2 : Hid (TkS ks X X [] (b + 2) bE w2 (Value.slice a1 X.gs.length r1) (Value.slice a2 X.os.length r2) (Value.slice a3 X.gold.length r3) (Value.slice a4 X.us.length r4) (Value.slice a5 X.qs.length r5) (.slice none 0 0) w2) := ⟨O2.out.1, O2.out.2.1, O2.out.2.2.1, O2.out.2.2.2.1, O2.out.2.2.2.2, Evo.nil _ _, DD.out, Fr.below (Below.refl _ _), ⟨rfl, rfl, rfl, rfl, rfl, rfl, rfl, rfl, rfl⟩, WR.out.dfit⟩
 have LW : Hid (∀ x ∈ [(Value.slice a1 X.gs.length r1), (Value.slice a3 X.gold.length r3), (Value.slice a5 X.qs.length r5)], ∀ k, x.ownBlock = some k → k < bE) := by
  intro x hx k hk
  rw [← hbE]
  simp only [List.mem_cons, List.not_mem_nil, or_false] at hx
  rcases hx with rfl | rfl | rfl
  ·exact (O2.out.1.block k hk).2
  ·exact (O2.out.2.2.1.block k hk).2
  ·exact (O2.out.2.2.2.2.block k hk).2
 have L24 : Hid ((∀ k, (Value.slice a2 X.os.length r2).ownBlock = some k → b + 2 ≤ k ∧ k < bE) ∧ ∀ k, (Value.slice a4 X.us.length r4).ownBlock = some k → b + 2 ≤ k ∧ k < bE) := by
  unfold Hid
  rw [← hbE]
  exact ⟨O2.out.2.1.block, O2.out.2.2.2.1.block⟩
 clear hbE
 go_upto_region 4 with fail
 go_loopw [6, 7] (fun ev j V => RxI ks X b bE w2 (Value.slice a1 X.gs.length r1) (Value.slice a2 X.os.length r2) (Value.slice a3 X.gold.length r3) (Value.slice a4 X.us.length r4) (Value.slice a5 X.qs.length r5) ev j V) (fun _ j _ => X.us.length - (intOf j).toNat)
 case atStart => exact ⟨0, Nat.zero_le _, rfl, X2.out, T2.out⟩
 case round =>
  obtain ⟨q, hq, rfl, hx, ht⟩ := hrel
  obtain ⟨Z, hZ⟩ : ∃ Z, (tk ks X q).1 = Z := ⟨_, rfl⟩
  obtain ⟨es, hE⟩ : ∃ es, (tk ks X q).2 = es := ⟨_, rfl⟩
  have HQ : Hid ((tk ks X q).1 = Z ∧ (tk ks X q).2 = es) := ⟨hZ, hE⟩
  have EL : Hid (es.length ≤ 40) := by have h9 := tk_evs (ks := ks) (Y := X) q; rw [hE] at h9; unfold Hid; omega
  rw [hZ, hE] at ht
  clear hZ hE
  obtain ⟨ea, ec, rfl⟩ := ht.e.len
  have TQ : Hid (TkS ks X Z es (b + 2) bE w2 (Value.slice a1 X.gs.length r1) (Value.slice a2 X.os.length r2) (Value.slice a3 X.gold.length r3) (Value.slice a4 X.us.length r4) (Value.slice a5 X.qs.length r5) (.slice ea es.length ec) wr) := ht
  have XQ : Hid (Wx wr b (.int .i64 X.turn) (.int .i64 X.next) (.int .i64 X.wide) (.int .i64 X.high) (Value.slice a1 X.gs.length r1) (Value.slice a2 X.os.length r2) (Value.slice a3 X.gold.length r3) (Value.slice a4 X.us.length r4) (Value.slice a5 X.qs.length r5)) := hx
  clear hx ht
  obtain ⟨x0, x1, x2, x3, x4, x5, x6, x7, x8⟩ := XQ.out.cells
  by_cases hqn : q = X.us.length
  ·have FIN : Hid ((tk ks X X.us.length).1 = Z ∧ (tk ks X X.us.length).2 = es) := by rw [← hqn]; exact HQ.out
   subst hqn
   have hnl : ¬ (((X.us.length : Nat) : Int) < (X.us.length : Nat)) := by omega
   have RZ : Hid (WRight ks Z) := by rw [← FIN.out.1]; exact tk_right WR.out _
   have ZK : Hid (TkK X Z) := TQ.out.k
   have S2 : Hid (RxS ks Z Z es (b + 2) bE w2 (Value.slice a1 X.gs.length r1) (Value.slice a2 X.os.length r2) (Value.slice a3 X.gold.length r3) (Value.slice a4 X.us.length r4) (Value.slice a5 X.qs.length r5) (.slice ea es.length ec) wr) := RxS.of TQ.out
   have L234 : Hid (∀ k, ((Value.slice a2 X.os.length r2).ownBlock = some k ∨ (Value.slice a3 X.gold.length r3).ownBlock = some k ∨ (Value.slice a4 X.us.length r4).ownBlock = some k) → b + 2 ≤ k ∧ k < bE) := fun k hk => by
    rcases hk with hk | hk | hk
    ·exact L24.out.1 k hk
    ·exact ⟨(S2.out.o3.block k hk).1, LW.out _ (by simp) k hk⟩
    ·exact L24.out.2 k hk
   have LX : Hid (∀ x ∈ [(Value.slice a1 X.gs.length r1), (Value.slice a2 X.os.length r2), (Value.slice a5 X.qs.length r5)], ∀ k, x.ownBlock = some k → k < bE) := by
    intro x hx k hk
    simp only [List.mem_cons, List.not_mem_nil, or_false] at hx
    rcases hx with rfl | rfl | rfl
    ·exact LW.out _ (by simp) k hk
    ·exact (L24.out.1 k hk).2
    ·exact LW.out _ (by simp) k hk
   have X3 : Hid (Wx wr b (.int .i64 X.turn) (.int .i64 X.next) (.int .i64 X.wide) (.int .i64 X.high) (Value.slice a1 X.gs.length r1) (Value.slice a2 X.os.length r2) (Value.slice a3 X.gold.length r3) (Value.slice a4 X.us.length r4) (Value.slice a5 X.qs.length r5)) := XQ.out
   go_upto_region 18 with fail
   clear x0 x1 x2 x3 x4 x5 x6 x7 x8 hnl HQ TQ XQ
   generalize wr = w3 at *
   go_loopw [6, 10] (fun ev j V => RxJ ks X Z es Wn Hn b bE w2 (Value.slice a1 X.gs.length r1) (Value.slice a2 X.os.length r2) (Value.slice a3 X.gold.length r3) (Value.slice a4 X.us.length r4) (Value.slice a5 X.qs.length r5) ev j V) (fun _ j _ => X.us.length - (intOf j).toNat)
   case atStart => exact ⟨0, Nat.zero_le _, rfl, X3.out, by show RxS ks Z Z (es ++ []) (b + 2) bE w2 _ _ _ _ _ _ w3; rw [List.append_nil]; exact S2.out⟩
   case round =>
    obtain ⟨q, hq, rfl, hx, ht⟩ := hrel
    obtain ⟨Y, hY⟩ : ∃ Y, (br ks Wn Hn Z q).1 = Y := ⟨_, rfl⟩
    obtain ⟨fs, hF⟩ : ∃ fs, es ++ (br ks Wn Hn Z q).2 = fs := ⟨_, rfl⟩
    have HQ : Hid ((br ks Wn Hn Z q).1 = Y ∧ es ++ (br ks Wn Hn Z q).2 = fs) := ⟨hY, hF⟩
    have FL : Hid (fs.length ≤ 80) := by have h9 := br_evs (ks := ks) (Wn := Wn) (Hn := Hn) (Y := Z) q; have := EL.out; unfold Hid; rw [← hF, List.length_append]; omega
    have RY : Hid (WRight ks Y) := by rw [← hY]; exact br_right RZ.out q
    rw [hY, hF] at ht
    clear hY hF
    obtain ⟨fa, fc, rfl⟩ := ht.e.len
    have TQ : Hid (RxS ks Z Y fs (b + 2) bE w2 (Value.slice a1 X.gs.length r1) (Value.slice a2 X.os.length r2) (Value.slice a3 X.gold.length r3) (Value.slice a4 X.us.length r4) (Value.slice a5 X.qs.length r5) (.slice fa fs.length fc) wr) := ht
    have XQ : Hid (Wx wr b (.int .i64 X.turn) (.int .i64 X.next) (.int .i64 X.wide) (.int .i64 X.high) (Value.slice a1 X.gs.length r1) (Value.slice a2 X.os.length r2) (Value.slice a3 X.gold.length r3) (Value.slice a4 X.us.length r4) (Value.slice a5 X.qs.length r5)) := hx
    clear hx ht
    have BWR : Hid (Below w.heap.size w wr) := B2.out.trans (TQ.out.fr.low B2.out.size (fun k hk => by have h9 := HB.out; have := (L234.out k hk).1; omega))
    obtain ⟨x0, x1, x2, x3, x4, x5, x6, x7, x8⟩ := XQ.out.cells
    by_cases hqn : q = X.us.length
    ·subst hqn
     have hnl : ¬ (((X.us.length : Nat) : Int) < (X.us.length : Nat)) := by omega
     have ZL : Hid (Z.us.length = X.us.length) := ZK.out.2.2.2.2.2.2.2.1
     have ED : Hid (dug ks Wn Hn X = Y ∧ dugEv ks Wn Hn X = fs) := by
      unfold Hid dug dugEv
      rw [FIN.out.1, FIN.out.2, ZL.out]
      exact HQ.out
     have YT : Hid (Y.turn = X.turn ∧ Y.next = X.next ∧ Y.wide = X.wide ∧ Y.high = X.high) := ⟨TQ.out.k.1.trans ZK.out.1, TQ.out.k.2.1.trans ZK.out.2.1, TQ.out.k.2.2.1.trans ZK.out.2.2.1, TQ.out.k.2.2.2.1.trans ZK.out.2.2.2.1⟩
     have Z9 : Hid (Wx wr (b + 1) (.int .i64 0) (.int .i64 0) (.int .i64 0) (.int .i64 0) (.slice none 0 0) (.slice none 0 0) (.slice none 0 0) (.slice none 0 0) (.slice none 0 0)) := TQ.out.fr.wx Z2.out (fun h => by have := (L234.out (b + 1) h).1; omega)
     go_upto_region 35 with fail
     clear x0 x1 x2 x3 x4 x5 x6 x7 x8 hnl
     generalize wr = w9 at *
     obtain ⟨x0, x1, x2, x3, x4, x5, x6, x7, x8⟩ := XQ.out.cells
     obtain ⟨z0, z1, z2, z3, z4, z5, z6, z7, z8⟩ := Z9.out.cells
     obtain ⟨t0, t1, t2, t3, t4, t5, t6, t7, t8⟩ := Z9.out.thaws
     have KZ : Hid (Kp (b + 1) w9 (((((((((w9.setCell ⟨b + 1, 0, none⟩ (.int .i64 X.turn)).setCell ⟨b + 1, 1, none⟩ (.int .i64 X.next)).setCell ⟨b + 1, 2, none⟩ (.int .i64 X.wide)).setCell ⟨b + 1, 3, none⟩ (.int .i64 X.high)).setCell ⟨b + 1, 4, none⟩ (Value.slice a1 X.gs.length r1)).setCell ⟨b + 1, 5, none⟩ (Value.slice a2 X.os.length r2)).setCell ⟨b + 1, 6, none⟩ (Value.slice a3 X.gold.length r3)).setCell ⟨b + 1, 7, none⟩ (Value.slice a4 X.us.length r4)).setCell ⟨b + 1, 8, none⟩ (Value.slice a5 X.qs.length r5))) := put_kp _ _ _ _ _ _ _ _ _ _ _
     obtain ⟨y0, y1, y2, y3, y4, y5, y6, y7, y8⟩ := (Z9.out.put (.int .i64 X.turn) (.int .i64 X.next) (.int .i64 X.wide) (.int .i64 X.high) (Value.slice a1 X.gs.length r1) (Value.slice a2 X.os.length r2) (Value.slice a3 X.gold.length r3) (Value.slice a4 X.us.length r4) (Value.slice a5 X.qs.length r5)).cells
     go_wp2
     clear x0 x1 x2 x3 x4 x5 x6 x7 x8 z0 z1 z2 z3 z4 z5 z6 z7 z8 t0 t1 t2 t3 t4 t5 t6 t7 t8
     generalize (((((((((w9.setCell ⟨b + 1, 0, none⟩ (.int .i64 X.turn)).setCell ⟨b + 1, 1, none⟩ (.int .i64 X.next)).setCell ⟨b + 1, 2, none⟩ (.int .i64 X.wide)).setCell ⟨b + 1, 3, none⟩ (.int .i64 X.high)).setCell ⟨b + 1, 4, none⟩ (Value.slice a1 X.gs.length r1)).setCell ⟨b + 1, 5, none⟩ (Value.slice a2 X.os.length r2)).setCell ⟨b + 1, 6, none⟩ (Value.slice a3 X.gold.length r3)).setCell ⟨b + 1, 7, none⟩ (Value.slice a4 X.us.length r4)).setCell ⟨b + 1, 8, none⟩ (Value.slice a5 X.qs.length r5)) = wz at *
     refine bodyPost_ret (v := .tuple #[.agg #[.int .i64 X.turn, .int .i64 X.next, .int .i64 X.wide, .int .i64 X.high, Value.slice a1 X.gs.length r1, Value.slice a2 X.os.length r2, Value.slice a3 X.gold.length r3, Value.slice a4 X.us.length r4, Value.slice a5 X.qs.length r5], .slice fa fs.length fc]) (by simp [results, Tryz.results7, go_sem, y0, y1, y2, y3, y4, y5, y6, y7, y8]) rfl ⟨_, _, rfl, ?_, ?_, KZ.out.below BWR.out BWR.out.size (by rw [HB.out]; omega)⟩
     ·rw [ED.out.1]
      have h := HB.out
      refine ⟨_, _, _, _, _, ?_, (TQ.out.o1.kp KZ.out (by omega)).mono (by omega), (TQ.out.o2.kp KZ.out (by omega)).mono (by omega), (TQ.out.o3.kp KZ.out (by omega)).mono (by omega), (TQ.out.o4.kp KZ.out (by omega)).mono (by omega), (TQ.out.o5.kp KZ.out (by omega)).mono (by omega)⟩
      rw [YT.out.1, YT.out.2.1, YT.out.2.2.1, YT.out.2.2.2]
     ·rw [ED.out.2]
      have h := HB.out
      have h' := SE.out.2
      exact (TQ.out.e.kp9 KZ.out (by omega)).mono (by omega)
    ·skip
     have hql : q < X.us.length := by omega
     have hqi : ((q : Nat) : Int) < (X.us.length : Nat) := by omega
     have LU : Hid (Y.us.length = X.us.length ∧ Y.gold.length = X.gold.length ∧ Y.os.length = X.os.length ∧ Z.us.length = X.us.length ∧ Z.gold.length = X.gold.length) := by
      have k1 := TQ.out.k
      have k2 := ZK.out
      exact ⟨k1.2.2.2.2.2.2.2.1.trans k2.2.2.2.2.2.2.2.1, by rw [k1.2.2.2.2.2.2.2.2, k2.2.2.2.2.2.1], by rw [k1.2.2.2.2.2.1]; exact k2.2.2.2.2.2.2.2.2, k2.2.2.2.2.2.2.2.1, by rw [k2.2.2.2.2.2.1]⟩
     have YT : Hid (Y.turn = X.turn ∧ Y.next = X.next ∧ Y.wide = X.wide ∧ Y.high = X.high) := ⟨TQ.out.k.1.trans ZK.out.1, TQ.out.k.2.1.trans ZK.out.2.1, TQ.out.k.2.2.1.trans ZK.out.2.2.1, TQ.out.k.2.2.2.1.trans ZK.out.2.2.2.1⟩
     have hzl : q < Y.us.length := by rw [LU.out.1]; exact hql
     obtain ⟨u, hu⟩ : ∃ u, Y.us[q]? = some u := ⟨_, List.getElem?_eq_getElem hzl⟩
     obtain ⟨⟨kn, k, hkn, hkk, l1, l2, l3⟩, ⟨an, han, hal⟩, pn, hpn, hpl⟩ := TQ.out.f.units u (List.mem_of_getElem? hu)
     obtain ⟨x, hx⟩ : ∃ x, Y.gold[pn]? = some x := ⟨_, List.getElem?_eq_getElem hpl⟩
     have GW : Hid (Fd.Good Wn Hn Y.gs Y.os) := by
      obtain ⟨W1, H1, g1, g2, G⟩ := TQ.out.f.wide
      have h1 := YT.out.2.2.1
      have h2 := YT.out.2.2.2
      have h3 := GD.out.1
      have h4 := GD.out.2
      obtain rfl : W1 = Wn := by omega
      obtain rfl : H1 = Hn := by omega
      exact G
     have UU : Hid (Y.us[q]? = some u ∧ u.player = (pn : Nat) ∧ Y.gold[pn]? = some x ∧ u.at_ = (an : Nat) ∧ an < Wn * Hn) := ⟨hu, hpn, hx, han, by rw [GW.out.ol] at hal; exact hal⟩
     have OX : Hid ((0 ≤ x ∧ x ≤ 1000000) ∧ 0 ≤ u.load ∧ u.load ≤ 1000) := ⟨TQ.out.f.gold x (List.mem_of_getElem? hx), l1, by omega⟩
     have hpi : ((pn : Nat) : Int) < (X.gold.length : Nat) := by rw [← LU.out.2.1]; omega
     have hkl : kn < ks.length := (List.getElem?_eq_some_iff.1 hkk).1
     obtain ⟨xk, rfl, hxk, hkc⟩ := KC.out (by intro h; rw [h] at hkl; simp at hkl)
     have KCC : Hid (xk.block < w.heap.size ∧ ∀ (i : Nat) k, ks[i]? = some k → Kc w (xk.add (i * 11)) k) := ⟨hxk, hkc⟩
     clear hkl hxk hkc
     obtain ⟨gu, cu, ur, e4, hgu, c1, c2, c3, hub⟩ : ∃ g cap rest, (Value.slice a4 X.us.length r4) = .slice (some ⟨g, 0, none⟩) X.us.length cap ∧ b + 2 ≤ g ∧ X.us.length ≤ cap ∧ cap ≤ maxLen ∧ X.us.length * 8 + rest.length = cap * 8 ∧ Ub wr g Y.us rest := by
      rcases TQ.out.o4.ub with ⟨-, h⟩ | ⟨g, cap, rest, h⟩
      ·rw [h] at hzl; simp at hzl
      ·rw [LU.out.1] at h; exact ⟨g, cap, rest, h⟩
     injection e4 with e41 e42 e43
     subst e41 e43
     obtain ⟨gg, co, gr, e2, hgg, d1, d2, d3, hbk⟩ : ∃ g cap rest, (Value.slice a3 X.gold.length r3) = .slice (some ⟨g, 0, none⟩) X.gold.length cap ∧ b + 2 ≤ g ∧ X.gold.length ≤ cap ∧ cap ≤ maxLen ∧ X.gold.length + rest.size = cap ∧ Bk wr g Y.gold rest := by
      rcases TQ.out.o3.bk with ⟨-, h⟩ | ⟨g, cap, rest, h⟩
      ·rw [h] at hpl; simp at hpl
      ·rw [LU.out.2.1] at h; exact ⟨g, cap, rest, h⟩
     injection e2 with e21 e22 e23
     subst e21 e23
     have GB : Hid (b + 2 ≤ gu ∧ X.us.length ≤ r4 ∧ r4 ≤ maxLen ∧ X.us.length * 8 + ur.length = r4 * 8 ∧ b + 2 ≤ gg ∧ X.gold.length ≤ r3 ∧ r3 ≤ maxLen ∧ X.gold.length + gr.size = r3) := ⟨hgu, c1, c2, c3, hgg, d1, d2, d3⟩
     have UB : Hid (∀ V, Below wr.heap.size wr V → Ub V gu Y.us ur) := fun V hV => hub.below hV hub.lt
     have BB : Hid (∀ V, Below wr.heap.size wr V → Bk V gg Y.gold gr) := fun V hV => hbk.below hV
     have GL : Hid (gu < bE ∧ gg < bE ∧ gu ≠ gg ∧ b < gu ∧ b < gg) := ⟨(L234.out gu (.inr (.inr rfl))).2, (L234.out gg (.inr (.inl rfl))).2, fun e => TQ.out.difs.2.2.1.1 gg rfl (by rw [← e]; rfl), by omega, by omega⟩
     have CV : Hid (∀ V, Below wr.heap.size wr V → Wx V b (.int .i64 X.turn) (.int .i64 X.next) (.int .i64 X.wide) (.int .i64 X.high) (Value.slice a1 X.gs.length r1) (Value.slice a2 X.os.length r2) (Value.slice (some ⟨gg, 0, none⟩) X.gold.length r3) (Value.slice (some ⟨gu, 0, none⟩) X.us.length r4) (Value.slice a5 X.qs.length r5)) := fun V hV => XQ.out.below hV XQ.out.lt
     have TV : Hid (∀ V, Below wr.heap.size wr V → RxS ks Z Y fs (b + 2) bE w2 (Value.slice a1 X.gs.length r1) (Value.slice a2 X.os.length r2) (Value.slice (some ⟨gg, 0, none⟩) X.gold.length r3) (Value.slice (some ⟨gu, 0, none⟩) X.us.length r4) (Value.slice a5 X.qs.length r5) (.slice fa fs.length fc) V) := fun V hV => TQ.out.below hV
     have WLV : Hid (∀ V, Below wr.heap.size wr V → Wl V (.agg #[.int .i64 X.turn, .int .i64 X.next, .int .i64 X.wide, .int .i64 X.high, Value.slice a1 X.gs.length r1, Value.slice a2 X.os.length r2, Value.slice (some ⟨gg, 0, none⟩) X.gold.length r3, Value.slice (some ⟨gu, 0, none⟩) X.us.length r4, Value.slice a5 X.qs.length r5]) Y) := fun V hV => by
      have h := (TV.out V hV).wl
      rw [ZK.out.1, ZK.out.2.1, ZK.out.2.2.1, ZK.out.2.2.2.1] at h
      exact h
     obtain ⟨y0, y1, y2, y3, y4, y5, y6, y7⟩ := hub.unc UU.out.1
     clear hu hkn hkk han hx hal hzl hgu c1 c2 c3 hgg d1 d2 d3 hub hbk e42 e22 hpl hpn l1 l2 l3
     go_upto_region 21 with fail
     obtain ⟨zu, hzu⟩ : ∃ z, wr.heap.size = z := ⟨_, rfl⟩
     have D3 : Hid (Below wr.heap.size wr (wr.alloc (Obj.cells #[.int .i64 u.id, .int .i64 u.player, .int .i64 u.kind, .int .i64 u.at_, .int .i64 u.life, .int .i64 u.load, .int .i64 u.task, .int .i64 u.goal] 44))) := (Below.refl _ _).alloc (Nat.le_refl _) _
     have UC : Hid (Unc (wr.alloc (Obj.cells #[.int .i64 u.id, .int .i64 u.player, .int .i64 u.kind, .int .i64 u.at_, .int .i64 u.life, .int .i64 u.load, .int .i64 u.task, .int .i64 u.goal] 44)) ⟨zu, 0, none⟩ u) := Unc.mk' u hzu
     have ZU : Hid (bE ≤ zu) := by unfold Hid; rw [← hzu, ← SE.out.1]; exact TQ.out.fr.size
     (try rw [hzu])
     generalize wr.alloc (Obj.cells #[.int .i64 u.id, .int .i64 u.player, .int .i64 u.kind, .int .i64 u.at_, .int .i64 u.life, .int .i64 u.load, .int .i64 u.task, .int .i64 u.goal] 44) = w4 at *
     clear x0 x1 x2 x3 x4 x5 x6 x7 x8 y0 y1 y2 y3 y4 y5 y6 y7 hzu
     obtain ⟨y0, y1, y2, y3, y4, y5, y6, y7⟩ := UC.out
     simp only [Nat.zero_add] at y0 y1 y2 y3 y4 y5 y6 y7
     rw [UU.out.2.2.2.1] at y3
     obtain ⟨x0, x1, x2, x3, x4, x5, x6, x7, x8⟩ := (CV.out _ D3.out).cells
     go_wp2_with fail
     refine (ref_near_own _ Wn Hn Y.gs Y.os an w4 ?_ GW.out.w1 GW.out.w2 GW.out.h2 UU.out.2.2.2.2).mono ?_
     ·have h := fl_of (X := Y) (u1 := (Value.slice a1 X.gs.length r1)) (u2 := (Value.slice a2 X.os.length r2)) (u3 := (Value.slice (some ⟨gg, 0, none⟩) X.gold.length r3)) (u4 := (Value.slice (some ⟨gu, 0, none⟩) X.us.length r4)) (u5 := (Value.slice a5 X.qs.length r5)) (by rw [YT.out.1, YT.out.2.1, YT.out.2.2.1, YT.out.2.2.2]; exact WLV.out _ D3.out)
      rw [YT.out.2.2.1, YT.out.2.2.2] at h
      rw [← GD.out.1, ← GD.out.2]
      exact h
     rintro e w5 ⟨vn, rfl, hn, hb5⟩
     have D5 : Hid (Below wr.heap.size wr w5) := D3.out.trans (hb5.mono D3.out.size)
     have UC5 : Hid (Unc w5 ⟨zu, 0, none⟩ u) := UC.out.below hb5 UC.out.lt
     obtain ⟨nl, hnl⟩ : ∃ l, Fd.near Wn Hn an = l := ⟨_, rfl⟩
     have NL : Hid (homeC ks Y.us u nl nl.length = homeB ks Wn Hn an Y u) := by rw [← hnl]; exact homeC_all ks Wn Hn an Y u
     have nl4 : nl.length ≤ 4 := by rw [← hnl]; exact Fd.near_len Wn Hn an
     rw [hnl] at hn
     have NO : Hid (Ow w5 w4.heap.size vn nl) := hn
     obtain ⟨na, nc, rfl⟩ := hn.len
     have S5 : Hid (wr.heap.size ≤ w5.heap.size) := D5.out.size
     clear x0 x1 x2 x3 x4 x5 x6 x7 x8 y0 y1 y2 y3 y4 y5 y6 y7 hb5 D3 UC hn hnl
     generalize wr = wo at *
     go_upto_region 24 with fail
     go_loopw [12, 14] (fun v12 v14 V => ∃ c : Nat, c ≤ nl.length ∧ v14 = .int .i64 (c : Nat) ∧ v12 = .bool (homeC ks Y.us u nl c) ∧ Below w5.heap.size w5 V) (fun _ v14 _ => nl.length - (intOf v14).toNat)
     case atStart => exact ⟨0, Nat.zero_le _, rfl, rfl, Below.refl _ _⟩
     case round =>
     obtain ⟨c, hc, rfl, rfl, hbr⟩ := hrel
     have DR : Hid (Below wo.heap.size wo wr) := D5.out.trans (hbr.mono S5.out)
     have BR : Hid (Below w5.heap.size w5 wr) := hbr
     have UR : Hid (Unc wr ⟨zu, 0, none⟩ u) := UC5.out.below hbr UC5.out.lt
     clear hbr
     by_cases hcn : c = nl.length
     ·subst hcn
      have hcl : ¬ ((nl.length : Nat) : Int) < (nl.length : Nat) := by omega
      obtain ⟨hm, hhm⟩ : ∃ h, homeC ks Y.us u nl nl.length = h := ⟨_, rfl⟩
      have HM : Hid (homeB ks Wn Hn an Y u = hm) := by rw [← NL.out]; exact hhm
      have BRG : Hid (brings ks Wn Hn Y u = (decide (0 < u.load) && hm)) := by unfold Hid brings; rw [UU.out.2.2.2.1, Int.toNat_natCast, HM.out]
      rw [hhm]
      clear hhm
      obtain ⟨y0, y1, y2, y3, y4, y5, y6, y7⟩ := UR.out
      simp only [Nat.zero_add] at y0 y1 y2 y3 y4 y5 y6 y7
      by_cases hgo : 0 < u.load ∧ hm = true
      case neg =>
       have NX : Hid ((br ks Wn Hn Z (q + 1)).1 = Y ∧ es ++ (br ks Wn Hn Z (q + 1)).2 = fs) := by
        have h9 := br_no (ks := ks) (Wn := Wn) (Hn := Hn) (Y := Z) (q := q) (u := u) (by rw [HQ.out.1]; exact UU.out.1) (by rw [HQ.out.1, BRG.out]; cases hm; exact Bool.and_false _; rw [decide_eq_false (fun h => hgo ⟨h, rfl⟩)]; rfl)
        unfold Hid
        rw [h9]
        exact HQ.out
       have hgo2 : ¬ 0 < u.load ∨ (0 < u.load ∧ hm = false) := by
        by_cases h : 0 < u.load
        ·exact .inr ⟨h, by cases hm; rfl; exact (hgo ⟨h, rfl⟩).elim⟩
        ·exact .inl h
       clear hgo
       rcases hgo2 with g1 | ⟨g1, rfl⟩
       all_goals
        go_wp2
        go_round
        case rel => exact ⟨q + 1, by omega, by go_num, CV.out _ DR.out, by rw [NX.out.1, NX.out.2]; exact TV.out _ DR.out⟩
        case measure => simp [intOf]; omega
      case pos =>
      obtain ⟨hld, rfl⟩ := hgo
      have X5 : Hid (Wx wr b (.int .i64 X.turn) (.int .i64 X.next) (.int .i64 X.wide) (.int .i64 X.high) (Value.slice a1 X.gs.length r1) (Value.slice a2 X.os.length r2) (Value.slice (some ⟨gg, 0, none⟩) X.gold.length r3) (Value.slice (some ⟨gu, 0, none⟩) X.us.length r4) (Value.slice a5 X.qs.length r5)) := CV.out _ DR.out
      have T5 : Hid (RxS ks Z Y fs (b + 2) bE w2 (Value.slice a1 X.gs.length r1) (Value.slice a2 X.os.length r2) (Value.slice (some ⟨gg, 0, none⟩) X.gold.length r3) (Value.slice (some ⟨gu, 0, none⟩) X.us.length r4) (Value.slice a5 X.qs.length r5) (.slice fa fs.length fc) wr) := TV.out _ DR.out
      have CB : Hid (∀ V, Below wr.heap.size wr V → (V.cell? ⟨b, 6, none⟩ = some (.slice (some ⟨gg, 0, none⟩) X.gold.length r3) ∧ V.cell? ⟨zu, 1, none⟩ = some (.int .i64 (pn : Nat)) ∧ V.cell? ⟨gg, pn, none⟩ = some (.int .i64 x) ∧ V.cell? ⟨zu, 5, none⟩ = some (.int .i64 u.load))) := fun V hV => by
       have h1 := (UR.out.below hV UR.out.lt).c1
       have h5 := (UR.out.below hV UR.out.lt).c5
       simp only [Nat.zero_add] at h1 h5
       rw [UU.out.2.1] at h1
       exact ⟨(X5.out.below hV X5.out.lt).cells.2.2.2.2.2.2.1, h1, (BB.out V (DR.out.trans (hV.mono DR.out.size))).cell UU.out.2.2.1, h5⟩
      have wr2 : IntKind.i64.wrap (x + u.load) = x + u.load := by rw [IntKind.wrap_i64]; have := OX.out; omega
      obtain ⟨mg, hmg⟩ : ∃ m, min (x + u.load) 1000000 = m := ⟨_, rfl⟩
      have MG : Hid (min (x + u.load) 1000000 = mg) := hmg
      have NX : Hid ((br ks Wn Hn Z (q + 1)).1 = bringW Y q u ∧ es ++ (br ks Wn Hn Z (q + 1)).2 = fs ++ [⟨5, u.id, u.load⟩]) := by
       have h9 := br_yes (ks := ks) (Wn := Wn) (Hn := Hn) (Y := Z) (q := q) (u := u) (by rw [HQ.out.1]; exact UU.out.1) (by rw [HQ.out.1, BRG.out, decide_eq_true hld]; rfl)
       unfold Hid
       rw [h9, HQ.out.1, ← HQ.out.2, List.append_assoc]
       exact ⟨rfl, rfl⟩
      clear hmg
      go_upto_region 30 with fail
      clear y0 y1 y2 y3 y4 y5 y6 y7
      refine wp_region_two [(true, 0), (true, 1), (true, 2), (true, 3), (true, 4), (true, 5), (true, 6), (true, 7), (true, 8), (true, 9), (true, 10), (true, 11), (true, 12), (true, 13)] [(false, 14)] (fun V => V.cell? ⟨b, 6, none⟩ = some (.slice (some ⟨gg, 0, none⟩) X.gold.length r3) ∧ V.cell? ⟨zu, 1, none⟩ = some (.int .i64 (pn : Nat)) ∧ V.cell? ⟨gg, pn, none⟩ = some (.int .i64 x) ∧ V.cell? ⟨zu, 5, none⟩ = some (.int .i64 u.load)) (by kernel_rfl) (by kernel_rfl) (by kernel_rfl) (by decide +kernel) (by decide +kernel) (CB.out _ (Below.refl _ _).drew) ?_
      have DD : Hid (Below wr.heap.size wr { wr with drawn := wr.drawn + 1 }) := (Below.refl _ _).drew
      generalize ({ wr with drawn := wr.drawn + 1 } : World) = wd at *
      have BD : Hid (Bk wd gg Y.gold gr) := BB.out _ (DR.out.trans (DD.out.mono DR.out.size))
      refine headT_read rfl (.pointer (some ⟨b, 6, none⟩)) (by go_simp) (fun V hV => by go_simp) ?_
      go_simp
      refine headT_read rfl (.slice (some ⟨gg, 0, none⟩) X.gold.length r3) (by go_simp) (fun V hV => by obtain ⟨d1, d2, d3, d4⟩ := hV; go_simp) ?_
      go_simp
      refine headT_read rfl (.pointer (some ⟨zu, 1, none⟩)) (by go_simp) (fun V hV => by go_simp) ?_
      go_simp
      refine headT_read rfl (.int .i64 (pn : Nat)) (by go_simp) (fun V hV => by obtain ⟨d1, d2, d3, d4⟩ := hV; go_simp) ?_
      go_simp
      refine headT_read rfl (.pointer (some ⟨b, 6, none⟩)) (by go_simp) (fun V hV => by go_simp) ?_
      go_simp
      refine headT_read rfl (.slice (some ⟨gg, 0, none⟩) X.gold.length r3) (by go_simp) (fun V hV => by obtain ⟨d1, d2, d3, d4⟩ := hV; go_simp) ?_
      go_simp
      refine headT_read rfl (.pointer (some ⟨zu, 1, none⟩)) (by go_simp) (fun V hV => by go_simp) ?_
      go_simp
      refine headT_read rfl (.int .i64 (pn : Nat)) (by go_simp) (fun V hV => by obtain ⟨d1, d2, d3, d4⟩ := hV; go_simp) ?_
      go_simp
      refine headT_read rfl (.pointer (some ⟨gg, pn, none⟩)) (by go_simp) (fun V hV => by go_simp) ?_
      go_simp
      refine headT_read rfl (.int .i64 x) (by go_simp) (fun V hV => by obtain ⟨d1, d2, d3, d4⟩ := hV; go_simp) ?_
      go_simp
      refine headT_read rfl (.pointer (some ⟨zu, 5, none⟩)) (by go_simp) (fun V hV => by go_simp) ?_
      go_simp
      refine headT_read rfl (.int .i64 u.load) (by go_simp) (fun V hV => by obtain ⟨d1, d2, d3, d4⟩ := hV; go_simp) ?_
      go_simp
      refine headT_read rfl (.int .i64 (x + u.load)) (by go_simp) (fun V hV => by go_simp) ?_
      go_simp
      refine headT_read rfl (.pointer (some ⟨gg, pn, none⟩)) (by go_simp) (fun V hV => by go_simp) ?_
      go_simp
      unfold wpHeadT
      have ts := BD.out.thaw pn
      have co := BD.out.cell UU.out.2.2.1
      have hgl : pn < Y.gold.length := (List.getElem?_eq_some_iff.1 UU.out.2.2.1).1
      have K9 : Hid (Kp gg wd (wd.setCell ⟨gg, pn, none⟩ (.int .i64 (x + u.load)))) := Kp.set _ _ _
      have B9 : Hid (Bk (wd.setCell ⟨gg, pn, none⟩ (.int .i64 (x + u.load))) gg (Y.gold.set pn (x + u.load)) gr) := BD.out.set pn _ hgl
      refine sched_skip rfl (wd.setCell ⟨gg, pn, none⟩ (.int .i64 (x + u.load))) (by go_simp) (by go_simp) trivial ?_
      go_simp
      clear ts co wr2 CB BD
      generalize wd.setCell ⟨gg, pn, none⟩ (.int .i64 (x + u.load)) = w9 at *
      have F9 : Hid (Fr (fun q => q = gg) wr w9) := (Fr.below DD.out).trans (Fr.kp K9.out rfl)
      have X9 : Hid (Wx w9 b (.int .i64 X.turn) (.int .i64 X.next) (.int .i64 X.wide) (.int .i64 X.high) (Value.slice a1 X.gs.length r1) (Value.slice a2 X.os.length r2) (Value.slice (some ⟨gg, 0, none⟩) X.gold.length r3) (Value.slice (some ⟨gu, 0, none⟩) X.us.length r4) (Value.slice a5 X.qs.length r5)) := F9.out.wx X5.out (by have := GL.out; omega)
      have U9 : Hid (Unc w9 ⟨zu, 0, none⟩ u) := (UR.out.below DD.out UR.out.lt).kp9 K9.out (by show zu ≠ gg; have := GL.out; have := ZU.out; omega)
      have co9 : w9.cell? ⟨gg, pn, none⟩ = some (.int .i64 (x + u.load)) := B9.out.cell (by rw [List.getElem?_set_self hgl])
      have ts9 := B9.out.thaw pn
      obtain ⟨y0, y1, y2, y3, y4, y5, y6, y7⟩ := U9.out
      simp only [Nat.zero_add] at y0 y1 y2 y3 y4 y5 y6 y7
      rw [UU.out.2.1] at y1
      obtain ⟨x0, x1, x2, x3, x4, x5, x6, x7, x8⟩ := X9.out.cells
      unfold wpSched
      go_upto_if 189 with fail
      go_cut [12] from 109 to 207 (fun v12 V => v12 = .bool true ∧ Bk V gg (Y.gold.set pn mg) gr ∧ Kp gg w9 V)
      case first =>
       by_cases hc1 : 1000000 < x + u.load
       ·have EM : Hid (mg = 1000000) := by have := MG.out; unfold Hid; omega
        have BN : Hid (Bk (w9.setCell ⟨gg, pn, none⟩ (.int .i64 1000000)) gg (Y.gold.set pn mg) gr) := by
         have h := B9.out.set pn 1000000 (by simpa using hgl)
         rw [List.set_set] at h
         rw [EM.out]
         exact h
        go_wp2_with fail
        go_meet
        case rel => exact ⟨rfl, BN.out, Kp.set _ _ _⟩
       ·have EM : Hid (mg = x + u.load) := by have := MG.out; unfold Hid; omega
        go_wp2_with fail
        go_meet
        case rel => exact ⟨rfl, by rw [EM.out]; exact B9.out, Kp.refl _ _⟩
      case rest =>
      obtain ⟨rfl, hB10, hK10⟩ := hcut
      obtain ⟨w10, hw10⟩ : ∃ V, V = wc := ⟨_, rfl⟩
      subst hw10
      have B10 : Hid (Bk w10 gg (Y.gold.set pn mg) gr) := hB10
      have F10 : Hid (Fr (fun q => q = gg) wr w10) := F9.out.trans (Fr.kp hK10 rfl)
      have X10 : Hid (Wx w10 b (.int .i64 X.turn) (.int .i64 X.next) (.int .i64 X.wide) (.int .i64 X.high) (Value.slice a1 X.gs.length r1) (Value.slice a2 X.os.length r2) (Value.slice (some ⟨gg, 0, none⟩) X.gold.length r3) (Value.slice (some ⟨gu, 0, none⟩) X.us.length r4) (Value.slice a5 X.qs.length r5)) := F10.out.wx X5.out (by have := GL.out; omega)
      have C10 : Hid (Unc w10 ⟨zu, 0, none⟩ u) := U9.out.kp9 hK10 (by show zu ≠ gg; have := GL.out; have := ZU.out; omega)
      have U10 : Hid (Ub w10 gu Y.us ur) := (F10.out.block gu (UB.out _ DR.out).lt (by have := GL.out.2.2; omega)).trans (UB.out _ DR.out)
      clear x0 x1 x2 x3 x4 x5 x6 x7 x8 y0 y1 y2 y3 y4 y5 y6 y7 co9 ts9 hB10 hK10 F9 X9 U9 K9 B9
      obtain ⟨x0, x1, x2, x3, x4, x5, x6, x7, x8⟩ := X10.out.cells
      have t5 := U10.out.thaw (q * 8 + 5)
      have cu5 := (U10.out.unc UU.out.1).c5
      have U11 : Hid (Ub (w10.setCell ⟨gu, q * 8 + 5, none⟩ (.int .i64 0)) gu (Y.us.set q (loadU u 0)) ur) := U10.out.set5 UU.out.1 0
      have K11 : Hid (Kp gu w10 (w10.setCell ⟨gu, q * 8 + 5, none⟩ (.int .i64 0))) := Kp.set _ _ _
      have B11 : Hid (Bk (w10.setCell ⟨gu, q * 8 + 5, none⟩ (.int .i64 0)) gg (Y.gold.set pn mg) gr) := B10.out.other (by have := GL.out.2.2; omega) _ _
      go_upto_region 34 with fail
      clear x0 x1 x2 x3 x4 x5 x6 x7 x8 t5 cu5
      generalize w10.setCell ⟨gu, q * 8 + 5, none⟩ (.int .i64 0) = w11 at *
      have F11 : Hid (Fr (fun q => q = gu ∨ q = gg) wr w11) := (F10.out.mono (fun k hk => .inr hk)).trans (Fr.kp K11.out (.inl rfl))
      have X11 : Hid (Wx w11 b (.int .i64 X.turn) (.int .i64 X.next) (.int .i64 X.wide) (.int .i64 X.high) (Value.slice a1 X.gs.length r1) (Value.slice a2 X.os.length r2) (Value.slice (some ⟨gg, 0, none⟩) X.gold.length r3) (Value.slice (some ⟨gu, 0, none⟩) X.us.length r4) (Value.slice a5 X.qs.length r5)) := F11.out.wx X5.out (by have := GL.out; omega)
      have E11 : Hid (Evo w11 bE (.slice fa fs.length fc) fs) := F11.out.own T5.out.e (fun b hb e => by have h9 := (T5.out.e.block b hb).1; have h8 := GL.out; omega)
      obtain ⟨y0, y1, y2, y3, y4, y5, y6, y7⟩ := C10.out.kp9 K11.out (by show zu ≠ gu; have := GL.out; have := ZU.out; omega)
      simp only [Nat.zero_add] at y0 y1 y2 y3 y4 y5 y6 y7
      have OA : Hid (Evo (w11.alloc (Obj.cells #[.int .i64 5, .int .i64 u.id, .int .i64 u.load] 73)) bE (.slice fa fs.length fc) fs) := E11.out.alloc _
      have RC : Hid (Evc (w11.alloc (Obj.cells #[.int .i64 5, .int .i64 u.id, .int .i64 u.load] 73)) ⟨w11.heap.size, 0, none⟩ ⟨5, u.id, u.load⟩) := Evc.mk' (w := w11) ⟨5, u.id, u.load⟩ rfl
      have BE : Hid (Below w11.heap.size w11 (w11.alloc (Obj.cells #[.int .i64 5, .int .i64 u.id, .int .i64 u.load] 73))) := (Below.refl _ _).alloc (Nat.le_refl _) _
      have SB : Hid (bE ≤ (w11.alloc (Obj.cells #[.int .i64 5, .int .i64 u.id, .int .i64 u.load] 73)).heap.size) := Nat.le_trans (Nat.le_trans ZU.out (Nat.le_of_lt (Nat.lt_of_lt_of_le UR.out.lt F11.out.size))) BE.out.size
      go_wp2_with (at_builtin; refine app_ev _ rfl _ _ rfl bE _ fs rfl OA.out w11.heap.size ⟨5, u.id, u.load⟩ rfl RC.out (by have := FL.out; omega) SB.out ?_)
      intro g cap wE o8 g8 a8 l8
      have EO : Hid (Evo wE bE (.slice (some ⟨g, 0, none⟩) (fs.length + 1) cap) (fs ++ [⟨5, u.id, u.load⟩])) := o8
      have FE : Hid (Fr (fun q => (.slice fa fs.length fc : Value).ownBlock = some q) w11 wE) := (Fr.below BE.out).trans (Fr.gb g8 (fun k hk => hk))
      have FA : Hid (Fr (fun q => q = gu ∨ q = gg ∨ (.slice fa fs.length fc : Value).ownBlock = some q) wr wE) := (F11.out.mono (fun k hk => by rcases hk with h | h; exact .inl h; exact .inr (.inl h))).trans (FE.out.mono (fun k hk => .inr (.inr hk)))
      have NE : Hid (∀ k, k < bE → ¬ (.slice fa fs.length fc : Value).ownBlock = some k) := fun k hk e => by have := (E11.out.block k e).1; omega
      have UE : Hid (Ub wE gu (Y.us.set q (loadU u 0)) ur) := (FE.out.block gu U11.out.lt (NE.out gu (by have := GL.out.1; omega))).trans U11.out
      have BK : Hid (Bk wE gg (Y.gold.set pn mg) gr) := (FE.out.block gg B11.out.lt (NE.out gg (by have := GL.out.2.1; omega))).trans B11.out
      have XE : Hid (Wx wE b (.int .i64 X.turn) (.int .i64 X.next) (.int .i64 X.wide) (.int .i64 X.high) (Value.slice a1 X.gs.length r1) (Value.slice a2 X.os.length r2) (Value.slice (some ⟨gg, 0, none⟩) X.gold.length r3) (Value.slice (some ⟨gu, 0, none⟩) X.us.length r4) (Value.slice a5 X.qs.length r5)) := FE.out.wx X11.out (NE.out b (by have := GL.out; omega))
      have EW : Hid ((bringW Y q u).gold = Y.gold.set pn mg) := by
       unfold Hid bringW
       simp only [UU.out.2.1, Int.toNat_natCast, List.getD_eq_getElem?_getD, UU.out.2.2.1, Option.getD_some, MG.out]
      have TE : Hid (RxS ks Z (bringW Y q u) (fs ++ [⟨5, u.id, u.load⟩]) (b + 2) bE w2 (Value.slice a1 X.gs.length r1) (Value.slice a2 X.os.length r2) (Value.slice (some ⟨gg, 0, none⟩) X.gold.length r3) (Value.slice (some ⟨gu, 0, none⟩) X.us.length r4) (Value.slice a5 X.qs.length r5) (.slice (some ⟨g, 0, none⟩) (fs.length + 1) cap) wE) :=
       T5.out.bring (V' := wE) (i := q) (u := u) (ur := ur) (gr := gr) (ev' := .slice (some ⟨g, 0, none⟩) (fs.length + 1) cap) LU.out.2.2.2.1 LU.out.2.2.2.2 SE.out.1 LX.out GB.out.1 GB.out.2.1 GB.out.2.2.1 GB.out.2.2.2.1 GB.out.2.2.2.2.1 GB.out.2.2.2.2.2.1 GB.out.2.2.2.2.2.2.1 GB.out.2.2.2.2.2.2.2 UU.out.1 UE.out (by rw [EW.out]; exact BK.out) EO.out FA.out
      clear o8 g8 a8 l8 y0 y1 y2 y3 y4 y5 y6 y7
      go_wp2
      go_round
      case rel => exact ⟨q + 1, by omega, by go_num, XE.out, by rw [NX.out.1, NX.out.2]; exact TE.out⟩
      case measure => simp [intOf]; omega
     ·have hcl : c < nl.length := by omega
      have hci : ((c : Nat) : Int) < (nl.length : Nat) := by omega
      obtain ⟨xc, hx1⟩ : ∃ x, nl[c]? = some x := ⟨_, List.getElem?_eq_getElem hcl⟩
      obtain ⟨gn, ncp, nr, en, -, -, -, -, hbn⟩ : ∃ g cap rest, Value.slice na nl.length nc = .slice (some ⟨g, 0, none⟩) nl.length cap ∧ w4.heap.size ≤ g ∧ nl.length ≤ cap ∧ cap ≤ maxLen ∧ nl.length + rest.size = cap ∧ Bk w5 g nl rest := by
       rcases NO.out.bk with ⟨-, h⟩ | h
       ·rw [h] at hcl; simp at hcl
       ·exact h
      injection en with en1 en2 en3
      subst en1 en3
      have CB : Hid (∀ V, Below wr.heap.size wr V → (Wx V b (.int .i64 X.turn) (.int .i64 X.next) (.int .i64 X.wide) (.int .i64 X.high) (Value.slice a1 X.gs.length r1) (Value.slice a2 X.os.length r2) (Value.slice (some ⟨gg, 0, none⟩) X.gold.length r3) (Value.slice (some ⟨gu, 0, none⟩) X.us.length r4) (Value.slice a5 X.qs.length r5) ∧ V.cell? ⟨gn, c, none⟩ = some (.int .i64 xc))) := fun V hV => ⟨CV.out V (DR.out.trans (hV.mono DR.out.size)), (hbn.below (BR.out.trans (hV.mono BR.out.size))).cell hx1⟩
      obtain ⟨h0, hh0⟩ : ∃ h, homeC ks Y.us u nl c = h := ⟨_, rfl⟩
      have HN : Hid (homeC ks Y.us u nl (c + 1) = (h0 || hasAt ks Y.us u xc)) := by rw [← hh0]; exact homeC_next hx1
      rw [hh0]
      clear hh0 hbn en2
      go_upto_region 26 with fail
      refine wp_region_two [(true, 0), (true, 1), (true, 2), (true, 3), (true, 4), (false, 5)] [(false, 6)] (fun V => Wx V b (.int .i64 X.turn) (.int .i64 X.next) (.int .i64 X.wide) (.int .i64 X.high) (Value.slice a1 X.gs.length r1) (Value.slice a2 X.os.length r2) (Value.slice (some ⟨gg, 0, none⟩) X.gold.length r3) (Value.slice (some ⟨gu, 0, none⟩) X.us.length r4) (Value.slice a5 X.qs.length r5) ∧ V.cell? ⟨gn, c, none⟩ = some (.int .i64 xc)) (by kernel_rfl) (by kernel_rfl) (by kernel_rfl) (by decide +kernel) (by decide +kernel) (CB.out _ (Below.refl _ _).drew) ?_
      have D6 : Hid (Below wr.heap.size wr { wr with drawn := wr.drawn + 1 }) := (Below.refl _ _).drew
      generalize ({ wr with drawn := wr.drawn + 1 } : World) = w6 at *
      refine headT_read rfl (.agg #[.int .i64 X.turn, .int .i64 X.next, .int .i64 X.wide, .int .i64 X.high, Value.slice a1 X.gs.length r1, Value.slice a2 X.os.length r2, Value.slice (some ⟨gg, 0, none⟩) X.gold.length r3, Value.slice (some ⟨gu, 0, none⟩) X.us.length r4, Value.slice a5 X.qs.length r5]) (by go_simp) (fun V hV => by obtain ⟨x0, x1, x2, x3, x4, x5, x6, x7, x8⟩ := hV.1.cells; go_simp) ?_
      go_simp
      refine headT_read rfl (.slice (some ⟨gn, 0, none⟩) nl.length nc) (by go_simp) (fun V hV => by go_simp) ?_
      go_simp
      refine headT_read rfl (.int .i64 (c : Nat)) (by go_simp) (fun V hV => by go_simp) ?_
      go_simp
      refine headT_read rfl (.pointer (some ⟨gn, c, none⟩)) (by go_simp) (fun V hV => by go_simp) ?_
      go_simp
      refine headT_read rfl (.int .i64 xc) (by go_simp) (fun V hV => by obtain ⟨-, d1⟩ := hV; go_simp) ?_
      go_simp
      refine headT_call rfl 29 #[.agg #[.int .i64 X.turn, .int .i64 X.next, .int .i64 X.wide, .int .i64 X.high, Value.slice a1 X.gs.length r1, Value.slice a2 X.os.length r2, Value.slice (some ⟨gg, 0, none⟩) X.gold.length r3, Value.slice (some ⟨gu, 0, none⟩) X.us.length r4, Value.slice a5 X.qs.length r5], .int .i64 xc] (by go_simp) (by go_simp) ?_
      refine (ron_any _ Y xc w6 (WLV.out _ (DR.out.trans (D6.out.mono DR.out.size)))).mono ?_
      rintro e w7 ⟨r, rfl, hf, hb7⟩
      have D7 : Hid (Below wr.heap.size wr w7) := D6.out.trans (hb7.mono D6.out.size)
      refine ⟨_, rfl, CB.out _ D7.out, ?_⟩
      go_simp
      unfold wpHeadT
      refine sched_value rfl (.int .i64 r) w7 (by go_simp) (by go_simp) trivial ?_
      go_simp
      unfold wpSched
      clear hb7 D6
      have W7 : Hid (Below wo.heap.size wo w7) := DR.out.trans (D7.out.mono DR.out.size)
      have R7 : Hid (Below w5.heap.size w5 w7) := BR.out.trans (D7.out.mono BR.out.size)
      obtain ⟨y0, y1, y2, y3, y4, y5, y6, y7⟩ := UR.out.below D7.out UR.out.lt
      simp only [Nat.zero_add] at y0 y1 y2 y3 y4 y5 y6 y7
      rcases hf with ⟨rfl, hf⟩ | ⟨m, y, rfl, hmy, hm, -⟩
      ·have NH : Hid (homeC ks Y.us u nl (c + 1) = h0) := by unfold Hid; rw [HN.out, has_none hf, Bool.or_false]
       clear hf
       go_upto_region 27 with fail
       go_quiet (fail)
       have D8 : Hid (Below w7.heap.size w7 (w7.drewN nq)) := ⟨rfl, rfl, rfl, Nat.le_refl _, fun _ _ => rfl⟩
       generalize w7.drewN nq = w8 at *
       go_wp2
       go_round
       case rel => exact ⟨c + 1, by omega, by go_num, by rw [NH.out], R7.out.trans (D8.out.mono R7.out.size)⟩
       case measure => simp [intOf]; omega
      ·have hmi : ((m : Nat) : Int) < (X.us.length : Nat) := by have h9 := (List.getElem?_eq_some_iff.1 hmy).1; rw [LU.out.1] at h9; omega
       have hm0 : 0 ≤ ((m : Nat) : Int) := by omega
       have HH : Hid (hasAt ks Y.us u xc = (decide (y.player = u.player) && trainsOf ks y)) := has_one RY.out hmy (eq_of_beq hm)
       obtain ⟨⟨km, k2, f1, f2, -⟩, -⟩ := TQ.out.f.units y (List.mem_of_getElem? hmy)
       have HT : Hid (trainsOf ks y = k2.t) := trains_of f1 f2
       have hkl2 : km < ks.length := (List.getElem?_eq_some_iff.1 f2).1
       have hki2 : ((km : Nat) : Int) < (ks.length : Nat) := by omega
       have KK2 := KCC.out.2 km k2 f2
       obtain ⟨-, v1, v2, -⟩ := (UB.out _ W7.out).unc hmy
       rw [f1] at v2
       have z10 := (KK2.below (BWR.out.trans (W7.out.mono BWR.out.size)) (by rw [add_block]; exact KCC.out.1)).c10
       obtain ⟨x0, x1, x2, x3, x4, x5, x6, x7, x8⟩ := (CV.out _ W7.out).cells
       clear hm f1 f2 hkl2 KK2
       by_cases hpq : y.player = u.player
       case neg =>
        have NH : Hid (homeC ks Y.us u nl (c + 1) = h0) := by unfold Hid; rw [HN.out, HH.out, decide_eq_false hpq, Bool.false_and, Bool.or_false]
        have hp1 : (y.player == u.player) = false := beq_eq_false_iff_ne.2 hpq
        have hp2 : decide (y.player = u.player) = false := decide_eq_false hpq
        clear hpq
        go_upto_region 27 with fail
        go_quiet (fail)
        have D8 : Hid (Below w7.heap.size w7 (w7.drewN nq)) := ⟨rfl, rfl, rfl, Nat.le_refl _, fun _ _ => rfl⟩
        clear x0 x1 x2 x3 x4 x5 x6 x7 x8 y0 y1 y2 y3 y4 y5 y6 y7 v1 v2 z10
        generalize w7.drewN nq = w8 at *
        go_wp2
        go_round
        case rel => exact ⟨c + 1, by omega, by go_num, by rw [NH.out], R7.out.trans (D8.out.mono R7.out.size)⟩
        case measure => simp [intOf]; omega
       case pos =>
       have HH2 : Hid (hasAt ks Y.us u xc = k2.t) := by unfold Hid; rw [HH.out, decide_eq_true hpq, Bool.true_and, HT.out]
       rw [hpq] at v1
       clear hpq HH HT
       cases hkt : k2.t
       case false =>
        have NH : Hid (homeC ks Y.us u nl (c + 1) = h0) := by unfold Hid; rw [HN.out, HH2.out, hkt, Bool.or_false]
        rw [hkt] at z10
        clear hkt HH2
        go_upto_region 27 with fail
        go_quiet (fail)
        have D8 : Hid (Below w7.heap.size w7 (w7.drewN nq)) := ⟨rfl, rfl, rfl, Nat.le_refl _, fun _ _ => rfl⟩
        clear x0 x1 x2 x3 x4 x5 x6 x7 x8 y0 y1 y2 y3 y4 y5 y6 y7 v1 v2 z10
        generalize w7.drewN nq = w8 at *
        go_wp2
        go_round
        case rel => exact ⟨c + 1, by omega, by go_num, by rw [NH.out], R7.out.trans (D8.out.mono R7.out.size)⟩
        case measure => simp [intOf]; omega
       case true =>
        have NH : Hid (homeC ks Y.us u nl (c + 1) = true) := by unfold Hid; rw [HN.out, HH2.out, hkt, Bool.or_true]
        rw [hkt] at z10
        clear hkt HH2
        go_upto_region 27 with fail
        go_quiet (fail)
        have D8 : Hid (Below w7.heap.size w7 (w7.drewN nq)) := ⟨rfl, rfl, rfl, Nat.le_refl _, fun _ _ => rfl⟩
        clear x0 x1 x2 x3 x4 x5 x6 x7 x8 y0 y1 y2 y3 y4 y5 y6 y7 v1 v2 z10
        generalize w7.drewN nq = w8 at *
        go_wp2
        go_round
        case rel => exact ⟨c + 1, by omega, by go_num, by rw [NH.out], R7.out.trans (D8.out.mono R7.out.size)⟩
        case measure => simp [intOf]; omega
  ·have hql : q < X.us.length := by omega
   have hqi : ((q : Nat) : Int) < (X.us.length : Nat) := by omega
   have hzl : q < Z.us.length := by rw [TQ.out.k.2.2.2.2.2.2.2.1]; exact hql
   obtain ⟨u, hu⟩ : ∃ u, Z.us[q]? = some u := ⟨_, List.getElem?_eq_getElem hzl⟩
   obtain ⟨⟨kn, k, hkn, hkk, l1, l2, l3⟩, ⟨an, han, hal⟩, -⟩ := TQ.out.f.units u (List.mem_of_getElem? hu)
   obtain ⟨x, hx⟩ : ∃ x, Z.os[an]? = some x := ⟨_, List.getElem?_eq_getElem hal⟩
   have UU : Hid (Z.us[q]? = some u ∧ u.kind = (kn : Nat) ∧ ks[kn]? = some k ∧ u.at_ = (an : Nat) ∧ Z.os[an]? = some x) := ⟨hu, hkn, hkk, han, hx⟩
   have OX := TQ.out.f.ore hx
   have hali : ((an : Nat) : Int) < (X.os.length : Nat) := by rw [← TQ.out.k.2.2.2.2.2.2.2.2]; omega
   have hkl : kn < ks.length := (List.getElem?_eq_some_iff.1 hkk).1
   have hki : ((kn : Nat) : Int) < (ks.length : Nat) := by omega
   obtain ⟨xk, rfl, hxk, hkc⟩ := KC.out (by intro h; rw [h] at hkl; simp at hkl)
   have KK : Hid (Kc w (xk.add (kn * 11)) k ∧ (xk.add (kn * 11)).block < w.heap.size) := ⟨hkc kn k hkk, by rw [add_block]; exact hxk⟩
   obtain ⟨gu, cu, ur, e4, hgu, c1, c2, c3, hub⟩ : ∃ g cap rest, (Value.slice a4 X.us.length r4) = .slice (some ⟨g, 0, none⟩) X.us.length cap ∧ b + 2 ≤ g ∧ X.us.length ≤ cap ∧ cap ≤ maxLen ∧ X.us.length * 8 + rest.length = cap * 8 ∧ Ub wr g Z.us rest := by
    rcases TQ.out.o4.ub with ⟨-, h⟩ | ⟨g, cap, rest, h⟩
    ·rw [h] at hzl; simp at hzl
    ·rw [TQ.out.k.2.2.2.2.2.2.2.1] at h; exact ⟨g, cap, rest, h⟩
   injection e4 with e41 e42 e43
   subst e41 e43
   obtain ⟨gs, co, sr, e2, hgs, d1, d2, d3, hbk⟩ : ∃ g cap rest, (Value.slice a2 X.os.length r2) = .slice (some ⟨g, 0, none⟩) X.os.length cap ∧ b + 2 ≤ g ∧ X.os.length ≤ cap ∧ cap ≤ maxLen ∧ X.os.length + rest.size = cap ∧ Bk wr g Z.os rest := by
    rcases TQ.out.o2.bk with ⟨-, h⟩ | ⟨g, cap, rest, h⟩
    ·rw [h] at hal; simp at hal
    ·rw [TQ.out.k.2.2.2.2.2.2.2.2] at h; exact ⟨g, cap, rest, h⟩
   injection e2 with e21 e22 e23
   subst e21 e23
   have GB : Hid (b + 2 ≤ gu ∧ X.us.length ≤ r4 ∧ r4 ≤ maxLen ∧ X.us.length * 8 + ur.length = r4 * 8 ∧ b + 2 ≤ gs ∧ X.os.length ≤ r2 ∧ r2 ≤ maxLen ∧ X.os.length + sr.size = r2) := ⟨hgu, c1, c2, c3, hgs, d1, d2, d3⟩
   have UB : Hid (∀ V, Below wr.heap.size wr V → Ub V gu Z.us ur) := fun V hV => hub.below hV hub.lt
   have BB : Hid (∀ V, Below wr.heap.size wr V → Bk V gs Z.os sr) := fun V hV => hbk.below hV
   have GL : Hid (gu < bE ∧ gs < bE ∧ gu ≠ gs ∧ b < gu ∧ b < gs) := ⟨(L24.out.2 gu rfl).2, (L24.out.1 gs rfl).2, fun e => TQ.out.difs.2.1.2.1 gs rfl (by rw [← e]; rfl), by omega, by omega⟩
   have BWR : Hid (Below w.heap.size w wr) := B2.out.trans (TQ.out.fr.low B2.out.size (fun k hk => by
    have h9 := HB.out
    rcases hk with hk | hk
    ·have := (L24.out.1 k hk).1; omega
    ·have := (L24.out.2 k hk).1; omega))
   have CV : Hid (∀ V, Below wr.heap.size wr V → Wx V b (.int .i64 X.turn) (.int .i64 X.next) (.int .i64 X.wide) (.int .i64 X.high) (Value.slice a1 X.gs.length r1) (Value.slice (some ⟨gs, 0, none⟩) X.os.length r2) (Value.slice a3 X.gold.length r3) (Value.slice (some ⟨gu, 0, none⟩) X.us.length r4) (Value.slice a5 X.qs.length r5)) := fun V hV => XQ.out.below hV XQ.out.lt
   have TV : Hid (∀ V, Below wr.heap.size wr V → TkS ks X Z es (b + 2) bE w2 (Value.slice a1 X.gs.length r1) (Value.slice (some ⟨gs, 0, none⟩) X.os.length r2) (Value.slice a3 X.gold.length r3) (Value.slice (some ⟨gu, 0, none⟩) X.us.length r4) (Value.slice a5 X.qs.length r5) (.slice ea es.length ec) V) := fun V hV => TQ.out.below hV
   obtain ⟨y0, y1, y2, y3, y4, y5, y6, y7⟩ := hub.unc UU.out.1
   clear hu hkn hkk han hx hal hzl hgu c1 c2 c3 hgs d1 d2 d3 hub hbk e42 e22 hkc hxk hkl
   go_upto_region 7 with fail
   obtain ⟨zu, hzu⟩ : ∃ z, wr.heap.size = z := ⟨_, rfl⟩
   have D3 : Hid (Below wr.heap.size wr (wr.alloc (Obj.cells #[.int .i64 u.id, .int .i64 u.player, .int .i64 u.kind, .int .i64 u.at_, .int .i64 u.life, .int .i64 u.load, .int .i64 u.task, .int .i64 u.goal] 44))) := (Below.refl _ _).alloc (Nat.le_refl _) _
   have UC : Hid (Unc (wr.alloc (Obj.cells #[.int .i64 u.id, .int .i64 u.player, .int .i64 u.kind, .int .i64 u.at_, .int .i64 u.life, .int .i64 u.load, .int .i64 u.task, .int .i64 u.goal] 44)) ⟨zu, 0, none⟩ u) := Unc.mk' u hzu
   have ZU : Hid (bE ≤ zu) := by unfold Hid; rw [← hzu, ← SE.out.1]; exact TQ.out.fr.size
   (try rw [hzu])
   generalize wr.alloc (Obj.cells #[.int .i64 u.id, .int .i64 u.player, .int .i64 u.kind, .int .i64 u.at_, .int .i64 u.life, .int .i64 u.load, .int .i64 u.task, .int .i64 u.goal] 44) = w3 at *
   clear x0 x1 x2 x3 x4 x5 x6 x7 x8 y0 y1 y2 y3 y4 y5 y6 y7 hzu
   obtain ⟨y0, y1, y2, y3, y4, y5, y6, y7⟩ := UC.out
   simp only [Nat.zero_add] at y0 y1 y2 y3 y4 y5 y6 y7
   rw [UU.out.2.1] at y2
   rw [UU.out.2.2.2.1] at y3
   have YL := yield_le (ks := ks) (Y := Z) UU.out.2.1 UU.out.2.2.1 UU.out.2.2.2.1 UU.out.2.2.2.2
   rw [UU.out.2.2.2.1] at YL
   by_cases hgo : u.task = 2 ∧ (an : Int) = u.goal
   case neg =>
    have NX : Hid (tk ks X (q + 1) = (Z, es)) := by
     rw [if_neg hgo] at YL
     have h9 := tk_no (ks := ks) (Y := X) (q := q) (u := u) (by rw [HQ.out.1]; exact UU.out.1) (by rw [HQ.out.1, YL]; omega)
     unfold Hid
     rw [h9, ← HQ.out.1, ← HQ.out.2]
    have hgo2 : ¬ u.task = 2 ∨ (u.task = 2 ∧ ¬ (an : Int) = u.goal) := by omega
    clear hgo YL
    rcases hgo2 with g1 | ⟨g1, g2⟩
    all_goals
     go_wp2
     go_round
     case rel => exact ⟨q + 1, by omega, by go_num, CV.out _ D3.out, by rw [NX.out]; exact TV.out _ D3.out⟩
     case measure => simp [intOf]; omega
   case pos =>
   rw [if_pos hgo] at YL
   obtain ⟨g1, g2⟩ := hgo
   obtain ⟨m1, hm1⟩ : ∃ m, min (k.n7 - u.load) 10 = m := ⟨_, rfl⟩
   obtain ⟨n, hn⟩ : ∃ n, min (min (k.n7 - u.load) x) 10 = n := ⟨_, rfl⟩
   have HN : Hid (yieldN ks Z u = n) := by rw [YL]; exact hn
   have M1 : Hid (min (k.n7 - u.load) 10 = m1 ∧ min m1 x = n) := ⟨hm1, by omega⟩
   have nb : n ≤ 10 ∧ (0 < n → n ≤ x ∧ u.load + n ≤ k.n7) := by omega
   have NBH : Hid (n ≤ 10 ∧ (0 < n → n ≤ x ∧ u.load + n ≤ k.n7) ∧ 0 ≤ u.load ∧ u.load ≤ k.n7 ∧ k.n7 ≤ 1000 ∧ 0 ≤ x ∧ x ≤ 1000000) := ⟨nb.1, nb.2, l1, l2, l3, OX.1, OX.2⟩
   have wr0 : IntKind.i64.wrap (k.n7 - u.load) = k.n7 - u.load := by rw [IntKind.wrap_i64]; omega
   clear YL hm1 hn nb l1 l2 l3 OX
   obtain ⟨z0, z1, z2, z3, z4, z5, z6, z7, z8, z9, z10⟩ := KK.out.1.below (BWR.out.trans (D3.out.mono BWR.out.size)) KK.out.2
   go_upto_region 9 with fail
   clear g1 g2
   go_quiet (fail)
   have DQ : Hid (Below w3.heap.size w3 (w3.drewN nq)) := ⟨rfl, rfl, rfl, Nat.le_refl _, fun _ _ => rfl⟩
   have D4 : Hid (Below wr.heap.size wr (w3.drewN nq)) := D3.out.trans (DQ.out.mono D3.out.size)
   have UC4 : Hid (Unc (w3.drewN nq) ⟨zu, 0, none⟩ u) := UC.out.below DQ.out UC.out.lt
   clear y0 y1 y2 y3 y4 y5 y6 y7 z0 z1 z2 z3 z4 z5 z6 z7 z8 z9 z10 DQ D3 UC
   generalize w3.drewN nq = w4 at *
   go_upto_if 50 with fail
   go_cut [9] from 18 to 108 (fun v9 V => v9 = .int .i64 m1 ∧ Below w4.heap.size w4 V)
   case first =>
    by_cases hc : k.n7 - u.load < 10
    ·have E1 : Hid (m1 = k.n7 - u.load) := by have := M1.out.1; unfold Hid; omega
     obtain ⟨z0, z1, z2, z3, z4, z5, z6, z7, z8, z9, z10⟩ := KK.out.1.below (BWR.out.trans (D4.out.mono BWR.out.size)) KK.out.2
     obtain ⟨y0, y1, y2, y3, y4, y5, y6, y7⟩ := UC4.out
     simp only [Nat.zero_add] at y0 y1 y2 y3 y4 y5 y6 y7
     rw [UU.out.2.1] at y2
     go_upto_region 10 with fail
     go_quiet (fail)
     go_wp2_with fail
     go_meet
     case rel => exact ⟨by rw [E1.out], ⟨rfl, rfl, rfl, Nat.le_refl _, fun _ _ => rfl⟩⟩
    ·have E1 : Hid (m1 = 10) := by have := M1.out.1; unfold Hid; omega
     go_wp2_with fail
     go_meet
     case rel => exact ⟨by rw [E1.out], Below.refl _ _⟩
   case rest =>
   obtain ⟨rfl, hb5⟩ := hcut
   obtain ⟨w5, hw5⟩ : ∃ V, V = wc := ⟨_, rfl⟩
   subst hw5
   have D5 : Hid (Below wr.heap.size wr w5) := D4.out.trans (hb5.mono D4.out.size)
   have UC5 : Hid (Unc w5 ⟨zu, 0, none⟩ u) := UC4.out.below hb5 UC4.out.lt
   clear hb5 D4 UC4 wr0
   obtain ⟨y0, y1, y2, y3, y4, y5, y6, y7⟩ := UC5.out
   simp only [Nat.zero_add] at y0 y1 y2 y3 y4 y5 y6 y7
   rw [UU.out.2.2.2.1] at y3
   obtain ⟨x0, x1, x2, x3, x4, x5, x6, x7, x8⟩ := (CV.out _ D5.out).cells
   have co := (BB.out _ D5.out).cell UU.out.2.2.2.2
   go_upto_if 68 with fail
   go_cut [9] from 18 to 108 (fun v9 V => v9 = .int .i64 n ∧ V = w5)
   case first =>
    by_cases hc : x < m1
    ·have E1 : Hid (n = x) := by have := M1.out.2; unfold Hid; omega
     go_wp2_with fail
     go_meet
     case rel => exact ⟨by rw [E1.out], rfl⟩
    ·have E1 : Hid (n = m1) := by have := M1.out.2; unfold Hid; omega
     go_wp2_with fail
     go_meet
     case rel => exact ⟨by rw [E1.out], rfl⟩
   case rest =>
   obtain ⟨rfl, hV⟩ := hcut
   obtain rfl : w5 = wc := hV.symm
   clear hV
   clear y0 y1 y2 y3 y4 y5 y6 y7 x0 x1 x2 x3 x4 x5 x6 x7 x8 co
   have T5 : Hid (TkS ks X Z es (b + 2) bE w2 (Value.slice a1 X.gs.length r1) (Value.slice (some ⟨gs, 0, none⟩) X.os.length r2) (Value.slice a3 X.gold.length r3) (Value.slice (some ⟨gu, 0, none⟩) X.us.length r4) (Value.slice a5 X.qs.length r5) (.slice ea es.length ec) w5) := TV.out _ D5.out
   have X5 : Hid (Wx w5 b (.int .i64 X.turn) (.int .i64 X.next) (.int .i64 X.wide) (.int .i64 X.high) (Value.slice a1 X.gs.length r1) (Value.slice (some ⟨gs, 0, none⟩) X.os.length r2) (Value.slice a3 X.gold.length r3) (Value.slice (some ⟨gu, 0, none⟩) X.us.length r4) (Value.slice a5 X.qs.length r5)) := CV.out _ D5.out
   by_cases hp : 0 < n
   case neg =>
    have NX : Hid (tk ks X (q + 1) = (Z, es)) := by
     have h9 := tk_no (ks := ks) (Y := X) (q := q) (u := u) (by rw [HQ.out.1]; exact UU.out.1) (by rw [HQ.out.1, HN.out]; exact hp)
     unfold Hid
     rw [h9, ← HQ.out.1, ← HQ.out.2]
    go_wp2
    go_round
    case rel => exact ⟨q + 1, by omega, by go_num, X5.out, by rw [NX.out]; exact T5.out⟩
    case measure => simp [intOf]; omega
   case pos =>
   have NX : Hid (tk ks X (q + 1) = (takeW Z q u n, es ++ [⟨4, u.id, n⟩])) := by
    have h9 := tk_yes (ks := ks) (Y := X) (q := q) (u := u) (by rw [HQ.out.1]; exact UU.out.1) (by rw [HQ.out.1, HN.out]; exact hp)
    unfold Hid
    rw [h9, HQ.out.1, HQ.out.2, HN.out]
   have U7 := UB.out _ D5.out
   have B7 := BB.out _ D5.out
   obtain ⟨y0, y1, y2, y3, y4, y5, y6, y7⟩ := UC5.out
   simp only [Nat.zero_add] at y0 y1 y2 y3 y4 y5 y6 y7
   have t5 := U7.thaw (q * 8 + 5)
   have cu5 := (U7.unc UU.out.1).c5
   have wr1 : IntKind.i64.wrap (u.load + n) = u.load + n := by rw [IntKind.wrap_i64]; have := NBH.out; omega
   obtain ⟨x0, x1, x2, x3, x4, x5, x6, x7, x8⟩ := X5.out.cells
   have U8 : Hid (Ub (w5.setCell ⟨gu, q * 8 + 5, none⟩ (.int .i64 (u.load + n))) gu (Z.us.set q (loadU u (u.load + n))) ur) := U7.set5 UU.out.1 _
   have K8 : Hid (Kp gu w5 (w5.setCell ⟨gu, q * 8 + 5, none⟩ (.int .i64 (u.load + n)))) := Kp.set _ _ _
   have B8 : Hid (Bk (w5.setCell ⟨gu, q * 8 + 5, none⟩ (.int .i64 (u.load + n))) gs Z.os sr) := B7.other (by have := GL.out.2.2; omega) _ _
   clear U7 B7
   go_upto_region 15 with fail
   clear y0 y1 y2 y3 y4 y5 y6 y7 t5 wr1 cu5 x0 x1 x2 x3 x4 x5 x6 x7 x8
   generalize w5.setCell ⟨gu, q * 8 + 5, none⟩ (.int .i64 (u.load + n)) = w8 at *
   have F8 : Hid (Fr (fun q => q = gu) w5 w8) := Fr.kp K8.out rfl
   have X8 : Hid (Wx w8 b (.int .i64 X.turn) (.int .i64 X.next) (.int .i64 X.wide) (.int .i64 X.high) (Value.slice a1 X.gs.length r1) (Value.slice (some ⟨gs, 0, none⟩) X.os.length r2) (Value.slice a3 X.gold.length r3) (Value.slice (some ⟨gu, 0, none⟩) X.us.length r4) (Value.slice a5 X.qs.length r5)) := F8.out.wx X5.out (by have := GL.out; omega)
   have UC8 : Hid (Unc w8 ⟨zu, 0, none⟩ u) := UC5.out.kp9 K8.out (by show zu ≠ gu; have := GL.out; have := ZU.out; omega)
   have CB : Hid (∀ V, Below w8.heap.size w8 V → (V.cell? ⟨b, 5, none⟩ = some (.slice (some ⟨gs, 0, none⟩) X.os.length r2) ∧ V.cell? ⟨zu, 3, none⟩ = some (.int .i64 (an : Nat)) ∧ V.cell? ⟨gs, an, none⟩ = some (.int .i64 x))) := fun V hV => by
    have h3 := (UC8.out.below hV UC8.out.lt).c3
    simp only [Nat.zero_add] at h3
    rw [UU.out.2.2.2.1] at h3
    exact ⟨(X8.out.below hV X8.out.lt).cells.2.2.2.2.2.1, h3, (B8.out.below hV).cell UU.out.2.2.2.2⟩
   have wr2 : IntKind.i64.wrap (x - n) = x - n := by rw [IntKind.wrap_i64]; have := NBH.out; omega
   refine wp_region_two [(true, 0), (true, 1), (true, 2), (true, 3), (true, 4), (true, 5), (true, 6), (true, 7), (true, 8), (true, 9), (true, 10), (true, 11), (true, 12), (true, 13), (true, 14)] [(false, 15)] (fun V => V.cell? ⟨b, 5, none⟩ = some (.slice (some ⟨gs, 0, none⟩) X.os.length r2) ∧ V.cell? ⟨zu, 3, none⟩ = some (.int .i64 (an : Nat)) ∧ V.cell? ⟨gs, an, none⟩ = some (.int .i64 x)) (by kernel_rfl) (by kernel_rfl) (by kernel_rfl) (by decide +kernel) (by decide +kernel) (CB.out _ (Below.refl _ _).drew) ?_
   have DR : Hid (Below w8.heap.size w8 { w8 with drawn := w8.drawn + 1 }) := (Below.refl _ _).drew
   generalize ({ w8 with drawn := w8.drawn + 1 } : World) = wd at *
   have BD : Hid (Bk wd gs Z.os sr) := B8.out.below DR.out
   refine headT_read rfl (.pointer (some ⟨b, 2, none⟩)) (by go_simp) (fun V hV => by go_simp) ?_
   go_simp
   refine headT_read rfl (.pointer (some ⟨b, 5, none⟩)) (by go_simp) (fun V hV => by go_simp) ?_
   go_simp
   refine headT_read rfl (.slice (some ⟨gs, 0, none⟩) X.os.length r2) (by go_simp) (fun V hV => by obtain ⟨d1, d2, d3⟩ := hV; go_simp) ?_
   go_simp
   refine headT_read rfl (.pointer (some ⟨zu, 3, none⟩)) (by go_simp) (fun V hV => by go_simp) ?_
   go_simp
   refine headT_read rfl (.int .i64 (an : Nat)) (by go_simp) (fun V hV => by obtain ⟨d1, d2, d3⟩ := hV; go_simp) ?_
   go_simp
   refine headT_read rfl (.pointer (some ⟨b, 2, none⟩)) (by go_simp) (fun V hV => by go_simp) ?_
   go_simp
   refine headT_read rfl (.pointer (some ⟨b, 5, none⟩)) (by go_simp) (fun V hV => by go_simp) ?_
   go_simp
   refine headT_read rfl (.slice (some ⟨gs, 0, none⟩) X.os.length r2) (by go_simp) (fun V hV => by obtain ⟨d1, d2, d3⟩ := hV; go_simp) ?_
   go_simp
   refine headT_read rfl (.pointer (some ⟨zu, 3, none⟩)) (by go_simp) (fun V hV => by go_simp) ?_
   go_simp
   refine headT_read rfl (.int .i64 (an : Nat)) (by go_simp) (fun V hV => by obtain ⟨d1, d2, d3⟩ := hV; go_simp) ?_
   go_simp
   refine headT_read rfl (.pointer (some ⟨gs, an, none⟩)) (by go_simp) (fun V hV => by go_simp) ?_
   go_simp
   refine headT_read rfl (.int .i64 x) (by go_simp) (fun V hV => by obtain ⟨d1, d2, d3⟩ := hV; go_simp) ?_
   go_simp
   refine headT_read rfl (.int .i64 n) (by go_simp) (fun V hV => by go_simp) ?_
   go_simp
   refine headT_read rfl (.int .i64 (x - n)) (by go_simp) (fun V hV => by go_simp) ?_
   go_simp
   refine headT_read rfl (.pointer (some ⟨gs, an, none⟩)) (by go_simp) (fun V hV => by go_simp) ?_
   go_simp
   unfold wpHeadT
   have ts := BD.out.thaw an
   have co := BD.out.cell UU.out.2.2.2.2
   have K9 : Hid (Kp gs wd (wd.setCell ⟨gs, an, none⟩ (.int .i64 (x - n)))) := Kp.set _ _ _
   have B9 : Hid (Bk (wd.setCell ⟨gs, an, none⟩ (.int .i64 (x - n))) gs (Z.os.set an (x - n)) sr) := BD.out.set an _ (List.getElem?_eq_some_iff.1 UU.out.2.2.2.2).1
   refine sched_skip rfl (wd.setCell ⟨gs, an, none⟩ (.int .i64 (x - n))) (by go_simp) (by go_simp) trivial ?_
   go_simp
   clear ts co wr2 CB BD
   generalize wd.setCell ⟨gs, an, none⟩ (.int .i64 (x - n)) = w9 at *
   have F9 : Hid (Fr (fun q => q = gs) w8 w9) := (Fr.below DR.out).trans (Fr.kp K9.out rfl)
   have X9 : Hid (Wx w9 b (.int .i64 X.turn) (.int .i64 X.next) (.int .i64 X.wide) (.int .i64 X.high) (Value.slice a1 X.gs.length r1) (Value.slice (some ⟨gs, 0, none⟩) X.os.length r2) (Value.slice a3 X.gold.length r3) (Value.slice (some ⟨gu, 0, none⟩) X.us.length r4) (Value.slice a5 X.qs.length r5)) := F9.out.wx X8.out (by have := GL.out; omega)
   have U9 : Hid (Ub w9 gu (Z.us.set q (loadU u (u.load + n))) ur) := (F9.out.block gu U8.out.lt (by have := GL.out.2.2; omega)).trans U8.out
   have F59 : Hid (Fr (fun q => q = gu ∨ q = gs) w5 w9) := (F8.out.mono (fun k hk => .inl hk)).trans (F9.out.mono (fun k hk => .inr hk))
   have E9 : Hid (Evo w9 bE (.slice ea es.length ec) es) := F59.out.own T5.out.e (fun b hb e => by have h9 := (T5.out.e.block b hb).1; have h8 := GL.out; omega)
   have y0 : w9.cell? ⟨zu, 0, none⟩ = some (.int .i64 u.id) := F59.out.cell UC5.out.c0 (by show ¬ (zu = gu ∨ zu = gs); have := GL.out; have := ZU.out; omega)
   have OA : Hid (Evo (w9.alloc (Obj.cells #[.int .i64 4, .int .i64 u.id, .int .i64 n] 73)) bE (.slice ea es.length ec) es) := E9.out.alloc _
   have RC : Hid (Evc (w9.alloc (Obj.cells #[.int .i64 4, .int .i64 u.id, .int .i64 n] 73)) ⟨w9.heap.size, 0, none⟩ ⟨4, u.id, n⟩) := Evc.mk' (w := w9) ⟨4, u.id, n⟩ rfl
   have BE : Hid (Below w9.heap.size w9 (w9.alloc (Obj.cells #[.int .i64 4, .int .i64 u.id, .int .i64 n] 73))) := (Below.refl _ _).alloc (Nat.le_refl _) _
   have SB : Hid (bE ≤ (w9.alloc (Obj.cells #[.int .i64 4, .int .i64 u.id, .int .i64 n] 73)).heap.size) := Nat.le_trans (Nat.le_trans ZU.out (Nat.le_of_lt (Nat.lt_of_lt_of_le UC5.out.lt F59.out.size))) BE.out.size
   unfold wpSched
   go_wp2_with (at_builtin; refine app_ev _ rfl _ _ rfl bE _ es rfl OA.out w9.heap.size ⟨4, u.id, n⟩ rfl RC.out (by have := EL.out; omega) SB.out ?_)
   intro g cap wE o8 g8 a8 l8
   have EO : Hid (Evo wE bE (.slice (some ⟨g, 0, none⟩) (es.length + 1) cap) (es ++ [⟨4, u.id, n⟩])) := o8
   have FE : Hid (Fr (fun q => (.slice ea es.length ec : Value).ownBlock = some q) w9 wE) := (Fr.below BE.out).trans (Fr.gb g8 (fun k hk => hk))
   have FA : Hid (Fr (fun q => q = gu ∨ q = gs ∨ (.slice ea es.length ec : Value).ownBlock = some q) w5 wE) := (F59.out.mono (fun k hk => by rcases hk with h | h; exact .inl h; exact .inr (.inl h))).trans (FE.out.mono (fun k hk => .inr (.inr hk)))
   have NE : Hid (∀ k, k < bE → ¬ (.slice ea es.length ec : Value).ownBlock = some k) := fun k hk e => by have := (E9.out.block k e).1; omega
   have UE : Hid (Ub wE gu (Z.us.set q (loadU u (u.load + n))) ur) := (FE.out.block gu U9.out.lt (NE.out gu (by have := GL.out.1; omega))).trans U9.out
   have BK : Hid (Bk wE gs (Z.os.set an (x - n)) sr) := (FE.out.block gs B9.out.lt (NE.out gs (by have := GL.out.2.1; omega))).trans B9.out
   have XE : Hid (Wx wE b (.int .i64 X.turn) (.int .i64 X.next) (.int .i64 X.wide) (.int .i64 X.high) (Value.slice a1 X.gs.length r1) (Value.slice (some ⟨gs, 0, none⟩) X.os.length r2) (Value.slice a3 X.gold.length r3) (Value.slice (some ⟨gu, 0, none⟩) X.us.length r4) (Value.slice a5 X.qs.length r5)) := FE.out.wx X9.out (NE.out b (by have := GL.out; omega))
   have EW : Hid ((takeW Z q u n).os = Z.os.set an (x - n)) := by
    unfold Hid takeW
    simp only [UU.out.2.2.2.1, Int.toNat_natCast, List.getD_eq_getElem?_getD, UU.out.2.2.2.2, Option.getD_some]
   have TE : Hid (TkS ks X (takeW Z q u n) (es ++ [⟨4, u.id, n⟩]) (b + 2) bE w2 (Value.slice a1 X.gs.length r1) (Value.slice (some ⟨gs, 0, none⟩) X.os.length r2) (Value.slice a3 X.gold.length r3) (Value.slice (some ⟨gu, 0, none⟩) X.us.length r4) (Value.slice a5 X.qs.length r5) (.slice (some ⟨g, 0, none⟩) (es.length + 1) cap) wE) := by
    have h9 := T5.out.take (V' := wE) (i := q) (u := u) (ur := ur) (sr := sr) (ev' := .slice (some ⟨g, 0, none⟩) (es.length + 1) cap) SE.out.1 LW.out GB.out.1 GB.out.2.1 GB.out.2.2.1 GB.out.2.2.2.1 GB.out.2.2.2.2.1 GB.out.2.2.2.2.2.1 GB.out.2.2.2.2.2.2.1 GB.out.2.2.2.2.2.2.2 UU.out.1 (by rw [HN.out]; exact hp) (by rw [HN.out]; exact UE.out) (by rw [HN.out, EW.out]; exact BK.out) (by rw [HN.out]; exact EO.out) FA.out
    rw [HN.out] at h9
    exact h9
   clear o8 g8 a8 l8 y0
   go_wp2
   go_round
   case rel => exact ⟨q + 1, by omega, by go_num, XE.out, by rw [NX.out]; exact TE.out⟩
   case measure => simp [intOf]; omega
end Go.Proofs.YteieikgkmfglaaaGreatDoor
