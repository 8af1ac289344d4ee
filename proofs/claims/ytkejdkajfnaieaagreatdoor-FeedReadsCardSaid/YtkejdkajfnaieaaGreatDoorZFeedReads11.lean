/- sight.View: the world as a player sees it. · The numbers of a right world are small. Plain mathematics. · Sight: who sees where it is: plain mathematics. · A world's ids rise: each is one unit's. Plain mathematics. · Sight: a player's world is right; looked at once more it is the same: plain mathematics. · feed.News. -/
import Derived.Test.YtkejdkajfnaieaaGreatDoorZFeedReads7
import Derived.Test.YtkejdkajfnaieaaGreatDoorZFeedReads6
import Derived.Test.YtkejdkajfnaieaaGreatDoorZFeedReads5
import Derived.Test.YtkejdkajfnaieaaGreatDoorZFeedReads8
import Derived.Test.YtkejdkajfnaieaaGreatDoorZFeedReads1
import Derived.Deep.DeepCutAuto
namespace Go.Proofs.YtkejdkajfnaieaaGreatDoor
open Go.RowKit
set_option linter.unusedVariables false

/-- what View tells. -/
def ViewSays (ks : List KV) (X : WV) (p : Int) (w w' : World) (v : Value) : Prop :=
  (pfault ks X p ≠ 0 ∧ v = .agg #[.int .i64 0, .int .i64 0, .int .i64 0, .int .i64 0, .slice none 0 0, .slice none 0 0, .slice none 0 0, .slice none 0 0, .slice none 0 0]) ∨ (pfault ks X p = 0 ∧ ∃ Wn : Nat, X.wide = (Wn : Nat) ∧ Wo w' w.heap.size v (viewOf ks Wn X p))
set_option maxRecDepth 100000 in
set_option maxHeartbeats 16000000 in
theorem View_any (vk vw : Value) (ks : List KV) (X : WV) (p : Int) (w : World) (hk : Kl w vk ks) (hb : ∀ k ∈ ks, k.b.size ≤ 9223372036854775807) (hw : Wl w vw X) :
    Calls Tryz.prog 24 #[vk, vw, .int .i64 p] w fun e w' => ∃ v r, e = .returned (.tuple #[v, r]) ∧ Er r (pfault ks X p) ∧ ViewSays ks X p w w' v ∧ Below w.heap.size w w' := by
  have K : Hid (Kl w vk ks ∧ ∀ k ∈ ks, k.b.size ≤ 9223372036854775807) := ⟨hk, hb⟩
  have H : Hid (Wl w vw X) := hw
  obtain ⟨p1, q1, p2, q2, p3, q3, p4, q4, p5, q5, rfl⟩ := wl_shape9 hw
  obtain ⟨pk, qk, rfl, -⟩ := hk
  clear hb hw
  go_enter Tryz.func24, Tryz.ntmps24
  go_upto_region 1 with fail
  have R0 : Hid (Rs w p (((w.alloc (Obj.cells #[.int .i64 X.turn, .int .i64 X.next, .int .i64 X.wide, .int .i64 X.high, .slice p1 X.gs.length q1, .slice p2 X.os.length q2, .slice p3 X.gold.length q3, .slice p4 X.us.length q4, .slice p5 X.qs.length q5] 29)).alloc (Obj.cells #[.int .i64 p] 3)).alloc (Obj.cells #[.int .i64 0, .int .i64 0, .int .i64 0, .int .i64 0, .slice none 0 0, .slice none 0 0, .slice none 0 0, .slice none 0 0, .slice none 0 0] 29))) := ⟨by rw [cell_alloc (p := ⟨w.heap.size + 1, 0, none⟩) (by simp)]; exact cell_new1 _ _ (by simp), Wx.new _ _ _ _ _ _ _ _ _ (by simp), (((Below.refl _ _).alloc (Nat.le_refl _) _).alloc (by simp) _).alloc (by simp; omega) _⟩
  have X0 : Hid (Wx (((w.alloc (Obj.cells #[.int .i64 X.turn, .int .i64 X.next, .int .i64 X.wide, .int .i64 X.high, .slice p1 X.gs.length q1, .slice p2 X.os.length q2, .slice p3 X.gold.length q3, .slice p4 X.us.length q4, .slice p5 X.qs.length q5] 29)).alloc (Obj.cells #[.int .i64 p] 3)).alloc (Obj.cells #[.int .i64 0, .int .i64 0, .int .i64 0, .int .i64 0, .slice none 0 0, .slice none 0 0, .slice none 0 0, .slice none 0 0, .slice none 0 0] 29)) w.heap.size (.int .i64 X.turn) (.int .i64 X.next) (.int .i64 X.wide) (.int .i64 X.high) (.slice p1 X.gs.length q1) (.slice p2 X.os.length q2) (.slice p3 X.gold.length q3) (.slice p4 X.us.length q4) (.slice p5 X.qs.length q5)) := ((Wx.new _ _ _ _ _ _ _ _ _ rfl).below ((Below.refl _ _).alloc (Nat.le_refl _) _) (by simp)).below ((Below.refl _ _).alloc (Nat.le_refl _) _) (by simp; omega)
  generalize (((w.alloc (Obj.cells #[.int .i64 X.turn, .int .i64 X.next, .int .i64 X.wide, .int .i64 X.high, .slice p1 X.gs.length q1, .slice p2 X.os.length q2, .slice p3 X.gold.length q3, .slice p4 X.us.length q4, .slice p5 X.qs.length q5] 29)).alloc (Obj.cells #[.int .i64 p] 3)).alloc (Obj.cells #[.int .i64 0, .int .i64 0, .int .i64 0, .int .i64 0, .slice none 0 0, .slice none 0 0, .slice none 0 0, .slice none 0 0, .slice none 0 0] 29)) = w0 at *
  obtain ⟨x0, x1, x2, x3, x4, x5, x6, x7, x8⟩ := X0.out.cells
  have pp := R0.out.1
  go_wp2_with fail
  refine (checkPlayer_any _ _ ks X p w0 (K.out.1.below R0.out.2.2) K.out.2 (H.out.below R0.out.2.2)).mono ?_
  rintro e w1 ⟨r, rfl, hr, hb⟩
  obtain ⟨fw, hfw⟩ : ∃ f, pfault ks X p = f := ⟨_, rfl⟩
  have FW : Hid (pfault ks X p = fw) := hfw
  rw [hfw] at hr
  have R1 : Hid (Rs w p w1) := R0.out.gb (r := none) (gb_below hb) (by simp)
  have X1 : Hid (Wx w1 w.heap.size (.int .i64 X.turn) (.int .i64 X.next) (.int .i64 X.wide) (.int .i64 X.high) (.slice p1 X.gs.length q1) (.slice p2 X.os.length q2) (.slice p3 X.gold.length q3) (.slice p4 X.us.length q4) (.slice p5 X.qs.length q5)) := X0.out.below hb X0.out.lt
  clear hb hfw x0 x1 x2 x3 x4 x5 x6 x7 x8 pp X0 R0
  rcases hr with ⟨rfl, rfl⟩ | ⟨hf, rfl⟩
  case inr =>
    have HF : Hid (fw ≠ 0) := hf
    clear hf
    obtain ⟨z0, z1, z2, z3, z4, z5, z6, z7, z8⟩ := R1.out.2.1.cells
    obtain ⟨t0, t1, t2, t3, t4, t5, t6, t7, t8⟩ := R1.out.2.1.thaws
    have KZ : Hid (Kp (w.heap.size + 1 + 1) w1 (((((((((w1.setCell ⟨w.heap.size + 1 + 1, 0, none⟩ (.int .i64 0)).setCell ⟨w.heap.size + 1 + 1, 1, none⟩ (.int .i64 0)).setCell ⟨w.heap.size + 1 + 1, 2, none⟩ (.int .i64 0)).setCell ⟨w.heap.size + 1 + 1, 3, none⟩ (.int .i64 0)).setCell ⟨w.heap.size + 1 + 1, 4, none⟩ (.slice none 0 0)).setCell ⟨w.heap.size + 1 + 1, 5, none⟩ (.slice none 0 0)).setCell ⟨w.heap.size + 1 + 1, 6, none⟩ (.slice none 0 0)).setCell ⟨w.heap.size + 1 + 1, 7, none⟩ (.slice none 0 0)).setCell ⟨w.heap.size + 1 + 1, 8, none⟩ (.slice none 0 0))) := put_kp _ _ _ _ _ _ _ _ _ _ _
    obtain ⟨y0, y1, y2, y3, y4, y5, y6, y7, y8⟩ := (R1.out.2.1.put (.int .i64 0) (.int .i64 0) (.int .i64 0) (.int .i64 0) (.slice none 0 0) (.slice none 0 0) (.slice none 0 0) (.slice none 0 0) (.slice none 0 0)).cells
    go_wp2
    clear z0 z1 z2 z3 z4 z5 z6 z7 z8 t0 t1 t2 t3 t4 t5 t6 t7 t8
    generalize (((((((((w1.setCell ⟨w.heap.size + 1 + 1, 0, none⟩ (.int .i64 0)).setCell ⟨w.heap.size + 1 + 1, 1, none⟩ (.int .i64 0)).setCell ⟨w.heap.size + 1 + 1, 2, none⟩ (.int .i64 0)).setCell ⟨w.heap.size + 1 + 1, 3, none⟩ (.int .i64 0)).setCell ⟨w.heap.size + 1 + 1, 4, none⟩ (.slice none 0 0)).setCell ⟨w.heap.size + 1 + 1, 5, none⟩ (.slice none 0 0)).setCell ⟨w.heap.size + 1 + 1, 6, none⟩ (.slice none 0 0)).setCell ⟨w.heap.size + 1 + 1, 7, none⟩ (.slice none 0 0)).setCell ⟨w.heap.size + 1 + 1, 8, none⟩ (.slice none 0 0)) = w9 at *
    refine bodyPost_ret (v := .tuple #[.agg #[.int .i64 0, .int .i64 0, .int .i64 0, .int .i64 0, .slice none 0 0, .slice none 0 0, .slice none 0 0, .slice none 0 0, .slice none 0 0], .iface 97 (.int .i64 fw)]) (by simp [results, Tryz.results24, go_sem, y0, y1, y2, y3, y4, y5, y6, y7, y8]) rfl ⟨_, _, rfl, by rw [FW.out]; exact Er.no HF.out, .inl ⟨by rw [FW.out]; exact HF.out, rfl⟩, KZ.out.below R1.out.2.2 R1.out.2.2.size (by omega)⟩
  have WR : Hid (WRight ks X) := wright_of (pfault_zero FW.out).1
  obtain ⟨Wn, Hn, e1, e2, G⟩ := WR.out.good
  have GD : Hid (X.wide = (Wn : Nat) ∧ X.gs.length ≤ 144 ∧ X.os.length = X.gs.length ∧ 0 < X.gs.length ∧ 0 < X.gold.length ∧ X.gold.length ≤ 4) := ⟨e1, by rw [G.gl]; exact G.pos.2, by rw [G.gl, G.ol], by rw [G.gl]; exact G.pos.1, by have := (pfault_zero FW.out).2; omega, by have := (nums_ok WR.out.nums).2; omega⟩
  clear e1 e2 G
  obtain ⟨x0, x1, x2, x3, x4, x5, x6, x7, x8⟩ := X1.out.cells
  go_wp2_with fail
  refine (copy_any _ X w1 (H.out.below R1.out.2.2) WR.out.len).mono ?_
  rintro e w2 ⟨cu, rfl, ⟨k1, k2, k3, k4, k5, rfl, ⟨o1, o2, o3, o4, o5⟩, d12, d13, d14, d15, d23, d24, d25, d34, d35, d45⟩, hb⟩
  obtain ⟨a1, r1, rfl⟩ := o1.len
  obtain ⟨a2, r2, rfl⟩ := o2.len
  obtain ⟨a3, r3, rfl⟩ := o3.len
  obtain ⟨a4, r4, rfl⟩ := o4.len
  obtain ⟨a5, r5, rfl⟩ := o5.len
  obtain ⟨b1, hb1⟩ : ∃ z, w1.heap.size = z := ⟨_, rfl⟩
  rw [hb1] at o1 o2 o3 o4 o5
  have BS : Hid (w.heap.size + 1 + 1 < b1 ∧ b1 ≤ w2.heap.size) := ⟨by rw [← hb1]; exact R1.out.2.1.lt, by rw [← hb1]; exact hb.size⟩
  have X2 : Hid (Wx w2 w.heap.size (.int .i64 X.turn) (.int .i64 X.next) (.int .i64 X.wide) (.int .i64 X.high) (.slice p1 X.gs.length q1) (.slice p2 X.os.length q2) (.slice p3 X.gold.length q3) (.slice p4 X.us.length q4) (.slice p5 X.qs.length q5)) := X1.out.below hb X1.out.lt
  have R2 : Hid (Rs w p w2) := R1.out.gb (r := none) (gb_below hb) (by simp)
  have O2 : Hid (Ow w2 b1 (.slice a1 X.gs.length r1) X.gs ∧ Ow w2 b1 (.slice a2 X.os.length r2) X.os ∧ Ow w2 b1 (.slice a3 X.gold.length r3) X.gold ∧ Uno w2 b1 (.slice a4 X.us.length r4) X.us ∧ Jbo w2 b1 (.slice a5 X.qs.length r5) X.qs) := ⟨o1, o2, o3, o4, o5⟩
  have DD : Hid (Dif (.slice a1 X.gs.length r1) (.slice a2 X.os.length r2) ∧ Dif (.slice a1 X.gs.length r1) (.slice a3 X.gold.length r3) ∧ Dif (.slice a1 X.gs.length r1) (.slice a4 X.us.length r4) ∧ Dif (.slice a1 X.gs.length r1) (.slice a5 X.qs.length r5) ∧ Dif (.slice a2 X.os.length r2) (.slice a3 X.gold.length r3) ∧ Dif (.slice a2 X.os.length r2) (.slice a4 X.us.length r4) ∧ Dif (.slice a2 X.os.length r2) (.slice a5 X.qs.length r5) ∧ Dif (.slice a3 X.gold.length r3) (.slice a4 X.us.length r4) ∧ Dif (.slice a3 X.gold.length r3) (.slice a5 X.qs.length r5) ∧ Dif (.slice a4 X.us.length r4) (.slice a5 X.qs.length r5)) := ⟨d12, d13, d14, d15, d23, d24, d25, d34, d35, d45⟩
  clear hb hb1 x0 x1 x2 x3 x4 x5 x6 x7 x8 o1 o2 o3 o4 o5 d12 d13 d14 d15 d23 d24 d25 d34 d35 d45 X1 R1
  obtain ⟨z0, z1, z2, z3, z4, z5, z6, z7, z8⟩ := X2.out.cells
  obtain ⟨t0, t1, t2, t3, t4, t5, t6, t7, t8⟩ := X2.out.thaws
  have KZ : Hid (Kp w.heap.size w2 (((((((((w2.setCell ⟨w.heap.size, 0, none⟩ (.int .i64 X.turn)).setCell ⟨w.heap.size, 1, none⟩ (.int .i64 X.next)).setCell ⟨w.heap.size, 2, none⟩ (.int .i64 X.wide)).setCell ⟨w.heap.size, 3, none⟩ (.int .i64 X.high)).setCell ⟨w.heap.size, 4, none⟩ (.slice a1 X.gs.length r1)).setCell ⟨w.heap.size, 5, none⟩ (.slice a2 X.os.length r2)).setCell ⟨w.heap.size, 6, none⟩ (.slice a3 X.gold.length r3)).setCell ⟨w.heap.size, 7, none⟩ (.slice a4 X.us.length r4)).setCell ⟨w.heap.size, 8, none⟩ (.slice a5 X.qs.length r5))) := put_kp _ _ _ _ _ _ _ _ _ _ _
  have X3 : Hid (Wx (((((((((w2.setCell ⟨w.heap.size, 0, none⟩ (.int .i64 X.turn)).setCell ⟨w.heap.size, 1, none⟩ (.int .i64 X.next)).setCell ⟨w.heap.size, 2, none⟩ (.int .i64 X.wide)).setCell ⟨w.heap.size, 3, none⟩ (.int .i64 X.high)).setCell ⟨w.heap.size, 4, none⟩ (.slice a1 X.gs.length r1)).setCell ⟨w.heap.size, 5, none⟩ (.slice a2 X.os.length r2)).setCell ⟨w.heap.size, 6, none⟩ (.slice a3 X.gold.length r3)).setCell ⟨w.heap.size, 7, none⟩ (.slice a4 X.us.length r4)).setCell ⟨w.heap.size, 8, none⟩ (.slice a5 X.qs.length r5)) w.heap.size (.int .i64 X.turn) (.int .i64 X.next) (.int .i64 X.wide) (.int .i64 X.high) (.slice a1 X.gs.length r1) (.slice a2 X.os.length r2) (.slice a3 X.gold.length r3) (.slice a4 X.us.length r4) (.slice a5 X.qs.length r5)) := X2.out.put (.int .i64 X.turn) (.int .i64 X.next) (.int .i64 X.wide) (.int .i64 X.high) (.slice a1 X.gs.length r1) (.slice a2 X.os.length r2) (.slice a3 X.gold.length r3) (.slice a4 X.us.length r4) (.slice a5 X.qs.length r5)
  go_upto_region 5 with fail
  clear z0 z1 z2 z3 z4 z5 z6 z7 z8 t0 t1 t2 t3 t4 t5 t6 t7 t8
  generalize (((((((((w2.setCell ⟨w.heap.size, 0, none⟩ (.int .i64 X.turn)).setCell ⟨w.heap.size, 1, none⟩ (.int .i64 X.next)).setCell ⟨w.heap.size, 2, none⟩ (.int .i64 X.wide)).setCell ⟨w.heap.size, 3, none⟩ (.int .i64 X.high)).setCell ⟨w.heap.size, 4, none⟩ (.slice a1 X.gs.length r1)).setCell ⟨w.heap.size, 5, none⟩ (.slice a2 X.os.length r2)).setCell ⟨w.heap.size, 6, none⟩ (.slice a3 X.gold.length r3)).setCell ⟨w.heap.size, 7, none⟩ (.slice a4 X.us.length r4)).setCell ⟨w.heap.size, 8, none⟩ (.slice a5 X.qs.length r5)) = w3 at *
  have R3 : Hid (Rs w p w3) := R2.out.gb (gb_kp KZ.out) (fun b hb => .inl (Option.some.inj hb).symm)
  have O3 : Hid (Ow w3 b1 (.slice a1 X.gs.length r1) X.gs ∧ Ow w3 b1 (.slice a2 X.os.length r2) X.os ∧ Ow w3 b1 (.slice a3 X.gold.length r3) X.gold ∧ Uno w3 b1 (.slice a4 X.us.length r4) X.us ∧ Jbo w3 b1 (.slice a5 X.qs.length r5) X.qs) := by
    have h := BS.out.1
    exact ⟨O2.out.1.kp KZ.out (by omega), O2.out.2.1.kp KZ.out (by omega), O2.out.2.2.1.kp KZ.out (by omega), O2.out.2.2.2.1.kp KZ.out (by omega), O2.out.2.2.2.2.kp KZ.out (by omega)⟩
  obtain ⟨b3, hb3⟩ : ∃ z, w3.heap.size = z := ⟨_, rfl⟩
  have LB : Hid ((∀ b, (Value.slice a1 X.gs.length r1).ownBlock = some b → b1 ≤ b ∧ b < b3) ∧ (∀ b, (Value.slice a2 X.os.length r2).ownBlock = some b → b1 ≤ b ∧ b < b3) ∧ (∀ b, (Value.slice a3 X.gold.length r3).ownBlock = some b → b1 ≤ b ∧ b < b3) ∧ (∀ b, (Value.slice a4 X.us.length r4).ownBlock = some b → b1 ≤ b ∧ b < b3) ∧ (∀ b, (Value.slice a5 X.qs.length r5).ownBlock = some b → b1 ≤ b ∧ b < b3)) := by
    unfold Hid
    rw [← hb3]
    exact ⟨O3.out.1.block, O3.out.2.1.block, O3.out.2.2.1.block, World.ownsRow.lt O3.out.2.2.2.1, World.ownsRow.lt O3.out.2.2.2.2⟩
  have L3 : Hid (Wl w3 (.agg #[.int .i64 X.turn, .int .i64 X.next, .int .i64 X.wide, .int .i64 X.high, .slice a1 X.gs.length r1, .slice a2 X.os.length r2, .slice a3 X.gold.length r3, .slice a4 X.us.length r4, .slice a5 X.qs.length r5]) X) := ⟨_, _, _, _, _, rfl, O3.out.1.ro, O3.out.2.1.ro, O3.out.2.2.1.ro, O3.out.2.2.2.1.l, O3.out.2.2.2.2.l⟩
  have S3 : Hid (b1 ≤ b3) := by unfold Hid; rw [← hb3]; exact Nat.le_trans BS.out.2 KZ.out.size
  clear KZ X2 R2 O2
  obtain ⟨x0, x1, x2, x3, x4, x5, x6, x7, x8⟩ := X3.out.cells
  have pp := R3.out.1
  go_wp2_with fail
  refine (seen_any _ _ ks X p Wn w3 WR.out GD.out.1 (K.out.1.below R3.out.2.2) K.out.2 L3.out).mono ?_
  rintro e w4 ⟨bb, rfl, hbb, hlt, hb⟩
  rw [hb3] at hlt
  have X4 : Hid (Wx w4 w.heap.size (.int .i64 X.turn) (.int .i64 X.next) (.int .i64 X.wide) (.int .i64 X.high) (.slice a1 X.gs.length r1) (.slice a2 X.os.length r2) (.slice a3 X.gold.length r3) (.slice a4 X.us.length r4) (.slice a5 X.qs.length r5)) := X3.out.below hb X3.out.lt
  have R4 : Hid (Rs w p w4) := R3.out.gb (r := none) (gb_below hb) (by simp)
  have O4 : Hid (Ow w4 b1 (.slice a1 X.gs.length r1) X.gs ∧ Ow w4 b1 (.slice a2 X.os.length r2) X.os ∧ Ow w4 b1 (.slice a3 X.gold.length r3) X.gold ∧ Uno w4 b1 (.slice a4 X.us.length r4) X.us ∧ Jbo w4 b1 (.slice a5 X.qs.length r5) X.qs) := ⟨O3.out.1.below hb, O3.out.2.1.below hb, O3.out.2.2.1.below hb, O3.out.2.2.2.1.below hb, O3.out.2.2.2.2.below hb⟩
  have BK : Hid (Bb w4 bb (seenL ks Wn X p)) := hbb
  have S4 : Hid (b3 < bb ∧ b3 ≤ w4.heap.size) := ⟨hlt, by rw [← hb3]; exact hb.size⟩
  clear hb hb3 hbb hlt x0 x1 x2 x3 x4 x5 x6 x7 x8 pp X3 R3 O3 L3
  go_upto_region 6 with fail
  have BA : Hid (Below w4.heap.size w4 (w4.alloc (Obj.cells #[.slice (some ⟨bb, 0, none⟩) X.gs.length X.gs.length] 129))) := (Below.refl _ _).alloc (Nat.le_refl _) _
  obtain ⟨b9, hb9⟩ : ∃ z, w4.heap.size = z := ⟨_, rfl⟩
  have S5 : Hid (b3 < bb ∧ bb < b9) := ⟨S4.out.1, by rw [← hb9]; exact BK.out.lt⟩
  have B5 : Hid (Bs (w4.alloc (Obj.cells #[.slice (some ⟨bb, 0, none⟩) X.gs.length X.gs.length] 129)) bb b9 X.gs.length (seenL ks Wn X p)) := ⟨BK.out.low BA.out BK.out.lt, cell_new1 _ _ hb9, by rw [← hb9]; simp⟩
  rw [hb9]
  generalize (w4.alloc (Obj.cells #[.slice (some ⟨bb, 0, none⟩) X.gs.length X.gs.length] 129)) = w5 at *
  have X5 : Hid (Wx w5 w.heap.size (.int .i64 X.turn) (.int .i64 X.next) (.int .i64 X.wide) (.int .i64 X.high) (.slice a1 X.gs.length r1) (.slice a2 X.os.length r2) (.slice a3 X.gold.length r3) (.slice a4 X.us.length r4) (.slice a5 X.qs.length r5)) := X4.out.below BA.out X4.out.lt
  have R5 : Hid (Rs w p w5) := R4.out.gb (r := none) (gb_below BA.out) (by simp)
  have O5 : Hid (Ow w5 b1 (.slice a1 X.gs.length r1) X.gs ∧ Ow w5 b1 (.slice a2 X.os.length r2) X.os ∧ Ow w5 b1 (.slice a3 X.gold.length r3) X.gold ∧ Uno w5 b1 (.slice a4 X.us.length r4) X.us ∧ Jbo w5 b1 (.slice a5 X.qs.length r5) X.qs) := ⟨O4.out.1.below BA.out, O4.out.2.1.below BA.out, O4.out.2.2.1.below BA.out, O4.out.2.2.2.1.below BA.out, O4.out.2.2.2.2.below BA.out⟩
  have Z5 : Hid (b1 ≤ w5.heap.size) := by have h1 := BA.out.size; have h2 := S3.out; have h3 := S4.out.2; unfold Hid; omega
  clear BA hb9 BK S4 X4 R4 O4
  obtain ⟨-, -, -, -, -, -, -, x7, -⟩ := X5.out.cells
  go_wp2_with fail
  refine (del_own 76 (by intro args w; go_simp) (.slice a4 X.us.length r4) #[.pointer (some ⟨w.heap.size + 1, 0, none⟩), .pointer (some ⟨b9, 0, none⟩)] X.us (hidU ks Wn X p) w5 b1 O5.out.2.2.2.1 Z5.out (by have := WR.out.ul; omega) (fun W hbW hgW u hu => ?_)).mono ?_
  · obtain ⟨i, hi⟩ := List.mem_iff_getElem?.1 hu
    obtain ⟨k, fu⟩ := WR.out.fine hi
    have h1 := fu.at_
    have hB := B5.out.gb hgW (fun e => by have := LB.out.2.2.2.1 _ e; have := S5.out; omega) (fun e => by have := LB.out.2.2.2.1 _ e; have := S5.out; omega)
    have hR := R5.out.gb hgW (fun b e => .inr (by have := LB.out.2.2.2.1 _ e; have := BS.out.1; omega))
    exact hid_fg ks X u p Wn u.at_.toNat X.gs.length _ _ bb W (by omega) (by omega) hR.1 hB.2.1 (hB.1.cell (seen_at ks Wn X p (by omega)))
  rintro e w6 ⟨v4, rfl, ho, hb, hg, hown⟩
  obtain ⟨st, hst⟩ : ∃ l, X.us.filter (fun k => !hidU ks Wn X p k) = l := ⟨_, rfl⟩
  have ST : Hid (X.us.filter (fun k => !hidU ks Wn X p k) = st) := hst
  rw [hst] at ho
  obtain ⟨a6, r6, rfl⟩ := ho.len
  have OB : Hid ((Value.slice a6 st.length r6).ownBlock = (Value.slice a4 X.us.length r4).ownBlock) := hown
  have O6 : Hid (Ow w6 b1 (.slice a1 X.gs.length r1) X.gs ∧ Ow w6 b1 (.slice a2 X.os.length r2) X.os ∧ Ow w6 b1 (.slice a3 X.gold.length r3) X.gold ∧ Uno w6 b1 (.slice a6 st.length r6) st ∧ Jbo w6 b1 (.slice a5 X.qs.length r5) X.qs) := ⟨own_gb O5.out.1 hg (fun b h1 h2 => DD.out.2.2.1 b h1 h2), own_gb O5.out.2.1 hg (fun b h1 h2 => DD.out.2.2.2.2.2.1 b h1 h2), own_gb O5.out.2.2.1 hg (fun b h1 h2 => DD.out.2.2.2.2.2.2.2.1 b h1 h2), ho, own_gb O5.out.2.2.2.2 hg (fun b h1 h2 => DD.out.2.2.2.2.2.2.2.2.2 b h2 h1)⟩
  have X6 : Hid (Wx w6 w.heap.size (.int .i64 X.turn) (.int .i64 X.next) (.int .i64 X.wide) (.int .i64 X.high) (.slice a1 X.gs.length r1) (.slice a2 X.os.length r2) (.slice a3 X.gold.length r3) (.slice a4 X.us.length r4) (.slice a5 X.qs.length r5)) := X5.out.below hb (by have := BS.out.1; omega)
  have R6 : Hid (Rs w p w6) := R5.out.gb hg (fun b e => .inr (by have := LB.out.2.2.2.1 _ e; have := BS.out.1; omega))
  have B6 : Hid (Bs w6 bb b9 X.gs.length (seenL ks Wn X p)) := B5.out.gb hg (fun e => by have := LB.out.2.2.2.1 _ e; have := S5.out; omega) (fun e => by have := LB.out.2.2.2.1 _ e; have := S5.out; omega)
  have Z6 : Hid (b1 ≤ w6.heap.size) := Nat.le_trans Z5.out hb.size
  clear ho hb hg hown hst x7 O5 X5 R5 B5 Z5
  obtain ⟨-, -, -, -, -, -, -, x7, -⟩ := X6.out.cells
  have t7 := X6.out.thaw 7
  have X7 : Hid (Wx (w6.setCell ⟨w.heap.size, 7, none⟩ (.slice a6 st.length r6)) w.heap.size (.int .i64 X.turn) (.int .i64 X.next) (.int .i64 X.wide) (.int .i64 X.high) (.slice a1 X.gs.length r1) (.slice a2 X.os.length r2) (.slice a3 X.gold.length r3) (.slice a6 st.length r6) (.slice a5 X.qs.length r5)) := X6.out.set7 _
  have K7 : Hid (Kp w.heap.size w6 (w6.setCell ⟨w.heap.size, 7, none⟩ (.slice a6 st.length r6))) := Kp.set _ _ _
  go_upto_region 7 with fail
  clear x7 t7
  generalize (w6.setCell ⟨w.heap.size, 7, none⟩ (.slice a6 st.length r6)) = w7 at *
  have O7 : Hid (Ow w7 b1 (.slice a1 X.gs.length r1) X.gs ∧ Ow w7 b1 (.slice a2 X.os.length r2) X.os ∧ Ow w7 b1 (.slice a3 X.gold.length r3) X.gold ∧ Uno w7 b1 (.slice a6 st.length r6) st ∧ Jbo w7 b1 (.slice a5 X.qs.length r5) X.qs) := by
    have h := BS.out.1
    exact ⟨O6.out.1.kp K7.out (by omega), O6.out.2.1.kp K7.out (by omega), O6.out.2.2.1.kp K7.out (by omega), O6.out.2.2.2.1.kp K7.out (by omega), O6.out.2.2.2.2.kp K7.out (by omega)⟩
  have R7 : Hid (Rs w p w7) := R6.out.gb (gb_kp K7.out) (fun b hb => .inl (Option.some.inj hb).symm)
  have B7 : Hid (Bs w7 bb b9 X.gs.length (seenL ks Wn X p)) := B6.out.gb (gb_kp K7.out) (fun e => by have := Option.some.inj e; have := S5.out; have := S3.out; have := BS.out.1; omega) (fun e => by have := Option.some.inj e; have := S5.out; have := S3.out; have := BS.out.1; omega)
  have Z7 : Hid (b1 ≤ w7.heap.size) := Nat.le_trans Z6.out K7.out.size
  clear K7 O6 X6 R6 B6 Z6
  obtain ⟨-, -, -, -, -, -, -, -, x8⟩ := X7.out.cells
  go_wp2_with fail
  refine (delj_own 78 (by intro args w; go_simp) (.slice a5 X.qs.length r5) #[.pointer (some ⟨w.heap.size + 1, 0, none⟩)] X.qs (notJ p) w7 b1 O7.out.2.2.2.2 Z7.out (by have := WR.out.ql; omega) (fun W hbW hgW j _ => ?_)).mono ?_
  · exact not_fg j p _ W (R7.out.gb hgW (fun b e => .inr (by have := LB.out.2.2.2.2 _ e; have := BS.out.1; omega))).1
  rintro e w8 ⟨v5, rfl, ho, hb, hg, hown⟩
  obtain ⟨qs', hqs⟩ : ∃ l, X.qs.filter (fun k => !notJ p k) = l := ⟨_, rfl⟩
  have QS : Hid (X.qs.filter (fun k => !notJ p k) = qs') := hqs
  rw [hqs] at ho
  obtain ⟨a8, r8, rfl⟩ := ho.len
  have OC : Hid ((Value.slice a8 qs'.length r8).ownBlock = (Value.slice a5 X.qs.length r5).ownBlock) := hown
  have O8 : Hid (Ow w8 b1 (.slice a1 X.gs.length r1) X.gs ∧ Ow w8 b1 (.slice a2 X.os.length r2) X.os ∧ Ow w8 b1 (.slice a3 X.gold.length r3) X.gold ∧ Uno w8 b1 (.slice a6 st.length r6) st ∧ Jbo w8 b1 (.slice a8 qs'.length r8) qs') := ⟨own_gb O7.out.1 hg (fun b h1 h2 => DD.out.2.2.2.1 b h1 h2), own_gb O7.out.2.1 hg (fun b h1 h2 => DD.out.2.2.2.2.2.2.1 b h1 h2), own_gb O7.out.2.2.1 hg (fun b h1 h2 => DD.out.2.2.2.2.2.2.2.2.1 b h1 h2), own_gb O7.out.2.2.2.1 hg (fun b h1 h2 => DD.out.2.2.2.2.2.2.2.2.2 b (by rw [← OB.out]; exact h1) h2), ho⟩
  have X8 : Hid (Wx w8 w.heap.size (.int .i64 X.turn) (.int .i64 X.next) (.int .i64 X.wide) (.int .i64 X.high) (.slice a1 X.gs.length r1) (.slice a2 X.os.length r2) (.slice a3 X.gold.length r3) (.slice a6 st.length r6) (.slice a5 X.qs.length r5)) := X7.out.below hb (by have := BS.out.1; omega)
  have R8 : Hid (Rs w p w8) := R7.out.gb hg (fun b e => .inr (by have := LB.out.2.2.2.2 _ e; have := BS.out.1; omega))
  have B8 : Hid (Bs w8 bb b9 X.gs.length (seenL ks Wn X p)) := B7.out.gb hg (fun e => by have := LB.out.2.2.2.2 _ e; have := S5.out; omega) (fun e => by have := LB.out.2.2.2.2 _ e; have := S5.out; omega)
  clear ho hb hg hown hqs x8 O7 X7 R7 B7 Z7
  obtain ⟨-, -, -, -, -, -, -, -, x8⟩ := X8.out.cells
  have t8 := X8.out.thaw 8
  have X9 : Hid (Wx (w8.setCell ⟨w.heap.size, 8, none⟩ (.slice a8 qs'.length r8)) w.heap.size (.int .i64 X.turn) (.int .i64 X.next) (.int .i64 X.wide) (.int .i64 X.high) (.slice a1 X.gs.length r1) (.slice a2 X.os.length r2) (.slice a3 X.gold.length r3) (.slice a6 st.length r6) (.slice a8 qs'.length r8)) := X8.out.set8 _
  have K9 : Hid (Kp w.heap.size w8 (w8.setCell ⟨w.heap.size, 8, none⟩ (.slice a8 qs'.length r8))) := Kp.set _ _ _
  go_upto_region 8 with fail
  clear x8 t8
  generalize (w8.setCell ⟨w.heap.size, 8, none⟩ (.slice a8 qs'.length r8)) = w9 at *
  have O9 : Hid (Ow w9 b1 (.slice a1 X.gs.length r1) X.gs ∧ Ow w9 b1 (.slice a2 X.os.length r2) X.os ∧ Ow w9 b1 (.slice a3 X.gold.length r3) X.gold ∧ Uno w9 b1 (.slice a6 st.length r6) st ∧ Jbo w9 b1 (.slice a8 qs'.length r8) qs') := by
    have h := BS.out.1
    exact ⟨O8.out.1.kp K9.out (by omega), O8.out.2.1.kp K9.out (by omega), O8.out.2.2.1.kp K9.out (by omega), O8.out.2.2.2.1.kp K9.out (by omega), O8.out.2.2.2.2.kp K9.out (by omega)⟩
  have R9 : Hid (Rs w p w9) := R8.out.gb (gb_kp K9.out) (fun b hb => .inl (Option.some.inj hb).symm)
  have B9 : Hid (Bs w9 bb b9 X.gs.length (seenL ks Wn X p)) := B8.out.gb (gb_kp K9.out) (fun e => by have := Option.some.inj e; have := S5.out; have := S3.out; have := BS.out.1; omega) (fun e => by have := Option.some.inj e; have := S5.out; have := S3.out; have := BS.out.1; omega)
  clear K9 O8 X8 R8 B8
  rcases O9.out.2.2.1.bk with ⟨-, h⟩ | ⟨g3, cp3, rs3, h, -, hl3, hm3, hz3, hbk3⟩
  · exact absurd GD.out.2.2.2.2.1 (by rw [h]; simp)
  injection h with h1 h2 h3
  subst h1
  subst h3
  rcases O9.out.2.1.bk with ⟨-, h⟩ | ⟨g2, cp2, rs2, h, -, hl2, hm2, hz2, hbk2⟩
  · exact absurd GD.out.2.2.2.1 (by rw [← GD.out.2.2.1, h]; simp)
  injection h with h1 h2' h3
  subst h1
  subst h3
  have GG : Hid (b1 ≤ g3 ∧ g3 < b3 ∧ b1 ≤ g2 ∧ g2 < b3 ∧ g2 ≠ g3) := ⟨(LB.out.2.2.1 g3 rfl).1, (LB.out.2.2.1 g3 rfl).2, (LB.out.2.1 g2 rfl).1, (LB.out.2.1 g2 rfl).2, fun e => DD.out.2.2.2.2.1 g2 rfl (by rw [e]; rfl)⟩
  have CP : Hid ((X.gold.length ≤ r3 ∧ r3 ≤ maxLen ∧ X.gold.length + rs3.size = r3) ∧ X.os.length ≤ r2 ∧ r2 ≤ maxLen ∧ X.os.length + rs2.size = r2) := ⟨⟨hl3, hm3, hz3⟩, hl2, hm2, hz2⟩
  obtain ⟨q, hq⟩ : ∃ q : Nat → Bool, (fun i : Nat => !decide ((i : Int) = p)) = q := ⟨_, rfl⟩
  obtain ⟨s, hs⟩ : ∃ s : Nat → Bool, (fun i : Nat => !seesP ks Wn X.gs X.us p i) = s := ⟨_, rfl⟩
  have QQ : Hid ((∀ i : Nat, q i = !decide ((i : Int) = p)) ∧ ∀ i : Nat, s i = !seesP ks Wn X.gs X.us p i) := ⟨fun i => by rw [← hq], fun i => by rw [← hs]⟩
  have FO : Hid (viewOf ks Wn X p = { X with us := st, qs := qs', gold := zer q X.gold, os := zer s X.os }) := by unfold Hid viewOf; rw [ST.out, QS.out, hq, hs]
  have BK9 : Hid (Bk w9 g3 X.gold rs3) := hbk3
  clear hl3 hm3 hz3 hbk3 hl2 hm2 hz2 hbk2 h2 h2' hq hs
  obtain ⟨-, -, -, -, -, -, x6, -, -⟩ := X9.out.cells
  go_upto_region 9 with fail
  clear x6
  go_loopw [40] (fun v40 V => ∃ n : Nat, v40 = .int .i64 (n : Nat) ∧ n ≤ X.gold.length ∧ Bk V g3 (zerUp q n X.gold) rs3 ∧ Kp g3 w9 V) (fun v40 _ => X.gold.length - (intOf v40).toNat)
  case atStart => exact ⟨0, rfl, Nat.zero_le _, by rw [zerUp_zero]; exact BK9.out, Kp.refl _ _⟩
  case round =>
    obtain ⟨n, rfl, hn, hbk, hkp⟩ := hrel
    have BR : Hid (Bk wr g3 (zerUp q n X.gold) rs3) := hbk
    have KR : Hid (Kp g3 w9 wr) := hkp
    have XR : Hid (Wx wr w.heap.size (.int .i64 X.turn) (.int .i64 X.next) (.int .i64 X.wide) (.int .i64 X.high) (.slice a1 X.gs.length r1) (.slice (some ⟨g2, 0, none⟩) X.os.length r2) (.slice (some ⟨g3, 0, none⟩) X.gold.length r3) (.slice a6 st.length r6) (.slice a8 qs'.length r8)) := X9.out.kp hkp (by have := GG.out.1; have := BS.out.1; omega)
    have RR : Hid (Rs w p wr) := R9.out.gb (gb_kp hkp) (fun b hb => .inr (by have := Option.some.inj hb; have := GG.out.1; have := BS.out.1; omega))
    clear hbk hkp
    by_cases h0 : n = X.gold.length
    case neg =>
      have hnl : n < X.gold.length := by omega
      have hni : ((n : Nat) : Int) < (X.gold.length : Nat) := by omega
      have HN : Hid (n < X.gold.length) := hnl
      have WN : IntKind.i64.wrap ((n : Nat) + 1 : Int) = ((n : Nat) : Int) + 1 := by have := GD.out.2.2.2.2.2; rw [IntKind.wrap_i64]; omega
      have pp := RR.out.1
      obtain ⟨-, -, -, -, -, -, x6, -, -⟩ := XR.out.cells
      by_cases hp : ((n : Nat) : Int) = p
      · have NX : Hid (zerUp q (n + 1) X.gold = zerUp q n X.gold) := zerUp_no _ (by rw [QQ.out.1, hp]; simp)
        rw [← hp] at pp
        clear hp
        go_wp2
        go_round
        case rel => exact ⟨n + 1, by go_num, by have := HN.out; omega, by rw [NX.out]; exact BR.out, KR.out⟩
        case measure => simp [intOf]; omega
      · have NX : Hid (zerUp q (n + 1) X.gold = (zerUp q n X.gold).set n 0) := zerUp_yes _ (by rw [QQ.out.1]; simp [hp])
        have hp' : (((n : Nat) : Int) == p) = false := by rw [beq_eq_false_iff_ne]; exact hp
        obtain ⟨y, hy⟩ : ∃ y, (zerUp q n X.gold)[n]? = some y := ⟨_, List.getElem?_eq_getElem (by rw [zerUp_len]; exact hnl)⟩
        have cy := BR.out.cell hy
        have ty := BR.out.thaw n
        have KS : Hid (Kp g3 wr (wr.setCell ⟨g3, n, none⟩ (.int .i64 0))) := Kp.set _ _ _
        have BS3 : Hid (Bk (wr.setCell ⟨g3, n, none⟩ (.int .i64 0)) g3 ((zerUp q n X.gold).set n 0) rs3) := BR.out.set n 0 (by rw [zerUp_len]; exact hnl)
        clear hy
        go_wp2
        generalize (wr.setCell ⟨g3, n, none⟩ (.int .i64 0)) = w10 at *
        go_round
        case rel => exact ⟨n + 1, by go_num, by have := HN.out; omega, by rw [NX.out]; exact BS3.out, KR.out.trans KS.out⟩
        case measure => simp [intOf]; omega
    subst h0
    have O10 : Hid (Ow wr b1 (.slice a1 X.gs.length r1) X.gs ∧ Ow wr b1 (.slice (some ⟨g2, 0, none⟩) X.os.length r2) X.os ∧ Ow wr b1 (.slice (some ⟨g3, 0, none⟩) X.gold.length r3) (zer q X.gold) ∧ Uno wr b1 (.slice a6 st.length r6) st ∧ Jbo wr b1 (.slice a8 qs'.length r8) qs') := by
      have hg := gb_kp KR.out
      have hz := BR.out
      rw [zerUp_all] at hz
      have ho := hz.ow (base := b1) (cap := r3) GG.out.1 (by rw [zer_len]; exact CP.out.1.1) CP.out.1.2.1 (by rw [zer_len]; exact CP.out.1.2.2)
      rw [zer_len] at ho
      exact ⟨own_gb O9.out.1 hg (fun b h1 h2 => DD.out.2.1 b h1 h2), own_gb O9.out.2.1 hg (fun b h1 h2 => DD.out.2.2.2.2.1 b h1 h2), ho, own_gb O9.out.2.2.2.1 hg (fun b h1 h2 => DD.out.2.2.2.2.2.2.2.1 b h2 (by rw [← OB.out]; exact h1)), own_gb O9.out.2.2.2.2 hg (fun b h1 h2 => DD.out.2.2.2.2.2.2.2.2.1 b h2 (by rw [← OC.out]; exact h1))⟩
    have B10 : Hid (Bs wr bb b9 X.gs.length (seenL ks Wn X p)) := B9.out.gb (gb_kp KR.out) (fun e => by have := Option.some.inj e; have := S5.out; have := GG.out; omega) (fun e => by have := Option.some.inj e; have := S5.out; have := GG.out; omega)
    clear BR KR BK9 X9 R9 B9 O9
    have c9 := B10.out.2.1
    go_upto_region 15 with fail
    clear c9
    generalize wr = w10 at *
    have BK10 : Hid (∃ rs, Bk w10 g2 X.os rs ∧ X.os.length + rs.size = r2) := by
      rcases O10.out.2.1.bk with ⟨h, -⟩ | ⟨g, cp, rs, h, -, -, -, hz, hbk⟩
      · cases h
      · injection h with h1 h2 h3
        injection h1 with h1
        injection h1 with h1
        subst h1
        subst h3
        exact ⟨rs, hbk, hz⟩
    obtain ⟨rs, hbk, hz⟩ := BK10.out
    have BK10 : Hid (Bk w10 g2 X.os rs ∧ X.os.length + rs.size = r2) := ⟨hbk, hz⟩
    clear hbk hz
    go_loopw [53] (fun v53 V => ∃ n : Nat, v53 = .int .i64 (n : Nat) ∧ n ≤ X.gs.length ∧ Bk V g2 (zerUp s n X.os) rs ∧ Kp g2 w10 V) (fun v53 _ => X.gs.length - (intOf v53).toNat)
    case atStart => exact ⟨0, rfl, Nat.zero_le _, by rw [zerUp_zero]; exact BK10.out.1, Kp.refl _ _⟩
    case round =>
      obtain ⟨n, rfl, hn, hbk, hkp⟩ := hrel
      have BR : Hid (Bk wr g2 (zerUp s n X.os) rs) := hbk
      have KR : Hid (Kp g2 w10 wr) := hkp
      have X11 : Hid (Wx wr w.heap.size (.int .i64 X.turn) (.int .i64 X.next) (.int .i64 X.wide) (.int .i64 X.high) (.slice a1 X.gs.length r1) (.slice (some ⟨g2, 0, none⟩) X.os.length r2) (.slice (some ⟨g3, 0, none⟩) X.gold.length r3) (.slice a6 st.length r6) (.slice a8 qs'.length r8)) := XR.out.kp hkp (by have := GG.out.2.2.1; have := BS.out.1; omega)
      have R11 : Hid (Rs w p wr) := RR.out.gb (gb_kp hkp) (fun b hb => .inr (by have := Option.some.inj hb; have := GG.out.2.2.1; have := BS.out.1; omega))
      have B11 : Hid (Bs wr bb b9 X.gs.length (seenL ks Wn X p)) := B10.out.gb (gb_kp hkp) (fun e => by have := Option.some.inj e; have := S5.out; have := GG.out; omega) (fun e => by have := Option.some.inj e; have := S5.out; have := GG.out; omega)
      clear hbk hkp
      by_cases h0 : n = X.gs.length
      case neg =>
        have hnl : n < X.gs.length := by omega
        have hni : ((n : Nat) : Int) < (X.gs.length : Nat) := by omega
        have hno : ((n : Nat) : Int) < (X.os.length : Nat) := by have := GD.out.2.2.1; omega
        have HN : Hid (n < X.gs.length) := hnl
        have WN : IntKind.i64.wrap ((n : Nat) + 1 : Int) = ((n : Nat) : Int) + 1 := by have := GD.out.2.1; rw [IntKind.wrap_i64]; omega
        have cb := B11.out.1.cell (seen_at ks Wn X p hnl)
        have SQ := QQ.out.2 n
        obtain ⟨-, -, -, -, -, x5, -, -, -⟩ := X11.out.cells
        obtain ⟨t, ht⟩ : ∃ t, seesP ks Wn X.gs X.us p n = t := ⟨_, rfl⟩
        rw [ht] at cb SQ
        clear ht
        cases t with
        | true =>
          have NX : Hid (zerUp s (n + 1) X.os = zerUp s n X.os) := zerUp_no _ SQ
          clear SQ
          go_wp2
          go_round
          case rel => exact ⟨n + 1, by go_num, by have := HN.out; omega, by rw [NX.out]; exact BR.out, KR.out⟩
          case measure => simp [intOf]; omega
        | false =>
          have NX : Hid (zerUp s (n + 1) X.os = (zerUp s n X.os).set n 0) := zerUp_yes _ SQ
          obtain ⟨y, hy⟩ : ∃ y, (zerUp s n X.os)[n]? = some y := ⟨_, List.getElem?_eq_getElem (by rw [zerUp_len]; omega)⟩
          have cy := BR.out.cell hy
          have ty := BR.out.thaw n
          have KS : Hid (Kp g2 wr (wr.setCell ⟨g2, n, none⟩ (.int .i64 0))) := Kp.set _ _ _
          have BS3 : Hid (Bk (wr.setCell ⟨g2, n, none⟩ (.int .i64 0)) g2 ((zerUp s n X.os).set n 0) rs) := BR.out.set n 0 (by rw [zerUp_len]; omega)
          clear SQ hy
          go_wp2
          generalize (wr.setCell ⟨g2, n, none⟩ (.int .i64 0)) = w12 at *
          go_round
          case rel => exact ⟨n + 1, by go_num, by have := HN.out; omega, by rw [NX.out]; exact BS3.out, KR.out.trans KS.out⟩
          case measure => simp [intOf]; omega
      subst h0
      have O11 : Hid (Ow wr b1 (.slice a1 X.gs.length r1) X.gs ∧ Ow wr b1 (.slice (some ⟨g2, 0, none⟩) X.os.length r2) (zer s X.os) ∧ Ow wr b1 (.slice (some ⟨g3, 0, none⟩) X.gold.length r3) (zer q X.gold) ∧ Uno wr b1 (.slice a6 st.length r6) st ∧ Jbo wr b1 (.slice a8 qs'.length r8) qs') := by
        have hg := gb_kp KR.out
        have hz := BR.out
        rw [← GD.out.2.2.1, zerUp_all] at hz
        have ho := hz.ow (base := b1) (cap := r2) GG.out.2.2.1 (by rw [zer_len]; exact CP.out.2.1) CP.out.2.2.1 (by rw [zer_len]; exact BK10.out.2)
        rw [zer_len] at ho
        exact ⟨own_gb O10.out.1 hg (fun b h1 h2 => DD.out.1 b h1 h2), ho, own_gb O10.out.2.2.1 hg (fun b h1 h2 => DD.out.2.2.2.2.1 b h2 h1), own_gb O10.out.2.2.2.1 hg (fun b h1 h2 => DD.out.2.2.2.2.2.1 b h2 (by rw [← OB.out]; exact h1)), own_gb O10.out.2.2.2.2 hg (fun b h1 h2 => DD.out.2.2.2.2.2.2.1 b h2 (by rw [← OC.out]; exact h1))⟩
      clear BR KR BK10 XR RR B10 O10
      obtain ⟨x0, x1, x2, x3, x4, x5, x6, x7, x8⟩ := X11.out.cells
      obtain ⟨z0, z1, z2, z3, z4, z5, z6, z7, z8⟩ := R11.out.2.1.cells
      obtain ⟨t0, t1, t2, t3, t4, t5, t6, t7, t8⟩ := R11.out.2.1.thaws
      have KZ : Hid (Kp (w.heap.size + 1 + 1) wr (((((((((wr.setCell ⟨w.heap.size + 1 + 1, 0, none⟩ (.int .i64 X.turn)).setCell ⟨w.heap.size + 1 + 1, 1, none⟩ (.int .i64 X.next)).setCell ⟨w.heap.size + 1 + 1, 2, none⟩ (.int .i64 X.wide)).setCell ⟨w.heap.size + 1 + 1, 3, none⟩ (.int .i64 X.high)).setCell ⟨w.heap.size + 1 + 1, 4, none⟩ (.slice a1 X.gs.length r1)).setCell ⟨w.heap.size + 1 + 1, 5, none⟩ (.slice (some ⟨g2, 0, none⟩) X.os.length r2)).setCell ⟨w.heap.size + 1 + 1, 6, none⟩ (.slice (some ⟨g3, 0, none⟩) X.gold.length r3)).setCell ⟨w.heap.size + 1 + 1, 7, none⟩ (.slice a6 st.length r6)).setCell ⟨w.heap.size + 1 + 1, 8, none⟩ (.slice a8 qs'.length r8))) := put_kp _ _ _ _ _ _ _ _ _ _ _
      obtain ⟨y0, y1, y2, y3, y4, y5, y6, y7, y8⟩ := (R11.out.2.1.put (.int .i64 X.turn) (.int .i64 X.next) (.int .i64 X.wide) (.int .i64 X.high) (.slice a1 X.gs.length r1) (.slice (some ⟨g2, 0, none⟩) X.os.length r2) (.slice (some ⟨g3, 0, none⟩) X.gold.length r3) (.slice a6 st.length r6) (.slice a8 qs'.length r8)).cells
      go_wp2
      clear x0 x1 x2 x3 x4 x5 x6 x7 x8 z0 z1 z2 z3 z4 z5 z6 z7 z8 t0 t1 t2 t3 t4 t5 t6 t7 t8
      generalize (((((((((wr.setCell ⟨w.heap.size + 1 + 1, 0, none⟩ (.int .i64 X.turn)).setCell ⟨w.heap.size + 1 + 1, 1, none⟩ (.int .i64 X.next)).setCell ⟨w.heap.size + 1 + 1, 2, none⟩ (.int .i64 X.wide)).setCell ⟨w.heap.size + 1 + 1, 3, none⟩ (.int .i64 X.high)).setCell ⟨w.heap.size + 1 + 1, 4, none⟩ (.slice a1 X.gs.length r1)).setCell ⟨w.heap.size + 1 + 1, 5, none⟩ (.slice (some ⟨g2, 0, none⟩) X.os.length r2)).setCell ⟨w.heap.size + 1 + 1, 6, none⟩ (.slice (some ⟨g3, 0, none⟩) X.gold.length r3)).setCell ⟨w.heap.size + 1 + 1, 7, none⟩ (.slice a6 st.length r6)).setCell ⟨w.heap.size + 1 + 1, 8, none⟩ (.slice a8 qs'.length r8)) = wz at *
      refine bodyPost_ret (v := .tuple #[.agg #[.int .i64 X.turn, .int .i64 X.next, .int .i64 X.wide, .int .i64 X.high, .slice a1 X.gs.length r1, .slice (some ⟨g2, 0, none⟩) X.os.length r2, .slice (some ⟨g3, 0, none⟩) X.gold.length r3, .slice a6 st.length r6, .slice a8 qs'.length r8], .nilIface]) (by simp [results, Tryz.results24, go_sem, y0, y1, y2, y3, y4, y5, y6, y7, y8]) rfl ⟨_, _, rfl, by rw [FW.out]; exact Er.nil, .inr ⟨FW.out, Wn, GD.out.1, ?_⟩, KZ.out.below R11.out.2.2 R11.out.2.2.size (by omega)⟩
      have h := BS.out.1
      rw [FO.out]
      exact ⟨_, _, _, _, _, rfl, (O11.out.1.kp KZ.out (by omega)).mono (by omega), (O11.out.2.1.kp KZ.out (by omega)).mono (by omega), (O11.out.2.2.1.kp KZ.out (by omega)).mono (by omega), (O11.out.2.2.2.1.kp KZ.out (by omega)).mono (by omega), (O11.out.2.2.2.2.kp KZ.out (by omega)).mono (by omega)⟩
end Go.Proofs.YtkejdkajfnaieaaGreatDoor

namespace Go.Proofs.YtkejdkajfnaieaaGreatDoor
set_option linter.unusedVariables false

theorem in64_small {n : Int} (h : -100000000 ≤ n ∧ n ≤ 100000000) : Wd.In64 n := by unfold Wd.In64; omega
theorem off_zero {b n : Int} (h : Wd.off b n = false) : b ≤ n ∧ n ≤ 1000000 := by
  unfold Wd.off at h
  simp at h
  omega
theorem WRight.wok {ks : List KV} {X : WV} (h : WRight ks X) : Wd.Wok X := by
  obtain ⟨Wn, Hn, e1, e2, G⟩ := h.good
  have hn := h.nums
  unfold Wd.numsBad at hn
  simp only [Bool.or_eq_false_iff] at hn
  obtain ⟨n1, n2, n3, n4⟩ := hn
  have t1 := off_zero n1
  have t2 := off_zero n2
  have g4 : X.gold.length ≤ 4 := (nums_ok h.nums).2
  have w12 := G.w2
  have h12 := G.h2
  have cell : Wn * Hn ≤ 144 := by
    have : Wn * Hn ≤ 12 * 12 := Nat.mul_le_mul w12 h12
    omega
  have gl := G.gl
  have ol := G.ol
  have hgs : ∀ n ∈ X.gs, Wd.In64 n := fun n hn => by
    obtain ⟨i, hi⟩ := List.mem_iff_getElem?.1 hn
    have hil := (List.getElem?_eq_some_iff.1 hi).1
    have := G.cell i n _ hi (List.getElem?_eq_getElem (by omega))
    exact in64_small (by omega)
  have hos : ∀ n ∈ X.os, Wd.In64 n := fun n hn => by
    obtain ⟨i, hi⟩ := List.mem_iff_getElem?.1 hn
    have hil := (List.getElem?_eq_some_iff.1 hi).1
    have := G.cell i _ n (List.getElem?_eq_getElem (by omega)) hi
    exact in64_small (by omega)
  have hgo : ∀ n ∈ X.gold, Wd.In64 n := fun n hn => by
    rw [List.any_eq_false] at n4
    have := off_zero (by simpa using n4 n hn : Wd.off 0 n = false)
    exact in64_small (by omega)
  have kb : ∀ k ∈ ks, k.n0 ≤ 1000 ∧ k.n7 ≤ 1000 := fun k hk => by
    have h9 := h.kinds
    unfold Kd.kindsFault at h9
    split at h9
    · omega
    · have h2 := kgo_nums h9 k.k (List.mem_map.2 ⟨k, hk, rfl⟩)
      unfold Kd.numsFault at h2
      split at h2
      · omega
      · rename_i h3
        rw [Bool.not_eq_true, List.any_eq_false] at h3
        have a1 := h3 k.n0 (by simp [KV.k])
        have a2 := h3 k.n7 (by simp [KV.k])
        simp only [decide_eq_true_eq] at a1 a2
        omega
  have k8 : ks.length ≤ 8 := by
    have h9 := h.kinds
    unfold Kd.kindsFault at h9
    split at h9
    · omega
    · rename_i h3
      simp at h3
      omega
  have hus : ∀ u ∈ X.us, ∀ n ∈ Wd.unums u, Wd.In64 n := fun u hu n hn => by
    obtain ⟨i, hi⟩ := List.mem_iff_getElem?.1 hu
    obtain ⟨k, F⟩ := h.fine hi
    have b := kb k (List.mem_of_getElem? F.kk)
    have f1 := F.id1
    have f2 := F.id2
    have f3 := F.p
    have f4 := F.k0
    have f5 := F.life
    have f6 := F.load
    have f7 := F.task
    have f8 := F.at_
    have f9 := F.goal
    unfold Wd.unums at hn
    simp only [List.mem_cons, List.not_mem_nil, or_false] at hn
    rcases hn with rfl | rfl | rfl | rfl | rfl | rfl | rfl | rfl <;> exact in64_small (by omega)
  have hqs : ∀ j ∈ X.qs, ∀ n ∈ Wd.jnums j, Wd.In64 n := fun j hj n hn => by
    have hf := h.job hj
    unfold Wd.jobFault at hf
    split at hf
    · cases hf
    · rename_i u hu
      have hm := List.mem_of_find?_eq_some hu
      have hid : u.id = j.unit := by simpa using List.find?_some hu
      obtain ⟨i, hi⟩ := List.mem_iff_getElem?.1 hm
      obtain ⟨k', F⟩ := h.fine hi
      have f1 := F.id1
      have f2 := F.id2
      have f3 := F.p
      split at hf
      · cases hf
      · split at hf
        · cases hf
        · rename_i hp
          split at hf
          · cases hf
          · rename_i hk
            simp only [Bool.or_eq_true, bne_iff_ne, not_or, Decidable.not_not, Bool.not_eq_true] at hp
            unfold Wd.has at hk
            simp at hk
            unfold Wd.jnums at hn
            simp only [List.mem_cons, List.not_mem_nil, or_false] at hn
            rcases hn with rfl | rfl | rfl | rfl <;> exact in64_small (by omega)
  refine ⟨fun n hn => ?_, by omega, by omega, by omega, Nat.le_trans h.ul (by omega), Nat.le_trans h.ql (by omega)⟩
  have u40 := h.ul
  have q12 := h.ql
  unfold Wd.nums at hn
  simp only [List.mem_append, List.mem_cons, List.not_mem_nil, or_false, List.mem_flatMap] at hn
  rcases hn with (((((rfl | rfl | rfl | rfl) | rfl | hn) | rfl | hn) | rfl | hn) | rfl | ⟨u, hu, hn⟩) | rfl | ⟨j, hj, hn⟩
  · exact in64_small (by omega)
  · exact in64_small (by omega)
  · exact in64_small (by omega)
  · exact in64_small (by omega)
  · exact in64_small (by omega)
  · exact hgs n hn
  · exact in64_small (by omega)
  · exact hos n hn
  · exact in64_small (by omega)
  · exact hgo n hn
  · exact in64_small (by omega)
  · exact hus u hu n hn
  · exact in64_small (by omega)
  · exact hqs j hj n hn
theorem wsmall_of {X : WV} (h : Wd.Wok X) : WSmall X := ⟨Nat.le_trans h.g (by omega), Nat.le_trans h.o (by omega), Nat.le_trans h.p (by omega), Nat.le_trans h.u (by omega), Nat.le_trans h.q (by omega)⟩
end Go.Proofs.YtkejdkajfnaieaaGreatDoor

namespace Go.Proofs.YtkejdkajfnaieaaGreatDoor
open Go.RowKit
set_option linter.unusedVariables false

theorem farN_self (W a : Nat) : farN W a a = 0 := by
  unfold farN
  rw [Int.sub_self, Int.sub_self]
  decide
theorem line_self (W a : Nat) : Fd.line W a a = [(a : Int)] := by
  unfold Fd.line
  rw [if_pos (by unfold Fd.span; simp)]
theorem see_self {W : Nat} {gs : List Int} {k : KV} {a : Nat} (h : 0 ≤ k.n3) : seeN W gs k a a = true := by
  unfold seeN
  rw [farN_self, line_self]
  simp [Fd.hide, h]
theorem own_sees {ks : List KV} {X : WV} {W i : Nat} {p : Int} {u : UnV} (WR : WRight ks X) (hu : X.us[i]? = some u) (hp : u.player = p) : seesP ks W X.gs X.us p u.at_.toNat = true := by
  obtain ⟨k, f⟩ := WR.fine hu
  have hN := kind_nums WR.kinds (List.mem_of_getElem? f.kk)
  refine List.any_eq_true.2 ⟨u, List.mem_of_getElem? hu, ?_⟩
  unfold seeU
  rw [f.kk, hp]
  simp [see_self (W := W) (gs := X.gs) (a := u.at_.toNat) hN.2.2.2.2.2.2.2.2.1]
theorem sees_has {ks : List KV} {gs : List Int} {us : List UnV} {W c : Nat} {p : Int} (h : seesP ks W gs us p c = true) : us.any (fun u => u.player == p) = true := by
  obtain ⟨u, hu, h⟩ := List.any_eq_true.1 h
  unfold seeU at h
  exact List.any_eq_true.2 ⟨u, hu, (Bool.and_eq_true_iff.1 h).1⟩
theorem seers_more (ks : List KV) (W : Nat) (X : WV) (c m : Nat) : ∀ d, ∃ t, seersUp ks W X c (m + d) = seersUp ks W X c m ++ t
  | 0 => ⟨[], by simp⟩
  | d + 1 => by
    obtain ⟨t, ht⟩ := seers_more ks W X c m d
    rw [← Nat.add_assoc, seers_next, ht, List.append_assoc]
    exact ⟨_, rfl⟩
theorem seers_at {ks : List KV} {W : Nat} {X : WV} {c p : Nat} (hp : p < X.gold.length) (h : seesP ks W X.gs X.us (p : Nat) c = true) : (seersL ks W X c)[(seersUp ks W X c p).length]? = some ((p : Nat) : Int) := by
  obtain ⟨t, ht⟩ := seers_more ks W X c (p + 1) (X.gold.length - (p + 1))
  have e : p + 1 + (X.gold.length - (p + 1)) = X.gold.length := by omega
  unfold seersL
  rw [e] at ht
  rw [ht, seers_next, h, if_pos rfl]
  simp
theorem seers_some {ks : List KV} {W : Nat} {X : WV} {c p : Nat} (h : seesP ks W X.gs X.us (p : Nat) c = true) : (seersUp ks W X c (p + 1)).length = (seersUp ks W X c p).length + 1 := by
  rw [seers_next, h, if_pos rfl]
  simp
theorem seers_none {ks : List KV} {W : Nat} {X : WV} {c p : Nat} (h : seesP ks W X.gs X.us (p : Nat) c = false) : (seersUp ks W X c (p + 1)).length = (seersUp ks W X c p).length := by
  rw [seers_next, h]
  simp
theorem pfault_ok {ks : List KV} {X : WV} {p : Int} (h : Wd.wfault ks X = 0) (h1 : 0 ≤ p) (h2 : p < (X.gold.length : Int)) : pfault ks X p = 0 := by
  unfold pfault
  rw [if_pos h, if_pos ⟨h1, h2⟩]
theorem seen_of {ks : List KV} {X : WV} {p : Int} {w : World} {v : Value} {Wn : Nat} (h : SeenSays ks X p w v) (h0 : pfault ks X p = 0) (hw : X.wide = (Wn : Nat)) : Bl w v (seenL ks Wn X p) := by
  rcases h with ⟨h, -⟩ | ⟨-, Wm, h1, h2⟩
  · exact absurd h0 h
  · obtain rfl : Wm = Wn := by omega
    exact h2
end Go.Proofs.YtkejdkajfnaieaaGreatDoor

namespace Go.Proofs.YtkejdkajfnaieaaGreatDoor
set_option linter.unusedVariables false

theorem ids_next {ks : List KV} {X : WV} (h : WRight ks X) {i : Nat} {a b : UnV} (ha : X.us[i]? = some a) (hb : X.us[i + 1]? = some b) : a.id < b.id := by
  obtain ⟨k, f⟩ := h.fine hb
  have := f.up
  simp only [Wd.notAbove, ha, decide_eq_false_iff_not] at this
  omega
theorem ids_rise {ks : List KV} {X : WV} (h : WRight ks X) : ∀ (d i : Nat) (a b : UnV), X.us[i]? = some a → X.us[i + d + 1]? = some b → a.id < b.id
  | 0, i, a, b, ha, hb => ids_next h ha hb
  | d + 1, i, a, b, ha, hb => by
    have hl : i + d + 1 < X.us.length := by have := (List.getElem?_eq_some_iff.1 hb).1; omega
    have h1 := ids_rise h d i a _ ha (List.getElem?_eq_getElem hl)
    have h2 := ids_next h (List.getElem?_eq_getElem hl) (show X.us[i + d + 1 + 1]? = some b from hb)
    omega
theorem id_one {ks : List KV} {X : WV} (h : WRight ks X) {i j : Nat} {a b : UnV} (ha : X.us[i]? = some a) (hb : X.us[j]? = some b) (e : a.id = b.id) : i = j := by
  rcases Nat.lt_trichotomy i j with hl | hl | hl
  · have := ids_rise h (j - i - 1) i a b ha (by rw [show i + (j - i - 1) + 1 = j by omega]; exact hb)
    omega
  · exact hl
  · have := ids_rise h (i - j - 1) j b a hb (by rw [show j + (i - j - 1) + 1 = i by omega]; exact ha)
    omega
theorem fst_is {ks : List KV} {X : WV} (h : WRight ks X) {n : Nat} {u : UnV} {id r : Int} (hu : X.us[n]? = some u) (hi : u.id = id) (hr : FstU (fun o => o.id == id) X.us r) : r = n := by
  rcases hr with ⟨-, hr⟩ | ⟨k, y, rfl, hk, hy, -⟩
  · have := List.any_eq_false.1 hr u (List.mem_of_getElem? hu)
    simp [hi] at this
  · have hyi : y.id = id := by simpa using hy
    rw [id_one h hk hu (by rw [hyi, hi])]
end Go.Proofs.YtkejdkajfnaieaaGreatDoor

namespace Go.Proofs.YtkejdkajfnaieaaGreatDoor
open Go.RowKit
set_option linter.unusedVariables false

theorem filt_at {α : Type} {p : α → Bool} : ∀ (l : List α) (i : Nat) (x : α), (l.filter p)[i]? = some x → ∃ j, l[j]? = some x ∧ p x = true ∧ (l.filter p).take i = (l.take j).filter p
  | [], i, x, h => by simp at h
  | a :: l, i, x, h => by
    cases hp : p a with
    | true =>
      rw [List.filter_cons_of_pos hp] at h ⊢
      cases i with
      | zero =>
        simp at h
        subst h
        exact ⟨0, rfl, hp, rfl⟩
      | succ i =>
        rw [List.getElem?_cons_succ] at h
        obtain ⟨j, h1, h2, h3⟩ := filt_at l i x h
        exact ⟨j + 1, by rw [List.getElem?_cons_succ]; exact h1, h2, by rw [List.take_succ_cons, List.take_succ_cons, List.filter_cons_of_pos hp, h3]⟩
    | false =>
      have hn : ¬ p a = true := by rw [hp]; simp
      rw [List.filter_cons_of_neg hn] at h ⊢
      obtain ⟨j, h1, h2, h3⟩ := filt_at l i x h
      exact ⟨j + 1, by rw [List.getElem?_cons_succ]; exact h1, h2, by rw [List.take_succ_cons, List.filter_cons_of_neg hn, h3]⟩
theorem zer_at {q : Nat → Bool} {l : List Int} {i : Nat} {o : Int} (h : (zer q l)[i]? = some o) : ∃ x, l[i]? = some x ∧ o = if q i then 0 else x := by
  unfold zer at h
  rw [List.getElem?_mapIdx] at h
  cases hl : l[i]? with
  | none => rw [hl] at h; cases h
  | some x =>
    rw [hl] at h
    exact ⟨x, rfl, (Option.some.inj h).symm⟩
theorem zer_zer (q : Nat → Bool) (l : List Int) : zer q (zer q l) = zer q l := by
  unfold zer
  apply List.ext_getElem
  · simp
  · intro i h1 h2
    simp only [List.getElem_mapIdx]
    cases q i <;> simp
theorem hid_own {ks : List KV} {W : Nat} {X : WV} {p : Int} {u : UnV} (h : u.player = p) : hidU ks W X p u = false := by
  unfold hidU
  rw [h]
  simp
theorem sees_view (ks : List KV) (W : Nat) (X : WV) (p : Int) (c : Nat) : seesP ks W X.gs (viewOf ks W X p).us p c = seesP ks W X.gs X.us p c := by
  unfold seesP
  rw [Bool.eq_iff_iff, List.any_eq_true, List.any_eq_true]
  constructor
  · rintro ⟨u, hu, h⟩
    exact ⟨u, (List.mem_filter.1 hu).1, h⟩
  · rintro ⟨u, hu, h⟩
    refine ⟨u, List.mem_filter.2 ⟨hu, ?_⟩, h⟩
    unfold seeU at h
    have hp : u.player = p := by simpa using (Bool.and_eq_true_iff.1 h).1
    rw [hid_own hp]
    rfl
theorem hid_view (ks : List KV) (W : Nat) (X : WV) (p : Int) (u : UnV) : hidU ks W (viewOf ks W X p) p u = hidU ks W X p u := by
  unfold hidU
  have e : seesP ks W (viewOf ks W X p).gs (viewOf ks W X p).us p u.at_.toNat = seesP ks W X.gs X.us p u.at_.toNat := sees_view ks W X p _
  rw [e]
theorem view_fix {ks : List KV} {W : Nat} {V : WV} {p : Int} (h1 : V.us.filter (fun u => !hidU ks W V p u) = V.us) (h2 : V.qs.filter (fun j => !notJ p j) = V.qs) (h3 : zer (fun i => !decide ((i : Int) = p)) V.gold = V.gold) (h4 : zer (fun i => !seesP ks W V.gs V.us p i) V.os = V.os) : viewOf ks W V p = V := by
  unfold viewOf
  rw [h1, h2, h3, h4]
theorem view_view (ks : List KV) (W : Nat) (X : WV) (p : Int) : viewOf ks W (viewOf ks W X p) p = viewOf ks W X p := by
  have h1 : (viewOf ks W X p).us.filter (fun u => !hidU ks W (viewOf ks W X p) p u) = (viewOf ks W X p).us := by
    rw [List.filter_eq_self]
    intro u hu
    rw [hid_view]
    exact (List.mem_filter.1 hu).2
  have h2 : (viewOf ks W X p).qs.filter (fun j => !notJ p j) = (viewOf ks W X p).qs := by
    rw [List.filter_eq_self]
    intro j hj
    exact (List.mem_filter.1 hj).2
  have h3 : zer (fun i => !decide ((i : Int) = p)) (viewOf ks W X p).gold = (viewOf ks W X p).gold := zer_zer _ _
  have h4 : zer (fun i => !seesP ks W (viewOf ks W X p).gs (viewOf ks W X p).us p i) (viewOf ks W X p).os = (viewOf ks W X p).os := by
    have e : (fun i : Nat => !seesP ks W (viewOf ks W X p).gs (viewOf ks W X p).us p i) = fun i : Nat => !seesP ks W X.gs X.us p i := by
      funext i
      have : seesP ks W (viewOf ks W X p).gs (viewOf ks W X p).us p i = seesP ks W X.gs X.us p i := sees_view ks W X p i
      rw [this]
    rw [e]
    exact zer_zer _ _
  exact view_fix h1 h2 h3 h4
theorem seen_view (ks : List KV) (W : Nat) (X : WV) (p : Int) : seenL ks W (viewOf ks W X p) p = seenL ks W X p := by
  unfold seenL
  apply List.map_congr_left
  intro i _
  exact sees_view ks W X p i
theorem own_count (ks : List KV) (W : Nat) (X : WV) (p : Int) : (viewOf ks W X p).us.countP (fun u => u.player == p) = X.us.countP (fun u => u.player == p) := by
  show (X.us.filter _).countP _ = _
  rw [List.countP_filter]
  apply List.countP_congr
  intro u _
  constructor
  · intro h; exact (Bool.and_eq_true_iff.1 h).1
  · intro h
    have hp : u.player = p := by simpa using h
    rw [hid_own hp, h]
    rfl
theorem view_from {ks : List KV} {W : Nat} {X : WV} {p : Int} {i : Nat} {y : UnV} (h : (viewOf ks W X p).us[i]? = some y) : ∃ j, X.us[j]? = some y ∧ hidU ks W X p y = false ∧ (viewOf ks W X p).us.take i = (X.us.take j).filter (fun u => !hidU ks W X p u) := by
  obtain ⟨j, h1, h2, h3⟩ := filt_at X.us i y h
  exact ⟨j, h1, by simpa using h2, h3⟩
theorem view_right {ks : List KV} {Wn : Nat} {X : WV} {p : Int} (h : WRight ks X) : Wd.wfault ks (viewOf ks Wn X p) = 0 := by
  obtain ⟨Wm, Hm, e1, e2, G⟩ := h.good
  refine Wd.wfault_zero h.kinds ?_ ?_ ?_ ?_ ?_ ?_
  · show Fd.fault X.wide X.high X.gs (zer _ X.os) = 0
    rw [e1, e2]
    refine Fd.fault_good ⟨G.w1, G.w2, G.h1, G.h2, G.gl, by rw [zer_len]; exact G.ol, fun i g o hg ho => ?_⟩
    obtain ⟨x, hx, rfl⟩ := zer_at ho
    have := G.cell i g x hg hx
    split
    · exact ⟨this.1, this.2.1, by omega, by omega, fun h => by omega⟩
    · exact this
  · have hn := h.nums
    unfold Wd.numsBad at hn ⊢
    simp only [Bool.or_eq_false_iff] at hn ⊢
    obtain ⟨n1, n2, n3, n4⟩ := hn
    refine ⟨n1, n2, ?_, ?_⟩
    · show (!decide (1 ≤ ((zer _ X.gold).length : Int) ∧ ((zer _ X.gold).length : Int) ≤ 4)) = false
      rw [zer_len]
      exact n3
    · show (zer _ X.gold).any (Wd.off 0) = false
      rw [List.any_eq_false] at n4 ⊢
      intro o ho
      obtain ⟨i, hi⟩ := List.mem_iff_getElem?.1 ho
      obtain ⟨x, hx, rfl⟩ := zer_at hi
      split
      · decide
      · exact n4 x (List.mem_of_getElem? hx)
  · show (X.us.filter _).length ≤ 40
    have := List.length_filter_le (fun u => !hidU ks Wn X p u) X.us
    have := h.ul
    omega
  · intro i y hy
    obtain ⟨j, hu, hh, ht⟩ := view_from hy
    obtain ⟨k, f⟩ := h.fine hu
    have AH : ∀ q ∈ (viewOf ks Wn X p).us.take i, ∃ j', j' < j ∧ X.us[j']? = some q := fun q hq => by
      rw [ht] at hq
      obtain ⟨j', hj'⟩ := List.mem_iff_getElem?.1 (List.mem_filter.1 hq).1
      rw [List.getElem?_take] at hj'
      split at hj'
      · rename_i hlt; exact ⟨j', hlt, hj'⟩
      · cases hj'
    refine ⟨k, f.id1, f.id2, ?_, ⟨f.p.1, by show y.player < ((zer _ X.gold).length : Int); rw [zer_len]; exact f.p.2⟩, f.k0, f.kk, f.life, f.load, f.task, f.at_, f.goal, ?_, f.rest⟩
    · show Wd.notAbove (viewOf ks Wn X p).us i _ = false
      cases i with
      | zero => rfl
      | succ i =>
        have hil : i < (viewOf ks Wn X p).us.length := by have := (List.getElem?_eq_some_iff.1 hy).1; omega
        obtain ⟨q, hq⟩ : ∃ q, (viewOf ks Wn X p).us[i]? = some q := ⟨_, List.getElem?_eq_getElem hil⟩
        simp only [Wd.notAbove, hq, decide_eq_false_iff_not]
        obtain ⟨j', a1, a2⟩ := AH q (List.mem_of_getElem? (by rw [List.getElem?_take, if_pos (Nat.lt_succ_self _)]; exact hq))
        have := ids_rise h (j - j' - 1) j' q y a2 (by rw [show j' + (j - j' - 1) + 1 = j by omega]; exact hu)
        omega
    · have ho := f.opn
      unfold Wd.open_ at ho
      rw [Bool.and_eq_true] at ho
      show Wd.open_ X.gs ((viewOf ks Wn X p).us.take i) y.at_ k.f = true
      unfold Wd.open_
      rw [Bool.and_eq_true]
      refine ⟨ho.1, ?_⟩
      rw [Bool.not_eq_true', List.any_eq_false]
      intro q hq
      obtain ⟨j', a1, a2⟩ := AH q hq
      have h1 := ho.2
      rw [Bool.not_eq_true', List.any_eq_false] at h1
      exact h1 q (List.mem_of_getElem? (by rw [List.getElem?_take, if_pos a1]; exact a2))
  · show (X.qs.filter _).length ≤ 12
    have := List.length_filter_le (fun j => !notJ p j) X.qs
    have := h.ql
    omega
  · intro j hj
    obtain ⟨hjm, hjo⟩ := List.mem_filter.1 hj
    have hjp : j.player = p := by unfold notJ at hjo; simpa using hjo
    have hx := h.job hjm
    cases hf : X.us.find? (fun u => u.id == j.unit) with
    | none =>
      unfold Wd.jobFault at hx
      rw [hf] at hx
      cases hx
    | some u1 =>
      have hm1 := List.mem_of_find?_eq_some hf
      have hi1 : u1.id = j.unit := by simpa using List.find?_some hf
      obtain ⟨j1, hj1⟩ := List.mem_iff_getElem?.1 hm1
      have hpl : u1.player = p := by
        unfold Wd.jobFault at hx
        rw [hf] at hx
        simp only at hx
        cases hk : ks[u1.kind.toNat]? with
        | none => rw [hk] at hx; cases hx
        | some k =>
          rw [hk] at hx
          simp only at hx
          split at hx
          · cases hx
          · rename_i hb
            have hb' : ¬ (u1.player != j.player) = true := fun h => hb (by rw [h]; rfl)
            have : u1.player = j.player := by simpa using hb'
            rw [this, hjp]
      have hmv : u1 ∈ (viewOf ks Wn X p).us := List.mem_filter.2 ⟨hm1, by rw [hid_own hpl]; rfl⟩
      have hfs : ((viewOf ks Wn X p).us.find? (fun u => u.id == j.unit)).isSome = true := List.find?_isSome.2 ⟨u1, hmv, by simpa using hi1⟩
      obtain ⟨y0, hy0⟩ := Option.isSome_iff_exists.1 hfs
      have hm0 := List.mem_of_find?_eq_some hy0
      have hi0 : y0.id = j.unit := by simpa using List.find?_some hy0
      obtain ⟨j0, hj0⟩ := List.mem_iff_getElem?.1 (List.mem_filter.1 hm0).1
      have := id_one h hj0 hj1 (by rw [hi0, hi1])
      subst this
      rw [hj0] at hj1
      injection hj1 with hj1
      subst hj1
      unfold Wd.jobFault at hx ⊢
      rw [hf] at hx
      rw [hy0]
      exact hx
end Go.Proofs.YtkejdkajfnaieaaGreatDoor

namespace Go.Proofs.YtkejdkajfnaieaaGreatDoor
open Go.RowKit
set_option linter.unusedVariables false

theorem wl_zero (w : World) : Wl w (.agg #[.int .i64 0, .int .i64 0, .int .i64 0, .int .i64 0, .slice none 0 0, .slice none 0 0, .slice none 0 0, .slice none 0 0, .slice none 0 0]) (⟨0, 0, 0, 0, [], [], [], [], []⟩ : WV) :=
  ⟨_, _, _, _, _, rfl, ⟨none, 0, rfl, Nat.le_refl _, by omega, fun h => absurd rfl h⟩, ⟨none, 0, rfl, Nat.le_refl _, by omega, fun h => absurd rfl h⟩, ⟨none, 0, rfl, Nat.le_refl _, by omega, fun h => absurd rfl h⟩, ⟨none, 0, rfl, Nat.le_refl _, by omega, fun h => absurd rfl h⟩, ⟨none, 0, rfl, Nat.le_refl _, by omega, fun h => absurd rfl h⟩⟩
theorem wok_zero : Wd.Wok (⟨0, 0, 0, 0, [], [], [], [], []⟩ : WV) := ⟨fun n hn => by
    have e : n = 0 := by simpa [Wd.nums] using hn
    subst e
    exact in64_small (by omega), by decide, by decide, by decide, by decide, by decide⟩
theorem wok_view {ks : List KV} {X : WV} {p : Int} (Wn : Nat) (h : pfault ks X p = 0) : Wd.Wok (viewOf ks Wn X p) := (wright_of (view_right (p := p) (Wn := Wn) (wright_of (pfault_zero h).1))).wok
/-- what a player is told of a world. -/
def ToldSays (ks : List KV) (X : WV) (p : Int) (w : World) (e : Ending) (w' : World) : Prop := ∃ u r, e = .returned (.tuple #[u, r]) ∧ Er r (pfault ks X p) ∧ (∃ l, By w' u l ∧ (pfault ks X p = 0 → ∃ Wn : Nat, X.wide = (Wn : Nat) ∧ l = Wd.enc (viewOf ks Wn X p))) ∧ Below w.heap.size w w'
set_option maxRecDepth 100000 in
set_option maxHeartbeats 8000000 in
theorem told_any (kb pb : Nat) (vk vw : Value) (ks : List KV) (X : WV) (p : Int) (w : World) (hk : Kl w vk ks) (hb : ∀ k ∈ ks, k.b.size ≤ 9223372036854775807) (hw : Wl w vw X) (ck : w.cell? ⟨kb, 0, none⟩ = some vk) (cp : w.cell? ⟨pb, 0, none⟩ = some (.int .i64 p)) :
    Calls Tryz.prog 70 #[vw, .pointer (some ⟨kb, 0, none⟩), .pointer (some ⟨pb, 0, none⟩)] w (ToldSays ks X p w) := by
  have K : Hid (Kl w vk ks ∧ ∀ k ∈ ks, k.b.size ≤ 9223372036854775807) := ⟨hk, hb⟩
  have H : Hid (Wl w vw X) := hw
  obtain ⟨p1, q1, p2, q2, p3, q3, p4, q4, p5, q5, rfl⟩ := wl_shape9 hw
  obtain ⟨pk, qk, rfl, -⟩ := hk
  have B0 : Hid (Below w.heap.size w (w.alloc (Obj.cells #[.int .i64 X.turn, .int .i64 X.next, .int .i64 X.wide, .int .i64 X.high, .slice p1 X.gs.length q1, .slice p2 X.os.length q2, .slice p3 X.gold.length q3, .slice p4 X.us.length q4, .slice p5 X.qs.length q5] 29))) := (Below.refl _ _).alloc (Nat.le_refl _) _
  obtain ⟨z, hz⟩ : ∃ z, w.heap.size = z := ⟨_, rfl⟩
  have X0 : Hid (Bw (w.alloc (Obj.cells #[.int .i64 X.turn, .int .i64 X.next, .int .i64 X.wide, .int .i64 X.high, .slice p1 X.gs.length q1, .slice p2 X.os.length q2, .slice p3 X.gold.length q3, .slice p4 X.us.length q4, .slice p5 X.qs.length q5] 29)) z X (.slice p1 X.gs.length q1) (.slice p2 X.os.length q2) (.slice p3 X.gold.length q3) (.slice p4 X.us.length q4) (.slice p5 X.qs.length q5)) := Bw.mk' X _ _ _ _ _ hz
  have c1 : (w.alloc (Obj.cells #[.int .i64 X.turn, .int .i64 X.next, .int .i64 X.wide, .int .i64 X.high, .slice p1 X.gs.length q1, .slice p2 X.os.length q2, .slice p3 X.gold.length q3, .slice p4 X.us.length q4, .slice p5 X.qs.length q5] 29)).cell? ⟨kb, 0, none⟩ = some (.slice pk ks.length qk) := by rw [B0.out.cell (p := ⟨kb, 0, none⟩) (cell_lt ck)]; exact ck
  have c2 : (w.alloc (Obj.cells #[.int .i64 X.turn, .int .i64 X.next, .int .i64 X.wide, .int .i64 X.high, .slice p1 X.gs.length q1, .slice p2 X.os.length q2, .slice p3 X.gold.length q3, .slice p4 X.us.length q4, .slice p5 X.qs.length q5] 29)).cell? ⟨pb, 0, none⟩ = some (.int .i64 p) := by rw [B0.out.cell (p := ⟨pb, 0, none⟩) (cell_lt cp)]; exact cp
  clear hb hw ck cp
  go_enter Tryz.func70, Tryz.ntmps70
  go_upto_region 1 with fail
  (try rw [hz])
  clear hz
  generalize (w.alloc (Obj.cells #[.int .i64 X.turn, .int .i64 X.next, .int .i64 X.wide, .int .i64 X.high, .slice p1 X.gs.length q1, .slice p2 X.os.length q2, .slice p3 X.gold.length q3, .slice p4 X.us.length q4, .slice p5 X.qs.length q5] 29)) = w0 at *
  obtain ⟨x0, x1, x2, x3, x4, x5, x6, x7, x8⟩ := X0.out
  go_wp2_with fail
  refine (View_any _ _ ks X p w0 (K.out.1.below B0.out) K.out.2 (H.out.below B0.out)).mono ?_
  rintro e w1 ⟨v, r, rfl, hr, hs, b1⟩
  have ER : Hid (Er r (pfault ks X p)) := hr
  have B1 : Hid (Below w.heap.size w w1) := B0.out.trans (b1.mono B0.out.size)
  clear hr b1 c1 c2 x0 x1 x2 x3 x4 x5 x6 x7 x8 X0 B0
  rcases hs with ⟨hf, rfl⟩ | ⟨hf, Wn, hww, hwo⟩
  · have HF : Hid (pfault ks X p ≠ 0) := hf
    clear hf
    have BA : Hid (Below w1.heap.size w1 (w1.alloc (Obj.cells #[.int .i64 0, .int .i64 0, .int .i64 0, .int .i64 0, .slice none 0 0, .slice none 0 0, .slice none 0 0, .slice none 0 0, .slice none 0 0] 29))) := (Below.refl _ _).alloc (Nat.le_refl _) _
    obtain ⟨y, hy⟩ : ∃ z, w1.heap.size = z := ⟨_, rfl⟩
    have Y0 : Hid (Bw (w1.alloc (Obj.cells #[.int .i64 0, .int .i64 0, .int .i64 0, .int .i64 0, .slice none 0 0, .slice none 0 0, .slice none 0 0, .slice none 0 0, .slice none 0 0] 29)) y (⟨0, 0, 0, 0, [], [], [], [], []⟩ : WV) (.slice none 0 0) (.slice none 0 0) (.slice none 0 0) (.slice none 0 0) (.slice none 0 0)) := Bw.mk' (⟨0, 0, 0, 0, [], [], [], [], []⟩ : WV) _ _ _ _ _ hy
    go_upto_region 2 with fail
    (try rw [hy])
    clear hy
    generalize (w1.alloc (Obj.cells #[.int .i64 0, .int .i64 0, .int .i64 0, .int .i64 0, .slice none 0 0, .slice none 0 0, .slice none 0 0, .slice none 0 0, .slice none 0 0] 29)) = w2 at *
    have y0 : w2.cell? ⟨y, 0, none⟩ = some (.int .i64 0) := Y0.out.c0
    have y1 : w2.cell? ⟨y, 1, none⟩ = some (.int .i64 0) := Y0.out.c1
    have y2 : w2.cell? ⟨y, 2, none⟩ = some (.int .i64 0) := Y0.out.c2
    have y3 : w2.cell? ⟨y, 3, none⟩ = some (.int .i64 0) := Y0.out.c3
    obtain ⟨-, -, -, -, y4, y5, y6, y7, y8⟩ := Y0.out
    go_wp2_with fail
    refine (encode_any _ (⟨0, 0, 0, 0, [], [], [], [], []⟩ : WV) w2 (wl_zero w2) (wsmall_of wok_zero) wok_zero.in_).mono ?_
    rintro e w3 ⟨u, rfl, ho, b3⟩
    have FIN : Hid (By w3 u (Wd.enc (⟨0, 0, 0, 0, [], [], [], [], []⟩ : WV)) ∧ Below w.heap.size w w3) := ⟨Ob.by_ ho, (B1.out.trans (BA.out.mono B1.out.size)).trans (b3.mono (Nat.le_trans B1.out.size BA.out.size))⟩
    clear ho b3 y0 y1 y2 y3 y4 y5 y6 y7 y8
    go_wp2
    go_ret2
    exact ⟨_, _, rfl, ER.out, ⟨_, FIN.out.1, fun h => absurd h HF.out⟩, FIN.out.2⟩
  · have HF : Hid (pfault ks X p = 0 ∧ X.wide = (Wn : Nat)) := ⟨hf, hww⟩
    obtain ⟨V, hV⟩ : ∃ V, viewOf ks Wn X p = V := ⟨_, rfl⟩
    have HV : Hid (viewOf ks Wn X p = V) := hV
    rw [hV] at hwo
    have OKV : Hid (Wd.Wok V) := by have h := wok_view Wn hf; rw [hV] at h; exact h
    have LV : Hid (Wl w1 v V) := hwo.l
    obtain ⟨s1, l1, s2, l2, s3, l3, s4, l4, s5, l5, rfl⟩ := wl_shape9 hwo.l
    clear hf hww hV hwo
    have BA : Hid (Below w1.heap.size w1 (w1.alloc (Obj.cells #[.int .i64 V.turn, .int .i64 V.next, .int .i64 V.wide, .int .i64 V.high, .slice s1 V.gs.length l1, .slice s2 V.os.length l2, .slice s3 V.gold.length l3, .slice s4 V.us.length l4, .slice s5 V.qs.length l5] 29))) := (Below.refl _ _).alloc (Nat.le_refl _) _
    obtain ⟨y, hy⟩ : ∃ z, w1.heap.size = z := ⟨_, rfl⟩
    have Y0 : Hid (Bw (w1.alloc (Obj.cells #[.int .i64 V.turn, .int .i64 V.next, .int .i64 V.wide, .int .i64 V.high, .slice s1 V.gs.length l1, .slice s2 V.os.length l2, .slice s3 V.gold.length l3, .slice s4 V.us.length l4, .slice s5 V.qs.length l5] 29)) y V (.slice s1 V.gs.length l1) (.slice s2 V.os.length l2) (.slice s3 V.gold.length l3) (.slice s4 V.us.length l4) (.slice s5 V.qs.length l5)) := Bw.mk' V _ _ _ _ _ hy
    go_upto_region 2 with fail
    (try rw [hy])
    clear hy
    generalize (w1.alloc (Obj.cells #[.int .i64 V.turn, .int .i64 V.next, .int .i64 V.wide, .int .i64 V.high, .slice s1 V.gs.length l1, .slice s2 V.os.length l2, .slice s3 V.gold.length l3, .slice s4 V.us.length l4, .slice s5 V.qs.length l5] 29)) = w2 at *
    obtain ⟨y0, y1, y2, y3, y4, y5, y6, y7, y8⟩ := Y0.out
    go_wp2_with fail
    refine (encode_any _ V w2 (LV.out.below BA.out) (wsmall_of OKV.out) OKV.out.in_).mono ?_
    rintro e w3 ⟨u, rfl, ho, b3⟩
    have FIN : Hid (By w3 u (Wd.enc V) ∧ Below w.heap.size w w3) := ⟨Ob.by_ ho, (B1.out.trans (BA.out.mono B1.out.size)).trans (b3.mono (Nat.le_trans B1.out.size BA.out.size))⟩
    clear ho b3 y0 y1 y2 y3 y4 y5 y6 y7 y8
    go_wp2
    go_ret2
    exact ⟨_, _, rfl, ER.out, ⟨_, FIN.out.1, fun _ => ⟨Wn, HF.out.2, by rw [HV.out]⟩⟩, FIN.out.2⟩
/-- what News says. -/
def NewsSays (ks : List KV) (A B : WV) (p : Int) (w w' : World) (v r : Value) : Prop :=
  (pfault ks A p ≠ 0 ∧ v = .slice none 0 0 ∧ Er r (pfault ks A p)) ∨ (pfault ks A p = 0 ∧ pfault ks B p ≠ 0 ∧ v = .slice none 0 0 ∧ Er r (pfault ks B p)) ∨
  (pfault ks A p = 0 ∧ pfault ks B p = 0 ∧ ∃ Wa Wb : Nat, A.wide = (Wa : Nat) ∧ B.wide = (Wb : Nat) ∧ DiffSays (Wd.enc (viewOf ks Wa A p)) (Wd.enc (viewOf ks Wb B p)) w w' v r)
set_option maxRecDepth 100000 in
set_option maxHeartbeats 16000000 in
theorem News_any (vk va vb : Value) (ks : List KV) (A B : WV) (p : Int) (w : World) (hk : Kl w vk ks) (hb : ∀ k ∈ ks, k.b.size ≤ 9223372036854775807) (ha : Wl w va A) (hbw : Wl w vb B) :
    Calls Tryz.prog 22 #[vk, va, vb, .int .i64 p] w fun e w' => ∃ v r, e = .returned (.tuple #[v, r]) ∧ NewsSays ks A B p w w' v r ∧ Below w.heap.size w w' := by
  have K : Hid (Kl w vk ks ∧ ∀ k ∈ ks, k.b.size ≤ 9223372036854775807) := ⟨hk, hb⟩
  have HA : Hid (Wl w va A) := ha
  have HB : Hid (Wl w vb B) := hbw
  obtain ⟨p1, q1, p2, q2, p3, q3, p4, q4, p5, q5, rfl⟩ := wl_shape9 ha
  obtain ⟨s1, t1, s2, t2, s3, t3, s4, t4, s5, t5, rfl⟩ := wl_shape9 hbw
  obtain ⟨pk, qk, rfl, -⟩ := hk
  clear hb ha hbw
  have b1 : Below w.heap.size w (w.alloc (Obj.cells #[.slice pk ks.length qk] 22)) := (Below.refl _ _).alloc (Nat.le_refl _) _
  have b2 : Below (w.alloc (Obj.cells #[.slice pk ks.length qk] 22)).heap.size (w.alloc (Obj.cells #[.slice pk ks.length qk] 22)) ((w.alloc (Obj.cells #[.slice pk ks.length qk] 22)).alloc (Obj.cells #[.int .i64 A.turn, .int .i64 A.next, .int .i64 A.wide, .int .i64 A.high, .slice p1 A.gs.length q1, .slice p2 A.os.length q2, .slice p3 A.gold.length q3, .slice p4 A.us.length q4, .slice p5 A.qs.length q5] 29)) := (Below.refl _ _).alloc (Nat.le_refl _) _
  have b3 : Below ((w.alloc (Obj.cells #[.slice pk ks.length qk] 22)).alloc (Obj.cells #[.int .i64 A.turn, .int .i64 A.next, .int .i64 A.wide, .int .i64 A.high, .slice p1 A.gs.length q1, .slice p2 A.os.length q2, .slice p3 A.gold.length q3, .slice p4 A.us.length q4, .slice p5 A.qs.length q5] 29)).heap.size ((w.alloc (Obj.cells #[.slice pk ks.length qk] 22)).alloc (Obj.cells #[.int .i64 A.turn, .int .i64 A.next, .int .i64 A.wide, .int .i64 A.high, .slice p1 A.gs.length q1, .slice p2 A.os.length q2, .slice p3 A.gold.length q3, .slice p4 A.us.length q4, .slice p5 A.qs.length q5] 29)) (((w.alloc (Obj.cells #[.slice pk ks.length qk] 22)).alloc (Obj.cells #[.int .i64 A.turn, .int .i64 A.next, .int .i64 A.wide, .int .i64 A.high, .slice p1 A.gs.length q1, .slice p2 A.os.length q2, .slice p3 A.gold.length q3, .slice p4 A.us.length q4, .slice p5 A.qs.length q5] 29)).alloc (Obj.cells #[.int .i64 B.turn, .int .i64 B.next, .int .i64 B.wide, .int .i64 B.high, .slice s1 B.gs.length t1, .slice s2 B.os.length t2, .slice s3 B.gold.length t3, .slice s4 B.us.length t4, .slice s5 B.qs.length t5] 29)) := (Below.refl _ _).alloc (Nat.le_refl _) _
  have b4 : Below (((w.alloc (Obj.cells #[.slice pk ks.length qk] 22)).alloc (Obj.cells #[.int .i64 A.turn, .int .i64 A.next, .int .i64 A.wide, .int .i64 A.high, .slice p1 A.gs.length q1, .slice p2 A.os.length q2, .slice p3 A.gold.length q3, .slice p4 A.us.length q4, .slice p5 A.qs.length q5] 29)).alloc (Obj.cells #[.int .i64 B.turn, .int .i64 B.next, .int .i64 B.wide, .int .i64 B.high, .slice s1 B.gs.length t1, .slice s2 B.os.length t2, .slice s3 B.gold.length t3, .slice s4 B.us.length t4, .slice s5 B.qs.length t5] 29)).heap.size (((w.alloc (Obj.cells #[.slice pk ks.length qk] 22)).alloc (Obj.cells #[.int .i64 A.turn, .int .i64 A.next, .int .i64 A.wide, .int .i64 A.high, .slice p1 A.gs.length q1, .slice p2 A.os.length q2, .slice p3 A.gold.length q3, .slice p4 A.us.length q4, .slice p5 A.qs.length q5] 29)).alloc (Obj.cells #[.int .i64 B.turn, .int .i64 B.next, .int .i64 B.wide, .int .i64 B.high, .slice s1 B.gs.length t1, .slice s2 B.os.length t2, .slice s3 B.gold.length t3, .slice s4 B.us.length t4, .slice s5 B.qs.length t5] 29)) ((((w.alloc (Obj.cells #[.slice pk ks.length qk] 22)).alloc (Obj.cells #[.int .i64 A.turn, .int .i64 A.next, .int .i64 A.wide, .int .i64 A.high, .slice p1 A.gs.length q1, .slice p2 A.os.length q2, .slice p3 A.gold.length q3, .slice p4 A.us.length q4, .slice p5 A.qs.length q5] 29)).alloc (Obj.cells #[.int .i64 B.turn, .int .i64 B.next, .int .i64 B.wide, .int .i64 B.high, .slice s1 B.gs.length t1, .slice s2 B.os.length t2, .slice s3 B.gold.length t3, .slice s4 B.us.length t4, .slice s5 B.qs.length t5] 29)).alloc (Obj.cells #[.int .i64 p] 3)) := (Below.refl _ _).alloc (Nat.le_refl _) _
  obtain ⟨z, hz⟩ : ∃ z, w.heap.size = z := ⟨_, rfl⟩
  have e1 : (w.alloc (Obj.cells #[.slice pk ks.length qk] 22)).heap.size = z + 1 := by simp [hz]
  have e2 : ((w.alloc (Obj.cells #[.slice pk ks.length qk] 22)).alloc (Obj.cells #[.int .i64 A.turn, .int .i64 A.next, .int .i64 A.wide, .int .i64 A.high, .slice p1 A.gs.length q1, .slice p2 A.os.length q2, .slice p3 A.gold.length q3, .slice p4 A.us.length q4, .slice p5 A.qs.length q5] 29)).heap.size = z + 2 := by simp [hz]
  have e3 : (((w.alloc (Obj.cells #[.slice pk ks.length qk] 22)).alloc (Obj.cells #[.int .i64 A.turn, .int .i64 A.next, .int .i64 A.wide, .int .i64 A.high, .slice p1 A.gs.length q1, .slice p2 A.os.length q2, .slice p3 A.gold.length q3, .slice p4 A.us.length q4, .slice p5 A.qs.length q5] 29)).alloc (Obj.cells #[.int .i64 B.turn, .int .i64 B.next, .int .i64 B.wide, .int .i64 B.high, .slice s1 B.gs.length t1, .slice s2 B.os.length t2, .slice s3 B.gold.length t3, .slice s4 B.us.length t4, .slice s5 B.qs.length t5] 29)).heap.size = z + 3 := by simp [hz]
  have c1 : (w.alloc (Obj.cells #[.slice pk ks.length qk] 22)).cell? ⟨z, 0, none⟩ = some (.slice pk ks.length qk) := by rw [← hz]; simp only [World.cell?, heap_alloc_new]; rfl
  have c4 : ((((w.alloc (Obj.cells #[.slice pk ks.length qk] 22)).alloc (Obj.cells #[.int .i64 A.turn, .int .i64 A.next, .int .i64 A.wide, .int .i64 A.high, .slice p1 A.gs.length q1, .slice p2 A.os.length q2, .slice p3 A.gold.length q3, .slice p4 A.us.length q4, .slice p5 A.qs.length q5] 29)).alloc (Obj.cells #[.int .i64 B.turn, .int .i64 B.next, .int .i64 B.wide, .int .i64 B.high, .slice s1 B.gs.length t1, .slice s2 B.os.length t2, .slice s3 B.gold.length t3, .slice s4 B.us.length t4, .slice s5 B.qs.length t5] 29)).alloc (Obj.cells #[.int .i64 p] 3)).cell? ⟨z + 3, 0, none⟩ = some (.int .i64 p) := by rw [← e3]; simp only [World.cell?, heap_alloc_new]; rfl
  have a2 : Bw ((w.alloc (Obj.cells #[.slice pk ks.length qk] 22)).alloc (Obj.cells #[.int .i64 A.turn, .int .i64 A.next, .int .i64 A.wide, .int .i64 A.high, .slice p1 A.gs.length q1, .slice p2 A.os.length q2, .slice p3 A.gold.length q3, .slice p4 A.us.length q4, .slice p5 A.qs.length q5] 29)) (z + 1) A (.slice p1 A.gs.length q1) (.slice p2 A.os.length q2) (.slice p3 A.gold.length q3) (.slice p4 A.us.length q4) (.slice p5 A.qs.length q5) := Bw.mk' A _ _ _ _ _ e1
  have a3 : Bw (((w.alloc (Obj.cells #[.slice pk ks.length qk] 22)).alloc (Obj.cells #[.int .i64 A.turn, .int .i64 A.next, .int .i64 A.wide, .int .i64 A.high, .slice p1 A.gs.length q1, .slice p2 A.os.length q2, .slice p3 A.gold.length q3, .slice p4 A.us.length q4, .slice p5 A.qs.length q5] 29)).alloc (Obj.cells #[.int .i64 B.turn, .int .i64 B.next, .int .i64 B.wide, .int .i64 B.high, .slice s1 B.gs.length t1, .slice s2 B.os.length t2, .slice s3 B.gold.length t3, .slice s4 B.us.length t4, .slice s5 B.qs.length t5] 29)) (z + 2) B (.slice s1 B.gs.length t1) (.slice s2 B.os.length t2) (.slice s3 B.gold.length t3) (.slice s4 B.us.length t4) (.slice s5 B.qs.length t5) := Bw.mk' B _ _ _ _ _ e2
  have FR : Hid (((((w.alloc (Obj.cells #[.slice pk ks.length qk] 22)).alloc (Obj.cells #[.int .i64 A.turn, .int .i64 A.next, .int .i64 A.wide, .int .i64 A.high, .slice p1 A.gs.length q1, .slice p2 A.os.length q2, .slice p3 A.gold.length q3, .slice p4 A.us.length q4, .slice p5 A.qs.length q5] 29)).alloc (Obj.cells #[.int .i64 B.turn, .int .i64 B.next, .int .i64 B.wide, .int .i64 B.high, .slice s1 B.gs.length t1, .slice s2 B.os.length t2, .slice s3 B.gold.length t3, .slice s4 B.us.length t4, .slice s5 B.qs.length t5] 29)).alloc (Obj.cells #[.int .i64 p] 3)).cell? ⟨z, 0, none⟩ = some (.slice pk ks.length qk) ∧ ((((w.alloc (Obj.cells #[.slice pk ks.length qk] 22)).alloc (Obj.cells #[.int .i64 A.turn, .int .i64 A.next, .int .i64 A.wide, .int .i64 A.high, .slice p1 A.gs.length q1, .slice p2 A.os.length q2, .slice p3 A.gold.length q3, .slice p4 A.us.length q4, .slice p5 A.qs.length q5] 29)).alloc (Obj.cells #[.int .i64 B.turn, .int .i64 B.next, .int .i64 B.wide, .int .i64 B.high, .slice s1 B.gs.length t1, .slice s2 B.os.length t2, .slice s3 B.gold.length t3, .slice s4 B.us.length t4, .slice s5 B.qs.length t5] 29)).alloc (Obj.cells #[.int .i64 p] 3)).cell? ⟨z + 3, 0, none⟩ = some (.int .i64 p) ∧ Bw ((((w.alloc (Obj.cells #[.slice pk ks.length qk] 22)).alloc (Obj.cells #[.int .i64 A.turn, .int .i64 A.next, .int .i64 A.wide, .int .i64 A.high, .slice p1 A.gs.length q1, .slice p2 A.os.length q2, .slice p3 A.gold.length q3, .slice p4 A.us.length q4, .slice p5 A.qs.length q5] 29)).alloc (Obj.cells #[.int .i64 B.turn, .int .i64 B.next, .int .i64 B.wide, .int .i64 B.high, .slice s1 B.gs.length t1, .slice s2 B.os.length t2, .slice s3 B.gold.length t3, .slice s4 B.us.length t4, .slice s5 B.qs.length t5] 29)).alloc (Obj.cells #[.int .i64 p] 3)) (z + 1) A (.slice p1 A.gs.length q1) (.slice p2 A.os.length q2) (.slice p3 A.gold.length q3) (.slice p4 A.us.length q4) (.slice p5 A.qs.length q5) ∧ Bw ((((w.alloc (Obj.cells #[.slice pk ks.length qk] 22)).alloc (Obj.cells #[.int .i64 A.turn, .int .i64 A.next, .int .i64 A.wide, .int .i64 A.high, .slice p1 A.gs.length q1, .slice p2 A.os.length q2, .slice p3 A.gold.length q3, .slice p4 A.us.length q4, .slice p5 A.qs.length q5] 29)).alloc (Obj.cells #[.int .i64 B.turn, .int .i64 B.next, .int .i64 B.wide, .int .i64 B.high, .slice s1 B.gs.length t1, .slice s2 B.os.length t2, .slice s3 B.gold.length t3, .slice s4 B.us.length t4, .slice s5 B.qs.length t5] 29)).alloc (Obj.cells #[.int .i64 p] 3)) (z + 2) B (.slice s1 B.gs.length t1) (.slice s2 B.os.length t2) (.slice s3 B.gold.length t3) (.slice s4 B.us.length t4) (.slice s5 B.qs.length t5) ∧ Below w.heap.size w ((((w.alloc (Obj.cells #[.slice pk ks.length qk] 22)).alloc (Obj.cells #[.int .i64 A.turn, .int .i64 A.next, .int .i64 A.wide, .int .i64 A.high, .slice p1 A.gs.length q1, .slice p2 A.os.length q2, .slice p3 A.gold.length q3, .slice p4 A.us.length q4, .slice p5 A.qs.length q5] 29)).alloc (Obj.cells #[.int .i64 B.turn, .int .i64 B.next, .int .i64 B.wide, .int .i64 B.high, .slice s1 B.gs.length t1, .slice s2 B.os.length t2, .slice s3 B.gold.length t3, .slice s4 B.us.length t4, .slice s5 B.qs.length t5] 29)).alloc (Obj.cells #[.int .i64 p] 3))) := by
    refine ⟨?_, c4, (a2.below b3 a2.lt).below b4 (by have := a2.lt; have := b3.size; omega), a3.below b4 a3.lt, ((b1.trans (b2.mono (by omega))).trans (b3.mono (by omega))).trans (b4.mono (by omega))⟩
    rw [b4.cell (p := ⟨z, 0, none⟩) (by show z < _; omega), b3.cell (p := ⟨z, 0, none⟩) (by show z < _; omega), b2.cell (p := ⟨z, 0, none⟩) (by show z < _; omega)]
    exact c1
  clear b1 b2 b3 b4 e1 e2 e3 c1 c4 a2 a3
  go_enter Tryz.func22, Tryz.ntmps22
  go_upto_region 1 with fail
  (try rw [hz])
  clear hz
  generalize ((((w.alloc (Obj.cells #[.slice pk ks.length qk] 22)).alloc (Obj.cells #[.int .i64 A.turn, .int .i64 A.next, .int .i64 A.wide, .int .i64 A.high, .slice p1 A.gs.length q1, .slice p2 A.os.length q2, .slice p3 A.gold.length q3, .slice p4 A.us.length q4, .slice p5 A.qs.length q5] 29)).alloc (Obj.cells #[.int .i64 B.turn, .int .i64 B.next, .int .i64 B.wide, .int .i64 B.high, .slice s1 B.gs.length t1, .slice s2 B.os.length t2, .slice s3 B.gold.length t3, .slice s4 B.us.length t4, .slice s5 B.qs.length t5] 29)).alloc (Obj.cells #[.int .i64 p] 3)) = w0 at *
  obtain ⟨x0, x1, x2, x3, x4, x5, x6, x7, x8⟩ := FR.out.2.2.1
  go_wp2_with fail
  refine (told_any z (z + 3) _ _ ks A p w0 (K.out.1.below FR.out.2.2.2.2) K.out.2 (HA.out.below FR.out.2.2.2.2) FR.out.1 FR.out.2.1).mono ?_
  rintro e w1 ⟨u1, r1, rfl, hr, ⟨la, hla, hfa⟩, hb1⟩
  have B1 : Hid (Below w.heap.size w w1) := FR.out.2.2.2.2.trans (hb1.mono FR.out.2.2.2.2.size)
  have F1 : Hid (w1.cell? ⟨z, 0, none⟩ = some (.slice pk ks.length qk) ∧ w1.cell? ⟨z + 3, 0, none⟩ = some (.int .i64 p) ∧ Bw w1 (z + 2) B (.slice s1 B.gs.length t1) (.slice s2 B.os.length t2) (.slice s3 B.gold.length t3) (.slice s4 B.us.length t4) (.slice s5 B.qs.length t5)) := ⟨by rw [hb1.cell (p := ⟨z, 0, none⟩) (cell_lt FR.out.1)]; exact FR.out.1, by rw [hb1.cell (p := ⟨z + 3, 0, none⟩) (cell_lt FR.out.2.1)]; exact FR.out.2.1, FR.out.2.2.2.1.below hb1 FR.out.2.2.2.1.lt⟩
  have LA : Hid (By w1 u1 la ∧ (pfault ks A p = 0 → ∃ Wn : Nat, A.wide = (Wn : Nat) ∧ la = Wd.enc (viewOf ks Wn A p))) := ⟨hla, hfa⟩
  obtain ⟨ua, na, rfl, -⟩ := hla
  clear hb1 hfa x0 x1 x2 x3 x4 x5 x6 x7 x8 FR
  rcases hr with ⟨hf, rfl⟩ | ⟨hf, rfl⟩
  case inr =>
    have HF : Hid (pfault ks A p ≠ 0) := hf
    obtain ⟨fa, hfa⟩ : ∃ f, pfault ks A p = f := ⟨_, rfl⟩
    have FA : Hid (pfault ks A p = fa ∧ fa ≠ 0) := ⟨hfa, by rw [← hfa]; exact hf⟩
    rw [hfa]
    clear hf hfa
    go_wp2
    go_ret2
    exact ⟨_, _, rfl, .inl ⟨HF.out, rfl, by rw [FA.out.1]; exact Er.no FA.out.2⟩, B1.out⟩
  have HF : Hid (pfault ks A p = 0) := hf
  clear hf
  obtain ⟨x0, x1, x2, x3, x4, x5, x6, x7, x8⟩ := F1.out.2.2
  go_wp2_with fail
  refine (told_any z (z + 3) _ _ ks B p w1 (K.out.1.below B1.out) K.out.2 (HB.out.below B1.out) F1.out.1 F1.out.2.1).mono ?_
  rintro e w2 ⟨u2, r2, rfl, hr, ⟨lb, hlb, hfb⟩, hb2⟩
  have B2 : Hid (Below w.heap.size w w2) := B1.out.trans (hb2.mono B1.out.size)
  have LB : Hid (By w2 u2 lb ∧ (pfault ks B p = 0 → ∃ Wn : Nat, B.wide = (Wn : Nat) ∧ lb = Wd.enc (viewOf ks Wn B p))) := ⟨hlb, hfb⟩
  have LA2 : Hid (By w2 (.slice ua la.length na) la) := LA.out.1.below hb2
  obtain ⟨ub, nb, rfl, -⟩ := hlb
  clear hb2 hfb x0 x1 x2 x3 x4 x5 x6 x7 x8 F1
  rcases hr with ⟨hf, rfl⟩ | ⟨hf, rfl⟩
  case inr =>
    have HG : Hid (pfault ks B p ≠ 0) := hf
    obtain ⟨fb, hfb⟩ : ∃ f, pfault ks B p = f := ⟨_, rfl⟩
    have FB : Hid (pfault ks B p = fb ∧ fb ≠ 0) := ⟨hfb, by rw [← hfb]; exact hf⟩
    rw [hfb]
    clear hf hfb
    go_wp2
    go_ret2
    exact ⟨_, _, rfl, .inr (.inl ⟨HF.out, HG.out, rfl, by rw [FB.out.1]; exact Er.no FB.out.2⟩), B2.out⟩
  have HG : Hid (pfault ks B p = 0) := hf
  clear hf
  go_wp2_with fail
  refine (Diff_any _ _ la lb w2 LA2.out LB.out.1).mono ?_
  rintro e w3 ⟨v3, r3, rfl, hs, hb3⟩
  have FIN : Hid (NewsSays ks A B p w w3 v3 r3 ∧ Below w.heap.size w w3) := by
    obtain ⟨Wa, ea, rfl⟩ := LA.out.2 HF.out
    obtain ⟨Wb, eb, rfl⟩ := LB.out.2 HG.out
    refine ⟨.inr (.inr ⟨HF.out, HG.out, Wa, Wb, ea, eb, ?_⟩), B2.out.trans (hb3.mono B2.out.size)⟩
    rcases hs with h | ⟨h1, h2, h3, h4⟩
    · exact .inl h
    · exact .inr ⟨h1, h2, h3, h4.mono B2.out.size⟩
  clear hs hb3
  go_wp2
  go_ret2
  exact ⟨_, _, rfl, FIN.out.1, FIN.out.2⟩
end Go.Proofs.YtkejdkajfnaieaaGreatDoor

