/- The reference's View. · Numbers in bytes: Write. · Bytes: a whole list behind another one; a part of one. · The reference: numbers behind bytes. · The reference: lists of numbers behind bytes. · Worlds: the numbers that are written. · Worlds: Encode. -/
import Derived.Test.YtkejdkajfnaieaaGreatDoorZFeedReads7
import Derived.Test.YtkejdkajfnaieaaGreatDoorZFeedReads2
import Derived.Test.YtkejdkajfnaieaaGreatDoorZFeedReads1
import Derived.Test.YtkejdkajfnaieaaGreatDoorZFeedReads4
import Derived.Laws.IdiomStrings
import Derived.Test.YtkejdkajfnaieaaGreatDoorZFeedReads5
namespace Go.Proofs.YtkejdkajfnaieaaGreatDoor
open Go.RowKit
set_option linter.unusedVariables false

theorem gb_low {a b c : World} {r : Option Nat} {B : Nat} (h : a.grownBy b r) (k : Below B b c) (hB : a.heap.size ≤ B) : a.grownBy c r :=
  ⟨k.os.trans h.os, k.tape.trans h.tape, k.output.trans h.output, Nat.le_trans h.size k.size, fun i hi hn => (k.block i (by omega)).trans (h.block i hi hn)⟩
theorem Bw.gb {w w' : World} {z : Nat} {W : WV} {u1 u2 u3 u4 u5 : Value} {r : Option Nat} (h : Bw w z W u1 u2 u3 u4 u5) (k : w.grownBy w' r) (hn : r ≠ some z) : Bw w' z W u1 u2 u3 u4 u5 :=
  ⟨cell_gb h.c0 k hn, cell_gb h.c1 k hn, cell_gb h.c2 k hn, cell_gb h.c3 k hn, cell_gb h.c4 k hn, cell_gb h.c5 k hn, cell_gb h.c6 k hn, cell_gb h.c7 k hn, cell_gb h.c8 k hn⟩
theorem below_gb {w V V' : World} {n : Nat} {r : Option Nat} (h : Below n w V) (k : V.grownBy V' r) (hn : n ≤ V.heap.size) (hr : ∀ b, r = some b → n ≤ b) : Below n w V' :=
  ⟨k.os.trans h.os, k.tape.trans h.tape, k.output.trans h.output, Nat.le_trans h.size k.size, fun i hi => (k.block i (by omega) (fun e => by have := hr _ e.symm; omega)).trans (h.block i hi)⟩
theorem gold_pos {W : WV} (h : Wd.numsBad W = false) : 0 < W.gold.length := by
  unfold Wd.numsBad at h
  simp only [Bool.or_eq_false_iff] at h
  obtain ⟨-, -, h2, -⟩ := h
  simp at h2
  omega
/-- one more that is kept, or not. -/
theorem keep_yes {α : Type} {q : α → Bool} {l : List α} {n : Nat} {y : α} (hy : l[n]? = some y) (h : q y = false) : (l.take (n + 1)).filter (fun k => !q k) = (l.take n).filter (fun k => !q k) ++ [y] := by
  obtain ⟨hi, e⟩ := List.getElem?_eq_some_iff.1 hy
  rw [List.take_succ_eq_append_getElem hi, e, List.filter_append]
  simp [h]
theorem keep_no {α : Type} {q : α → Bool} {l : List α} {n : Nat} {y : α} (hy : l[n]? = some y) (h : q y = true) : (l.take (n + 1)).filter (fun k => !q k) = (l.take n).filter (fun k => !q k) := by
  obtain ⟨hi, e⟩ := List.getElem?_eq_some_iff.1 hy
  rw [List.take_succ_eq_append_getElem hi, e, List.filter_append]
  simp [h]
set_option maxRecDepth 100000 in
set_option maxHeartbeats 40000000 in
theorem rview_any (vk vw : Value) (ks : List KV) (X : WV) (p : Int) (Wn : Nat) (w : World) (WR0 : WRight ks X) (hww : X.wide = (Wn : Nat)) (hk : Kl w vk ks) (hw : Wl w vw X) :
    Calls Tryz.prog 20 #[vk, vw, .int .i64 p] w fun e w' => ∃ v, e = .returned v ∧ Wo w' w.heap.size v (viewOf ks Wn X p) ∧ Below w.heap.size w w' := by
  have WR : Hid (WRight ks X) := WR0
  have GD : Hid (X.wide = (Wn : Nat) ∧ X.gs.length ≤ 144 ∧ X.os.length = X.gs.length ∧ 0 < X.gs.length ∧ 0 < X.gold.length ∧ X.gold.length ≤ 4) := by
    obtain ⟨Wm, Hn, e1, e2, G⟩ := WR0.good
    exact ⟨hww, by rw [G.gl]; exact G.pos.2, by rw [G.gl, G.ol], by rw [G.gl]; exact G.pos.1, gold_pos WR0.nums, by have := (nums_ok WR0.nums).2; omega⟩
  have K : Hid (Kl w vk ks) := hk
  have H : Hid (Wl w vw X) := hw
  obtain ⟨p1, s1, p2, s2, p3, s3, p4, s4, p5, s5, rfl⟩ := wl_shape9 hw
  obtain ⟨pk, qk, rfl, -⟩ := hk
  clear hw hww WR0
  have B0 : Hid (Below w.heap.size w ((w.alloc (Obj.cells #[.int .i64 X.turn, .int .i64 X.next, .int .i64 X.wide, .int .i64 X.high, .slice p1 X.gs.length s1, .slice p2 X.os.length s2, .slice p3 X.gold.length s3, .slice p4 X.us.length s4, .slice p5 X.qs.length s5] 29)).alloc (Obj.cells #[.int .i64 0, .int .i64 0, .int .i64 0, .int .i64 0, .slice none 0 0, .slice none 0 0, .slice none 0 0, .slice none 0 0, .slice none 0 0] 29))) := ((Below.refl _ _).alloc (Nat.le_refl _) _).alloc (by simp) _
  have X0 : Hid (Bw ((w.alloc (Obj.cells #[.int .i64 X.turn, .int .i64 X.next, .int .i64 X.wide, .int .i64 X.high, .slice p1 X.gs.length s1, .slice p2 X.os.length s2, .slice p3 X.gold.length s3, .slice p4 X.us.length s4, .slice p5 X.qs.length s5] 29)).alloc (Obj.cells #[.int .i64 0, .int .i64 0, .int .i64 0, .int .i64 0, .slice none 0 0, .slice none 0 0, .slice none 0 0, .slice none 0 0, .slice none 0 0] 29)) w.heap.size X (.slice p1 X.gs.length s1) (.slice p2 X.os.length s2) (.slice p3 X.gold.length s3) (.slice p4 X.us.length s4) (.slice p5 X.qs.length s5)) := (Bw.mk' X _ _ _ _ _ rfl).below ((Below.refl _ _).alloc (Nat.le_refl _) _) (by simp)
  have R0 : Hid (Wx ((w.alloc (Obj.cells #[.int .i64 X.turn, .int .i64 X.next, .int .i64 X.wide, .int .i64 X.high, .slice p1 X.gs.length s1, .slice p2 X.os.length s2, .slice p3 X.gold.length s3, .slice p4 X.us.length s4, .slice p5 X.qs.length s5] 29)).alloc (Obj.cells #[.int .i64 0, .int .i64 0, .int .i64 0, .int .i64 0, .slice none 0 0, .slice none 0 0, .slice none 0 0, .slice none 0 0, .slice none 0 0] 29)) (w.heap.size + 1) (.int .i64 0) (.int .i64 0) (.int .i64 0) (.int .i64 0) (.slice none 0 0) (.slice none 0 0) (.slice none 0 0) (.slice none 0 0) (.slice none 0 0)) := Wx.new _ _ _ _ _ _ _ _ _ (by simp)
  go_enter Tryz.func20, Tryz.ntmps20
  go_upto_region 1 with fail
  generalize ((w.alloc (Obj.cells #[.int .i64 X.turn, .int .i64 X.next, .int .i64 X.wide, .int .i64 X.high, .slice p1 X.gs.length s1, .slice p2 X.os.length s2, .slice p3 X.gold.length s3, .slice p4 X.us.length s4, .slice p5 X.qs.length s5] 29)).alloc (Obj.cells #[.int .i64 0, .int .i64 0, .int .i64 0, .int .i64 0, .slice none 0 0, .slice none 0 0, .slice none 0 0, .slice none 0 0, .slice none 0 0] 29)) = w0 at *
  obtain ⟨x0, x1, x2, x3, x4, x5, x6, x7, x8⟩ := X0.out
  go_wp2_with fail
  refine (rcopy_any _ X w0 (H.out.below B0.out) WR.out.len).mono ?_
  rintro e w1 ⟨cu, rfl, ⟨k1, k2, k3, k4, k5, rfl, ⟨o1, o2, o3, o4, o5⟩, d12, d13, -, -, d23, -, -, -, -, -⟩, hb⟩
  obtain ⟨a1, r1, rfl⟩ := o1.len
  obtain ⟨a2, r2, rfl⟩ := o2.len
  obtain ⟨a3, r3, rfl⟩ := o3.len
  obtain ⟨a4, r4, rfl⟩ := o4.len
  obtain ⟨a5, r5, rfl⟩ := o5.len
  obtain ⟨b1, hb1⟩ : ∃ z, w0.heap.size = z := ⟨_, rfl⟩
  rw [hb1] at o1 o2 o3
  have B1 : Hid (Below w.heap.size w w1) := B0.out.trans (hb.mono B0.out.size)
  have Y1 : Hid (Bw w1 w.heap.size X (.slice p1 X.gs.length s1) (.slice p2 X.os.length s2) (.slice p3 X.gold.length s3) (.slice p4 X.us.length s4) (.slice p5 X.qs.length s5)) := X0.out.below hb X0.out.lt
  have R1 : Hid (Wx w1 (w.heap.size + 1) (.int .i64 0) (.int .i64 0) (.int .i64 0) (.int .i64 0) (.slice none 0 0) (.slice none 0 0) (.slice none 0 0) (.slice none 0 0) (.slice none 0 0)) := R0.out.below hb R0.out.lt
  have BS : Hid (w.heap.size + 1 < b1) := by unfold Hid; rw [← hb1]; exact R0.out.lt
  have O1 : Hid (Ow w1 b1 (.slice a1 X.gs.length r1) X.gs ∧ Ow w1 b1 (.slice a2 X.os.length r2) X.os ∧ Ow w1 b1 (.slice a3 X.gold.length r3) X.gold) := ⟨o1, o2, o3⟩
  have DD : Hid (Dif (.slice a1 X.gs.length r1) (.slice a2 X.os.length r2) ∧ Dif (.slice a1 X.gs.length r1) (.slice a3 X.gold.length r3) ∧ Dif (.slice a2 X.os.length r2) (.slice a3 X.gold.length r3)) := ⟨d12, d13, d23⟩
  have S1 : Hid (b1 ≤ w1.heap.size) := by unfold Hid; rw [← hb1]; exact hb.size
  clear hb hb1 o1 o2 o3 o4 o5 d12 d13 d23 x0 x1 x2 x3 x4 x5 x6 x7 x8 B0 X0 R0
  go_upto_region 2 with fail
  have BA : Hid (Below w1.heap.size w1 (w1.alloc (Obj.cells #[.int .i64 X.turn, .int .i64 X.next, .int .i64 X.wide, .int .i64 X.high, .slice a1 X.gs.length r1, .slice a2 X.os.length r2, .slice a3 X.gold.length r3, .slice a4 X.us.length r4, .slice a5 X.qs.length r5] 29))) := (Below.refl _ _).alloc (Nat.le_refl _) _
  obtain ⟨bx, hbx⟩ : ∃ z, w1.heap.size = z := ⟨_, rfl⟩
  have X2 : Hid (Wx (w1.alloc (Obj.cells #[.int .i64 X.turn, .int .i64 X.next, .int .i64 X.wide, .int .i64 X.high, .slice a1 X.gs.length r1, .slice a2 X.os.length r2, .slice a3 X.gold.length r3, .slice a4 X.us.length r4, .slice a5 X.qs.length r5] 29)) bx (.int .i64 X.turn) (.int .i64 X.next) (.int .i64 X.wide) (.int .i64 X.high) (.slice a1 X.gs.length r1) (.slice a2 X.os.length r2) (.slice a3 X.gold.length r3) (.slice a4 X.us.length r4) (.slice a5 X.qs.length r5)) := Wx.new _ _ _ _ _ _ _ _ _ hbx
  have Z2 : Hid ((w1.alloc (Obj.cells #[.int .i64 X.turn, .int .i64 X.next, .int .i64 X.wide, .int .i64 X.high, .slice a1 X.gs.length r1, .slice a2 X.os.length r2, .slice a3 X.gold.length r3, .slice a4 X.us.length r4, .slice a5 X.qs.length r5] 29)).heap.size = bx + 1) := by unfold Hid; rw [← hbx]; simp
  have LB : Hid (b1 ≤ bx ∧ (∀ b, (Value.slice a1 X.gs.length r1).ownBlock = some b → b1 ≤ b ∧ b < bx) ∧ (∀ b, (Value.slice a2 X.os.length r2).ownBlock = some b → b1 ≤ b ∧ b < bx) ∧ (∀ b, (Value.slice a3 X.gold.length r3).ownBlock = some b → b1 ≤ b ∧ b < bx)) := by
    unfold Hid
    rw [← hbx]
    exact ⟨S1.out, O1.out.1.block, O1.out.2.1.block, O1.out.2.2.block⟩
  rw [hbx]
  generalize (w1.alloc (Obj.cells #[.int .i64 X.turn, .int .i64 X.next, .int .i64 X.wide, .int .i64 X.high, .slice a1 X.gs.length r1, .slice a2 X.os.length r2, .slice a3 X.gold.length r3, .slice a4 X.us.length r4, .slice a5 X.qs.length r5] 29)) = w2 at *
  have B2 : Hid (Below w.heap.size w w2) := B1.out.trans (BA.out.mono B1.out.size)
  have Y2 : Hid (Bw w2 w.heap.size X (.slice p1 X.gs.length s1) (.slice p2 X.os.length s2) (.slice p3 X.gold.length s3) (.slice p4 X.us.length s4) (.slice p5 X.qs.length s5)) := Y1.out.below BA.out Y1.out.lt
  have R2 : Hid (Wx w2 (w.heap.size + 1) (.int .i64 0) (.int .i64 0) (.int .i64 0) (.int .i64 0) (.slice none 0 0) (.slice none 0 0) (.slice none 0 0) (.slice none 0 0) (.slice none 0 0)) := R1.out.below BA.out R1.out.lt
  have O2 : Hid (Ow w2 b1 (.slice a1 X.gs.length r1) X.gs ∧ Ow w2 b1 (.slice a2 X.os.length r2) X.os ∧ Ow w2 b1 (.slice a3 X.gold.length r3) X.gold) := ⟨O1.out.1.below BA.out, O1.out.2.1.below BA.out, O1.out.2.2.below BA.out⟩
  clear hbx BA B1 Y1 R1 O1 S1
  obtain ⟨z0, z1, z2, z3, z4, z5, z6, z7, z8⟩ := X2.out.cells
  obtain ⟨t0, t1, t2, t3, t4, t5, t6, t7, t8⟩ := X2.out.thaws
  have X3a : Hid (Wx (w2.setCell ⟨bx, 7, none⟩ (.slice none 0 0)) bx (.int .i64 X.turn) (.int .i64 X.next) (.int .i64 X.wide) (.int .i64 X.high) (.slice a1 X.gs.length r1) (.slice a2 X.os.length r2) (.slice a3 X.gold.length r3) (.slice none 0 0) (.slice a5 X.qs.length r5)) := X2.out.set7 _
  have K3a : Hid (Kp bx w2 (w2.setCell ⟨bx, 7, none⟩ (.slice none 0 0))) := Kp.set _ _ _
  go_upto_region 3 with fail
  clear z0 z1 z2 z3 z4 z5 z6 z7 z8 t0 t1 t2 t3 t4 t5 t6 t7 t8
  generalize (w2.setCell ⟨bx, 7, none⟩ (.slice none 0 0)) = w2' at *
  obtain ⟨z0, z1, z2, z3, z4, z5, z6, z7, z8⟩ := X3a.out.cells
  have t8 := X3a.out.thaw 8
  have X3 : Hid (Wx (w2'.setCell ⟨bx, 8, none⟩ (.slice none 0 0)) bx (.int .i64 X.turn) (.int .i64 X.next) (.int .i64 X.wide) (.int .i64 X.high) (.slice a1 X.gs.length r1) (.slice a2 X.os.length r2) (.slice a3 X.gold.length r3) (.slice none 0 0) (.slice none 0 0)) := X3a.out.set8 _
  have K3 : Hid (Kp bx w2 (w2'.setCell ⟨bx, 8, none⟩ (.slice none 0 0))) := K3a.out.trans (Kp.set _ _ _)
  have Z3a : Hid ((w2'.setCell ⟨bx, 8, none⟩ (.slice none 0 0)).heap.size = w2'.heap.size) := by unfold Hid; simp
  go_upto_region 4 with fail
  clear z0 z1 z2 z3 z4 z5 z6 z7 z8 t8 X3a K3a Z3a
  generalize (w2'.setCell ⟨bx, 8, none⟩ (.slice none 0 0)) = w3 at *
  have Y3 : Hid (Bw w3 w.heap.size X (.slice p1 X.gs.length s1) (.slice p2 X.os.length s2) (.slice p3 X.gold.length s3) (.slice p4 X.us.length s4) (.slice p5 X.qs.length s5)) := Y2.out.kp9 K3.out (by have := LB.out.1; have := BS.out; omega)
  have R3 : Hid (Wx w3 (w.heap.size + 1) (.int .i64 0) (.int .i64 0) (.int .i64 0) (.int .i64 0) (.slice none 0 0) (.slice none 0 0) (.slice none 0 0) (.slice none 0 0) (.slice none 0 0)) := R2.out.kp K3.out (by have := LB.out.1; have := BS.out; omega)
  have B3 : Hid (Below w.heap.size w w3) := K3.out.below B2.out B2.out.size (by have := LB.out.1; have := BS.out; omega)
  have O3 : Hid (Ow w3 b1 (.slice a1 X.gs.length r1) X.gs ∧ Ow w3 b1 (.slice a2 X.os.length r2) X.os ∧ Ow w3 b1 (.slice a3 X.gold.length r3) X.gold) := by
    have hg := gb_kp K3.out
    exact ⟨own_gb O2.out.1 hg (fun b h1 h2 => by have := (LB.out.2.1 b h1).2; have := Option.some.inj h2; omega), own_gb O2.out.2.1 hg (fun b h1 h2 => by have := (LB.out.2.2.1 b h1).2; have := Option.some.inj h2; omega), own_gb O2.out.2.2 hg (fun b h1 h2 => by have := (LB.out.2.2.2 b h1).2; have := Option.some.inj h2; omega)⟩
  obtain ⟨b3, hb3⟩ : ∃ z, w3.heap.size = z := ⟨_, rfl⟩
  have BX : Hid (w.heap.size + 1 < b1 ∧ b1 ≤ bx ∧ bx < b3 ∧ w3.heap.size = b3) := ⟨BS.out, LB.out.1, by rw [← hb3]; exact X3.out.lt, hb3⟩
  clear hb3 K3 B2 Y2 R2 X2 O2 Z2
  go_upto_region 5 with fail
  go_loopw [8] (fun v8 V => ∃ (n : Nat) (lv : Value), v8 = .int .i64 (n : Nat) ∧ n ≤ X.us.length ∧ Wx V bx (.int .i64 X.turn) (.int .i64 X.next) (.int .i64 X.wide) (.int .i64 X.high) (.slice a1 X.gs.length r1) (.slice a2 X.os.length r2) (.slice a3 X.gold.length r3) lv (.slice none 0 0) ∧ Uno V b3 lv ((X.us.take n).filter (fun k => !hidU ks Wn X p k)) ∧ w3.grownBy V (some bx)) (fun v8 _ => X.us.length - (intOf v8).toNat)
  case atStart => exact ⟨0, _, rfl, Nat.zero_le _, X3.out, Uno.nil _ _, gb_below (Below.refl _ _)⟩
  case round =>
    obtain ⟨n, lv, rfl, hn, hx, hl, hg⟩ := hrel
    obtain ⟨ss, hss⟩ : ∃ l, (X.us.take n).filter (fun k => !hidU ks Wn X p k) = l := ⟨_, rfl⟩
    rw [hss] at hl
    obtain ⟨la, lc, rfl⟩ := hl.len
    have SSE : Hid ((X.us.take n).filter (fun k => !hidU ks Wn X p k) = ss) := hss
    have SS : Hid (ss.length ≤ 40) := by
      have h1 : ss.length ≤ (X.us.take n).length := by rw [← hss]; exact List.length_filter_le _ _
      have h2 : (X.us.take n).length ≤ X.us.length := by simp; omega
      have h3 := WR.out.ul
      unfold Hid; omega
    have Xr : Hid (Wx wr bx (.int .i64 X.turn) (.int .i64 X.next) (.int .i64 X.wide) (.int .i64 X.high) (.slice a1 X.gs.length r1) (.slice a2 X.os.length r2) (.slice a3 X.gold.length r3) (.slice la ss.length lc) (.slice none 0 0)) := hx
    have Lr : Hid (Uno wr b3 (.slice la ss.length lc) ss) := hl
    have Kr : Hid (w3.grownBy wr (some bx)) := hg
    have Yr : Hid (Bw wr w.heap.size X (.slice p1 X.gs.length s1) (.slice p2 X.os.length s2) (.slice p3 X.gold.length s3) (.slice p4 X.us.length s4) (.slice p5 X.qs.length s5)) := Y3.out.gb hg (fun e => by have := Option.some.inj e; have := BX.out; omega)
    have Br : Hid (Below w.heap.size w wr) := below_gb B3.out hg B3.out.size (fun b e => by have := Option.some.inj e; have := BX.out; omega)
    have Sr : Hid (b3 ≤ wr.heap.size) := by have h := hg.size; rw [BX.out.2.2.2] at h; exact h
    clear hx hl hg hss
    by_cases h0 : n = X.us.length
    case neg =>
      have hnl : n < X.us.length := by omega
      have hni : ((n : Nat) : Int) < (X.us.length : Nat) := by omega
      have HN : Hid (n < X.us.length) := hnl
      have WN : IntKind.i64.wrap ((n : Nat) + 1 : Int) = ((n : Nat) : Int) + 1 := by have := WR.out.ul; rw [IntKind.wrap_i64]; omega
      obtain ⟨u, hu⟩ : ∃ u, X.us[n]? = some u := ⟨_, List.getElem?_eq_getElem hnl⟩
      obtain ⟨k, fu⟩ := WR.out.fine hu
      obtain ⟨an, han⟩ : ∃ a : Nat, u.at_ = a := ⟨u.at_.toNat, by have := fu.at_.1; omega⟩
      have AL : Hid (an < X.gs.length) := by have := fu.at_.2; unfold Hid; omega
      have HU : Hid (hidU ks Wn X p u = (!(u.player == p) && !seesP ks Wn X.gs X.us p an)) := by unfold Hid hidU; rw [han, Int.toNat_natCast]
      have KY := fun h => keep_yes (q := hidU ks Wn X p) hu h
      have KN := fun h => keep_no (q := hidU ks Wn X p) hu h
      rw [SSE.out] at KY KN
      obtain ⟨pa, pc, he, -, -, hus⟩ := H.out.slices.2.2.2.1
      obtain ⟨xu, hxu, hxul, hxuc⟩ := hus (by intro h; rw [h] at hnl; simp at hnl)
      injection he with he1 he2 he3
      subst he1
      subst hxu
      have UC : Hid (Unc w (xu.add (n * 8)) u ∧ (xu.add (n * 8)).block < w.heap.size) := ⟨hxuc n u hu, by rw [add_block]; exact hxul⟩
      have UB : Hid ((xu.add (n * 8)).block < b3) := by have := UC.out.2; have := BX.out; unfold Hid; omega
      have HE : Hid (u.at_ = (an : Nat)) := han
      have x7 := Yr.out.c7
      clear hus he2 he3 hxul hxuc hu fu han
      go_upto_region 7 with fail
      clear x7
      have CB : Hid (∀ V, Below w.heap.size w V → Bw V w.heap.size X (.slice p1 X.gs.length s1) (.slice p2 X.os.length s2) (.slice p3 X.gold.length s3) (.slice (some xu) X.us.length s4) (.slice p5 X.qs.length s5) → (Bw V w.heap.size X (.slice p1 X.gs.length s1) (.slice p2 X.os.length s2) (.slice p3 X.gold.length s3) (.slice (some xu) X.us.length s4) (.slice p5 X.qs.length s5) ∧ V.cell? ⟨(xu.add (n * 8)).block, (xu.add (n * 8)).off + 3, none⟩ = some (.int .i64 (an : Nat)))) := fun V hb hy => ⟨hy, by have := (UC.out.1.below hb UC.out.2).c3; rw [HE.out] at this; exact this⟩
      refine wp_region_two [(true, 0), (true, 1), (true, 2), (true, 3), (true, 4), (true, 5), (true, 6), (true, 7), (true, 8), (false, 9)] [(false, 10)] (fun V => Bw V w.heap.size X (.slice p1 X.gs.length s1) (.slice p2 X.os.length s2) (.slice p3 X.gold.length s3) (.slice (some xu) X.us.length s4) (.slice p5 X.qs.length s5) ∧ V.cell? ⟨(xu.add (n * 8)).block, (xu.add (n * 8)).off + 3, none⟩ = some (.int .i64 (an : Nat))) (by kernel_rfl) (by kernel_rfl) (by kernel_rfl) (by decide +kernel) (by decide +kernel) (CB.out _ Br.out.drew (Yr.out.below ((Below.refl _ _).drew) Yr.out.lt)) ?_
      have D4 : Hid (Below wr.heap.size wr { wr with drawn := wr.drawn + 1 }) := (Below.refl _ _).drew
      generalize ({ wr with drawn := wr.drawn + 1 } : World) = w4 at *
      have Y4 : Hid (Bw w4 w.heap.size X (.slice p1 X.gs.length s1) (.slice p2 X.os.length s2) (.slice p3 X.gold.length s3) (.slice (some xu) X.us.length s4) (.slice p5 X.qs.length s5)) := Yr.out.below D4.out Yr.out.lt
      have B4 : Hid (Below w.heap.size w w4) := Br.out.trans (D4.out.mono Br.out.size)
      refine headT_read rfl (.slice pk ks.length qk) (by go_simp) (fun V hV => by go_simp) ?_
      go_simp
      refine headT_read rfl (.agg #[.int .i64 X.turn, .int .i64 X.next, .int .i64 X.wide, .int .i64 X.high, .slice p1 X.gs.length s1, .slice p2 X.os.length s2, .slice p3 X.gold.length s3, .slice (some xu) X.us.length s4, .slice p5 X.qs.length s5]) (by go_simp) (fun V hV => by obtain ⟨⟨x0, x1, x2, x3, x4, x5, x6, x7, x8⟩, d1⟩ := hV; go_simp) ?_
      go_simp
      refine headT_read rfl (.int .i64 p) (by go_simp) (fun V hV => by go_simp) ?_
      go_simp
      refine headT_read rfl (.pointer (some ⟨w.heap.size, 7, none⟩)) (by go_simp) (fun V hV => by go_simp) ?_
      go_simp
      refine headT_read rfl (.slice (some xu) X.us.length s4) (by go_simp) (fun V hV => by obtain ⟨⟨x0, x1, x2, x3, x4, x5, x6, x7, x8⟩, d1⟩ := hV; go_simp) ?_
      go_simp
      refine headT_read rfl (.int .i64 (n : Nat)) (by go_simp) (fun V hV => by go_simp) ?_
      go_simp
      refine headT_read rfl (.pointer (some (xu.add (n * 8)))) (by go_simp) (fun V hV => by go_simp) ?_
      go_simp
      refine headT_read rfl (.pointer (some ⟨(xu.add (n * 8)).block, (xu.add (n * 8)).off + 3, none⟩)) (by go_simp) (fun V hV => by go_simp) ?_
      go_simp
      refine headT_read rfl (.int .i64 (an : Nat)) (by go_simp) (fun V hV => by obtain ⟨⟨x0, x1, x2, x3, x4, x5, x6, x7, x8⟩, d1⟩ := hV; go_simp) ?_
      go_simp
      refine headT_call rfl 68 #[.slice pk ks.length qk, .agg #[.int .i64 X.turn, .int .i64 X.next, .int .i64 X.wide, .int .i64 X.high, .slice p1 X.gs.length s1, .slice p2 X.os.length s2, .slice p3 X.gold.length s3, .slice (some xu) X.us.length s4, .slice p5 X.qs.length s5], .int .i64 p, .int .i64 (an : Nat)] (by go_simp) (by go_simp) ?_
      refine (rsees_any _ _ ks X p Wn an w4 WR.out GD.out.1 AL.out (K.out.below B4.out) (H.out.below B4.out)).mono ?_
      rintro e wa ⟨rfl, hb⟩
      have DA : Hid (Below wr.heap.size wr wa) := D4.out.trans (hb.mono D4.out.size)
      have Ya : Hid (Bw wa w.heap.size X (.slice p1 X.gs.length s1) (.slice p2 X.os.length s2) (.slice p3 X.gold.length s3) (.slice (some xu) X.us.length s4) (.slice p5 X.qs.length s5)) := Y4.out.below hb Y4.out.lt
      have Ba : Hid (Below w.heap.size w wa) := B4.out.trans (hb.mono B4.out.size)
      refine ⟨_, rfl, CB.out _ Ba.out Ya.out, ?_⟩
      have Xa : Hid (Wx wa bx (.int .i64 X.turn) (.int .i64 X.next) (.int .i64 X.wide) (.int .i64 X.high) (.slice a1 X.gs.length r1) (.slice a2 X.os.length r2) (.slice a3 X.gold.length r3) (.slice la ss.length lc) (.slice none 0 0)) := Xr.out.below DA.out Xr.out.lt
      have La : Hid (Uno wa b3 (.slice la ss.length lc) ss) := Lr.out.below DA.out
      have Ka : Hid (w3.grownBy wa (some bx)) := gb_trans Kr.out (gb_below DA.out)
      have Ua : Hid (Unc wa (xu.add (n * 8)) u) := UC.out.1.below Ba.out UC.out.2
      have Sa : Hid (b3 ≤ wa.heap.size) := Nat.le_trans Sr.out DA.out.size
      obtain ⟨t, ht⟩ : ∃ t, seesP ks Wn X.gs X.us p an = t := ⟨_, rfl⟩
      rw [ht] at HU ⊢
      clear hb ht D4 Y4 B4 DA CB Xr Lr Kr Yr Br Sr
      go_simp
      refine sched_value rfl (.bool t) wa (by go_simp) (by go_simp) trivial ?_
      go_simp
      unfold wpSched
      obtain ⟨y0, y1, y2, y3, y4, y5, y6, y7⟩ := Ua.out
      have x7 := Ya.out.c7
      cases t with
      | true =>
        have NY : Hid ((X.us.take (n + 1)).filter (fun k => !hidU ks Wn X p k) = ss ++ [u]) := KY (by rw [HU.out]; simp)
        clear KY KN
        go_upto_region 9 with fail
        have CB : Hid (∀ V, Bw V w.heap.size X (.slice p1 X.gs.length s1) (.slice p2 X.os.length s2) (.slice p3 X.gold.length s3) (.slice (some xu) X.us.length s4) (.slice p5 X.qs.length s5) → Wx V bx (.int .i64 X.turn) (.int .i64 X.next) (.int .i64 X.wide) (.int .i64 X.high) (.slice a1 X.gs.length r1) (.slice a2 X.os.length r2) (.slice a3 X.gold.length r3) (.slice la ss.length lc) (.slice none 0 0) → Unc V (xu.add (n * 8)) u → (V.cell? ⟨bx, 7, none⟩ = some (.slice la ss.length lc) ∧ V.cell? ⟨w.heap.size, 7, none⟩ = some (.slice (some xu) X.us.length s4) ∧ Unc V (xu.add (n * 8)) u)) := fun V hy hx hu => ⟨hx.cells.2.2.2.2.2.2.2.1, hy.c7, hu⟩
        refine wp_region_two [(true, 0), (true, 1), (true, 2), (true, 3), (true, 4), (true, 5), (true, 6), (false, 7), (false, 8), (true, 9)] [(false, 10)] (fun V => V.cell? ⟨bx, 7, none⟩ = some (.slice la ss.length lc) ∧ V.cell? ⟨w.heap.size, 7, none⟩ = some (.slice (some xu) X.us.length s4) ∧ Unc V (xu.add (n * 8)) u) (by kernel_rfl) (by kernel_rfl) (by kernel_rfl) (by decide +kernel) (by decide +kernel) (CB.out _ (Ya.out.below ((Below.refl _ _).drew) Ya.out.lt) Xa.out.drew (Ua.out.below ((Below.refl _ _).drew) Ua.out.lt)) ?_
        have D6 : Hid (Below wa.heap.size wa { wa with drawn := wa.drawn + 1 }) := (Below.refl _ _).drew
        generalize ({ wa with drawn := wa.drawn + 1 } : World) = w6 at *
        have Y6 : Hid (Bw w6 w.heap.size X (.slice p1 X.gs.length s1) (.slice p2 X.os.length s2) (.slice p3 X.gold.length s3) (.slice (some xu) X.us.length s4) (.slice p5 X.qs.length s5)) := Ya.out.below D6.out Ya.out.lt
        have X6 : Hid (Wx w6 bx (.int .i64 X.turn) (.int .i64 X.next) (.int .i64 X.wide) (.int .i64 X.high) (.slice a1 X.gs.length r1) (.slice a2 X.os.length r2) (.slice a3 X.gold.length r3) (.slice la ss.length lc) (.slice none 0 0)) := Xa.out.below D6.out Xa.out.lt
        have U6 : Hid (Unc w6 (xu.add (n * 8)) u) := Ua.out.below D6.out Ua.out.lt
        have L6 : Hid (Uno w6 b3 (.slice la ss.length lc) ss) := La.out.below D6.out
        have K6 : Hid (w3.grownBy w6 (some bx)) := gb_trans Ka.out (gb_below D6.out)
        have S6 : Hid (b3 ≤ w6.heap.size) := Nat.le_trans Sa.out D6.out.size
        clear Ya Xa Ua La Ka Sa D6
        refine headT_read rfl (.pointer (some ⟨bx, 7, none⟩)) (by go_simp) (fun V hV => by go_simp) ?_
        go_simp
        refine headT_read rfl (.slice la ss.length lc) (by go_simp) (fun V hV => by obtain ⟨e1, e2, ⟨y0, y1, y2, y3, y4, y5, y6, y7⟩⟩ := hV; go_simp) ?_
        go_simp
        refine headT_read rfl (.pointer (some ⟨w.heap.size, 7, none⟩)) (by go_simp) (fun V hV => by go_simp) ?_
        go_simp
        refine headT_read rfl (.slice (some xu) X.us.length s4) (by go_simp) (fun V hV => by obtain ⟨e1, e2, ⟨y0, y1, y2, y3, y4, y5, y6, y7⟩⟩ := hV; go_simp) ?_
        go_simp
        refine headT_read rfl (.int .i64 (n : Nat)) (by go_simp) (fun V hV => by go_simp) ?_
        go_simp
        refine headT_read rfl (.pointer (some (xu.add (n * 8)))) (by go_simp) (fun V hV => by go_simp) ?_
        go_simp
        refine headT_read rfl (.agg #[.int .i64 u.id, .int .i64 u.player, .int .i64 u.kind, .int .i64 u.at_, .int .i64 u.life, .int .i64 u.load, .int .i64 u.task, .int .i64 u.goal]) (by go_simp) (fun V hV => by obtain ⟨e1, e2, ⟨y0, y1, y2, y3, y4, y5, y6, y7⟩⟩ := hV; go_simp) ?_
        go_simp
        have BA : Hid (Below w6.heap.size w6 (w6.alloc (Obj.cells #[.int .i64 u.id, .int .i64 u.player, .int .i64 u.kind, .int .i64 u.at_, .int .i64 u.life, .int .i64 u.load, .int .i64 u.task, .int .i64 u.goal] 42))) := (Below.refl _ _).alloc (Nat.le_refl _) _
        have EC : Hid (Unc (w6.alloc (Obj.cells #[.int .i64 u.id, .int .i64 u.player, .int .i64 u.kind, .int .i64 u.at_, .int .i64 u.life, .int .i64 u.load, .int .i64 u.task, .int .i64 u.goal] 42)) ⟨w6.heap.size, 0, none⟩ u) := Unc.mk' u rfl
        refine headT_value rfl (.slice (some ⟨w6.heap.size, 0, none⟩) 1 1) (w6.alloc (Obj.cells #[.int .i64 u.id, .int .i64 u.player, .int .i64 u.kind, .int .i64 u.at_, .int .i64 u.life, .int .i64 u.load, .int .i64 u.task, .int .i64 u.goal] 42)) (by go_simp) (by go_simp) (CB.out _ (Y6.out.below BA.out Y6.out.lt) (X6.out.below BA.out X6.out.lt) (U6.out.below BA.out U6.out.lt)) ?_
        go_simp
        generalize (w6.alloc (Obj.cells #[.int .i64 u.id, .int .i64 u.player, .int .i64 u.kind, .int .i64 u.at_, .int .i64 u.life, .int .i64 u.load, .int .i64 u.task, .int .i64 u.goal] 42)) = w7 at *
        have Y7 : Hid (Bw w7 w.heap.size X (.slice p1 X.gs.length s1) (.slice p2 X.os.length s2) (.slice p3 X.gold.length s3) (.slice (some xu) X.us.length s4) (.slice p5 X.qs.length s5)) := Y6.out.below BA.out Y6.out.lt
        have X7 : Hid (Wx w7 bx (.int .i64 X.turn) (.int .i64 X.next) (.int .i64 X.wide) (.int .i64 X.high) (.slice a1 X.gs.length r1) (.slice a2 X.os.length r2) (.slice a3 X.gold.length r3) (.slice la ss.length lc) (.slice none 0 0)) := X6.out.below BA.out X6.out.lt
        have U7 : Hid (Unc w7 (xu.add (n * 8)) u) := U6.out.below BA.out U6.out.lt
        have L7 : Hid (Uno w7 b3 (.slice la ss.length lc) ss) := L6.out.below BA.out
        have K7 : Hid (w3.grownBy w7 (some bx)) := gb_trans K6.out (gb_below BA.out)
        have S7 : Hid (b3 ≤ w7.heap.size) := Nat.le_trans S6.out BA.out.size
        clear Y6 X6 U6 L6 K6 S6 BA
        obtain ⟨gg, gc, w8, hr, ho8, hg8, -, -⟩ := run_un w7 26 b3 (.slice la ss.length lc) ss L7.out _ _ EC.out (by have := SS.out; omega) S7.out
        have BG : Hid (Below b3 w7 w8) := (Below.refl _ _).grown hg8 S7.out (fun b hb => (World.ownsRow.lt L7.out b hb).1)
        have Y8 : Hid (Bw w8 w.heap.size X (.slice p1 X.gs.length s1) (.slice p2 X.os.length s2) (.slice p3 X.gold.length s3) (.slice (some xu) X.us.length s4) (.slice p5 X.qs.length s5)) := Y7.out.below BG.out (by have := BX.out; omega)
        have X8 : Hid (Wx w8 bx (.int .i64 X.turn) (.int .i64 X.next) (.int .i64 X.wide) (.int .i64 X.high) (.slice a1 X.gs.length r1) (.slice a2 X.os.length r2) (.slice a3 X.gold.length r3) (.slice la ss.length lc) (.slice none 0 0)) := X7.out.below BG.out (by have := BX.out; omega)
        have U8 : Hid (Unc w8 (xu.add (n * 8)) u) := U7.out.below BG.out (by have := UB.out; have := BX.out; omega)
        have K8 : Hid (w3.grownBy w8 (some bx)) := gb_low K7.out BG.out (by have := BX.out; omega)
        have L8 : Hid (Uno w8 b3 (.slice (some ⟨gg, 0, none⟩) (ss.length + 1) gc) (ss ++ [u])) := ho8
        have S8 : Hid (b3 ≤ w8.heap.size) := Nat.le_trans S7.out BG.out.size
        refine headT_value rfl (.slice (some ⟨gg, 0, none⟩) (ss.length + 1) gc) w8 (by go_simp) (exec_append _ _ _ _ rfl _ _ (by go_simp) (by go_simp) hr) (CB.out _ Y8.out X8.out U8.out) ?_
        clear hr ho8 hg8 Y7 X7 U7 L7 K7 S7 BG EC
        go_simp
        refine headT_read rfl (.pointer (some ⟨bx, 7, none⟩)) (by go_simp) (fun V hV => by go_simp) ?_
        go_simp
        unfold wpHeadT
        have t8 := X8.out.thaw 7
        obtain ⟨m0, m1, m2, m3, m4, m5, m6, m7, m8⟩ := X8.out.cells
        have X9 : Hid (Wx (w8.setCell ⟨bx, 7, none⟩ (.slice (some ⟨gg, 0, none⟩) (ss.length + 1) gc)) bx (.int .i64 X.turn) (.int .i64 X.next) (.int .i64 X.wide) (.int .i64 X.high) (.slice a1 X.gs.length r1) (.slice a2 X.os.length r2) (.slice a3 X.gold.length r3) (.slice (some ⟨gg, 0, none⟩) (ss.length + 1) gc) (.slice none 0 0)) := X8.out.set7 _
        have KS : Hid (Kp bx w8 (w8.setCell ⟨bx, 7, none⟩ (.slice (some ⟨gg, 0, none⟩) (ss.length + 1) gc))) := Kp.set _ _ _
        refine sched_skip rfl (w8.setCell ⟨bx, 7, none⟩ (.slice (some ⟨gg, 0, none⟩) (ss.length + 1) gc)) (by go_simp) (by go_simp) trivial ?_
        go_simp
        clear t8 m0 m1 m2 m3 m4 m5 m6 m7 m8
        generalize (w8.setCell ⟨bx, 7, none⟩ (.slice (some ⟨gg, 0, none⟩) (ss.length + 1) gc)) = w9 at *
        have L9 : Hid (Uno w9 b3 (.slice (some ⟨gg, 0, none⟩) (ss.length + 1) gc) (ss ++ [u])) := L8.out.kp KS.out (by have := BX.out; omega)
        have K9 : Hid (w3.grownBy w9 (some bx)) := gb_trans K8.out (gb_kp KS.out)
        unfold wpSched
        clear Y8 X8 U8 L8 K8 S8 CB KS
        go_wp2
        go_round
        case rel => exact ⟨n + 1, _, by go_num, by have := HN.out; omega, X9.out, by rw [NY.out]; exact L9.out, K9.out⟩
        case measure => simp [intOf]; omega
      | false =>
        by_cases hp : u.player = p
        · have NY : Hid ((X.us.take (n + 1)).filter (fun k => !hidU ks Wn X p k) = ss ++ [u]) := KY (by rw [HU.out, hp]; simp)
          rw [hp] at y1
          clear KY KN hp
          go_upto_region 9 with fail
          have CB : Hid (∀ V, Bw V w.heap.size X (.slice p1 X.gs.length s1) (.slice p2 X.os.length s2) (.slice p3 X.gold.length s3) (.slice (some xu) X.us.length s4) (.slice p5 X.qs.length s5) → Wx V bx (.int .i64 X.turn) (.int .i64 X.next) (.int .i64 X.wide) (.int .i64 X.high) (.slice a1 X.gs.length r1) (.slice a2 X.os.length r2) (.slice a3 X.gold.length r3) (.slice la ss.length lc) (.slice none 0 0) → Unc V (xu.add (n * 8)) u → (V.cell? ⟨bx, 7, none⟩ = some (.slice la ss.length lc) ∧ V.cell? ⟨w.heap.size, 7, none⟩ = some (.slice (some xu) X.us.length s4) ∧ Unc V (xu.add (n * 8)) u)) := fun V hy hx hu => ⟨hx.cells.2.2.2.2.2.2.2.1, hy.c7, hu⟩
          refine wp_region_two [(true, 0), (true, 1), (true, 2), (true, 3), (true, 4), (true, 5), (true, 6), (false, 7), (false, 8), (true, 9)] [(false, 10)] (fun V => V.cell? ⟨bx, 7, none⟩ = some (.slice la ss.length lc) ∧ V.cell? ⟨w.heap.size, 7, none⟩ = some (.slice (some xu) X.us.length s4) ∧ Unc V (xu.add (n * 8)) u) (by kernel_rfl) (by kernel_rfl) (by kernel_rfl) (by decide +kernel) (by decide +kernel) (CB.out _ (Ya.out.below ((Below.refl _ _).drew) Ya.out.lt) Xa.out.drew (Ua.out.below ((Below.refl _ _).drew) Ua.out.lt)) ?_
          have D6 : Hid (Below wa.heap.size wa { wa with drawn := wa.drawn + 1 }) := (Below.refl _ _).drew
          generalize ({ wa with drawn := wa.drawn + 1 } : World) = w6 at *
          have Y6 : Hid (Bw w6 w.heap.size X (.slice p1 X.gs.length s1) (.slice p2 X.os.length s2) (.slice p3 X.gold.length s3) (.slice (some xu) X.us.length s4) (.slice p5 X.qs.length s5)) := Ya.out.below D6.out Ya.out.lt
          have X6 : Hid (Wx w6 bx (.int .i64 X.turn) (.int .i64 X.next) (.int .i64 X.wide) (.int .i64 X.high) (.slice a1 X.gs.length r1) (.slice a2 X.os.length r2) (.slice a3 X.gold.length r3) (.slice la ss.length lc) (.slice none 0 0)) := Xa.out.below D6.out Xa.out.lt
          have U6 : Hid (Unc w6 (xu.add (n * 8)) u) := Ua.out.below D6.out Ua.out.lt
          have L6 : Hid (Uno w6 b3 (.slice la ss.length lc) ss) := La.out.below D6.out
          have K6 : Hid (w3.grownBy w6 (some bx)) := gb_trans Ka.out (gb_below D6.out)
          have S6 : Hid (b3 ≤ w6.heap.size) := Nat.le_trans Sa.out D6.out.size
          clear Ya Xa Ua La Ka Sa D6
          refine headT_read rfl (.pointer (some ⟨bx, 7, none⟩)) (by go_simp) (fun V hV => by go_simp) ?_
          go_simp
          refine headT_read rfl (.slice la ss.length lc) (by go_simp) (fun V hV => by obtain ⟨e1, e2, ⟨y0, y1, y2, y3, y4, y5, y6, y7⟩⟩ := hV; go_simp) ?_
          go_simp
          refine headT_read rfl (.pointer (some ⟨w.heap.size, 7, none⟩)) (by go_simp) (fun V hV => by go_simp) ?_
          go_simp
          refine headT_read rfl (.slice (some xu) X.us.length s4) (by go_simp) (fun V hV => by obtain ⟨e1, e2, ⟨y0, y1, y2, y3, y4, y5, y6, y7⟩⟩ := hV; go_simp) ?_
          go_simp
          refine headT_read rfl (.int .i64 (n : Nat)) (by go_simp) (fun V hV => by go_simp) ?_
          go_simp
          refine headT_read rfl (.pointer (some (xu.add (n * 8)))) (by go_simp) (fun V hV => by go_simp) ?_
          go_simp
          refine headT_read rfl (.agg #[.int .i64 u.id, .int .i64 u.player, .int .i64 u.kind, .int .i64 u.at_, .int .i64 u.life, .int .i64 u.load, .int .i64 u.task, .int .i64 u.goal]) (by go_simp) (fun V hV => by obtain ⟨e1, e2, ⟨y0, y1, y2, y3, y4, y5, y6, y7⟩⟩ := hV; go_simp) ?_
          go_simp
          have BA : Hid (Below w6.heap.size w6 (w6.alloc (Obj.cells #[.int .i64 u.id, .int .i64 u.player, .int .i64 u.kind, .int .i64 u.at_, .int .i64 u.life, .int .i64 u.load, .int .i64 u.task, .int .i64 u.goal] 42))) := (Below.refl _ _).alloc (Nat.le_refl _) _
          have EC : Hid (Unc (w6.alloc (Obj.cells #[.int .i64 u.id, .int .i64 u.player, .int .i64 u.kind, .int .i64 u.at_, .int .i64 u.life, .int .i64 u.load, .int .i64 u.task, .int .i64 u.goal] 42)) ⟨w6.heap.size, 0, none⟩ u) := Unc.mk' u rfl
          refine headT_value rfl (.slice (some ⟨w6.heap.size, 0, none⟩) 1 1) (w6.alloc (Obj.cells #[.int .i64 u.id, .int .i64 u.player, .int .i64 u.kind, .int .i64 u.at_, .int .i64 u.life, .int .i64 u.load, .int .i64 u.task, .int .i64 u.goal] 42)) (by go_simp) (by go_simp) (CB.out _ (Y6.out.below BA.out Y6.out.lt) (X6.out.below BA.out X6.out.lt) (U6.out.below BA.out U6.out.lt)) ?_
          go_simp
          generalize (w6.alloc (Obj.cells #[.int .i64 u.id, .int .i64 u.player, .int .i64 u.kind, .int .i64 u.at_, .int .i64 u.life, .int .i64 u.load, .int .i64 u.task, .int .i64 u.goal] 42)) = w7 at *
          have Y7 : Hid (Bw w7 w.heap.size X (.slice p1 X.gs.length s1) (.slice p2 X.os.length s2) (.slice p3 X.gold.length s3) (.slice (some xu) X.us.length s4) (.slice p5 X.qs.length s5)) := Y6.out.below BA.out Y6.out.lt
          have X7 : Hid (Wx w7 bx (.int .i64 X.turn) (.int .i64 X.next) (.int .i64 X.wide) (.int .i64 X.high) (.slice a1 X.gs.length r1) (.slice a2 X.os.length r2) (.slice a3 X.gold.length r3) (.slice la ss.length lc) (.slice none 0 0)) := X6.out.below BA.out X6.out.lt
          have U7 : Hid (Unc w7 (xu.add (n * 8)) u) := U6.out.below BA.out U6.out.lt
          have L7 : Hid (Uno w7 b3 (.slice la ss.length lc) ss) := L6.out.below BA.out
          have K7 : Hid (w3.grownBy w7 (some bx)) := gb_trans K6.out (gb_below BA.out)
          have S7 : Hid (b3 ≤ w7.heap.size) := Nat.le_trans S6.out BA.out.size
          clear Y6 X6 U6 L6 K6 S6 BA
          obtain ⟨gg, gc, w8, hr, ho8, hg8, -, -⟩ := run_un w7 26 b3 (.slice la ss.length lc) ss L7.out _ _ EC.out (by have := SS.out; omega) S7.out
          have BG : Hid (Below b3 w7 w8) := (Below.refl _ _).grown hg8 S7.out (fun b hb => (World.ownsRow.lt L7.out b hb).1)
          have Y8 : Hid (Bw w8 w.heap.size X (.slice p1 X.gs.length s1) (.slice p2 X.os.length s2) (.slice p3 X.gold.length s3) (.slice (some xu) X.us.length s4) (.slice p5 X.qs.length s5)) := Y7.out.below BG.out (by have := BX.out; omega)
          have X8 : Hid (Wx w8 bx (.int .i64 X.turn) (.int .i64 X.next) (.int .i64 X.wide) (.int .i64 X.high) (.slice a1 X.gs.length r1) (.slice a2 X.os.length r2) (.slice a3 X.gold.length r3) (.slice la ss.length lc) (.slice none 0 0)) := X7.out.below BG.out (by have := BX.out; omega)
          have U8 : Hid (Unc w8 (xu.add (n * 8)) u) := U7.out.below BG.out (by have := UB.out; have := BX.out; omega)
          have K8 : Hid (w3.grownBy w8 (some bx)) := gb_low K7.out BG.out (by have := BX.out; omega)
          have L8 : Hid (Uno w8 b3 (.slice (some ⟨gg, 0, none⟩) (ss.length + 1) gc) (ss ++ [u])) := ho8
          have S8 : Hid (b3 ≤ w8.heap.size) := Nat.le_trans S7.out BG.out.size
          refine headT_value rfl (.slice (some ⟨gg, 0, none⟩) (ss.length + 1) gc) w8 (by go_simp) (exec_append _ _ _ _ rfl _ _ (by go_simp) (by go_simp) hr) (CB.out _ Y8.out X8.out U8.out) ?_
          clear hr ho8 hg8 Y7 X7 U7 L7 K7 S7 BG EC
          go_simp
          refine headT_read rfl (.pointer (some ⟨bx, 7, none⟩)) (by go_simp) (fun V hV => by go_simp) ?_
          go_simp
          unfold wpHeadT
          have t8 := X8.out.thaw 7
          obtain ⟨m0, m1, m2, m3, m4, m5, m6, m7, m8⟩ := X8.out.cells
          have X9 : Hid (Wx (w8.setCell ⟨bx, 7, none⟩ (.slice (some ⟨gg, 0, none⟩) (ss.length + 1) gc)) bx (.int .i64 X.turn) (.int .i64 X.next) (.int .i64 X.wide) (.int .i64 X.high) (.slice a1 X.gs.length r1) (.slice a2 X.os.length r2) (.slice a3 X.gold.length r3) (.slice (some ⟨gg, 0, none⟩) (ss.length + 1) gc) (.slice none 0 0)) := X8.out.set7 _
          have KS : Hid (Kp bx w8 (w8.setCell ⟨bx, 7, none⟩ (.slice (some ⟨gg, 0, none⟩) (ss.length + 1) gc))) := Kp.set _ _ _
          refine sched_skip rfl (w8.setCell ⟨bx, 7, none⟩ (.slice (some ⟨gg, 0, none⟩) (ss.length + 1) gc)) (by go_simp) (by go_simp) trivial ?_
          go_simp
          clear t8 m0 m1 m2 m3 m4 m5 m6 m7 m8
          generalize (w8.setCell ⟨bx, 7, none⟩ (.slice (some ⟨gg, 0, none⟩) (ss.length + 1) gc)) = w9 at *
          have L9 : Hid (Uno w9 b3 (.slice (some ⟨gg, 0, none⟩) (ss.length + 1) gc) (ss ++ [u])) := L8.out.kp KS.out (by have := BX.out; omega)
          have K9 : Hid (w3.grownBy w9 (some bx)) := gb_trans K8.out (gb_kp KS.out)
          unfold wpSched
          clear Y8 X8 U8 L8 K8 S8 CB KS
          go_wp2
          go_round
          case rel => exact ⟨n + 1, _, by go_num, by have := HN.out; omega, X9.out, by rw [NY.out]; exact L9.out, K9.out⟩
          case measure => simp [intOf]; omega
        · have hp' : (u.player == p) = false := by rw [beq_eq_false_iff_ne]; exact hp
          have NY : Hid ((X.us.take (n + 1)).filter (fun k => !hidU ks Wn X p k) = ss) := KN (by rw [HU.out, hp']; rfl)
          clear KY KN
          go_wp2
          go_round
          case rel => exact ⟨n + 1, _, by go_num, by have := HN.out; omega, Xa.out, by rw [NY.out]; exact La.out, Ka.out⟩
          case measure => simp [intOf]; omega
    subst h0
    have ST : Hid (X.us.filter (fun k => !hidU ks Wn X p k) = ss) := by have := SSE.out; rw [List.take_of_length_le (Nat.le_refl _)] at this; exact this
    have Or : Hid (Ow wr b1 (.slice a1 X.gs.length r1) X.gs ∧ Ow wr b1 (.slice a2 X.os.length r2) X.os ∧ Ow wr b1 (.slice a3 X.gold.length r3) X.gold) :=
      ⟨own_gb O3.out.1 Kr.out (fun b h1 h2 => by have := (LB.out.2.1 b h1).2; have := Option.some.inj h2; omega), own_gb O3.out.2.1 Kr.out (fun b h1 h2 => by have := (LB.out.2.2.1 b h1).2; have := Option.some.inj h2; omega), own_gb O3.out.2.2 Kr.out (fun b h1 h2 => by have := (LB.out.2.2.2 b h1).2; have := Option.some.inj h2; omega)⟩
    have Rr : Hid (Wx wr (w.heap.size + 1) (.int .i64 0) (.int .i64 0) (.int .i64 0) (.int .i64 0) (.slice none 0 0) (.slice none 0 0) (.slice none 0 0) (.slice none 0 0) (.slice none 0 0)) := R3.out.gb Kr.out (fun e => by have := Option.some.inj e; have := BX.out; omega)
    have x7 := Yr.out.c7
    go_upto_region 11 with fail
    clear x7 SSE SS Kr Y3 R3 B3 O3 X3 Sr
    generalize la = a6 at *
    generalize lc = r6 at *
    generalize ss = st at *
    generalize wr = w3' at *
    obtain ⟨b4, hb4⟩ : ∃ z, w3'.heap.size = z := ⟨_, rfl⟩
    have LU : Hid (∀ b, (Value.slice a6 st.length r6).ownBlock = some b → b3 ≤ b ∧ b < b4) := by unfold Hid; rw [← hb4]; exact World.ownsRow.lt Lr.out
    have BY : Hid (w.heap.size + 1 < b1 ∧ b1 ≤ bx ∧ bx < b4 ∧ w3'.heap.size = b4) := ⟨BX.out.1, BX.out.2.1, by rw [← hb4]; exact Xr.out.lt, hb4⟩
    have BZ : Hid (bx < b3) := BX.out.2.2.1
    clear hb4 BX
    have BX := BY
    clear BY
    generalize hb34 : b3 = bu at *
    clear hb34
    generalize b4 = b3 at *
    generalize w3' = w3 at *
    go_loopw [10] (fun v10 V => ∃ (n : Nat) (lv : Value), v10 = .int .i64 (n : Nat) ∧ n ≤ X.qs.length ∧ Wx V bx (.int .i64 X.turn) (.int .i64 X.next) (.int .i64 X.wide) (.int .i64 X.high) (.slice a1 X.gs.length r1) (.slice a2 X.os.length r2) (.slice a3 X.gold.length r3) (.slice a6 st.length r6) lv ∧ Jbo V b3 lv ((X.qs.take n).filter (fun k => !notJ p k)) ∧ w3.grownBy V (some bx)) (fun v10 _ => X.qs.length - (intOf v10).toNat)
    case atStart => exact ⟨0, _, rfl, Nat.zero_le _, Xr.out, Jbo.nil _ _, gb_below (Below.refl _ _)⟩
    case round =>
      obtain ⟨n, lv, rfl, hn, hx, hl, hg⟩ := hrel
      obtain ⟨ss, hss⟩ : ∃ l, (X.qs.take n).filter (fun k => !notJ p k) = l := ⟨_, rfl⟩
      rw [hss] at hl
      obtain ⟨la, lc, rfl⟩ := hl.len
      have SSE : Hid ((X.qs.take n).filter (fun k => !notJ p k) = ss) := hss
      have SS : Hid (ss.length ≤ 40) := by
        have h1 : ss.length ≤ (X.qs.take n).length := by rw [← hss]; exact List.length_filter_le _ _
        have h2 : (X.qs.take n).length ≤ X.qs.length := by simp; omega
        have h3 := WR.out.ql
        unfold Hid; omega
      have Xs : Hid (Wx wr bx (.int .i64 X.turn) (.int .i64 X.next) (.int .i64 X.wide) (.int .i64 X.high) (.slice a1 X.gs.length r1) (.slice a2 X.os.length r2) (.slice a3 X.gold.length r3) (.slice a6 st.length r6) (.slice la ss.length lc)) := hx
      have Ls : Hid (Jbo wr b3 (.slice la ss.length lc) ss) := hl
      have Ks : Hid (w3.grownBy wr (some bx)) := hg
      have Ys : Hid (Bw wr w.heap.size X (.slice p1 X.gs.length s1) (.slice p2 X.os.length s2) (.slice p3 X.gold.length s3) (.slice p4 X.us.length s4) (.slice p5 X.qs.length s5)) := Yr.out.gb hg (fun e => by have := Option.some.inj e; have := BX.out; omega)
      have Bs' : Hid (Below w.heap.size w wr) := below_gb Br.out hg Br.out.size (fun b e => by have := Option.some.inj e; have := BX.out; omega)
      have Ss : Hid (b3 ≤ wr.heap.size) := by have h := hg.size; rw [BX.out.2.2.2] at h; exact h
      clear hx hl hg hss
      by_cases h0 : n = X.qs.length
      case neg =>
        have hnl : n < X.qs.length := by omega
        have hni : ((n : Nat) : Int) < (X.qs.length : Nat) := by omega
        have HN : Hid (n < X.qs.length) := hnl
        have WN : IntKind.i64.wrap ((n : Nat) + 1 : Int) = ((n : Nat) : Int) + 1 := by have := WR.out.ql; rw [IntKind.wrap_i64]; omega
        obtain ⟨j, hj⟩ : ∃ j, X.qs[n]? = some j := ⟨_, List.getElem?_eq_getElem hnl⟩
        have KY := fun h => keep_yes (q := notJ p) hj h
        have KN := fun h => keep_no (q := notJ p) hj h
        rw [SSE.out] at KY KN
        obtain ⟨pa, pc, he, -, -, hus⟩ := H.out.slices.2.2.2.2
        obtain ⟨xj, hxj, hxjl, hxjc⟩ := hus (by intro h; rw [h] at hnl; simp at hnl)
        injection he with he1 he2 he3
        subst he1
        subst hxj
        have UC : Hid (Jbc w (xj.add (n * 4)) j ∧ (xj.add (n * 4)).block < w.heap.size) := ⟨hxjc n j hj, by rw [add_block]; exact hxjl⟩
        have UB : Hid ((xj.add (n * 4)).block < b3) := by have := UC.out.2; have := BX.out; unfold Hid; omega
        have Ua : Hid (Jbc wr (xj.add (n * 4)) j) := UC.out.1.below Bs'.out UC.out.2
        obtain ⟨y0, y1, y2, y3⟩ := Ua.out
        have x8 := Ys.out.c8
        have Ya : Hid (Bw wr w.heap.size X (.slice p1 X.gs.length s1) (.slice p2 X.os.length s2) (.slice p3 X.gold.length s3) (.slice p4 X.us.length s4) (.slice (some xj) X.qs.length s5)) := Ys.out
        have Xa := Xs
        have La := Ls
        have Ka := Ks
        have Sa := Ss
        clear hus he2 he3 hxjl hxjc hj Xs Ls Ks Ss Ys
        by_cases hp : j.player = p
        · have NY : Hid ((X.qs.take (n + 1)).filter (fun k => !notJ p k) = ss ++ [j]) := KY (by unfold notJ; rw [hp]; simp)
          rw [hp] at y0
          clear KY KN hp
          generalize wr = wa at *
          go_upto_region 14 with fail
          have CB : Hid (∀ V, Bw V w.heap.size X (.slice p1 X.gs.length s1) (.slice p2 X.os.length s2) (.slice p3 X.gold.length s3) (.slice p4 X.us.length s4) (.slice (some xj) X.qs.length s5) → Wx V bx (.int .i64 X.turn) (.int .i64 X.next) (.int .i64 X.wide) (.int .i64 X.high) (.slice a1 X.gs.length r1) (.slice a2 X.os.length r2) (.slice a3 X.gold.length r3) (.slice a6 st.length r6) (.slice la ss.length lc) → Jbc V (xj.add (n * 4)) j → (V.cell? ⟨bx, 8, none⟩ = some (.slice la ss.length lc) ∧ V.cell? ⟨w.heap.size, 8, none⟩ = some (.slice (some xj) X.qs.length s5) ∧ Jbc V (xj.add (n * 4)) j)) := fun V hy hx hu => ⟨hx.cells.2.2.2.2.2.2.2.2, hy.c8, hu⟩
          refine wp_region_two [(true, 0), (true, 1), (true, 2), (true, 3), (true, 4), (true, 5), (true, 6), (false, 7), (false, 8), (true, 9)] [(false, 10)] (fun V => V.cell? ⟨bx, 8, none⟩ = some (.slice la ss.length lc) ∧ V.cell? ⟨w.heap.size, 8, none⟩ = some (.slice (some xj) X.qs.length s5) ∧ Jbc V (xj.add (n * 4)) j) (by kernel_rfl) (by kernel_rfl) (by kernel_rfl) (by decide +kernel) (by decide +kernel) (CB.out _ (Ya.out.below ((Below.refl _ _).drew) Ya.out.lt) Xa.out.drew (Ua.out.below ((Below.refl _ _).drew) Ua.out.lt)) ?_
          have D6 : Hid (Below wa.heap.size wa { wa with drawn := wa.drawn + 1 }) := (Below.refl _ _).drew
          generalize ({ wa with drawn := wa.drawn + 1 } : World) = w6 at *
          have Y6 : Hid (Bw w6 w.heap.size X (.slice p1 X.gs.length s1) (.slice p2 X.os.length s2) (.slice p3 X.gold.length s3) (.slice p4 X.us.length s4) (.slice (some xj) X.qs.length s5)) := Ya.out.below D6.out Ya.out.lt
          have X6 : Hid (Wx w6 bx (.int .i64 X.turn) (.int .i64 X.next) (.int .i64 X.wide) (.int .i64 X.high) (.slice a1 X.gs.length r1) (.slice a2 X.os.length r2) (.slice a3 X.gold.length r3) (.slice a6 st.length r6) (.slice la ss.length lc)) := Xa.out.below D6.out Xa.out.lt
          have U6 : Hid (Jbc w6 (xj.add (n * 4)) j) := Ua.out.below D6.out Ua.out.lt
          have L6 : Hid (Jbo w6 b3 (.slice la ss.length lc) ss) := La.out.below D6.out
          have K6 : Hid (w3.grownBy w6 (some bx)) := gb_trans Ka.out (gb_below D6.out)
          have S6 : Hid (b3 ≤ w6.heap.size) := Nat.le_trans Sa.out D6.out.size
          clear Ya Xa Ua La Ka Sa D6
          refine headT_read rfl (.pointer (some ⟨bx, 8, none⟩)) (by go_simp) (fun V hV => by go_simp) ?_
          go_simp
          refine headT_read rfl (.slice la ss.length lc) (by go_simp) (fun V hV => by obtain ⟨e1, e2, ⟨y0, y1, y2, y3⟩⟩ := hV; go_simp) ?_
          go_simp
          refine headT_read rfl (.pointer (some ⟨w.heap.size, 8, none⟩)) (by go_simp) (fun V hV => by go_simp) ?_
          go_simp
          refine headT_read rfl (.slice (some xj) X.qs.length s5) (by go_simp) (fun V hV => by obtain ⟨e1, e2, ⟨y0, y1, y2, y3⟩⟩ := hV; go_simp) ?_
          go_simp
          refine headT_read rfl (.int .i64 (n : Nat)) (by go_simp) (fun V hV => by go_simp) ?_
          go_simp
          refine headT_read rfl (.pointer (some (xj.add (n * 4)))) (by go_simp) (fun V hV => by go_simp) ?_
          go_simp
          refine headT_read rfl (.agg #[.int .i64 j.player, .int .i64 j.unit, .int .i64 j.kind, .int .i64 j.left]) (by go_simp) (fun V hV => by obtain ⟨e1, e2, ⟨y0, y1, y2, y3⟩⟩ := hV; go_simp) ?_
          go_simp
          have BA : Hid (Below w6.heap.size w6 (w6.alloc (Obj.cells #[.int .i64 j.player, .int .i64 j.unit, .int .i64 j.kind, .int .i64 j.left] 104))) := (Below.refl _ _).alloc (Nat.le_refl _) _
          have EC : Hid (Jbc (w6.alloc (Obj.cells #[.int .i64 j.player, .int .i64 j.unit, .int .i64 j.kind, .int .i64 j.left] 104)) ⟨w6.heap.size, 0, none⟩ j) := Jbc.mk' j rfl
          refine headT_value rfl (.slice (some ⟨w6.heap.size, 0, none⟩) 1 1) (w6.alloc (Obj.cells #[.int .i64 j.player, .int .i64 j.unit, .int .i64 j.kind, .int .i64 j.left] 104)) (by go_simp) (by go_simp) (CB.out _ (Y6.out.below BA.out Y6.out.lt) (X6.out.below BA.out X6.out.lt) (U6.out.below BA.out U6.out.lt)) ?_
          go_simp
          generalize (w6.alloc (Obj.cells #[.int .i64 j.player, .int .i64 j.unit, .int .i64 j.kind, .int .i64 j.left] 104)) = w7 at *
          have Y7 : Hid (Bw w7 w.heap.size X (.slice p1 X.gs.length s1) (.slice p2 X.os.length s2) (.slice p3 X.gold.length s3) (.slice p4 X.us.length s4) (.slice (some xj) X.qs.length s5)) := Y6.out.below BA.out Y6.out.lt
          have X7 : Hid (Wx w7 bx (.int .i64 X.turn) (.int .i64 X.next) (.int .i64 X.wide) (.int .i64 X.high) (.slice a1 X.gs.length r1) (.slice a2 X.os.length r2) (.slice a3 X.gold.length r3) (.slice a6 st.length r6) (.slice la ss.length lc)) := X6.out.below BA.out X6.out.lt
          have U7 : Hid (Jbc w7 (xj.add (n * 4)) j) := U6.out.below BA.out U6.out.lt
          have L7 : Hid (Jbo w7 b3 (.slice la ss.length lc) ss) := L6.out.below BA.out
          have K7 : Hid (w3.grownBy w7 (some bx)) := gb_trans K6.out (gb_below BA.out)
          have S7 : Hid (b3 ≤ w7.heap.size) := Nat.le_trans S6.out BA.out.size
          clear Y6 X6 U6 L6 K6 S6 BA
          obtain ⟨gg, gc, w8, hr, ho8, hg8, -, -⟩ := run_jb w7 27 b3 (.slice la ss.length lc) ss L7.out _ _ EC.out (by have := SS.out; omega) S7.out
          have BG : Hid (Below b3 w7 w8) := (Below.refl _ _).grown hg8 S7.out (fun b hb => (World.ownsRow.lt L7.out b hb).1)
          have Y8 : Hid (Bw w8 w.heap.size X (.slice p1 X.gs.length s1) (.slice p2 X.os.length s2) (.slice p3 X.gold.length s3) (.slice p4 X.us.length s4) (.slice (some xj) X.qs.length s5)) := Y7.out.below BG.out (by have := BX.out; omega)
          have X8 : Hid (Wx w8 bx (.int .i64 X.turn) (.int .i64 X.next) (.int .i64 X.wide) (.int .i64 X.high) (.slice a1 X.gs.length r1) (.slice a2 X.os.length r2) (.slice a3 X.gold.length r3) (.slice a6 st.length r6) (.slice la ss.length lc)) := X7.out.below BG.out (by have := BX.out; omega)
          have U8 : Hid (Jbc w8 (xj.add (n * 4)) j) := U7.out.below BG.out (by have := UB.out; have := BX.out; omega)
          have K8 : Hid (w3.grownBy w8 (some bx)) := gb_low K7.out BG.out (by have := BX.out; omega)
          have L8 : Hid (Jbo w8 b3 (.slice (some ⟨gg, 0, none⟩) (ss.length + 1) gc) (ss ++ [j])) := ho8
          have S8 : Hid (b3 ≤ w8.heap.size) := Nat.le_trans S7.out BG.out.size
          refine headT_value rfl (.slice (some ⟨gg, 0, none⟩) (ss.length + 1) gc) w8 (by go_simp) (exec_append _ _ _ _ rfl _ _ (by go_simp) (by go_simp) hr) (CB.out _ Y8.out X8.out U8.out) ?_
          clear hr ho8 hg8 Y7 X7 U7 L7 K7 S7 BG EC
          go_simp
          refine headT_read rfl (.pointer (some ⟨bx, 8, none⟩)) (by go_simp) (fun V hV => by go_simp) ?_
          go_simp
          unfold wpHeadT
          have t8 := X8.out.thaw 8
          obtain ⟨m0, m1, m2, m3, m4, m5, m6, m7, m8⟩ := X8.out.cells
          have X9 : Hid (Wx (w8.setCell ⟨bx, 8, none⟩ (.slice (some ⟨gg, 0, none⟩) (ss.length + 1) gc)) bx (.int .i64 X.turn) (.int .i64 X.next) (.int .i64 X.wide) (.int .i64 X.high) (.slice a1 X.gs.length r1) (.slice a2 X.os.length r2) (.slice a3 X.gold.length r3) (.slice a6 st.length r6) (.slice (some ⟨gg, 0, none⟩) (ss.length + 1) gc)) := X8.out.set8 _
          have KS : Hid (Kp bx w8 (w8.setCell ⟨bx, 8, none⟩ (.slice (some ⟨gg, 0, none⟩) (ss.length + 1) gc))) := Kp.set _ _ _
          refine sched_skip rfl (w8.setCell ⟨bx, 8, none⟩ (.slice (some ⟨gg, 0, none⟩) (ss.length + 1) gc)) (by go_simp) (by go_simp) trivial ?_
          go_simp
          clear t8 m0 m1 m2 m3 m4 m5 m6 m7 m8
          generalize (w8.setCell ⟨bx, 8, none⟩ (.slice (some ⟨gg, 0, none⟩) (ss.length + 1) gc)) = w9 at *
          have L9 : Hid (Jbo w9 b3 (.slice (some ⟨gg, 0, none⟩) (ss.length + 1) gc) (ss ++ [j])) := L8.out.kp KS.out (by have := BX.out; omega)
          have K9 : Hid (w3.grownBy w9 (some bx)) := gb_trans K8.out (gb_kp KS.out)
          unfold wpSched
          clear Y8 X8 U8 L8 K8 S8 CB KS
          go_wp2
          go_round
          case rel => exact ⟨n + 1, _, by go_num, by have := HN.out; omega, X9.out, by rw [NY.out]; exact L9.out, K9.out⟩
          case measure => simp [intOf]; omega
        · have hp' : (j.player == p) = false := by rw [beq_eq_false_iff_ne]; exact hp
          have NY : Hid ((X.qs.take (n + 1)).filter (fun k => !notJ p k) = ss) := KN (by unfold notJ; rw [hp']; rfl)
          clear KY KN
          go_wp2
          go_round
          case rel => exact ⟨n + 1, _, by go_num, by have := HN.out; omega, Xa.out, by rw [NY.out]; exact La.out, Ka.out⟩
          case measure => simp [intOf]; omega
      subst h0
      have QS : Hid (X.qs.filter (fun k => !notJ p k) = ss) := by have := SSE.out; rw [List.take_of_length_le (Nat.le_refl _)] at this; exact this
      have Os : Hid (Ow wr b1 (.slice a1 X.gs.length r1) X.gs ∧ Ow wr b1 (.slice a2 X.os.length r2) X.os ∧ Ow wr b1 (.slice a3 X.gold.length r3) X.gold ∧ Uno wr b1 (.slice a6 st.length r6) st ∧ Jbo wr b1 (.slice la ss.length lc) ss) :=
        ⟨own_gb Or.out.1 Ks.out (fun b h1 h2 => by have := (LB.out.2.1 b h1).2; have := Option.some.inj h2; omega), own_gb Or.out.2.1 Ks.out (fun b h1 h2 => by have := (LB.out.2.2.1 b h1).2; have := Option.some.inj h2; omega), own_gb Or.out.2.2 Ks.out (fun b h1 h2 => by have := (LB.out.2.2.2 b h1).2; have := Option.some.inj h2; omega), Uno.mono (own_gb Lr.out Ks.out (fun b h1 h2 => by have := (LU.out b h1).1; have := Option.some.inj h2; have := BZ.out; omega)) (by have := BX.out; have := BZ.out; omega), Ls.out.mono (by have := BX.out; omega)⟩
      have Rs' : Hid (Wx wr (w.heap.size + 1) (.int .i64 0) (.int .i64 0) (.int .i64 0) (.int .i64 0) (.slice none 0 0) (.slice none 0 0) (.slice none 0 0) (.slice none 0 0) (.slice none 0 0)) := Rr.out.gb Ks.out (fun e => by have := Option.some.inj e; have := BX.out; omega)
      have LQ : Hid (∀ b, (Value.slice la ss.length lc).ownBlock = some b → b3 ≤ b) := fun b h => (World.ownsRow.lt Ls.out b h).1
      have LV : Hid (∀ b, (Value.slice a6 st.length r6).ownBlock = some b → bx < b) := fun b h => by have := (LU.out b h).1; have := BZ.out; omega
      have x8 := Ys.out.c8
      have hql : ¬ (((X.qs.length : Nat) : Int) < (X.qs.length : Nat)) := by omega
      rcases Os.out.2.2.1.bk with ⟨-, h⟩ | ⟨g3, cp3, rs3, h, -, hl3, hm3, hz3, hbk3⟩
      · exact absurd GD.out.2.2.2.2.1 (by rw [h]; simp)
      injection h with h1 h2 h3
      subst h1
      subst h3
      rcases Os.out.2.1.bk with ⟨-, h⟩ | ⟨g2, cp2, rs2, h, -, hl2, hm2, hz2, hbk2⟩
      · exact absurd GD.out.2.2.2.1 (by rw [← GD.out.2.2.1, h]; simp)
      injection h with h1 h2' h3
      subst h1
      subst h3
      have GG : Hid (b1 ≤ g3 ∧ g3 < bx ∧ b1 ≤ g2 ∧ g2 < bx ∧ g2 ≠ g3) := ⟨(LB.out.2.2.2 g3 rfl).1, (LB.out.2.2.2 g3 rfl).2, (LB.out.2.2.1 g2 rfl).1, (LB.out.2.2.1 g2 rfl).2, fun e => DD.out.2.2 g2 rfl (by rw [e]; rfl)⟩
      have CP : Hid ((X.gold.length ≤ r3 ∧ r3 ≤ maxLen ∧ X.gold.length + rs3.size = r3) ∧ X.os.length ≤ r2 ∧ r2 ≤ maxLen ∧ X.os.length + rs2.size = r2) := ⟨⟨hl3, hm3, hz3⟩, hl2, hm2, hz2⟩
      obtain ⟨q, hq⟩ : ∃ q : Nat → Bool, (fun i : Nat => !decide ((i : Int) = p)) = q := ⟨_, rfl⟩
      obtain ⟨s, hs⟩ : ∃ s : Nat → Bool, (fun i : Nat => !seesP ks Wn X.gs X.us p i) = s := ⟨_, rfl⟩
      have QQ : Hid ((∀ i : Nat, q i = !decide ((i : Int) = p)) ∧ ∀ i : Nat, s i = !seesP ks Wn X.gs X.us p i) := ⟨fun i => by rw [← hq], fun i => by rw [← hs]⟩
      have FO : Hid (viewOf ks Wn X p = { X with us := st, qs := ss, gold := zer q X.gold, os := zer s X.os }) := by unfold Hid viewOf; rw [ST.out, QS.out, hq, hs]
      have BK9 : Hid (Bk wr g3 X.gold rs3) := hbk3
      clear hl3 hm3 hz3 hbk3 hl2 hm2 hz2 hbk2 h2 h2' hq hs
      obtain ⟨-, -, -, -, -, -, z6, -, -⟩ := Xs.out.cells
      go_upto_region 16 with fail
      clear z6 x8 hql SSE SS Ks Ls Yr Rr Br Lr Or Xr ST QS
      generalize wr = w9 at *
      go_loopw [11] (fun v11 V => ∃ n : Nat, v11 = .int .i64 (n : Nat) ∧ n ≤ X.gold.length ∧ Bk V g3 (zerUp q n X.gold) rs3 ∧ Kp g3 w9 V) (fun v11 _ => X.gold.length - (intOf v11).toNat)
      case atStart => exact ⟨0, rfl, Nat.zero_le _, by rw [zerUp_zero]; exact BK9.out, Kp.refl _ _⟩
      case round =>
        obtain ⟨n, rfl, hn, hbk, hkp⟩ := hrel
        have BR : Hid (Bk wr g3 (zerUp q n X.gold) rs3) := hbk
        have KR : Hid (Kp g3 w9 wr) := hkp
        have XR : Hid (Wx wr bx (.int .i64 X.turn) (.int .i64 X.next) (.int .i64 X.wide) (.int .i64 X.high) (.slice a1 X.gs.length r1) (.slice (some ⟨g2, 0, none⟩) X.os.length r2) (.slice (some ⟨g3, 0, none⟩) X.gold.length r3) (.slice a6 st.length r6) (.slice la ss.length lc)) := Xs.out.kp hkp (by have := GG.out; omega)
        clear hbk hkp
        by_cases h0 : n = X.gold.length
        case neg =>
          have hnl : n < X.gold.length := by omega
          have hni : ((n : Nat) : Int) < (X.gold.length : Nat) := by omega
          have HN : Hid (n < X.gold.length) := hnl
          have WN : IntKind.i64.wrap ((n : Nat) + 1 : Int) = ((n : Nat) : Int) + 1 := by have := GD.out.2.2.2.2.2; rw [IntKind.wrap_i64]; omega
          obtain ⟨-, -, -, -, -, -, z6, -, -⟩ := XR.out.cells
          by_cases hp : ((n : Nat) : Int) = p
          · have NX : Hid (zerUp q (n + 1) X.gold = zerUp q n X.gold) := zerUp_no _ (by rw [QQ.out.1, hp]; simp)
            subst hp
            go_wp2
            go_round
            case rel => exact ⟨n + 1, by go_num, by have := HN.out; omega, by rw [NX.out]; exact BR.out, KR.out⟩
            case measure => simp [intOf]; omega
          · have NX : Hid (zerUp q (n + 1) X.gold = (zerUp q n X.gold).set n 0) := zerUp_yes _ (by rw [QQ.out.1]; simp [hp])
            have hp' : (((n : Nat) : Int) == p) = false := by rw [beq_eq_false_iff_ne]; exact hp
            obtain ⟨y, hy⟩ : ∃ y, (zerUp q n X.gold)[n]? = some y := ⟨_, List.getElem?_eq_getElem (by rw [zerUp_len]; exact hnl)⟩
            have cy := BR.out.cell hy
            have ty := BR.out.thaw n
            have KS : Hid (Kp g3 wr (wr.setCell ⟨g3, n, none⟩ (.int .i64 0))) := Kp.set _ _ _
            have BS3 : Hid (Bk (wr.setCell ⟨g3, n, none⟩ (.int .i64 0)) g3 ((zerUp q n X.gold).set n 0) rs3) := BR.out.set n 0 (by rw [zerUp_len]; exact hnl)
            clear hy
            go_wp2
            generalize (wr.setCell ⟨g3, n, none⟩ (.int .i64 0)) = w10 at *
            go_round
            case rel => exact ⟨n + 1, by go_num, by have := HN.out; omega, by rw [NX.out]; exact BS3.out, KR.out.trans KS.out⟩
            case measure => simp [intOf]; omega
        subst h0
        have O10 : Hid (Ow wr b1 (.slice a1 X.gs.length r1) X.gs ∧ Ow wr b1 (.slice (some ⟨g2, 0, none⟩) X.os.length r2) X.os ∧ Ow wr b1 (.slice (some ⟨g3, 0, none⟩) X.gold.length r3) (zer q X.gold) ∧ Uno wr b1 (.slice a6 st.length r6) st ∧ Jbo wr b1 (.slice la ss.length lc) ss) := by
          have hg := gb_kp KR.out
          have hz := BR.out
          rw [zerUp_all] at hz
          have ho := hz.ow (base := b1) (cap := r3) GG.out.1 (by rw [zer_len]; exact CP.out.1.1) CP.out.1.2.1 (by rw [zer_len]; exact CP.out.1.2.2)
          rw [zer_len] at ho
          exact ⟨own_gb Os.out.1 hg (fun b h1 h2 => DD.out.2.1 b h1 h2), own_gb Os.out.2.1 hg (fun b h1 h2 => DD.out.2.2 b h1 h2), ho, own_gb Os.out.2.2.2.1 hg (fun b h1 h2 => by have := LV.out b h1; have := Option.some.inj h2; have := GG.out; omega), own_gb Os.out.2.2.2.2 hg (fun b h1 h2 => by have := LQ.out b h1; have := Option.some.inj h2; have := GG.out; have := BX.out; omega)⟩
        have Y10 : Hid (Bw wr w.heap.size X (.slice p1 X.gs.length s1) (.slice p2 X.os.length s2) (.slice p3 X.gold.length s3) (.slice p4 X.us.length s4) (.slice p5 X.qs.length s5)) := Ys.out.gb (gb_kp KR.out) (fun e => by have := Option.some.inj e; have := GG.out; have := BX.out; omega)
        have R10 : Hid (Wx wr (w.heap.size + 1) (.int .i64 0) (.int .i64 0) (.int .i64 0) (.int .i64 0) (.slice none 0 0) (.slice none 0 0) (.slice none 0 0) (.slice none 0 0) (.slice none 0 0)) := Rs'.out.gb (gb_kp KR.out) (fun e => by have := Option.some.inj e; have := GG.out; have := BX.out; omega)
        have B10 : Hid (Below w.heap.size w wr) := below_gb Bs'.out (gb_kp KR.out) Bs'.out.size (fun b e => by have := Option.some.inj e; have := GG.out; have := BX.out; omega)
        have hgl : ¬ (((X.gold.length : Nat) : Int) < (X.gold.length : Nat)) := by omega
        obtain ⟨-, -, -, -, -, -, z6, -, -⟩ := XR.out.cells
        clear BR KR BK9 Xs Ys Rs' Bs' Os
        go_upto_region 21 with fail
        clear z6 hgl
        generalize wr = w10 at *
        have BK10 : Hid (∃ rs, Bk w10 g2 X.os rs ∧ X.os.length + rs.size = r2) := by
          rcases O10.out.2.1.bk with ⟨h, -⟩ | ⟨g, cp, rs, h, -, -, -, hz, hbk⟩
          · cases h
          · injection h with h1 h2 h3
            injection h1 with h1
            injection h1 with h1
            subst h1
            subst h3
            exact ⟨rs, hbk, hz⟩
        obtain ⟨rs, hbk, hz⟩ := BK10.out
        have BK10 : Hid (Bk w10 g2 X.os rs ∧ X.os.length + rs.size = r2) := ⟨hbk, hz⟩
        clear hbk hz
        go_loopw [12] (fun v12 V => ∃ n : Nat, v12 = .int .i64 (n : Nat) ∧ n ≤ X.os.length ∧ Bk V g2 (zerUp s n X.os) rs ∧ Kp g2 w10 V) (fun v12 _ => X.os.length - (intOf v12).toNat)
        case atStart => exact ⟨0, rfl, Nat.zero_le _, by rw [zerUp_zero]; exact BK10.out.1, Kp.refl _ _⟩
        case round =>
          obtain ⟨n, rfl, hn, hbk, hkp⟩ := hrel
          have BR : Hid (Bk wr g2 (zerUp s n X.os) rs) := hbk
          have KR : Hid (Kp g2 w10 wr) := hkp
          have X11 : Hid (Wx wr bx (.int .i64 X.turn) (.int .i64 X.next) (.int .i64 X.wide) (.int .i64 X.high) (.slice a1 X.gs.length r1) (.slice (some ⟨g2, 0, none⟩) X.os.length r2) (.slice (some ⟨g3, 0, none⟩) X.gold.length r3) (.slice a6 st.length r6) (.slice la ss.length lc)) := XR.out.kp hkp (by have := GG.out; omega)
          have Y11 : Hid (Bw wr w.heap.size X (.slice p1 X.gs.length s1) (.slice p2 X.os.length s2) (.slice p3 X.gold.length s3) (.slice p4 X.us.length s4) (.slice p5 X.qs.length s5)) := Y10.out.gb (gb_kp hkp) (fun e => by have := Option.some.inj e; have := GG.out; have := BX.out; omega)
          have B11 : Hid (Below w.heap.size w wr) := below_gb B10.out (gb_kp hkp) B10.out.size (fun b e => by have := Option.some.inj e; have := GG.out; have := BX.out; omega)
          clear hbk hkp
          by_cases h0 : n = X.os.length
          case neg =>
            have hnl : n < X.os.length := by omega
            have hni : ((n : Nat) : Int) < (X.os.length : Nat) := by omega
            have HN : Hid (n < X.os.length) := hnl
            have HG : Hid (n < X.gs.length) := by have := GD.out.2.2.1; unfold Hid; omega
            have WN : IntKind.i64.wrap ((n : Nat) + 1 : Int) = ((n : Nat) : Int) + 1 := by have := GD.out.2.1; have := GD.out.2.2.1; rw [IntKind.wrap_i64]; omega
            have SQ := QQ.out.2 n
            obtain ⟨-, -, -, -, -, z5, -, -, -⟩ := X11.out.cells
            obtain ⟨x0, x1, x2, x3, x4, x5, x6, x7, x8⟩ := Y11.out
            go_wp2_with fail
            refine (rsees_any _ _ ks X p Wn n wr WR.out GD.out.1 HG.out (K.out.below B11.out) (H.out.below B11.out)).mono ?_
            rintro e w11 ⟨rfl, hb⟩
            have BRa : Hid (Bk w11 g2 (zerUp s n X.os) rs) := BR.out.below hb
            have KRa : Hid (Kp g2 w10 w11) := kp_gb KR.out (gb_below (r := none) hb) (by simp)
            have X12 : Hid (Wx w11 bx (.int .i64 X.turn) (.int .i64 X.next) (.int .i64 X.wide) (.int .i64 X.high) (.slice a1 X.gs.length r1) (.slice (some ⟨g2, 0, none⟩) X.os.length r2) (.slice (some ⟨g3, 0, none⟩) X.gold.length r3) (.slice a6 st.length r6) (.slice la ss.length lc)) := X11.out.below hb X11.out.lt
            obtain ⟨t, ht⟩ : ∃ t, seesP ks Wn X.gs X.us p n = t := ⟨_, rfl⟩
            rw [ht] at SQ ⊢
            clear ht hb z5 x0 x1 x2 x3 x4 x5 x6 x7 x8 BR KR X11
            obtain ⟨-, -, -, -, -, z5, -, -, -⟩ := X12.out.cells
            cases t with
            | true =>
              have NX : Hid (zerUp s (n + 1) X.os = zerUp s n X.os) := zerUp_no _ SQ
              clear SQ
              go_wp2
              go_round
              case rel => exact ⟨n + 1, by go_num, by have := HN.out; omega, by rw [NX.out]; exact BRa.out, KRa.out⟩
              case measure => simp [intOf]; omega
            | false =>
              have NX : Hid (zerUp s (n + 1) X.os = (zerUp s n X.os).set n 0) := zerUp_yes _ SQ
              obtain ⟨y, hy⟩ : ∃ y, (zerUp s n X.os)[n]? = some y := ⟨_, List.getElem?_eq_getElem (by rw [zerUp_len]; exact hnl)⟩
              have cy := BRa.out.cell hy
              have ty := BRa.out.thaw n
              have KS : Hid (Kp g2 w11 (w11.setCell ⟨g2, n, none⟩ (.int .i64 0))) := Kp.set _ _ _
              have BS3 : Hid (Bk (w11.setCell ⟨g2, n, none⟩ (.int .i64 0)) g2 ((zerUp s n X.os).set n 0) rs) := BRa.out.set n 0 (by rw [zerUp_len]; exact hnl)
              clear SQ hy
              go_wp2
              generalize (w11.setCell ⟨g2, n, none⟩ (.int .i64 0)) = w12 at *
              go_round
              case rel => exact ⟨n + 1, by go_num, by have := HN.out; omega, by rw [NX.out]; exact BS3.out, KRa.out.trans KS.out⟩
              case measure => simp [intOf]; omega
          subst h0
          have O11 : Hid (Ow wr b1 (.slice a1 X.gs.length r1) X.gs ∧ Ow wr b1 (.slice (some ⟨g2, 0, none⟩) X.os.length r2) (zer s X.os) ∧ Ow wr b1 (.slice (some ⟨g3, 0, none⟩) X.gold.length r3) (zer q X.gold) ∧ Uno wr b1 (.slice a6 st.length r6) st ∧ Jbo wr b1 (.slice la ss.length lc) ss) := by
            have hg := gb_kp KR.out
            have hz := BR.out
            rw [zerUp_all] at hz
            have ho := hz.ow (base := b1) (cap := r2) GG.out.2.2.1 (by rw [zer_len]; exact CP.out.2.1) CP.out.2.2.1 (by rw [zer_len]; exact BK10.out.2)
            rw [zer_len] at ho
            exact ⟨own_gb O10.out.1 hg (fun b h1 h2 => DD.out.1 b h1 h2), ho, own_gb O10.out.2.2.1 hg (fun b h1 h2 => DD.out.2.2 b h2 h1), own_gb O10.out.2.2.2.1 hg (fun b h1 h2 => by have := LV.out b h1; have := Option.some.inj h2; have := GG.out; omega), own_gb O10.out.2.2.2.2 hg (fun b h1 h2 => by have := LQ.out b h1; have := Option.some.inj h2; have := GG.out; have := BX.out; omega)⟩
          have R11 : Hid (Wx wr (w.heap.size + 1) (.int .i64 0) (.int .i64 0) (.int .i64 0) (.int .i64 0) (.slice none 0 0) (.slice none 0 0) (.slice none 0 0) (.slice none 0 0) (.slice none 0 0)) := R10.out.gb (gb_kp KR.out) (fun e => by have := Option.some.inj e; have := GG.out; have := BX.out; omega)
          clear BR KR BK10 XR R10 B10 O10 Y10 Y11
          obtain ⟨x0, x1, x2, x3, x4, x5, x6, x7, x8⟩ := X11.out.cells
          obtain ⟨z0, z1, z2, z3, z4, z5, z6, z7, z8⟩ := R11.out.cells
          obtain ⟨t0, t1, t2, t3, t4, t5, t6, t7, t8⟩ := R11.out.thaws
          have hol : ¬ (((X.os.length : Nat) : Int) < (X.os.length : Nat)) := by omega
          have KZ : Hid (Kp (w.heap.size + 1) wr (((((((((wr.setCell ⟨w.heap.size + 1, 0, none⟩ (.int .i64 X.turn)).setCell ⟨w.heap.size + 1, 1, none⟩ (.int .i64 X.next)).setCell ⟨w.heap.size + 1, 2, none⟩ (.int .i64 X.wide)).setCell ⟨w.heap.size + 1, 3, none⟩ (.int .i64 X.high)).setCell ⟨w.heap.size + 1, 4, none⟩ (.slice a1 X.gs.length r1)).setCell ⟨w.heap.size + 1, 5, none⟩ (.slice (some ⟨g2, 0, none⟩) X.os.length r2)).setCell ⟨w.heap.size + 1, 6, none⟩ (.slice (some ⟨g3, 0, none⟩) X.gold.length r3)).setCell ⟨w.heap.size + 1, 7, none⟩ (.slice a6 st.length r6)).setCell ⟨w.heap.size + 1, 8, none⟩ (.slice la ss.length lc))) := put_kp _ _ _ _ _ _ _ _ _ _ _
          obtain ⟨y0, y1, y2, y3, y4, y5, y6, y7, y8⟩ := (R11.out.put (.int .i64 X.turn) (.int .i64 X.next) (.int .i64 X.wide) (.int .i64 X.high) (.slice a1 X.gs.length r1) (.slice (some ⟨g2, 0, none⟩) X.os.length r2) (.slice (some ⟨g3, 0, none⟩) X.gold.length r3) (.slice a6 st.length r6) (.slice la ss.length lc)).cells
          go_wp2
          clear x0 x1 x2 x3 x4 x5 x6 x7 x8 z0 z1 z2 z3 z4 z5 z6 z7 z8 t0 t1 t2 t3 t4 t5 t6 t7 t8
          generalize (((((((((wr.setCell ⟨w.heap.size + 1, 0, none⟩ (.int .i64 X.turn)).setCell ⟨w.heap.size + 1, 1, none⟩ (.int .i64 X.next)).setCell ⟨w.heap.size + 1, 2, none⟩ (.int .i64 X.wide)).setCell ⟨w.heap.size + 1, 3, none⟩ (.int .i64 X.high)).setCell ⟨w.heap.size + 1, 4, none⟩ (.slice a1 X.gs.length r1)).setCell ⟨w.heap.size + 1, 5, none⟩ (.slice (some ⟨g2, 0, none⟩) X.os.length r2)).setCell ⟨w.heap.size + 1, 6, none⟩ (.slice (some ⟨g3, 0, none⟩) X.gold.length r3)).setCell ⟨w.heap.size + 1, 7, none⟩ (.slice a6 st.length r6)).setCell ⟨w.heap.size + 1, 8, none⟩ (.slice la ss.length lc)) = wz at *
          refine bodyPost_ret (v := .agg #[.int .i64 X.turn, .int .i64 X.next, .int .i64 X.wide, .int .i64 X.high, .slice a1 X.gs.length r1, .slice (some ⟨g2, 0, none⟩) X.os.length r2, .slice (some ⟨g3, 0, none⟩) X.gold.length r3, .slice a6 st.length r6, .slice la ss.length lc]) (by simp [results, Tryz.results20, go_sem, y0, y1, y2, y3, y4, y5, y6, y7, y8]) rfl ⟨_, rfl, ?_, KZ.out.below B11.out B11.out.size (by omega)⟩
          have h := BX.out.1
          rw [FO.out]
          exact ⟨_, _, _, _, _, rfl, (O11.out.1.kp KZ.out (by omega)).mono (by omega), (O11.out.2.1.kp KZ.out (by omega)).mono (by omega), (O11.out.2.2.1.kp KZ.out (by omega)).mono (by omega), (O11.out.2.2.2.1.kp KZ.out (by omega)).mono (by omega), (O11.out.2.2.2.2.kp KZ.out (by omega)).mono (by omega)⟩
end Go.Proofs.YtkejdkajfnaieaaGreatDoor

namespace Go.Proofs.YtkejdkajfnaieaaGreatDoor
open Go.RowKit
set_option linter.unusedVariables false

theorem vl_len {x : Nat} (h : x < 18446744073709551616) : (Wd.vl x).length ≤ 10 := by
  have h1 := Wd.rd_vl x x 0 0 [] (Nat.le_refl _) (by omega) (by simpa using h) (.inl rfl)
  have h2 := (Wd.rd_le _ 0 0 _ _ (by omega) (by decide) h1).2.2.1
  omega
theorem num_len {n : Int} (h : Wd.In64 n) : (Wd.num n).length ≤ 10 := vl_len (Wd.zz_lt h)
theorem wr_len : ∀ {xs : List Int}, (∀ n ∈ xs, Wd.In64 n) → (Wd.wr xs).length ≤ 10 * xs.length
  | [], _ => by simp [Wd.wr]
  | x :: xs, h => by
    have h1 := num_len (h x (by simp))
    have h2 := wr_len (xs := xs) (fun n hn => h n (by simp [hn]))
    have : Wd.wr (x :: xs) = Wd.num x ++ Wd.wr xs := by simp [Wd.wr]
    rw [this, List.length_append, List.length_cons]
    omega
theorem wr_next {xs : List Int} {k : Nat} {n : Int} (h : xs[k]? = some n) : Wd.wr (xs.take (k + 1)) = Wd.wr (xs.take k) ++ Wd.num n := by
  obtain ⟨hi, e⟩ := List.getElem?_eq_some_iff.1 h
  rw [List.take_succ_eq_append_getElem hi, Wd.wr_append, e, Wd.wr_one]
set_option maxRecDepth 100000 in
set_option maxHeartbeats 4000000 in
theorem write_any (v : Value) (xs : List Int) (w : World) (h : Ro w v xs) (hi : ∀ n ∈ xs, Wd.In64 n) (hl : xs.length ≤ 100000000) :
    Calls Tryz.prog 79 #[v] w fun e w' => ∃ u, e = .returned u ∧ Ob w' w.heap.size u (Wd.wr xs) ∧ Below w.heap.size w w' := by
  have R : Hid (Ro w v xs) := h
  have HI : Hid (∀ n ∈ xs, Wd.In64 n) := hi
  obtain ⟨ad, cap, rfl, h1, h2, h3⟩ := h
  clear h3 hi
  go_enter Tryz.func79, Tryz.ntmps79
  go_wp2
  go_loopw [3, 9] (fun bv iv W => ∃ (k : Nat), iv = .int .i64 (k : Nat) ∧ k ≤ xs.length ∧ Ob W w.heap.size bv (Wd.wr (xs.take k)) ∧ Below w.heap.size w W) (fun _ iv _ => xs.length - (intOf iv).toNat)
  case atStart => exact ⟨0, rfl, Nat.zero_le _, Ob.nil _ _, Below.refl _ _⟩
  case round =>
    obtain ⟨k, rfl, hk, ho, hb⟩ := hrel
    have O : Hid (Ob wr w.heap.size u3 (Wd.wr (xs.take k))) := ho
    have B : Hid (Below w.heap.size w wr) := hb
    clear ho hb
    by_cases he : k = xs.length
    · subst he
      go_wp2
      go_ret
      exact ⟨_, rfl, by have := O.out; rwa [List.take_length] at this, B.out⟩
    · have hlt : k < xs.length := by omega
      have hli : (k : Int) < (xs.length : Int) := by omega
      obtain ⟨n, hn⟩ : ∃ n, xs[k]? = some n := ⟨_, List.getElem?_eq_getElem hlt⟩
      have HN : Hid (xs[k]? = some n) := hn
      have IN : Hid (Wd.In64 n) := HI.out n (List.mem_of_getElem? hn)
      obtain ⟨ad', cap', e, -, -, hc⟩ := R.out.below B.out
      injection e with e1 e2 e3
      subst e1 e3
      obtain ⟨y, rfl, hy, hcell⟩ := hc (by intro e; subst e; simp at hlt)
      have c1 : wr.cell? (y.add k) = some (.int .i64 n) := hcell k n hn
      clear hc hcell hy hn
      go_wp2_with fail
      refine (fold_any n _ IN.out).mono ?_
      rintro e w1 ⟨rfl, rfl⟩
      have PL : Hid ((Wd.wr (xs.take k)).length ≤ 1000000000) := by
        unfold Hid
        have := wr_len (xs := xs.take k) (fun n hn => HI.out n (List.mem_of_mem_take hn))
        rw [List.length_take] at this
        omega
      obtain ⟨P, hP⟩ : ∃ P, Wd.wr (xs.take k) = P := ⟨_, rfl⟩
      have HP : Hid (Wd.wr (xs.take (k + 1)) = P ++ Wd.num n) := by unfold Hid; rw [wr_next HN.out, hP]
      rw [hP] at O PL
      obtain ⟨x, hx⟩ : ∃ x, Wd.zz n = x := ⟨_, rfl⟩
      have HX : Hid (Wd.num n = Wd.vl x ∧ x < 18446744073709551616) := ⟨by unfold Wd.num; rw [hx], by rw [← hx]; exact Wd.zz_lt IN.out⟩
      rw [hx]
      clear hx hP c1
      go_wp2
      go_loopw [3, 6] (fun bv xv W => ∃ (y : Nat) (D : List UInt8), xv = .int .u64 (y : Nat) ∧ y < 18446744073709551616 ∧ D ++ Wd.vl y = Wd.vl x ∧ Ob W w.heap.size bv (P ++ D) ∧ Below w.heap.size w W) (fun _ xv _ => (intOf xv).toNat)
      case atStart => exact ⟨x, [], rfl, HX.out.2, rfl, by rw [List.append_nil]; exact O.out, B.out⟩
      case round =>
        obtain ⟨y, D, rfl, hy, hv, ho, hb⟩ := hrel
        have O2 : Hid (Ob wr w.heap.size u3 (P ++ D)) := ho
        have B2 : Hid (Below w.heap.size w wr) := hb
        have HV : Hid (D ++ Wd.vl y = Wd.vl x) := hv
        have DL : Hid ((P ++ D).length ≤ 1000000010) := by
          unfold Hid
          have h1 := vl_len HX.out.2
          have h2 := congrArg List.length hv
          have h3 := PL.out
          rw [List.length_append] at h2 ⊢
          omega
        clear ho hb hv
        obtain ⟨L, hL⟩ : ∃ L, P ++ D = L := ⟨_, rfl⟩
        have HL : Hid (P ++ D = L) := hL
        rw [hL] at O2 DL
        clear hL
        by_cases h128 : 128 ≤ y
        · obtain ⟨m, hm⟩ : ∃ m, y % 128 = m := ⟨_, rfl⟩
          obtain ⟨d, hd⟩ : ∃ d, y / 128 = d := ⟨_, rfl⟩
          have hmi : (y : Int) % 128 = m := by omega
          have hdi : (y : Int) / 128 = d := by omega
          have m1 : m < 128 := by omega
          have hgi : (128 : Int) ≤ (y : Int) := by omega
          obtain ⟨c, hc⟩ : ∃ c, UInt8.ofNat (m + 128) = c := ⟨_, rfl⟩
          have em : c.toNat = m + 128 := by rw [← hc, UInt8.toNat_ofNat']; omega
          have HE : Hid (Wd.vl y = c :: Wd.vl d) := by unfold Hid; rw [Wd.vl_great h128, hm, hd, hc]
          have hdl : Hid (d < y) := by unfold Hid; omega
          clear hm hd h128 hc
          go_wp2_with (at_builtin; refine app_byte _ rfl _ _ rfl w.heap.size _ L rfl (O2.out.alloc _) ⟨wr.heap.size, 0, none⟩ c rfl (by rw [em]; simp) (by have := DL.out; omega) (by have := B2.out.size; simp; omega) ?_)
          intro g cap2 w5 o5 g5 l5
          have O5 : Hid (Ob w5 w.heap.size (.slice (some ⟨g, 0, none⟩) (L.length + 1) cap2) (P ++ (D ++ [c]))) := by unfold Hid; rw [← List.append_assoc, HL.out]; exact o5
          have B5 : Hid (Below w.heap.size w w5) := (B2.out.alloc B2.out.size _).grown g5 (by have := B2.out.size; simp; omega) (fun b hb => (O2.out.block b hb).1)
          clear o5 g5 l5
          go_wp2
          go_roundw
          case rel =>
            refine ⟨d, D ++ [c], rfl, by have := hdl.out; omega, ?_, O5.out, B5.out⟩
            rw [List.append_assoc, ← HV.out, HE.out]
            rfl
          case measure => have := hdl.out; simp [intOf]; omega
        · have hgi : ¬ (128 : Int) ≤ (y : Int) := by omega
          obtain ⟨c, hc⟩ : ∃ c, UInt8.ofNat y = c := ⟨_, rfl⟩
          have em : c.toNat = y := by rw [← hc, UInt8.toNat_ofNat']; omega
          have wy : IntKind.u8.wrap (y : Int) = (y : Int) := by rw [IntKind.wrap_u8]; omega
          have HE : Hid (D ++ [c] = Wd.num n) := by unfold Hid; rw [HX.out.1, ← HV.out, Wd.vl_small (by omega), hc]
          clear h128 hc
          go_wp2_with (at_builtin; refine app_byte _ rfl _ _ rfl w.heap.size _ L rfl (O2.out.alloc _) ⟨wr.heap.size, 0, none⟩ c rfl (by rw [em]; simp) (by have := DL.out; omega) (by have := B2.out.size; simp; omega) ?_)
          intro g cap2 w5 o5 g5 l5
          have O5 : Hid (Ob w5 w.heap.size (.slice (some ⟨g, 0, none⟩) (L.length + 1) cap2) (Wd.wr (xs.take (k + 1)))) := by unfold Hid; rw [HP.out, ← HE.out, ← List.append_assoc, HL.out]; exact o5
          have B5 : Hid (Below w.heap.size w w5) := (B2.out.alloc B2.out.size _).grown g5 (by have := B2.out.size; simp; omega) (fun b hb => (O2.out.block b hb).1)
          clear o5 g5 l5
          go_wp2
          go_roundw
          case rel => exact ⟨k + 1, rfl, by omega, O5.out, B5.out⟩
          case measure => simp [intOf]; omega
end Go.Proofs.YtkejdkajfnaieaaGreatDoor

namespace Go.Proofs.YtkejdkajfnaieaaGreatDoor
open Go.RowKit
set_option linter.unusedVariables false

theorem Ob.by_ {w : World} {base : Nat} {v : Value} {l : List UInt8} (h : Ob w base v l) : By w v l := by
  rcases h.2 with ⟨hv, h0⟩ | ⟨g, cap, cur, hv, hb, hg, h1, h2, h3, h4⟩
  · exact ⟨none, 0, by rw [hv, h0], by omega, by omega, fun hn => absurd (List.length_eq_zero_iff.1 h0) hn⟩
  · refine ⟨_, cap, hv, h1, h2, fun hn => ⟨_, rfl, lt_of_block hg, fun i d hd => ?_⟩⟩
    have hi : i < l.length := (List.getElem?_eq_some_iff.1 hd).1
    rw [Addr.add_lit, Nat.zero_add]
    have h5 : w.ownsRow base 5 1 (.slice (some ⟨g, 0, none⟩) l.length cap) l.length (byteCells l) := by rw [← hv]; exact h
    rw [h5.cellAt i (by omega), byteCells, List.getElem?_map, hd]
    rfl
theorem By.take {w : World} {ad : Option Addr} {n c k : Nat} {l : List UInt8} (h : By w (.slice ad n c) l) (hk : k ≤ l.length) : By w (.slice ad k c) (l.take k) := by
  obtain ⟨a, c', e, h1, h2, h3⟩ := h
  injection e with e1 e2 e3
  subst e1 e3
  have hl : (l.take k).length = k := by rw [List.length_take]; omega
  refine ⟨ad, c, by rw [hl], by omega, h2, fun hn => ?_⟩
  obtain ⟨x, e, hx, hc⟩ := h3 (by intro h; subst h; simp at hn)
  refine ⟨x, e, hx, fun i d hd => hc i d ?_⟩
  rw [List.getElem?_take] at hd
  split at hd
  · exact hd
  · cases hd
set_option maxRecDepth 100000 in
theorem By.conv {w : World} {ad : Option Addr} {n c : Nat} {l : List UInt8} (h : By w (.slice ad n c) l) : (convert 46 9 (.slice ad n c)).run Tryz.prog w = .ok (.string ⟨l.toArray⟩) w := by
  obtain ⟨a, c', e, h1, h2, h3⟩ := h
  injection e with e1 e2 e3
  subst e1 e2 e3
  by_cases hn : l = []
  · subst hn
    cases ad with
    | none => rw [show ([] : List UInt8).length = 0 from rfl, run_convert_bytes_string w 46 9 5 none 0 c Tryz.underlying46 Tryz.underlying5 Tryz.underlying9]; rfl
    | some a => exact run_convert_bytes_back (P := Tryz.prog) w 46 9 5 a c [] Tryz.underlying46 Tryz.underlying5 Tryz.underlying9 (fun j hj => by simp at hj)
  · obtain ⟨x, rfl, hx, hc⟩ := h3 hn
    exact run_convert_bytes_back (P := Tryz.prog) w 46 9 5 x c l Tryz.underlying46 Tryz.underlying5 Tryz.underlying9 (fun j hj => hc j _ (List.getElem?_eq_getElem hj))
theorem app_bytes {ops : Array Oper} {rest : List Oper} {o : Oper} {a : Act} {Q : Exit → Act → World → Prop} (w : World) (hgd : o.guard = none) (s x : Operand)
    (ho : o.op = .call { callee := .builtin .append, args := #[s, x], argTypes := #[46, 46] }) (base : Nat) (v : Value) (xs : List UInt8) (hs : a.eval s = v) (hown : Ob w base v xs)
    (u : Value) (ys : List UInt8) (hx : a.eval x = u) (hu : By w u ys) (hl : xs.length + ys.length ≤ 1000000000) (hbase : base ≤ w.heap.size)
    (h : ∀ v' w', Ob w' base v' (xs ++ ys) → w.grownBy w' v.ownBlock → wpList Tryz.prog ops Q rest (a.put o.dst v') w') :
    wpList Tryz.prog ops Q (o :: rest) a w := by
  obtain ⟨i0, hi, hz0, hz1, hz2⟩ := info_parts info_byte
  obtain ⟨ad, c, rfl, h1, h2, h3⟩ := hu
  by_cases hn : ys = []
  · subst hn
    refine wpList_plain hgd fun K hK => ?_
    have hrun := run_append_no (P := Tryz.prog) (w := w) base 46 o.type 5 i0 1 Tryz.underlying46 hi v xs.length _ hown ad c
    have hx' : a.eval x = .slice ad 0 c := hx
    unfold Oper.wp
    simp [execOp, ho, resolve, invoke, builtin, hs, hx', hrun, Result.andThen]
    exact hK _ _ (h v w (by simpa using hown) (World.grownBy.refl _ _))
  · obtain ⟨y, rfl, hy, hc⟩ := h3 hn
    refine wpList_append_own w hgd s x 46 ho base 5 i0 (.int .u8 0) 1 1 Tryz.underlying46 hi hz0 hz1 hz2 rfl (by decide) v xs.length _ hs hown y ys.length c (byteCells ys) hx (by simp [byteCells]) ?_ ?_ (by unfold maxLen; omega) (by omega) hbase ?_
    · intro j u hj
      rw [byteCells, List.getElem?_map] at hj
      cases hd : ys[j]? with
      | none => rw [hd] at hj; cases hj
      | some d => rw [hd] at hj; cases hj; exact hc j d hd
    · intro u hu
      simp only [byteCells, List.mem_map] at hu
      obtain ⟨b, -, rfl⟩ := hu
      rfl
    · intro v' w' k1 k2 _
      refine h v' w' ?_ k2
      unfold Ob
      rw [List.length_append, byteCells, List.map_append]
      exact k1
end Go.Proofs.YtkejdkajfnaieaaGreatDoor

namespace Go.Proofs.YtkejdkajfnaieaaGreatDoor
open Go.RowKit
set_option linter.unusedVariables false

/-- what stays where the list v grows to u. -/
structure Gb (w : World) (v : Value) (w' : World) (u : Value) : Prop where
  g : w.grownBy w' v.ownBlock
  o : u.ownBlock = v.ownBlock ∨ ∃ k, u.ownBlock = some k ∧ w.heap.size ≤ k
theorem Gb.refl (w : World) (v : Value) : Gb w v w v := ⟨World.grownBy.refl _ _, .inl rfl⟩
theorem Gb.trans {w w1 w2 : World} {v u t : Value} (h : Gb w v w1 u) (k : Gb w1 u w2 t) : Gb w v w2 t := by
  refine ⟨⟨k.g.os.trans h.g.os, k.g.tape.trans h.g.tape, k.g.output.trans h.g.output, Nat.le_trans h.g.size k.g.size, fun i hi hne => ?_⟩, ?_⟩
  · refine (k.g.block i (Nat.lt_of_lt_of_le hi h.g.size) ?_).trans (h.g.block i hi hne)
    rcases h.o with e | ⟨b, e, hb⟩
    · rw [e]; exact hne
    · rw [e]; intro h; injection h with h; omega
  · rcases k.o with e | ⟨b, e, hb⟩
    · rcases h.o with e' | ⟨b, e', hb⟩
      · exact .inl (e.trans e')
      · exact .inr ⟨b, e.trans e', hb⟩
    · exact .inr ⟨b, e, Nat.le_trans h.g.size hb⟩
theorem Gb.below {w w' : World} {v u : Value} {B : Nat} (h : Gb w v w' u) (hB : B ≤ w.heap.size) (hr : ∀ b, v.ownBlock = some b → B ≤ b) : Below B w w' := (Below.refl _ _).grown h.g hB hr
theorem Gb.alloc {w w' : World} {v u : Value} {o : Obj} (h : Gb (w.alloc o) v w' u) : Gb w v w' u := by
  refine ⟨⟨h.g.os, h.g.tape, h.g.output, ?_, fun i hi hne => ?_⟩, ?_⟩
  · have := h.g.size; simp at this; omega
  · rw [h.g.block i (by simp; omega) hne]
    exact heap_alloc_old w o hi
  · rcases h.o with e | ⟨b, e, hb⟩
    · exact .inl e
    · simp at hb
      exact .inr ⟨b, e, by omega⟩
theorem app_byte2 {ops : Array Oper} {rest : List Oper} {o : Oper} {a : Act} {Q : Exit → Act → World → Prop} (w : World) (hgd : o.guard = none) (s x : Operand)
    (ho : o.op = .call { callee := .builtin .append, args := #[s, x], argTypes := #[46, 46] }) (base : Nat) (v : Value) (l : List UInt8) (hs : a.eval s = v) (hown : Ob w base v l)
    (ad : Addr) (b : UInt8) (hx : a.eval x = .slice (some ad) 1 1) (hd : w.cell? ad = some (.int .u8 (b.toNat : Nat))) (hl : l.length ≤ 2000000000) (hbase : base ≤ w.heap.size)
    (h : ∀ v' w', Ob w' base v' (l ++ [b]) → Gb w v w' v' → wpList Tryz.prog ops Q rest (a.put o.dst v') w') :
    wpList Tryz.prog ops Q (o :: rest) a w := by
  obtain ⟨i0, hi, hz0, hz1, hz2⟩ := info_parts info_byte
  refine wpList_append_lies w hgd s x 46 ho base 5 i0 (.int .u8 0) 1 1 Tryz.underlying46 hi hz0 hz1 hz2 rfl (by decide) v l.length _ hs hown ad 1 1 [.int .u8 (b.toNat : Nat)] hx rfl ?_ ?_ (by decide) (by unfold maxLen; omega) (by omega) hbase _ rfl ?_
  · intro j u hj
    match j, hj with
    | 0, hj => simp at hj; subst hj; exact hd
  · intro u hu
    simp at hu
    subst hu
    rfl
  · intro g cap w' h1 h2 h3 h4
    refine h _ w' ?_ ⟨h2, ?_⟩
    · unfold Ob
      rw [List.length_append, byteCells_snoc]
      exact h1
    · rcases h3 with h3 | h3
      · exact .inl (by rw [h3]; rfl)
      · exact .inr ⟨g, rfl, by omega⟩
set_option maxRecDepth 100000 in
set_option maxHeartbeats 4000000 in
theorem rnumb_any (base : Nat) (v : Value) (l : List UInt8) (n : Int) (w : World) (h : Ob w base v l) (hb : base ≤ w.heap.size) (hl : l.length ≤ 1000000000) (hi : Wd.In64 n) :
    Calls Tryz.prog 66 #[v, .int .i64 n] w fun e w' => ∃ u, e = .returned u ∧ Ob w' base u (l ++ Wd.num n) ∧ Gb w v w' u := by
  have O : Hid (Ob w base v l) := h
  have LL : Hid (l.length ≤ 1000000000 ∧ base ≤ w.heap.size) := ⟨hl, hb⟩
  obtain ⟨x, hx⟩ : ∃ x, Wd.zz n = x := ⟨_, rfl⟩
  have HX : Hid (Wd.num n = Wd.vl x ∧ x < 18446744073709551616) := ⟨by unfold Wd.num; rw [hx], by rw [← hx]; exact Wd.zz_lt hi⟩
  unfold Wd.In64 at hi
  have START : ∃ p : Nat, IntKind.u64.wrap n = (p : Nat) ∧ ∃ q : Nat, (p : Int) * 2 = (q : Nat) ∧ ∃ r : Nat, IntKind.u64.wrap (q : Nat) = (r : Nat) ∧ (0 ≤ n → r = x) := by
    refine ⟨(IntKind.u64.wrap n).toNat, ?_, _, rfl, ?_⟩
    · rw [IntKind.wrap_u64]; omega
    · refine ⟨(IntKind.u64.wrap (((IntKind.u64.wrap n).toNat * 2 : Nat) : Int)).toNat, ?_, ?_⟩
      · rw [IntKind.wrap_u64]; omega
      · intro h0
        rw [← hx]
        unfold Wd.zz
        rw [if_neg (by omega), IntKind.wrap_u64, IntKind.wrap_u64]
        omega
  obtain ⟨p, ep, q, eq, r, er, hr⟩ := START
  have LOOP : Hid True := trivial
  clear h hl hb
  by_cases h0 : n < 0
  · obtain ⟨m, hm⟩ : ∃ m : Nat, -(n + 1) = (m : Nat) := ⟨(-(n + 1)).toNat, by omega⟩
    obtain ⟨m1, hm1⟩ : ∃ m1 : Int, n + 1 = m1 := ⟨_, rfl⟩
    rw [hm1] at hm
    have wm1 : IntKind.i64.wrap m1 = m1 := by rw [IntKind.wrap_i64]; omega
    have wm : IntKind.i64.wrap (m : Int) = (m : Int) := by rw [IntKind.wrap_i64]; omega
    obtain ⟨m2, hm2⟩ : ∃ m2, m * 2 = m2 := ⟨_, rfl⟩
    have em2 : (m : Int) * 2 = (m2 : Nat) := by omega
    have wm2 : IntKind.u64.wrap ((m2 : Nat) : Int) = (m2 : Nat) := by rw [IntKind.wrap_u64]; omega
    have wmu : IntKind.u64.wrap ((m : Nat) : Int) = (m : Nat) := by rw [IntKind.wrap_u64]; omega
    have ex : ((m2 : Nat) : Int) + 1 = (x : Nat) := by
      rw [← hx]; unfold Wd.zz; rw [if_pos h0]; omega
    have wx : IntKind.u64.wrap ((x : Nat) : Int) = (x : Nat) := by rw [IntKind.wrap_u64]; have := HX.out.2; omega
    clear hx hr hi
    go_enter Tryz.func66, Tryz.ntmps66
    go_wp2
    go_loopw [0, 5] (fun bv xv W => ∃ (y : Nat) (D : List UInt8), xv = .int .u64 (y : Nat) ∧ y < 18446744073709551616 ∧ D ++ Wd.vl y = Wd.vl x ∧ Ob W base bv (l ++ D) ∧ Gb w v W bv) (fun _ xv _ => (intOf xv).toNat)
    case atStart => exact ⟨x, [], rfl, HX.out.2, rfl, by rw [List.append_nil]; exact O.out, Gb.refl _ _⟩
    case round =>
      obtain ⟨y, D, rfl, hy, hv, ho, hg⟩ := hrel
      have O2 : Hid (Ob wr base u0 (l ++ D)) := ho
      have G2 : Hid (Gb w v wr u0) := hg
      have HV : Hid (D ++ Wd.vl y = Wd.vl x) := hv
      have DL : Hid ((l ++ D).length ≤ 1000000010) := by
        unfold Hid
        have h1 := vl_len HX.out.2
        have h2 := congrArg List.length hv
        have h3 := LL.out.1
        rw [List.length_append] at h2 ⊢
        omega
      have BS : Hid (base ≤ wr.heap.size) := Nat.le_trans LL.out.2 hg.g.size
      clear ho hg hv
      obtain ⟨L, hL⟩ : ∃ L, l ++ D = L := ⟨_, rfl⟩
      have HL : Hid (l ++ D = L) := hL
      rw [hL] at O2 DL
      clear hL
      by_cases h128 : 128 ≤ y
      · obtain ⟨m9, hm9⟩ : ∃ m, y % 128 = m := ⟨_, rfl⟩
        obtain ⟨d, hd⟩ : ∃ d, y / 128 = d := ⟨_, rfl⟩
        have hmi : (y : Int) % 128 = m9 := by omega
        have hdi : (y : Int) / 128 = d := by omega
        have m1' : m9 < 128 := by omega
        have hgi : (127 : Int) < (y : Int) := by omega
        obtain ⟨c, hc⟩ : ∃ c, UInt8.ofNat (m9 + 128) = c := ⟨_, rfl⟩
        have em : c.toNat = m9 + 128 := by rw [← hc, UInt8.toNat_ofNat']; omega
        have HE : Hid (Wd.vl y = c :: Wd.vl d) := by unfold Hid; rw [Wd.vl_great h128, hm9, hd, hc]
        have hdl : Hid (d < y) := by unfold Hid; omega
        clear hm9 hd h128 hc
        go_wp2_with (at_builtin; refine app_byte2 _ rfl _ _ rfl base _ L rfl (O2.out.alloc _) ⟨wr.heap.size, 0, none⟩ c rfl (by rw [em]; simp) (by have := DL.out; omega) (by have := BS.out; simp; omega) ?_)
        intro v5 w5 o5 g5
        have O5 : Hid (Ob w5 base v5 (l ++ (D ++ [c]))) := by unfold Hid; rw [← List.append_assoc, HL.out]; exact o5
        have G5 : Hid (Gb w v w5 v5) := G2.out.trans g5.alloc
        clear o5 g5
        go_wp2
        go_roundw
        case rel =>
          refine ⟨d, D ++ [c], rfl, by have := hdl.out; omega, ?_, O5.out, G5.out⟩
          rw [List.append_assoc, ← HV.out, HE.out]
          rfl
        case measure => have := hdl.out; simp [intOf]; omega
      · have hgi : ¬ (127 : Int) < (y : Int) := by omega
        obtain ⟨c, hc⟩ : ∃ c, UInt8.ofNat y = c := ⟨_, rfl⟩
        have em : c.toNat = y := by rw [← hc, UInt8.toNat_ofNat']; omega
        have wy : IntKind.u8.wrap (y : Int) = (y : Int) := by rw [IntKind.wrap_u8]; omega
        have HE : Hid (D ++ [c] = Wd.num n) := by unfold Hid; rw [HX.out.1, ← HV.out, Wd.vl_small (by omega), hc]
        clear h128 hc
        go_wp2_with (at_builtin; refine app_byte2 _ rfl _ _ rfl base _ L rfl (O2.out.alloc _) ⟨wr.heap.size, 0, none⟩ c rfl (by rw [em]; simp) (by have := DL.out; omega) (by have := BS.out; simp; omega) ?_)
        intro v5 w5 o5 g5
        have O5 : Hid (Ob w5 base v5 (l ++ Wd.num n)) := by unfold Hid; rw [← HE.out, ← List.append_assoc, HL.out]; exact o5
        have G5 : Hid (Gb w v w5 v5) := G2.out.trans g5.alloc
        clear o5 g5
        go_wp2
        go_ret
        exact ⟨_, rfl, O5.out, G5.out⟩
  · have hrx := hr (by omega)
    subst hrx
    clear hx hr hi
    go_enter Tryz.func66, Tryz.ntmps66
    go_wp2
    go_loopw [0, 5] (fun bv xv W => ∃ (y : Nat) (D : List UInt8), xv = .int .u64 (y : Nat) ∧ y < 18446744073709551616 ∧ D ++ Wd.vl y = Wd.vl r ∧ Ob W base bv (l ++ D) ∧ Gb w v W bv) (fun _ xv _ => (intOf xv).toNat)
    case atStart => exact ⟨r, [], rfl, HX.out.2, rfl, by rw [List.append_nil]; exact O.out, Gb.refl _ _⟩
    case round =>
      obtain ⟨y, D, rfl, hy, hv, ho, hg⟩ := hrel
      have O2 : Hid (Ob wr base u0 (l ++ D)) := ho
      have G2 : Hid (Gb w v wr u0) := hg
      have HV : Hid (D ++ Wd.vl y = Wd.vl r) := hv
      have DL : Hid ((l ++ D).length ≤ 1000000010) := by
        unfold Hid
        have h1 := vl_len HX.out.2
        have h2 := congrArg List.length hv
        have h3 := LL.out.1
        rw [List.length_append] at h2 ⊢
        omega
      have BS : Hid (base ≤ wr.heap.size) := Nat.le_trans LL.out.2 hg.g.size
      clear ho hg hv
      obtain ⟨L, hL⟩ : ∃ L, l ++ D = L := ⟨_, rfl⟩
      have HL : Hid (l ++ D = L) := hL
      rw [hL] at O2 DL
      clear hL
      by_cases h128 : 128 ≤ y
      · obtain ⟨m9, hm9⟩ : ∃ m, y % 128 = m := ⟨_, rfl⟩
        obtain ⟨d, hd⟩ : ∃ d, y / 128 = d := ⟨_, rfl⟩
        have hmi : (y : Int) % 128 = m9 := by omega
        have hdi : (y : Int) / 128 = d := by omega
        have m1' : m9 < 128 := by omega
        have hgi : (127 : Int) < (y : Int) := by omega
        obtain ⟨c, hc⟩ : ∃ c, UInt8.ofNat (m9 + 128) = c := ⟨_, rfl⟩
        have em : c.toNat = m9 + 128 := by rw [← hc, UInt8.toNat_ofNat']; omega
        have HE : Hid (Wd.vl y = c :: Wd.vl d) := by unfold Hid; rw [Wd.vl_great h128, hm9, hd, hc]
        have hdl : Hid (d < y) := by unfold Hid; omega
        clear hm9 hd h128 hc
        go_wp2_with (at_builtin; refine app_byte2 _ rfl _ _ rfl base _ L rfl (O2.out.alloc _) ⟨wr.heap.size, 0, none⟩ c rfl (by rw [em]; simp) (by have := DL.out; omega) (by have := BS.out; simp; omega) ?_)
        intro v5 w5 o5 g5
        have O5 : Hid (Ob w5 base v5 (l ++ (D ++ [c]))) := by unfold Hid; rw [← List.append_assoc, HL.out]; exact o5
        have G5 : Hid (Gb w v w5 v5) := G2.out.trans g5.alloc
        clear o5 g5
        go_wp2
        go_roundw
        case rel =>
          refine ⟨d, D ++ [c], rfl, by have := hdl.out; omega, ?_, O5.out, G5.out⟩
          rw [List.append_assoc, ← HV.out, HE.out]
          rfl
        case measure => have := hdl.out; simp [intOf]; omega
      · have hgi : ¬ (127 : Int) < (y : Int) := by omega
        obtain ⟨c, hc⟩ : ∃ c, UInt8.ofNat y = c := ⟨_, rfl⟩
        have em : c.toNat = y := by rw [← hc, UInt8.toNat_ofNat']; omega
        have wy : IntKind.u8.wrap (y : Int) = (y : Int) := by rw [IntKind.wrap_u8]; omega
        have HE : Hid (D ++ [c] = Wd.num n) := by unfold Hid; rw [HX.out.1, ← HV.out, Wd.vl_small (by omega), hc]
        clear h128 hc
        go_wp2_with (at_builtin; refine app_byte2 _ rfl _ _ rfl base _ L rfl (O2.out.alloc _) ⟨wr.heap.size, 0, none⟩ c rfl (by rw [em]; simp) (by have := DL.out; omega) (by have := BS.out; simp; omega) ?_)
        intro v5 w5 o5 g5
        have O5 : Hid (Ob w5 base v5 (l ++ Wd.num n)) := by unfold Hid; rw [← HE.out, ← List.append_assoc, HL.out]; exact o5
        have G5 : Hid (Gb w v w5 v5) := G2.out.trans g5.alloc
        clear o5 g5
        go_wp2
        go_ret
        exact ⟨_, rfl, O5.out, G5.out⟩
end Go.Proofs.YtkejdkajfnaieaaGreatDoor

namespace Go.Proofs.YtkejdkajfnaieaaGreatDoor
open Go.RowKit
set_option linter.unusedVariables false

theorem Ro.gb {w w' : World} {v u x : Value} {xs : List Int} {B : Nat} (h : Ro w x xs) (g : Gb w v w' u) (hx : ∀ y n c, x = .slice (some y) n c → xs ≠ [] → v.ownBlock ≠ some y.block) : Ro w' x xs := by
  obtain ⟨a, c, rfl, h1, h2, h3⟩ := h
  refine ⟨a, c, rfl, h1, h2, fun hn => ?_⟩
  obtain ⟨y, rfl, hy, hc⟩ := h3 hn
  refine ⟨y, rfl, Nat.lt_of_lt_of_le hy g.g.size, fun i d hd => ?_⟩
  rw [g.g.cell_far (y.add i) (by rw [add_block]; exact hy) (by rw [add_block]; exact fun e => hx y _ _ rfl hn e.symm)]
  exact hc i d hd
set_option maxRecDepth 100000 in
set_option maxHeartbeats 4000000 in
theorem rnums_any (base : Nat) (v x : Value) (l : List UInt8) (xs : List Int) (w w0 : World) (h : Ob w base v l) (hb : base ≤ w.heap.size) (hl : l.length + 10 * (xs.length + 1) ≤ 900000000) (hi : ∀ n ∈ xs, Wd.In64 n) (hx : Ro w0 x xs) (h0 : w0.heap.size ≤ base) (hw : Below w0.heap.size w0 w) :
    Calls Tryz.prog 67 #[v, x] w fun e w' => ∃ u, e = .returned u ∧ Ob w' base u (l ++ Wd.wr ((xs.length : Int) :: xs)) ∧ Gb w v w' u := by
  have O : Hid (Ob w base v l) := h
  have LL : Hid (l.length + 10 * (xs.length + 1) ≤ 900000000 ∧ base ≤ w.heap.size ∧ w0.heap.size ≤ base) := ⟨hl, hb, h0⟩
  have HI : Hid (∀ n ∈ xs, Wd.In64 n) := hi
  have HX : Hid (Ro w0 x xs) := hx
  have BW : Hid (Below w0.heap.size w0 w) := hw
  obtain ⟨ad, cap, rfl, -, hc2, -⟩ := hx
  have hxl : xs.length ≤ 90000000 := by omega
  have IL : Hid (Wd.In64 (xs.length : Int)) := by unfold Hid Wd.In64; omega
  clear h hb hl hi h0 hw
  go_enter Tryz.func67, Tryz.ntmps67
  go_wp2_with fail
  refine (rnumb_any base v l (xs.length : Int) w O.out LL.out.2.1 (by have := LL.out.1; omega) IL.out).mono ?_
  rintro e w1 ⟨u1, rfl, ho, hg⟩
  have O1 : Hid (Ob w1 base u1 (l ++ Wd.num xs.length)) := ho
  have G1 : Hid (Gb w v w1 u1) := hg
  clear ho hg
  go_wp2
  go_loopw [0, 5] (fun bv iv W => ∃ (k : Nat), iv = .int .i64 (k : Nat) ∧ k ≤ xs.length ∧ Ob W base bv (l ++ Wd.wr ((xs.length : Int) :: xs.take k)) ∧ Gb w v W bv) (fun _ iv _ => xs.length - (intOf iv).toNat)
  case atStart => exact ⟨0, rfl, Nat.zero_le _, by have := O1.out; rw [← Wd.wr_one] at this; exact this, G1.out⟩
  case round =>
    obtain ⟨k, rfl, hk, ho, hg⟩ := hrel
    have O2 : Hid (Ob wr base u0 (l ++ Wd.wr ((xs.length : Int) :: xs.take k))) := ho
    have G2 : Hid (Gb w v wr u0) := hg
    clear ho hg
    by_cases he : k = xs.length
    · subst he
      go_wp2
      go_ret
      exact ⟨_, rfl, by have := O2.out; rwa [List.take_length] at this, G2.out⟩
    · have hlt : k < xs.length := by omega
      have hli : (k : Int) < (xs.length : Int) := by omega
      obtain ⟨n, hn⟩ : ∃ n, xs[k]? = some n := ⟨_, List.getElem?_eq_getElem hlt⟩
      have BWR : Hid (Below w0.heap.size w0 wr) := BW.out.trans (G2.out.below (by have := LL.out; omega) (fun b hb => by have := (O.out.block b hb).1; have := LL.out; omega))
      obtain ⟨ad', cap', e, -, -, hc⟩ := HX.out.below BWR.out
      injection e with e1 e2 e3
      subst e1 e3
      obtain ⟨y, rfl, hy, hcell⟩ := hc (by intro e; subst e; simp at hlt)
      have cc : wr.cell? (y.add k) = some (.int .i64 n) := hcell k n hn
      have IN : Hid (Wd.In64 n) := HI.out n (List.mem_of_getElem? hn)
      have LN : Hid ((l ++ Wd.wr ((xs.length : Int) :: xs.take k)).length ≤ 1000000000) := by
        unfold Hid
        have h1 := wr_len (xs := (xs.length : Int) :: xs.take k) (fun n hn => by
          rcases List.mem_cons.1 hn with rfl | hn
          · exact IL.out
          · exact HI.out n (List.mem_of_mem_take hn))
        rw [List.length_append]
        rw [List.length_cons, List.length_take] at h1
        have := LL.out.1
        omega
      have NX : Hid (l ++ Wd.wr ((xs.length : Int) :: xs.take k) ++ Wd.num n = l ++ Wd.wr ((xs.length : Int) :: xs.take (k + 1))) := by
        unfold Hid
        obtain ⟨hi, e⟩ := List.getElem?_eq_some_iff.1 hn
        rw [List.take_succ_eq_append_getElem hi, e, List.append_assoc, ← List.cons_append, Wd.wr_append, Wd.wr_one]
      obtain ⟨L, hL⟩ : ∃ L, l ++ Wd.wr ((xs.length : Int) :: xs.take k) = L := ⟨_, rfl⟩
      rw [hL] at O2 LN NX
      clear hc hcell hy hn hL
      go_wp2_with fail
      refine (rnumb_any base u0 L n wr O2.out (Nat.le_trans LL.out.2.1 G2.out.g.size) LN.out IN.out).mono ?_
      rintro e w2 ⟨u2, rfl, ho, hg⟩
      have O3 : Hid (Ob w2 base u2 (l ++ Wd.wr ((xs.length : Int) :: xs.take (k + 1)))) := by rw [← NX.out]; exact ho
      have G3 : Hid (Gb w v w2 u2) := G2.out.trans hg
      clear ho hg cc
      go_wp2
      go_roundw
      case rel => exact ⟨k + 1, rfl, by omega, O3.out, G3.out⟩
      case measure => simp [intOf]; omega
end Go.Proofs.YtkejdkajfnaieaaGreatDoor

namespace Go.Proofs.YtkejdkajfnaieaaGreatDoor
open Go.RowKit
set_option linter.unusedVariables false

set_option maxRecDepth 100000 in
set_option maxHeartbeats 8000000 in
theorem numbers_any (v : Value) (W : WV) (w : World) (h : Wl w v W) (hs : WSmall W) :
    Calls Tryz.prog 80 #[v] w fun e w' => ∃ u, e = .returned u ∧ Ow w' (w.heap.size + 2) u (Wd.nums W) ∧ Below w.heap.size w w' := by
  have H : Hid (Wl w v W) := h
  have S : Hid (WSmall W) := hs
  obtain ⟨u1, u2, u3, u4, u5, rfl, h1, h2, h3, h4, h5⟩ := h
  obtain ⟨a1, k1, rfl, -⟩ := h1
  obtain ⟨a2, k2, rfl, -⟩ := h2
  obtain ⟨a3, k3, rfl, -⟩ := h3
  obtain ⟨a4, k4, rfl, -⟩ := h4
  obtain ⟨a5, k5, rfl, -⟩ := h5
  clear hs
  go_enter Tryz.func80, Tryz.ntmps80
  go_wp2
  have N0 : Hid (Nm1 w W (.slice a1 W.gs.length k1) (.slice a2 W.os.length k2) (.slice a3 W.gold.length k3) (.slice a4 W.us.length k4) (.slice a5 W.qs.length k5) (w.heap.size + 1 + 1 + 1) (.slice (some ⟨w.heap.size + 1 + 1, 0, none⟩) 4 4) (nums1 W 0) ((((w.alloc (Obj.cells #[.int .i64 W.turn, .int .i64 W.next, .int .i64 W.wide, .int .i64 W.high, .slice a1 W.gs.length k1, .slice a2 W.os.length k2, .slice a3 W.gold.length k3, .slice a4 W.us.length k4, .slice a5 W.qs.length k5] 29)).alloc (Obj.cells #[.int .i64 W.wide, .int .i64 W.high, .slice a1 W.gs.length k1, .slice a2 W.os.length k2] 25)).alloc (Obj.cells #[.int .i64 W.turn, .int .i64 W.next, .int .i64 W.wide, .int .i64 W.high] 3)).alloc (Obj.cells #[.slice a1 W.gs.length k1, .slice a2 W.os.length k2, .slice a3 W.gold.length k3] 23))) := by
    refine ⟨?_, by simp [Value.ownBlock], (Bw.mk' W _ _ _ _ _ rfl).below (n := w.heap.size + 1) ((((Below.refl _ _).alloc (by simp) _).alloc (by simp) _).alloc (by simp) _) (Nat.lt_succ_self _), cell_of_new (by simp) rfl, cell_of_new (by simp) rfl, cell_of_new (by simp) rfl, ?_⟩
    · refine World.ownsRow.alloc ?_ _
      have e : w.heap.size + 1 + 1 = ((w.alloc (Obj.cells #[.int .i64 W.turn, .int .i64 W.next, .int .i64 W.wide, .int .i64 W.high, .slice a1 W.gs.length k1, .slice a2 W.os.length k2, .slice a3 W.gold.length k3, .slice a4 W.us.length k4, .slice a5 W.qs.length k5] 29)).alloc (Obj.cells #[.int .i64 W.wide, .int .i64 W.high, .slice a1 W.gs.length k1, .slice a2 W.os.length k2] 25)).heap.size := by simp
      rw [e]
      exact World.ownsRow_lit _ _ 4 (by simp) (by unfold maxLen; omega) rfl
    · exact ((((Below.refl _ _).alloc (Nat.le_refl _) _).alloc (by simp) _).alloc (by simp; omega) _).alloc (by simp; omega) _
  generalize ((((w.alloc (Obj.cells #[.int .i64 W.turn, .int .i64 W.next, .int .i64 W.wide, .int .i64 W.high, .slice a1 W.gs.length k1, .slice a2 W.os.length k2, .slice a3 W.gold.length k3, .slice a4 W.us.length k4, .slice a5 W.qs.length k5] 29)).alloc (Obj.cells #[.int .i64 W.wide, .int .i64 W.high, .slice a1 W.gs.length k1, .slice a2 W.os.length k2] 25)).alloc (Obj.cells #[.int .i64 W.turn, .int .i64 W.next, .int .i64 W.wide, .int .i64 W.high] 3)).alloc (Obj.cells #[.slice a1 W.gs.length k1, .slice a2 W.os.length k2, .slice a3 W.gold.length k3] 23)) = w3 at *
  generalize hzl : w.heap.size + 1 + 1 + 1 = zl at *
  have HZ : Hid (w.heap.size + 3 = zl) := hzl
  clear hzl
  go_loopw [4, 30] (fun lv iv W' => ∃ k : Nat, k ≤ 3 ∧ iv = .int .i64 (k : Nat) ∧ Nm1 w W (.slice a1 W.gs.length k1) (.slice a2 W.os.length k2) (.slice a3 W.gold.length k3) (.slice a4 W.us.length k4) (.slice a5 W.qs.length k5) zl lv (nums1 W k) W') (fun _ iv _ => 3 - (intOf iv).toNat)
  case atStart => exact ⟨0, by omega, rfl, N0.out⟩
  case round =>
    obtain ⟨k, hk, rfl, hn⟩ := hrel
    have N : Hid (Nm1 w W (.slice a1 W.gs.length k1) (.slice a2 W.os.length k2) (.slice a3 W.gold.length k3) (.slice a4 W.us.length k4) (.slice a5 W.qs.length k5) zl u4 (nums1 W k) wr) := hn
    clear hn N0
    have SZ : Hid (w.heap.size + 2 ≤ wr.heap.size) := by
      unfold Hid
      have h1 := HZ.out
      have h2 := cell_lt N.out.c0
      simp only at h2
      omega
    by_cases hk3 : k = 3
    · subst hk3
      have c7 := N.out.b.c7
      clear hk
      go_wp2_with (at_builtin; refine app_int _ rfl _ _ rfl (w.heap.size + 2) _ (nums1 W 3) rfl (N.out.o.alloc _) ⟨wr.heap.size, 0, none⟩ (W.us.length : Nat) rfl (by simp) (by have := nums1_len S.out 3; omega) (by have := SZ.out; simp; omega) ?_)
      intro g cap w5 o5 g5 q5 l5
      have N5 : Hid (Nm1 w W (.slice a1 W.gs.length k1) (.slice a2 W.os.length k2) (.slice a3 W.gold.length k3) (.slice a4 W.us.length k4) (.slice a5 W.qs.length k5) zl (.slice (some ⟨g, 0, none⟩) ((nums1 W 3).length + 1) cap) (nums2 W 0) w5) := N.out.step ((Below.refl _ _).alloc (Nat.le_refl _) _) g5 o5 (own_is (by simpa using q5))
      clear o5 g5 q5 l5 c7 N SZ
      have c7 := N5.out.b.c7
      go_wp2
      clear c7
      go_loopw [4, 52] (fun lv iv W' => ∃ k : Nat, k ≤ W.us.length ∧ iv = .int .i64 (k : Nat) ∧ Nm1 w W (.slice a1 W.gs.length k1) (.slice a2 W.os.length k2) (.slice a3 W.gold.length k3) (.slice a4 W.us.length k4) (.slice a5 W.qs.length k5) zl lv (nums2 W k) W') (fun _ iv _ => W.us.length - (intOf iv).toNat)
      case atStart => exact ⟨0, Nat.zero_le _, rfl, N5.out⟩
      case round =>
        obtain ⟨k, hk, rfl, hn⟩ := hrel
        have N : Hid (Nm1 w W (.slice a1 W.gs.length k1) (.slice a2 W.os.length k2) (.slice a3 W.gold.length k3) (.slice a4 W.us.length k4) (.slice a5 W.qs.length k5) zl u4 (nums2 W k) wr) := hn
        have SZ : Hid (w.heap.size + 2 ≤ wr.heap.size) := by
          unfold Hid
          have h1 := HZ.out
          have h2 := cell_lt N.out.c0
          simp only at h2
          omega
        clear hn N5
        by_cases hkl : k = W.us.length
        · have hki : (k : Int) = (W.us.length : Int) := by omega
          have ho := N.out.o
          rw [hkl] at ho
          have N' : Hid (Nm1 w W (.slice a1 W.gs.length k1) (.slice a2 W.os.length k2) (.slice a3 W.gold.length k3) (.slice a4 W.us.length k4) (.slice a5 W.qs.length k5) zl u4 (nums2 W W.us.length) wr) := by have := N.out; rwa [hkl] at this
          subst hkl
          have c8 := N'.out.b.c8
          clear hk ho hki
          go_wp2_with (at_builtin; refine app_int _ rfl _ _ rfl (w.heap.size + 2) _ (nums2 W W.us.length) rfl (N'.out.o.alloc _) ⟨wr.heap.size, 0, none⟩ (W.qs.length : Nat) rfl (by simp) (by have := nums2_len S.out W.us.length; omega) (by have := SZ.out; simp; omega) ?_)
          intro g cap w5 o5 g5 q5 l5
          have N5 : Hid (Nm1 w W (.slice a1 W.gs.length k1) (.slice a2 W.os.length k2) (.slice a3 W.gold.length k3) (.slice a4 W.us.length k4) (.slice a5 W.qs.length k5) zl (.slice (some ⟨g, 0, none⟩) ((nums2 W W.us.length).length + 1) cap) (nums3 W 0) w5) := N'.out.step ((Below.refl _ _).alloc (Nat.le_refl _) _) g5 o5 (own_is (by simpa using q5))
          clear o5 g5 q5 l5 c8 N N' SZ
          have c8 := N5.out.b.c8
          go_wp2
          clear c8
          go_loopw [4, 85] (fun lv iv W' => ∃ k : Nat, k ≤ W.qs.length ∧ iv = .int .i64 (k : Nat) ∧ Nm1 w W (.slice a1 W.gs.length k1) (.slice a2 W.os.length k2) (.slice a3 W.gold.length k3) (.slice a4 W.us.length k4) (.slice a5 W.qs.length k5) zl lv (nums3 W k) W') (fun _ iv _ => W.qs.length - (intOf iv).toNat)
          case atStart => exact ⟨0, Nat.zero_le _, rfl, N5.out⟩
          case round =>
            obtain ⟨k, hk, rfl, hn⟩ := hrel
            have N : Hid (Nm1 w W (.slice a1 W.gs.length k1) (.slice a2 W.os.length k2) (.slice a3 W.gold.length k3) (.slice a4 W.us.length k4) (.slice a5 W.qs.length k5) zl u4 (nums3 W k) wr) := hn
            have SZ : Hid (w.heap.size + 2 ≤ wr.heap.size) := by
              unfold Hid
              have h1 := HZ.out
              have h2 := cell_lt N.out.c0
              simp only at h2
              omega
            clear hn N5
            by_cases hkl : k = W.qs.length
            · subst hkl
              clear hk
              go_wp2
              go_ret
              exact ⟨_, rfl, by have := N.out.o; rwa [nums3_all] at this, N.out.bl⟩
            · have hlt : k < W.qs.length := by omega
              have hli : (k : Int) < (W.qs.length : Int) := by omega
              have hq : W.qs.length ≤ 1048576 := S.out.q
              obtain ⟨j, hj⟩ : ∃ j, W.qs[k]? = some j := ⟨_, List.getElem?_eq_getElem hlt⟩
              obtain ⟨-, -, -, -, b, c, e, -, -, hc⟩ := (H.out.below N.out.bl).slices
              injection e with e1 e2 e3
              subst e1 e3
              obtain ⟨x, rfl, hx, hcell⟩ := hc (by intro e; rw [e] at hlt; simp at hlt)
              obtain ⟨d0, d1, d2, d3⟩ := hcell k j hj
              have NX : Hid (nums3 W (k + 1) = nums3 W k ++ Wd.jnums j) := nums3_next hj
              clear hc hcell hx hj hkl
              go_wp2_with (at_builtin; refine app_row _ rfl _ _ rfl (w.heap.size + 2) _ (nums3 W k) rfl ((N.out.o.alloc _).alloc _) _ (Wd.jnums j) rfl (Ro.lit (Wd.jnums j) _ rfl (by simp [Wd.jnums]) (by simp)) (by have := nums3_len S.out k; simp [Wd.jnums]; omega) (by have := SZ.out; simp; omega) ?_)
              intro v6 w6 o6 g6 q6
              have N6 : Hid (Nm1 w W _ _ _ _ _ zl v6 (nums3 W (k + 1)) w6) := N.out.step (((Below.refl _ _).alloc (Nat.le_refl _) _).alloc (by simp) _) g6 (by rw [NX.out]; exact o6) (by simpa using q6)
              clear o6 g6 q6
              go_wp2
              go_roundw
              case rel => exact ⟨k + 1, by omega, rfl, N6.out⟩
              case measure => simp [intOf]; omega
        · have hlt : k < W.us.length := by omega
          have hli : (k : Int) < (W.us.length : Int) := by omega
          have hq : W.us.length ≤ 1048576 := S.out.u
          obtain ⟨j, hj⟩ : ∃ j, W.us[k]? = some j := ⟨_, List.getElem?_eq_getElem hlt⟩
          obtain ⟨-, -, -, ⟨b, c, e, -, -, hc⟩, -⟩ := (H.out.below N.out.bl).slices
          injection e with e1 e2 e3
          subst e1 e3
          obtain ⟨x, rfl, hx, hcell⟩ := hc (by intro e; rw [e] at hlt; simp at hlt)
          obtain ⟨d0, d1, d2, d3, d4, d5, d6, d7⟩ := hcell k j hj
          have NX : Hid (nums2 W (k + 1) = nums2 W k ++ Wd.unums j) := nums2_next hj
          clear hc hcell hx hj hkl
          go_wp2_with (at_builtin; refine app_row _ rfl _ _ rfl (w.heap.size + 2) _ (nums2 W k) rfl ((N.out.o.alloc _).alloc _) _ (Wd.unums j) rfl (Ro.lit (Wd.unums j) _ rfl (by simp [Wd.unums]) (by simp)) (by have := nums2_len S.out k; simp [Wd.unums]; omega) (by have := SZ.out; simp; omega) ?_)
          intro v6 w6 o6 g6 q6
          have N6 : Hid (Nm1 w W _ _ _ _ _ zl v6 (nums2 W (k + 1)) w6) := N.out.step (((Below.refl _ _).alloc (Nat.le_refl _) _).alloc (by simp) _) g6 (by rw [NX.out]; exact o6) (by simpa using q6)
          clear o6 g6 q6
          go_wp2
          go_roundw
          case rel => exact ⟨k + 1, by omega, rfl, N6.out⟩
          case measure => simp [intOf]; omega
    · have hk' : k = 0 ∨ k = 1 ∨ k = 2 := by omega
      clear hk hk3
      rcases hk' with rfl | rfl | rfl
      · have ck := N.out.c0
        go_wp2_with (at_builtin; refine app_int _ rfl _ _ rfl (w.heap.size + 2) _ (nums1 W 0) rfl (N.out.o.alloc _) ⟨wr.heap.size, 0, none⟩ (W.gs.length : Nat) rfl (by simp) (by have := nums1_len S.out 0; omega) (by have := SZ.out; simp; omega) ?_)
        intro g cap w5 o5 g5 q5 l5
        obtain ⟨L, hL⟩ : ∃ L, nums1 W 0 ++ [(W.gs.length : Int)] = L := ⟨_, rfl⟩
        rw [hL] at o5
        have N5 : Hid (Nm1 w W (.slice a1 W.gs.length k1) (.slice a2 W.os.length k2) (.slice a3 W.gold.length k3) (.slice a4 W.us.length k4) (.slice a5 W.qs.length k5) zl (.slice (some ⟨g, 0, none⟩) ((nums1 W 0).length + 1) cap) L w5) := N.out.step ((Below.refl _ _).alloc (Nat.le_refl _) _) g5 o5 (own_is (by simpa using q5))
        have S5 : Hid (w.heap.size + 2 ≤ w5.heap.size) := by have := SZ.out; have := g5.size; simp at this; unfold Hid; omega
        have R5 : Hid (Ro w5 (.slice a1 W.gs.length k1) W.gs) := (H.out.below N5.out.bl).slices.1
        have HL : Hid (L ++ W.gs = nums1 W 1 ∧ L.length ≤ 5000000) := ⟨by rw [← hL]; simp [nums1], by have := nums1_len S.out 0; rw [← hL, List.length_append]; simp; omega⟩
        clear o5 g5 q5 l5 hL ck
        go_wp2_with (at_builtin; refine app_row _ rfl _ _ rfl (w.heap.size + 2) _ L rfl N5.out.o _ W.gs rfl R5.out (by have := HL.out.2; have := S.out.g; omega) (by have := S5.out; omega) ?_)
        intro v6 w6 o6 g6 q6
        have N6 : Hid (Nm1 w W _ _ _ _ _ zl v6 (nums1 W 1) w6) := N5.out.step (Below.refl _ _) g6 (by rw [← HL.out.1]; exact o6) q6
        clear o6 g6 q6
        go_wp2
        go_roundw
        case rel => exact ⟨1, by omega, rfl, N6.out⟩
        case measure => simp [intOf]
      · have ck := N.out.c1
        go_wp2_with (at_builtin; refine app_int _ rfl _ _ rfl (w.heap.size + 2) _ (nums1 W 1) rfl (N.out.o.alloc _) ⟨wr.heap.size, 0, none⟩ (W.os.length : Nat) rfl (by simp) (by have := nums1_len S.out 1; omega) (by have := SZ.out; simp; omega) ?_)
        intro g cap w5 o5 g5 q5 l5
        obtain ⟨L, hL⟩ : ∃ L, nums1 W 1 ++ [(W.os.length : Int)] = L := ⟨_, rfl⟩
        rw [hL] at o5
        have N5 : Hid (Nm1 w W (.slice a1 W.gs.length k1) (.slice a2 W.os.length k2) (.slice a3 W.gold.length k3) (.slice a4 W.us.length k4) (.slice a5 W.qs.length k5) zl (.slice (some ⟨g, 0, none⟩) ((nums1 W 1).length + 1) cap) L w5) := N.out.step ((Below.refl _ _).alloc (Nat.le_refl _) _) g5 o5 (own_is (by simpa using q5))
        have S5 : Hid (w.heap.size + 2 ≤ w5.heap.size) := by have := SZ.out; have := g5.size; simp at this; unfold Hid; omega
        have R5 : Hid (Ro w5 (.slice a2 W.os.length k2) W.os) := (H.out.below N5.out.bl).slices.2.1
        have HL : Hid (L ++ W.os = nums1 W 2 ∧ L.length ≤ 5000000) := ⟨by rw [← hL]; simp [nums1], by have := nums1_len S.out 1; rw [← hL, List.length_append]; simp; omega⟩
        clear o5 g5 q5 l5 hL ck
        go_wp2_with (at_builtin; refine app_row _ rfl _ _ rfl (w.heap.size + 2) _ L rfl N5.out.o _ W.os rfl R5.out (by have := HL.out.2; have := S.out.o; omega) (by have := S5.out; omega) ?_)
        intro v6 w6 o6 g6 q6
        have N6 : Hid (Nm1 w W _ _ _ _ _ zl v6 (nums1 W 2) w6) := N5.out.step (Below.refl _ _) g6 (by rw [← HL.out.1]; exact o6) q6
        clear o6 g6 q6
        go_wp2
        go_roundw
        case rel => exact ⟨2, by omega, rfl, N6.out⟩
        case measure => simp [intOf]
      · have ck := N.out.c2
        go_wp2_with (at_builtin; refine app_int _ rfl _ _ rfl (w.heap.size + 2) _ (nums1 W 2) rfl (N.out.o.alloc _) ⟨wr.heap.size, 0, none⟩ (W.gold.length : Nat) rfl (by simp) (by have := nums1_len S.out 2; omega) (by have := SZ.out; simp; omega) ?_)
        intro g cap w5 o5 g5 q5 l5
        obtain ⟨L, hL⟩ : ∃ L, nums1 W 2 ++ [(W.gold.length : Int)] = L := ⟨_, rfl⟩
        rw [hL] at o5
        have N5 : Hid (Nm1 w W (.slice a1 W.gs.length k1) (.slice a2 W.os.length k2) (.slice a3 W.gold.length k3) (.slice a4 W.us.length k4) (.slice a5 W.qs.length k5) zl (.slice (some ⟨g, 0, none⟩) ((nums1 W 2).length + 1) cap) L w5) := N.out.step ((Below.refl _ _).alloc (Nat.le_refl _) _) g5 o5 (own_is (by simpa using q5))
        have S5 : Hid (w.heap.size + 2 ≤ w5.heap.size) := by have := SZ.out; have := g5.size; simp at this; unfold Hid; omega
        have R5 : Hid (Ro w5 (.slice a3 W.gold.length k3) W.gold) := (H.out.below N5.out.bl).slices.2.2.1
        have HL : Hid (L ++ W.gold = nums1 W 3 ∧ L.length ≤ 5000000) := ⟨by rw [← hL]; simp [nums1], by have := nums1_len S.out 2; rw [← hL, List.length_append]; simp; omega⟩
        clear o5 g5 q5 l5 hL ck
        go_wp2_with (at_builtin; refine app_row _ rfl _ _ rfl (w.heap.size + 2) _ L rfl N5.out.o _ W.gold rfl R5.out (by have := HL.out.2; have := S.out.p; omega) (by have := S5.out; omega) ?_)
        intro v6 w6 o6 g6 q6
        have N6 : Hid (Nm1 w W _ _ _ _ _ zl v6 (nums1 W 3) w6) := N5.out.step (Below.refl _ _) g6 (by rw [← HL.out.1]; exact o6) q6
        clear o6 g6 q6
        go_wp2
        go_roundw
        case rel => exact ⟨3, by omega, rfl, N6.out⟩
        case measure => simp [intOf]
end Go.Proofs.YtkejdkajfnaieaaGreatDoor

namespace Go.Proofs.YtkejdkajfnaieaaGreatDoor
open Go.RowKit
set_option linter.unusedVariables false

set_option maxHeartbeats 2000000 in
theorem encode_any (v : Value) (W : WV) (w : World) (h : Wl w v W) (hs : WSmall W) (hi : ∀ n ∈ Wd.nums W, Wd.In64 n) :
    Calls Tryz.prog 25 #[v] w fun e w' => ∃ u, e = .returned u ∧ Ob w' w.heap.size u (Wd.enc W) ∧ Below w.heap.size w w' := by
  have H : Hid (Wl w v W) := h
  have S : Hid (WSmall W) := hs
  have I : Hid (∀ n ∈ Wd.nums W, Wd.In64 n) := hi
  obtain ⟨u1, u2, u3, u4, u5, rfl, h1, h2, h3, h4, h5⟩ := h
  clear h1 h2 h3 h4 h5 hs hi
  go_enter Tryz.func25, Tryz.ntmps25
  go_wp2_with fail
  have B0 : Hid (Below w.heap.size w (w.alloc (Obj.cells #[.int .i64 W.turn, .int .i64 W.next, .int .i64 W.wide, .int .i64 W.high, u1, u2, u3, u4, u5] 29))) := (Below.refl _ _).alloc (Nat.le_refl _) _
  generalize w.alloc (Obj.cells #[.int .i64 W.turn, .int .i64 W.next, .int .i64 W.wide, .int .i64 W.high, u1, u2, u3, u4, u5] 29) = w0 at *
  refine (numbers_any _ W w0 (H.out.below B0.out) S.out).mono ?_
  rintro e w1 ⟨u, rfl, ho, hb⟩
  have O : Hid (Ow w1 (w0.heap.size + 2) u (Wd.nums W)) := ho
  have B1 : Hid (Below w.heap.size w w1) := B0.out.trans (hb.mono B0.out.size)
  clear ho hb
  go_wp2_with fail
  have L : (Wd.nums W).length ≤ 100000000 := by rw [← nums3_all]; have := nums3_len S.out W.qs.length; omega
  refine (write_any _ (Wd.nums W) w1 O.out.ro I.out L).mono ?_
  rintro e w2 ⟨b, rfl, ho, hb⟩
  have F : Hid (Ob w2 w.heap.size b (Wd.enc W) ∧ Below w.heap.size w w2) := by
    refine ⟨⟨ho.1, ?_⟩, B1.out.trans (hb.mono B1.out.size)⟩
    rcases ho.2 with h1 | ⟨g, cap, cur, h1, h2, h3⟩
    · exact .inl h1
    · exact .inr ⟨g, cap, cur, h1, Nat.le_trans B1.out.size h2, h3⟩
  clear ho hb L
  go_wp2
  go_ret
  exact ⟨_, rfl, F.out.1, F.out.2⟩
end Go.Proofs.YtkejdkajfnaieaaGreatDoor

