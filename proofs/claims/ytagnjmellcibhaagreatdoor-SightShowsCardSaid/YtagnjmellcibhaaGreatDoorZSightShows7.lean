/- The reference's View. · sight.View: the world as a player sees it. · Worlds: the reference's Find. · Worlds: the reference's On and number. · The reference: what is wrong with a kind, and with some. · The reference: what is wrong with some kinds. -/
import Derived.Test.YtagnjmellcibhaaGreatDoorZSightShows6
import Derived.Test.YtagnjmellcibhaaGreatDoorZSightShows3
import Derived.Test.YtagnjmellcibhaaGreatDoorZSightShows1
import Derived.Laws.Closers25
import Derived.Deep.DeepCutAuto
import Derived.IntWalk
namespace Go.Proofs.YtagnjmellcibhaaGreatDoor
open Go.RowKit
set_option linter.unusedVariables false

theorem gb_low {a b c : World} {r : Option Nat} {B : Nat} (h : a.grownBy b r) (k : Below B b c) (hB : a.heap.size ≤ B) : a.grownBy c r :=
  ⟨k.os.trans h.os, k.tape.trans h.tape, k.output.trans h.output, Nat.le_trans h.size k.size, fun i hi hn => (k.block i (by omega)).trans (h.block i hi hn)⟩
theorem Bw.gb {w w' : World} {z : Nat} {W : WV} {u1 u2 u3 u4 u5 : Value} {r : Option Nat} (h : Bw w z W u1 u2 u3 u4 u5) (k : w.grownBy w' r) (hn : r ≠ some z) : Bw w' z W u1 u2 u3 u4 u5 :=
  ⟨cell_gb h.c0 k hn, cell_gb h.c1 k hn, cell_gb h.c2 k hn, cell_gb h.c3 k hn, cell_gb h.c4 k hn, cell_gb h.c5 k hn, cell_gb h.c6 k hn, cell_gb h.c7 k hn, cell_gb h.c8 k hn⟩
theorem below_gb {w V V' : World} {n : Nat} {r : Option Nat} (h : Below n w V) (k : V.grownBy V' r) (hn : n ≤ V.heap.size) (hr : ∀ b, r = some b → n ≤ b) : Below n w V' :=
  ⟨k.os.trans h.os, k.tape.trans h.tape, k.output.trans h.output, Nat.le_trans h.size k.size, fun i hi => (k.block i (by omega) (fun e => by have := hr _ e.symm; omega)).trans (h.block i hi)⟩
theorem gold_pos {W : WV} (h : Wd.numsBad W = false) : 0 < W.gold.length := by
  unfold Wd.numsBad at h
  simp only [Bool.or_eq_false_iff] at h
  obtain ⟨-, -, h2, -⟩ := h
  simp at h2
  omega
/-- one more that is kept, or not. -/
theorem keep_yes {α : Type} {q : α → Bool} {l : List α} {n : Nat} {y : α} (hy : l[n]? = some y) (h : q y = false) : (l.take (n + 1)).filter (fun k => !q k) = (l.take n).filter (fun k => !q k) ++ [y] := by
  obtain ⟨hi, e⟩ := List.getElem?_eq_some_iff.1 hy
  rw [List.take_succ_eq_append_getElem hi, e, List.filter_append]
  simp [h]
theorem keep_no {α : Type} {q : α → Bool} {l : List α} {n : Nat} {y : α} (hy : l[n]? = some y) (h : q y = true) : (l.take (n + 1)).filter (fun k => !q k) = (l.take n).filter (fun k => !q k) := by
  obtain ⟨hi, e⟩ := List.getElem?_eq_some_iff.1 hy
  rw [List.take_succ_eq_append_getElem hi, e, List.filter_append]
  simp [h]
set_option maxRecDepth 100000 in
set_option maxHeartbeats 40000000 in
theorem rview_any (vk vw : Value) (ks : List KV) (X : WV) (p : Int) (Wn : Nat) (w : World) (WR0 : WRight ks X) (hww : X.wide = (Wn : Nat)) (hk : Kl w vk ks) (hw : Wl w vw X) :
    Calls Tryz.prog 14 #[vk, vw, .int .i64 p] w fun e w' => ∃ v, e = .returned v ∧ Wo w' w.heap.size v (viewOf ks Wn X p) ∧ Below w.heap.size w w' := by
  have WR : Hid (WRight ks X) := WR0
  have GD : Hid (X.wide = (Wn : Nat) ∧ X.gs.length ≤ 144 ∧ X.os.length = X.gs.length ∧ 0 < X.gs.length ∧ 0 < X.gold.length ∧ X.gold.length ≤ 4) := by
    obtain ⟨Wm, Hn, e1, e2, G⟩ := WR0.good
    exact ⟨hww, by rw [G.gl]; exact G.pos.2, by rw [G.gl, G.ol], by rw [G.gl]; exact G.pos.1, gold_pos WR0.nums, by have := (nums_ok WR0.nums).2; omega⟩
  have K : Hid (Kl w vk ks) := hk
  have H : Hid (Wl w vw X) := hw
  obtain ⟨p1, s1, p2, s2, p3, s3, p4, s4, p5, s5, rfl⟩ := wl_shape9 hw
  obtain ⟨pk, qk, rfl, -⟩ := hk
  clear hw hww WR0
  have B0 : Hid (Below w.heap.size w ((w.alloc (Obj.cells #[.int .i64 X.turn, .int .i64 X.next, .int .i64 X.wide, .int .i64 X.high, .slice p1 X.gs.length s1, .slice p2 X.os.length s2, .slice p3 X.gold.length s3, .slice p4 X.us.length s4, .slice p5 X.qs.length s5] 29)).alloc (Obj.cells #[.int .i64 0, .int .i64 0, .int .i64 0, .int .i64 0, .slice none 0 0, .slice none 0 0, .slice none 0 0, .slice none 0 0, .slice none 0 0] 29))) := ((Below.refl _ _).alloc (Nat.le_refl _) _).alloc (by simp) _
  have X0 : Hid (Bw ((w.alloc (Obj.cells #[.int .i64 X.turn, .int .i64 X.next, .int .i64 X.wide, .int .i64 X.high, .slice p1 X.gs.length s1, .slice p2 X.os.length s2, .slice p3 X.gold.length s3, .slice p4 X.us.length s4, .slice p5 X.qs.length s5] 29)).alloc (Obj.cells #[.int .i64 0, .int .i64 0, .int .i64 0, .int .i64 0, .slice none 0 0, .slice none 0 0, .slice none 0 0, .slice none 0 0, .slice none 0 0] 29)) w.heap.size X (.slice p1 X.gs.length s1) (.slice p2 X.os.length s2) (.slice p3 X.gold.length s3) (.slice p4 X.us.length s4) (.slice p5 X.qs.length s5)) := (Bw.mk' X _ _ _ _ _ rfl).below ((Below.refl _ _).alloc (Nat.le_refl _) _) (by simp)
  have R0 : Hid (Wx ((w.alloc (Obj.cells #[.int .i64 X.turn, .int .i64 X.next, .int .i64 X.wide, .int .i64 X.high, .slice p1 X.gs.length s1, .slice p2 X.os.length s2, .slice p3 X.gold.length s3, .slice p4 X.us.length s4, .slice p5 X.qs.length s5] 29)).alloc (Obj.cells #[.int .i64 0, .int .i64 0, .int .i64 0, .int .i64 0, .slice none 0 0, .slice none 0 0, .slice none 0 0, .slice none 0 0, .slice none 0 0] 29)) (w.heap.size + 1) (.int .i64 0) (.int .i64 0) (.int .i64 0) (.int .i64 0) (.slice none 0 0) (.slice none 0 0) (.slice none 0 0) (.slice none 0 0) (.slice none 0 0)) := Wx.new _ _ _ _ _ _ _ _ _ (by simp)
  go_enter Tryz.func14, Tryz.ntmps14
  go_upto_region 1 with fail
  generalize ((w.alloc (Obj.cells #[.int .i64 X.turn, .int .i64 X.next, .int .i64 X.wide, .int .i64 X.high, .slice p1 X.gs.length s1, .slice p2 X.os.length s2, .slice p3 X.gold.length s3, .slice p4 X.us.length s4, .slice p5 X.qs.length s5] 29)).alloc (Obj.cells #[.int .i64 0, .int .i64 0, .int .i64 0, .int .i64 0, .slice none 0 0, .slice none 0 0, .slice none 0 0, .slice none 0 0, .slice none 0 0] 29)) = w0 at *
  obtain ⟨x0, x1, x2, x3, x4, x5, x6, x7, x8⟩ := X0.out
  go_wp2_with fail
  refine (rcopy_any _ X w0 (H.out.below B0.out) WR.out.len).mono ?_
  rintro e w1 ⟨cu, rfl, ⟨k1, k2, k3, k4, k5, rfl, ⟨o1, o2, o3, o4, o5⟩, d12, d13, -, -, d23, -, -, -, -, -⟩, hb⟩
  obtain ⟨a1, r1, rfl⟩ := o1.len
  obtain ⟨a2, r2, rfl⟩ := o2.len
  obtain ⟨a3, r3, rfl⟩ := o3.len
  obtain ⟨a4, r4, rfl⟩ := o4.len
  obtain ⟨a5, r5, rfl⟩ := o5.len
  obtain ⟨b1, hb1⟩ : ∃ z, w0.heap.size = z := ⟨_, rfl⟩
  rw [hb1] at o1 o2 o3
  have B1 : Hid (Below w.heap.size w w1) := B0.out.trans (hb.mono B0.out.size)
  have Y1 : Hid (Bw w1 w.heap.size X (.slice p1 X.gs.length s1) (.slice p2 X.os.length s2) (.slice p3 X.gold.length s3) (.slice p4 X.us.length s4) (.slice p5 X.qs.length s5)) := X0.out.below hb X0.out.lt
  have R1 : Hid (Wx w1 (w.heap.size + 1) (.int .i64 0) (.int .i64 0) (.int .i64 0) (.int .i64 0) (.slice none 0 0) (.slice none 0 0) (.slice none 0 0) (.slice none 0 0) (.slice none 0 0)) := R0.out.below hb R0.out.lt
  have BS : Hid (w.heap.size + 1 < b1) := by unfold Hid; rw [← hb1]; exact R0.out.lt
  have O1 : Hid (Ow w1 b1 (.slice a1 X.gs.length r1) X.gs ∧ Ow w1 b1 (.slice a2 X.os.length r2) X.os ∧ Ow w1 b1 (.slice a3 X.gold.length r3) X.gold) := ⟨o1, o2, o3⟩
  have DD : Hid (Dif (.slice a1 X.gs.length r1) (.slice a2 X.os.length r2) ∧ Dif (.slice a1 X.gs.length r1) (.slice a3 X.gold.length r3) ∧ Dif (.slice a2 X.os.length r2) (.slice a3 X.gold.length r3)) := ⟨d12, d13, d23⟩
  have S1 : Hid (b1 ≤ w1.heap.size) := by unfold Hid; rw [← hb1]; exact hb.size
  clear hb hb1 o1 o2 o3 o4 o5 d12 d13 d23 x0 x1 x2 x3 x4 x5 x6 x7 x8 B0 X0 R0
  go_upto_region 2 with fail
  have BA : Hid (Below w1.heap.size w1 (w1.alloc (Obj.cells #[.int .i64 X.turn, .int .i64 X.next, .int .i64 X.wide, .int .i64 X.high, .slice a1 X.gs.length r1, .slice a2 X.os.length r2, .slice a3 X.gold.length r3, .slice a4 X.us.length r4, .slice a5 X.qs.length r5] 29))) := (Below.refl _ _).alloc (Nat.le_refl _) _
  obtain ⟨bx, hbx⟩ : ∃ z, w1.heap.size = z := ⟨_, rfl⟩
  have X2 : Hid (Wx (w1.alloc (Obj.cells #[.int .i64 X.turn, .int .i64 X.next, .int .i64 X.wide, .int .i64 X.high, .slice a1 X.gs.length r1, .slice a2 X.os.length r2, .slice a3 X.gold.length r3, .slice a4 X.us.length r4, .slice a5 X.qs.length r5] 29)) bx (.int .i64 X.turn) (.int .i64 X.next) (.int .i64 X.wide) (.int .i64 X.high) (.slice a1 X.gs.length r1) (.slice a2 X.os.length r2) (.slice a3 X.gold.length r3) (.slice a4 X.us.length r4) (.slice a5 X.qs.length r5)) := Wx.new _ _ _ _ _ _ _ _ _ hbx
  have Z2 : Hid ((w1.alloc (Obj.cells #[.int .i64 X.turn, .int .i64 X.next, .int .i64 X.wide, .int .i64 X.high, .slice a1 X.gs.length r1, .slice a2 X.os.length r2, .slice a3 X.gold.length r3, .slice a4 X.us.length r4, .slice a5 X.qs.length r5] 29)).heap.size = bx + 1) := by unfold Hid; rw [← hbx]; simp
  have LB : Hid (b1 ≤ bx ∧ (∀ b, (Value.slice a1 X.gs.length r1).ownBlock = some b → b1 ≤ b ∧ b < bx) ∧ (∀ b, (Value.slice a2 X.os.length r2).ownBlock = some b → b1 ≤ b ∧ b < bx) ∧ (∀ b, (Value.slice a3 X.gold.length r3).ownBlock = some b → b1 ≤ b ∧ b < bx)) := by
    unfold Hid
    rw [← hbx]
    exact ⟨S1.out, O1.out.1.block, O1.out.2.1.block, O1.out.2.2.block⟩
  rw [hbx]
  generalize (w1.alloc (Obj.cells #[.int .i64 X.turn, .int .i64 X.next, .int .i64 X.wide, .int .i64 X.high, .slice a1 X.gs.length r1, .slice a2 X.os.length r2, .slice a3 X.gold.length r3, .slice a4 X.us.length r4, .slice a5 X.qs.length r5] 29)) = w2 at *
  have B2 : Hid (Below w.heap.size w w2) := B1.out.trans (BA.out.mono B1.out.size)
  have Y2 : Hid (Bw w2 w.heap.size X (.slice p1 X.gs.length s1) (.slice p2 X.os.length s2) (.slice p3 X.gold.length s3) (.slice p4 X.us.length s4) (.slice p5 X.qs.length s5)) := Y1.out.below BA.out Y1.out.lt
  have R2 : Hid (Wx w2 (w.heap.size + 1) (.int .i64 0) (.int .i64 0) (.int .i64 0) (.int .i64 0) (.slice none 0 0) (.slice none 0 0) (.slice none 0 0) (.slice none 0 0) (.slice none 0 0)) := R1.out.below BA.out R1.out.lt
  have O2 : Hid (Ow w2 b1 (.slice a1 X.gs.length r1) X.gs ∧ Ow w2 b1 (.slice a2 X.os.length r2) X.os ∧ Ow w2 b1 (.slice a3 X.gold.length r3) X.gold) := ⟨O1.out.1.below BA.out, O1.out.2.1.below BA.out, O1.out.2.2.below BA.out⟩
  clear hbx BA B1 Y1 R1 O1 S1
  obtain ⟨z0, z1, z2, z3, z4, z5, z6, z7, z8⟩ := X2.out.cells
  obtain ⟨t0, t1, t2, t3, t4, t5, t6, t7, t8⟩ := X2.out.thaws
  have X3a : Hid (Wx (w2.setCell ⟨bx, 7, none⟩ (.slice none 0 0)) bx (.int .i64 X.turn) (.int .i64 X.next) (.int .i64 X.wide) (.int .i64 X.high) (.slice a1 X.gs.length r1) (.slice a2 X.os.length r2) (.slice a3 X.gold.length r3) (.slice none 0 0) (.slice a5 X.qs.length r5)) := X2.out.set7 _
  have K3a : Hid (Kp bx w2 (w2.setCell ⟨bx, 7, none⟩ (.slice none 0 0))) := Kp.set _ _ _
  go_upto_region 3 with fail
  clear z0 z1 z2 z3 z4 z5 z6 z7 z8 t0 t1 t2 t3 t4 t5 t6 t7 t8
  generalize (w2.setCell ⟨bx, 7, none⟩ (.slice none 0 0)) = w2' at *
  obtain ⟨z0, z1, z2, z3, z4, z5, z6, z7, z8⟩ := X3a.out.cells
  have t8 := X3a.out.thaw 8
  have X3 : Hid (Wx (w2'.setCell ⟨bx, 8, none⟩ (.slice none 0 0)) bx (.int .i64 X.turn) (.int .i64 X.next) (.int .i64 X.wide) (.int .i64 X.high) (.slice a1 X.gs.length r1) (.slice a2 X.os.length r2) (.slice a3 X.gold.length r3) (.slice none 0 0) (.slice none 0 0)) := X3a.out.set8 _
  have K3 : Hid (Kp bx w2 (w2'.setCell ⟨bx, 8, none⟩ (.slice none 0 0))) := K3a.out.trans (Kp.set _ _ _)
  have Z3a : Hid ((w2'.setCell ⟨bx, 8, none⟩ (.slice none 0 0)).heap.size = w2'.heap.size) := by unfold Hid; simp
  go_upto_region 4 with fail
  clear z0 z1 z2 z3 z4 z5 z6 z7 z8 t8 X3a K3a Z3a
  generalize (w2'.setCell ⟨bx, 8, none⟩ (.slice none 0 0)) = w3 at *
  have Y3 : Hid (Bw w3 w.heap.size X (.slice p1 X.gs.length s1) (.slice p2 X.os.length s2) (.slice p3 X.gold.length s3) (.slice p4 X.us.length s4) (.slice p5 X.qs.length s5)) := Y2.out.kp9 K3.out (by have := LB.out.1; have := BS.out; omega)
  have R3 : Hid (Wx w3 (w.heap.size + 1) (.int .i64 0) (.int .i64 0) (.int .i64 0) (.int .i64 0) (.slice none 0 0) (.slice none 0 0) (.slice none 0 0) (.slice none 0 0) (.slice none 0 0)) := R2.out.kp K3.out (by have := LB.out.1; have := BS.out; omega)
  have B3 : Hid (Below w.heap.size w w3) := K3.out.below B2.out B2.out.size (by have := LB.out.1; have := BS.out; omega)
  have O3 : Hid (Ow w3 b1 (.slice a1 X.gs.length r1) X.gs ∧ Ow w3 b1 (.slice a2 X.os.length r2) X.os ∧ Ow w3 b1 (.slice a3 X.gold.length r3) X.gold) := by
    have hg := gb_kp K3.out
    exact ⟨own_gb O2.out.1 hg (fun b h1 h2 => by have := (LB.out.2.1 b h1).2; have := Option.some.inj h2; omega), own_gb O2.out.2.1 hg (fun b h1 h2 => by have := (LB.out.2.2.1 b h1).2; have := Option.some.inj h2; omega), own_gb O2.out.2.2 hg (fun b h1 h2 => by have := (LB.out.2.2.2 b h1).2; have := Option.some.inj h2; omega)⟩
  obtain ⟨b3, hb3⟩ : ∃ z, w3.heap.size = z := ⟨_, rfl⟩
  have BX : Hid (w.heap.size + 1 < b1 ∧ b1 ≤ bx ∧ bx < b3 ∧ w3.heap.size = b3) := ⟨BS.out, LB.out.1, by rw [← hb3]; exact X3.out.lt, hb3⟩
  clear hb3 K3 B2 Y2 R2 X2 O2 Z2
  go_upto_region 5 with fail
  go_loopw [8] (fun v8 V => ∃ (n : Nat) (lv : Value), v8 = .int .i64 (n : Nat) ∧ n ≤ X.us.length ∧ Wx V bx (.int .i64 X.turn) (.int .i64 X.next) (.int .i64 X.wide) (.int .i64 X.high) (.slice a1 X.gs.length r1) (.slice a2 X.os.length r2) (.slice a3 X.gold.length r3) lv (.slice none 0 0) ∧ Uno V b3 lv ((X.us.take n).filter (fun k => !hidU ks Wn X p k)) ∧ w3.grownBy V (some bx)) (fun v8 _ => X.us.length - (intOf v8).toNat)
  case atStart => exact ⟨0, _, rfl, Nat.zero_le _, X3.out, Uno.nil _ _, gb_below (Below.refl _ _)⟩
  case round =>
    obtain ⟨n, lv, rfl, hn, hx, hl, hg⟩ := hrel
    obtain ⟨ss, hss⟩ : ∃ l, (X.us.take n).filter (fun k => !hidU ks Wn X p k) = l := ⟨_, rfl⟩
    rw [hss] at hl
    obtain ⟨la, lc, rfl⟩ := hl.len
    have SSE : Hid ((X.us.take n).filter (fun k => !hidU ks Wn X p k) = ss) := hss
    have SS : Hid (ss.length ≤ 40) := by
      have h1 : ss.length ≤ (X.us.take n).length := by rw [← hss]; exact List.length_filter_le _ _
      have h2 : (X.us.take n).length ≤ X.us.length := by simp; omega
      have h3 := WR.out.ul
      unfold Hid; omega
    have Xr : Hid (Wx wr bx (.int .i64 X.turn) (.int .i64 X.next) (.int .i64 X.wide) (.int .i64 X.high) (.slice a1 X.gs.length r1) (.slice a2 X.os.length r2) (.slice a3 X.gold.length r3) (.slice la ss.length lc) (.slice none 0 0)) := hx
    have Lr : Hid (Uno wr b3 (.slice la ss.length lc) ss) := hl
    have Kr : Hid (w3.grownBy wr (some bx)) := hg
    have Yr : Hid (Bw wr w.heap.size X (.slice p1 X.gs.length s1) (.slice p2 X.os.length s2) (.slice p3 X.gold.length s3) (.slice p4 X.us.length s4) (.slice p5 X.qs.length s5)) := Y3.out.gb hg (fun e => by have := Option.some.inj e; have := BX.out; omega)
    have Br : Hid (Below w.heap.size w wr) := below_gb B3.out hg B3.out.size (fun b e => by have := Option.some.inj e; have := BX.out; omega)
    have Sr : Hid (b3 ≤ wr.heap.size) := by have h := hg.size; rw [BX.out.2.2.2] at h; exact h
    clear hx hl hg hss
    by_cases h0 : n = X.us.length
    case neg =>
      have hnl : n < X.us.length := by omega
      have hni : ((n : Nat) : Int) < (X.us.length : Nat) := by omega
      have HN : Hid (n < X.us.length) := hnl
      have WN : IntKind.i64.wrap ((n : Nat) + 1 : Int) = ((n : Nat) : Int) + 1 := by have := WR.out.ul; rw [IntKind.wrap_i64]; omega
      obtain ⟨u, hu⟩ : ∃ u, X.us[n]? = some u := ⟨_, List.getElem?_eq_getElem hnl⟩
      obtain ⟨k, fu⟩ := WR.out.fine hu
      obtain ⟨an, han⟩ : ∃ a : Nat, u.at_ = a := ⟨u.at_.toNat, by have := fu.at_.1; omega⟩
      have AL : Hid (an < X.gs.length) := by have := fu.at_.2; unfold Hid; omega
      have HU : Hid (hidU ks Wn X p u = (!(u.player == p) && !seesP ks Wn X.gs X.us p an)) := by unfold Hid hidU; rw [han, Int.toNat_natCast]
      have KY := fun h => keep_yes (q := hidU ks Wn X p) hu h
      have KN := fun h => keep_no (q := hidU ks Wn X p) hu h
      rw [SSE.out] at KY KN
      obtain ⟨pa, pc, he, -, -, hus⟩ := H.out.slices.2.2.2.1
      obtain ⟨xu, hxu, hxul, hxuc⟩ := hus (by intro h; rw [h] at hnl; simp at hnl)
      injection he with he1 he2 he3
      subst he1
      subst hxu
      have UC : Hid (Unc w (xu.add (n * 8)) u ∧ (xu.add (n * 8)).block < w.heap.size) := ⟨hxuc n u hu, by rw [add_block]; exact hxul⟩
      have UB : Hid ((xu.add (n * 8)).block < b3) := by have := UC.out.2; have := BX.out; unfold Hid; omega
      have HE : Hid (u.at_ = (an : Nat)) := han
      have x7 := Yr.out.c7
      clear hus he2 he3 hxul hxuc hu fu han
      go_upto_region 7 with fail
      clear x7
      have CB : Hid (∀ V, Below w.heap.size w V → Bw V w.heap.size X (.slice p1 X.gs.length s1) (.slice p2 X.os.length s2) (.slice p3 X.gold.length s3) (.slice (some xu) X.us.length s4) (.slice p5 X.qs.length s5) → (Bw V w.heap.size X (.slice p1 X.gs.length s1) (.slice p2 X.os.length s2) (.slice p3 X.gold.length s3) (.slice (some xu) X.us.length s4) (.slice p5 X.qs.length s5) ∧ V.cell? ⟨(xu.add (n * 8)).block, (xu.add (n * 8)).off + 3, none⟩ = some (.int .i64 (an : Nat)))) := fun V hb hy => ⟨hy, by have := (UC.out.1.below hb UC.out.2).c3; rw [HE.out] at this; exact this⟩
      refine wp_region_two [(true, 0), (true, 1), (true, 2), (true, 3), (true, 4), (true, 5), (true, 6), (true, 7), (true, 8), (false, 9)] [(false, 10)] (fun V => Bw V w.heap.size X (.slice p1 X.gs.length s1) (.slice p2 X.os.length s2) (.slice p3 X.gold.length s3) (.slice (some xu) X.us.length s4) (.slice p5 X.qs.length s5) ∧ V.cell? ⟨(xu.add (n * 8)).block, (xu.add (n * 8)).off + 3, none⟩ = some (.int .i64 (an : Nat))) (by kernel_rfl) (by kernel_rfl) (by kernel_rfl) (by decide +kernel) (by decide +kernel) (CB.out _ Br.out.drew (Yr.out.below ((Below.refl _ _).drew) Yr.out.lt)) ?_
      have D4 : Hid (Below wr.heap.size wr { wr with drawn := wr.drawn + 1 }) := (Below.refl _ _).drew
      generalize ({ wr with drawn := wr.drawn + 1 } : World) = w4 at *
      have Y4 : Hid (Bw w4 w.heap.size X (.slice p1 X.gs.length s1) (.slice p2 X.os.length s2) (.slice p3 X.gold.length s3) (.slice (some xu) X.us.length s4) (.slice p5 X.qs.length s5)) := Yr.out.below D4.out Yr.out.lt
      have B4 : Hid (Below w.heap.size w w4) := Br.out.trans (D4.out.mono Br.out.size)
      refine headT_read rfl (.slice pk ks.length qk) (by go_simp) (fun V hV => by go_simp) ?_
      go_simp
      refine headT_read rfl (.agg #[.int .i64 X.turn, .int .i64 X.next, .int .i64 X.wide, .int .i64 X.high, .slice p1 X.gs.length s1, .slice p2 X.os.length s2, .slice p3 X.gold.length s3, .slice (some xu) X.us.length s4, .slice p5 X.qs.length s5]) (by go_simp) (fun V hV => by obtain ⟨⟨x0, x1, x2, x3, x4, x5, x6, x7, x8⟩, d1⟩ := hV; go_simp) ?_
      go_simp
      refine headT_read rfl (.int .i64 p) (by go_simp) (fun V hV => by go_simp) ?_
      go_simp
      refine headT_read rfl (.pointer (some ⟨w.heap.size, 7, none⟩)) (by go_simp) (fun V hV => by go_simp) ?_
      go_simp
      refine headT_read rfl (.slice (some xu) X.us.length s4) (by go_simp) (fun V hV => by obtain ⟨⟨x0, x1, x2, x3, x4, x5, x6, x7, x8⟩, d1⟩ := hV; go_simp) ?_
      go_simp
      refine headT_read rfl (.int .i64 (n : Nat)) (by go_simp) (fun V hV => by go_simp) ?_
      go_simp
      refine headT_read rfl (.pointer (some (xu.add (n * 8)))) (by go_simp) (fun V hV => by go_simp) ?_
      go_simp
      refine headT_read rfl (.pointer (some ⟨(xu.add (n * 8)).block, (xu.add (n * 8)).off + 3, none⟩)) (by go_simp) (fun V hV => by go_simp) ?_
      go_simp
      refine headT_read rfl (.int .i64 (an : Nat)) (by go_simp) (fun V hV => by obtain ⟨⟨x0, x1, x2, x3, x4, x5, x6, x7, x8⟩, d1⟩ := hV; go_simp) ?_
      go_simp
      refine headT_call rfl 16 #[.slice pk ks.length qk, .agg #[.int .i64 X.turn, .int .i64 X.next, .int .i64 X.wide, .int .i64 X.high, .slice p1 X.gs.length s1, .slice p2 X.os.length s2, .slice p3 X.gold.length s3, .slice (some xu) X.us.length s4, .slice p5 X.qs.length s5], .int .i64 p, .int .i64 (an : Nat)] (by go_simp) (by go_simp) ?_
      refine (rsees_any _ _ ks X p Wn an w4 WR.out GD.out.1 AL.out (K.out.below B4.out) (H.out.below B4.out)).mono ?_
      rintro e wa ⟨rfl, hb⟩
      have DA : Hid (Below wr.heap.size wr wa) := D4.out.trans (hb.mono D4.out.size)
      have Ya : Hid (Bw wa w.heap.size X (.slice p1 X.gs.length s1) (.slice p2 X.os.length s2) (.slice p3 X.gold.length s3) (.slice (some xu) X.us.length s4) (.slice p5 X.qs.length s5)) := Y4.out.below hb Y4.out.lt
      have Ba : Hid (Below w.heap.size w wa) := B4.out.trans (hb.mono B4.out.size)
      refine ⟨_, rfl, CB.out _ Ba.out Ya.out, ?_⟩
      have Xa : Hid (Wx wa bx (.int .i64 X.turn) (.int .i64 X.next) (.int .i64 X.wide) (.int .i64 X.high) (.slice a1 X.gs.length r1) (.slice a2 X.os.length r2) (.slice a3 X.gold.length r3) (.slice la ss.length lc) (.slice none 0 0)) := Xr.out.below DA.out Xr.out.lt
      have La : Hid (Uno wa b3 (.slice la ss.length lc) ss) := Lr.out.below DA.out
      have Ka : Hid (w3.grownBy wa (some bx)) := gb_trans Kr.out (gb_below DA.out)
      have Ua : Hid (Unc wa (xu.add (n * 8)) u) := UC.out.1.below Ba.out UC.out.2
      have Sa : Hid (b3 ≤ wa.heap.size) := Nat.le_trans Sr.out DA.out.size
      obtain ⟨t, ht⟩ : ∃ t, seesP ks Wn X.gs X.us p an = t := ⟨_, rfl⟩
      rw [ht] at HU ⊢
      clear hb ht D4 Y4 B4 DA CB Xr Lr Kr Yr Br Sr
      go_simp
      refine sched_value rfl (.bool t) wa (by go_simp) (by go_simp) trivial ?_
      go_simp
      unfold wpSched
      obtain ⟨y0, y1, y2, y3, y4, y5, y6, y7⟩ := Ua.out
      have x7 := Ya.out.c7
      cases t with
      | true =>
        have NY : Hid ((X.us.take (n + 1)).filter (fun k => !hidU ks Wn X p k) = ss ++ [u]) := KY (by rw [HU.out]; simp)
        clear KY KN
        go_upto_region 9 with fail
        have CB : Hid (∀ V, Bw V w.heap.size X (.slice p1 X.gs.length s1) (.slice p2 X.os.length s2) (.slice p3 X.gold.length s3) (.slice (some xu) X.us.length s4) (.slice p5 X.qs.length s5) → Wx V bx (.int .i64 X.turn) (.int .i64 X.next) (.int .i64 X.wide) (.int .i64 X.high) (.slice a1 X.gs.length r1) (.slice a2 X.os.length r2) (.slice a3 X.gold.length r3) (.slice la ss.length lc) (.slice none 0 0) → Unc V (xu.add (n * 8)) u → (V.cell? ⟨bx, 7, none⟩ = some (.slice la ss.length lc) ∧ V.cell? ⟨w.heap.size, 7, none⟩ = some (.slice (some xu) X.us.length s4) ∧ Unc V (xu.add (n * 8)) u)) := fun V hy hx hu => ⟨hx.cells.2.2.2.2.2.2.2.1, hy.c7, hu⟩
        refine wp_region_two [(true, 0), (true, 1), (true, 2), (true, 3), (true, 4), (true, 5), (true, 6), (false, 7), (false, 8), (true, 9)] [(false, 10)] (fun V => V.cell? ⟨bx, 7, none⟩ = some (.slice la ss.length lc) ∧ V.cell? ⟨w.heap.size, 7, none⟩ = some (.slice (some xu) X.us.length s4) ∧ Unc V (xu.add (n * 8)) u) (by kernel_rfl) (by kernel_rfl) (by kernel_rfl) (by decide +kernel) (by decide +kernel) (CB.out _ (Ya.out.below ((Below.refl _ _).drew) Ya.out.lt) Xa.out.drew (Ua.out.below ((Below.refl _ _).drew) Ua.out.lt)) ?_
        have D6 : Hid (Below wa.heap.size wa { wa with drawn := wa.drawn + 1 }) := (Below.refl _ _).drew
        generalize ({ wa with drawn := wa.drawn + 1 } : World) = w6 at *
        have Y6 : Hid (Bw w6 w.heap.size X (.slice p1 X.gs.length s1) (.slice p2 X.os.length s2) (.slice p3 X.gold.length s3) (.slice (some xu) X.us.length s4) (.slice p5 X.qs.length s5)) := Ya.out.below D6.out Ya.out.lt
        have X6 : Hid (Wx w6 bx (.int .i64 X.turn) (.int .i64 X.next) (.int .i64 X.wide) (.int .i64 X.high) (.slice a1 X.gs.length r1) (.slice a2 X.os.length r2) (.slice a3 X.gold.length r3) (.slice la ss.length lc) (.slice none 0 0)) := Xa.out.below D6.out Xa.out.lt
        have U6 : Hid (Unc w6 (xu.add (n * 8)) u) := Ua.out.below D6.out Ua.out.lt
        have L6 : Hid (Uno w6 b3 (.slice la ss.length lc) ss) := La.out.below D6.out
        have K6 : Hid (w3.grownBy w6 (some bx)) := gb_trans Ka.out (gb_below D6.out)
        have S6 : Hid (b3 ≤ w6.heap.size) := Nat.le_trans Sa.out D6.out.size
        clear Ya Xa Ua La Ka Sa D6
        refine headT_read rfl (.pointer (some ⟨bx, 7, none⟩)) (by go_simp) (fun V hV => by go_simp) ?_
        go_simp
        refine headT_read rfl (.slice la ss.length lc) (by go_simp) (fun V hV => by obtain ⟨e1, e2, ⟨y0, y1, y2, y3, y4, y5, y6, y7⟩⟩ := hV; go_simp) ?_
        go_simp
        refine headT_read rfl (.pointer (some ⟨w.heap.size, 7, none⟩)) (by go_simp) (fun V hV => by go_simp) ?_
        go_simp
        refine headT_read rfl (.slice (some xu) X.us.length s4) (by go_simp) (fun V hV => by obtain ⟨e1, e2, ⟨y0, y1, y2, y3, y4, y5, y6, y7⟩⟩ := hV; go_simp) ?_
        go_simp
        refine headT_read rfl (.int .i64 (n : Nat)) (by go_simp) (fun V hV => by go_simp) ?_
        go_simp
        refine headT_read rfl (.pointer (some (xu.add (n * 8)))) (by go_simp) (fun V hV => by go_simp) ?_
        go_simp
        refine headT_read rfl (.agg #[.int .i64 u.id, .int .i64 u.player, .int .i64 u.kind, .int .i64 u.at_, .int .i64 u.life, .int .i64 u.load, .int .i64 u.task, .int .i64 u.goal]) (by go_simp) (fun V hV => by obtain ⟨e1, e2, ⟨y0, y1, y2, y3, y4, y5, y6, y7⟩⟩ := hV; go_simp) ?_
        go_simp
        have BA : Hid (Below w6.heap.size w6 (w6.alloc (Obj.cells #[.int .i64 u.id, .int .i64 u.player, .int .i64 u.kind, .int .i64 u.at_, .int .i64 u.life, .int .i64 u.load, .int .i64 u.task, .int .i64 u.goal] 59))) := (Below.refl _ _).alloc (Nat.le_refl _) _
        have EC : Hid (Unc (w6.alloc (Obj.cells #[.int .i64 u.id, .int .i64 u.player, .int .i64 u.kind, .int .i64 u.at_, .int .i64 u.life, .int .i64 u.load, .int .i64 u.task, .int .i64 u.goal] 59)) ⟨w6.heap.size, 0, none⟩ u) := Unc.mk' u rfl
        refine headT_value rfl (.slice (some ⟨w6.heap.size, 0, none⟩) 1 1) (w6.alloc (Obj.cells #[.int .i64 u.id, .int .i64 u.player, .int .i64 u.kind, .int .i64 u.at_, .int .i64 u.life, .int .i64 u.load, .int .i64 u.task, .int .i64 u.goal] 59)) (by go_simp) (by go_simp) (CB.out _ (Y6.out.below BA.out Y6.out.lt) (X6.out.below BA.out X6.out.lt) (U6.out.below BA.out U6.out.lt)) ?_
        go_simp
        generalize (w6.alloc (Obj.cells #[.int .i64 u.id, .int .i64 u.player, .int .i64 u.kind, .int .i64 u.at_, .int .i64 u.life, .int .i64 u.load, .int .i64 u.task, .int .i64 u.goal] 59)) = w7 at *
        have Y7 : Hid (Bw w7 w.heap.size X (.slice p1 X.gs.length s1) (.slice p2 X.os.length s2) (.slice p3 X.gold.length s3) (.slice (some xu) X.us.length s4) (.slice p5 X.qs.length s5)) := Y6.out.below BA.out Y6.out.lt
        have X7 : Hid (Wx w7 bx (.int .i64 X.turn) (.int .i64 X.next) (.int .i64 X.wide) (.int .i64 X.high) (.slice a1 X.gs.length r1) (.slice a2 X.os.length r2) (.slice a3 X.gold.length r3) (.slice la ss.length lc) (.slice none 0 0)) := X6.out.below BA.out X6.out.lt
        have U7 : Hid (Unc w7 (xu.add (n * 8)) u) := U6.out.below BA.out U6.out.lt
        have L7 : Hid (Uno w7 b3 (.slice la ss.length lc) ss) := L6.out.below BA.out
        have K7 : Hid (w3.grownBy w7 (some bx)) := gb_trans K6.out (gb_below BA.out)
        have S7 : Hid (b3 ≤ w7.heap.size) := Nat.le_trans S6.out BA.out.size
        clear Y6 X6 U6 L6 K6 S6 BA
        obtain ⟨gg, gc, w8, hr, ho8, hg8, -, -⟩ := run_un w7 26 b3 (.slice la ss.length lc) ss L7.out _ _ EC.out (by have := SS.out; omega) S7.out
        have BG : Hid (Below b3 w7 w8) := (Below.refl _ _).grown hg8 S7.out (fun b hb => (World.ownsRow.lt L7.out b hb).1)
        have Y8 : Hid (Bw w8 w.heap.size X (.slice p1 X.gs.length s1) (.slice p2 X.os.length s2) (.slice p3 X.gold.length s3) (.slice (some xu) X.us.length s4) (.slice p5 X.qs.length s5)) := Y7.out.below BG.out (by have := BX.out; omega)
        have X8 : Hid (Wx w8 bx (.int .i64 X.turn) (.int .i64 X.next) (.int .i64 X.wide) (.int .i64 X.high) (.slice a1 X.gs.length r1) (.slice a2 X.os.length r2) (.slice a3 X.gold.length r3) (.slice la ss.length lc) (.slice none 0 0)) := X7.out.below BG.out (by have := BX.out; omega)
        have U8 : Hid (Unc w8 (xu.add (n * 8)) u) := U7.out.below BG.out (by have := UB.out; have := BX.out; omega)
        have K8 : Hid (w3.grownBy w8 (some bx)) := gb_low K7.out BG.out (by have := BX.out; omega)
        have L8 : Hid (Uno w8 b3 (.slice (some ⟨gg, 0, none⟩) (ss.length + 1) gc) (ss ++ [u])) := ho8
        have S8 : Hid (b3 ≤ w8.heap.size) := Nat.le_trans S7.out BG.out.size
        refine headT_value rfl (.slice (some ⟨gg, 0, none⟩) (ss.length + 1) gc) w8 (by go_simp) (exec_append _ _ _ _ rfl _ _ (by go_simp) (by go_simp) hr) (CB.out _ Y8.out X8.out U8.out) ?_
        clear hr ho8 hg8 Y7 X7 U7 L7 K7 S7 BG EC
        go_simp
        refine headT_read rfl (.pointer (some ⟨bx, 7, none⟩)) (by go_simp) (fun V hV => by go_simp) ?_
        go_simp
        unfold wpHeadT
        have t8 := X8.out.thaw 7
        obtain ⟨m0, m1, m2, m3, m4, m5, m6, m7, m8⟩ := X8.out.cells
        have X9 : Hid (Wx (w8.setCell ⟨bx, 7, none⟩ (.slice (some ⟨gg, 0, none⟩) (ss.length + 1) gc)) bx (.int .i64 X.turn) (.int .i64 X.next) (.int .i64 X.wide) (.int .i64 X.high) (.slice a1 X.gs.length r1) (.slice a2 X.os.length r2) (.slice a3 X.gold.length r3) (.slice (some ⟨gg, 0, none⟩) (ss.length + 1) gc) (.slice none 0 0)) := X8.out.set7 _
        have KS : Hid (Kp bx w8 (w8.setCell ⟨bx, 7, none⟩ (.slice (some ⟨gg, 0, none⟩) (ss.length + 1) gc))) := Kp.set _ _ _
        refine sched_skip rfl (w8.setCell ⟨bx, 7, none⟩ (.slice (some ⟨gg, 0, none⟩) (ss.length + 1) gc)) (by go_simp) (by go_simp) trivial ?_
        go_simp
        clear t8 m0 m1 m2 m3 m4 m5 m6 m7 m8
        generalize (w8.setCell ⟨bx, 7, none⟩ (.slice (some ⟨gg, 0, none⟩) (ss.length + 1) gc)) = w9 at *
        have L9 : Hid (Uno w9 b3 (.slice (some ⟨gg, 0, none⟩) (ss.length + 1) gc) (ss ++ [u])) := L8.out.kp KS.out (by have := BX.out; omega)
        have K9 : Hid (w3.grownBy w9 (some bx)) := gb_trans K8.out (gb_kp KS.out)
        unfold wpSched
        clear Y8 X8 U8 L8 K8 S8 CB KS
        go_wp2
        go_round
        case rel => exact ⟨n + 1, _, by go_num, by have := HN.out; omega, X9.out, by rw [NY.out]; exact L9.out, K9.out⟩
        case measure => simp [intOf]; omega
      | false =>
        by_cases hp : u.player = p
        · have NY : Hid ((X.us.take (n + 1)).filter (fun k => !hidU ks Wn X p k) = ss ++ [u]) := KY (by rw [HU.out, hp]; simp)
          rw [hp] at y1
          clear KY KN hp
          go_upto_region 9 with fail
          have CB : Hid (∀ V, Bw V w.heap.size X (.slice p1 X.gs.length s1) (.slice p2 X.os.length s2) (.slice p3 X.gold.length s3) (.slice (some xu) X.us.length s4) (.slice p5 X.qs.length s5) → Wx V bx (.int .i64 X.turn) (.int .i64 X.next) (.int .i64 X.wide) (.int .i64 X.high) (.slice a1 X.gs.length r1) (.slice a2 X.os.length r2) (.slice a3 X.gold.length r3) (.slice la ss.length lc) (.slice none 0 0) → Unc V (xu.add (n * 8)) u → (V.cell? ⟨bx, 7, none⟩ = some (.slice la ss.length lc) ∧ V.cell? ⟨w.heap.size, 7, none⟩ = some (.slice (some xu) X.us.length s4) ∧ Unc V (xu.add (n * 8)) u)) := fun V hy hx hu => ⟨hx.cells.2.2.2.2.2.2.2.1, hy.c7, hu⟩
          refine wp_region_two [(true, 0), (true, 1), (true, 2), (true, 3), (true, 4), (true, 5), (true, 6), (false, 7), (false, 8), (true, 9)] [(false, 10)] (fun V => V.cell? ⟨bx, 7, none⟩ = some (.slice la ss.length lc) ∧ V.cell? ⟨w.heap.size, 7, none⟩ = some (.slice (some xu) X.us.length s4) ∧ Unc V (xu.add (n * 8)) u) (by kernel_rfl) (by kernel_rfl) (by kernel_rfl) (by decide +kernel) (by decide +kernel) (CB.out _ (Ya.out.below ((Below.refl _ _).drew) Ya.out.lt) Xa.out.drew (Ua.out.below ((Below.refl _ _).drew) Ua.out.lt)) ?_
          have D6 : Hid (Below wa.heap.size wa { wa with drawn := wa.drawn + 1 }) := (Below.refl _ _).drew
          generalize ({ wa with drawn := wa.drawn + 1 } : World) = w6 at *
          have Y6 : Hid (Bw w6 w.heap.size X (.slice p1 X.gs.length s1) (.slice p2 X.os.length s2) (.slice p3 X.gold.length s3) (.slice (some xu) X.us.length s4) (.slice p5 X.qs.length s5)) := Ya.out.below D6.out Ya.out.lt
          have X6 : Hid (Wx w6 bx (.int .i64 X.turn) (.int .i64 X.next) (.int .i64 X.wide) (.int .i64 X.high) (.slice a1 X.gs.length r1) (.slice a2 X.os.length r2) (.slice a3 X.gold.length r3) (.slice la ss.length lc) (.slice none 0 0)) := Xa.out.below D6.out Xa.out.lt
          have U6 : Hid (Unc w6 (xu.add (n * 8)) u) := Ua.out.below D6.out Ua.out.lt
          have L6 : Hid (Uno w6 b3 (.slice la ss.length lc) ss) := La.out.below D6.out
          have K6 : Hid (w3.grownBy w6 (some bx)) := gb_trans Ka.out (gb_below D6.out)
          have S6 : Hid (b3 ≤ w6.heap.size) := Nat.le_trans Sa.out D6.out.size
          clear Ya Xa Ua La Ka Sa D6
          refine headT_read rfl (.pointer (some ⟨bx, 7, none⟩)) (by go_simp) (fun V hV => by go_simp) ?_
          go_simp
          refine headT_read rfl (.slice la ss.length lc) (by go_simp) (fun V hV => by obtain ⟨e1, e2, ⟨y0, y1, y2, y3, y4, y5, y6, y7⟩⟩ := hV; go_simp) ?_
          go_simp
          refine headT_read rfl (.pointer (some ⟨w.heap.size, 7, none⟩)) (by go_simp) (fun V hV => by go_simp) ?_
          go_simp
          refine headT_read rfl (.slice (some xu) X.us.length s4) (by go_simp) (fun V hV => by obtain ⟨e1, e2, ⟨y0, y1, y2, y3, y4, y5, y6, y7⟩⟩ := hV; go_simp) ?_
          go_simp
          refine headT_read rfl (.int .i64 (n : Nat)) (by go_simp) (fun V hV => by go_simp) ?_
          go_simp
          refine headT_read rfl (.pointer (some (xu.add (n * 8)))) (by go_simp) (fun V hV => by go_simp) ?_
          go_simp
          refine headT_read rfl (.agg #[.int .i64 u.id, .int .i64 u.player, .int .i64 u.kind, .int .i64 u.at_, .int .i64 u.life, .int .i64 u.load, .int .i64 u.task, .int .i64 u.goal]) (by go_simp) (fun V hV => by obtain ⟨e1, e2, ⟨y0, y1, y2, y3, y4, y5, y6, y7⟩⟩ := hV; go_simp) ?_
          go_simp
          have BA : Hid (Below w6.heap.size w6 (w6.alloc (Obj.cells #[.int .i64 u.id, .int .i64 u.player, .int .i64 u.kind, .int .i64 u.at_, .int .i64 u.life, .int .i64 u.load, .int .i64 u.task, .int .i64 u.goal] 59))) := (Below.refl _ _).alloc (Nat.le_refl _) _
          have EC : Hid (Unc (w6.alloc (Obj.cells #[.int .i64 u.id, .int .i64 u.player, .int .i64 u.kind, .int .i64 u.at_, .int .i64 u.life, .int .i64 u.load, .int .i64 u.task, .int .i64 u.goal] 59)) ⟨w6.heap.size, 0, none⟩ u) := Unc.mk' u rfl
          refine headT_value rfl (.slice (some ⟨w6.heap.size, 0, none⟩) 1 1) (w6.alloc (Obj.cells #[.int .i64 u.id, .int .i64 u.player, .int .i64 u.kind, .int .i64 u.at_, .int .i64 u.life, .int .i64 u.load, .int .i64 u.task, .int .i64 u.goal] 59)) (by go_simp) (by go_simp) (CB.out _ (Y6.out.below BA.out Y6.out.lt) (X6.out.below BA.out X6.out.lt) (U6.out.below BA.out U6.out.lt)) ?_
          go_simp
          generalize (w6.alloc (Obj.cells #[.int .i64 u.id, .int .i64 u.player, .int .i64 u.kind, .int .i64 u.at_, .int .i64 u.life, .int .i64 u.load, .int .i64 u.task, .int .i64 u.goal] 59)) = w7 at *
          have Y7 : Hid (Bw w7 w.heap.size X (.slice p1 X.gs.length s1) (.slice p2 X.os.length s2) (.slice p3 X.gold.length s3) (.slice (some xu) X.us.length s4) (.slice p5 X.qs.length s5)) := Y6.out.below BA.out Y6.out.lt
          have X7 : Hid (Wx w7 bx (.int .i64 X.turn) (.int .i64 X.next) (.int .i64 X.wide) (.int .i64 X.high) (.slice a1 X.gs.length r1) (.slice a2 X.os.length r2) (.slice a3 X.gold.length r3) (.slice la ss.length lc) (.slice none 0 0)) := X6.out.below BA.out X6.out.lt
          have U7 : Hid (Unc w7 (xu.add (n * 8)) u) := U6.out.below BA.out U6.out.lt
          have L7 : Hid (Uno w7 b3 (.slice la ss.length lc) ss) := L6.out.below BA.out
          have K7 : Hid (w3.grownBy w7 (some bx)) := gb_trans K6.out (gb_below BA.out)
          have S7 : Hid (b3 ≤ w7.heap.size) := Nat.le_trans S6.out BA.out.size
          clear Y6 X6 U6 L6 K6 S6 BA
          obtain ⟨gg, gc, w8, hr, ho8, hg8, -, -⟩ := run_un w7 26 b3 (.slice la ss.length lc) ss L7.out _ _ EC.out (by have := SS.out; omega) S7.out
          have BG : Hid (Below b3 w7 w8) := (Below.refl _ _).grown hg8 S7.out (fun b hb => (World.ownsRow.lt L7.out b hb).1)
          have Y8 : Hid (Bw w8 w.heap.size X (.slice p1 X.gs.length s1) (.slice p2 X.os.length s2) (.slice p3 X.gold.length s3) (.slice (some xu) X.us.length s4) (.slice p5 X.qs.length s5)) := Y7.out.below BG.out (by have := BX.out; omega)
          have X8 : Hid (Wx w8 bx (.int .i64 X.turn) (.int .i64 X.next) (.int .i64 X.wide) (.int .i64 X.high) (.slice a1 X.gs.length r1) (.slice a2 X.os.length r2) (.slice a3 X.gold.length r3) (.slice la ss.length lc) (.slice none 0 0)) := X7.out.below BG.out (by have := BX.out; omega)
          have U8 : Hid (Unc w8 (xu.add (n * 8)) u) := U7.out.below BG.out (by have := UB.out; have := BX.out; omega)
          have K8 : Hid (w3.grownBy w8 (some bx)) := gb_low K7.out BG.out (by have := BX.out; omega)
          have L8 : Hid (Uno w8 b3 (.slice (some ⟨gg, 0, none⟩) (ss.length + 1) gc) (ss ++ [u])) := ho8
          have S8 : Hid (b3 ≤ w8.heap.size) := Nat.le_trans S7.out BG.out.size
          refine headT_value rfl (.slice (some ⟨gg, 0, none⟩) (ss.length + 1) gc) w8 (by go_simp) (exec_append _ _ _ _ rfl _ _ (by go_simp) (by go_simp) hr) (CB.out _ Y8.out X8.out U8.out) ?_
          clear hr ho8 hg8 Y7 X7 U7 L7 K7 S7 BG EC
          go_simp
          refine headT_read rfl (.pointer (some ⟨bx, 7, none⟩)) (by go_simp) (fun V hV => by go_simp) ?_
          go_simp
          unfold wpHeadT
          have t8 := X8.out.thaw 7
          obtain ⟨m0, m1, m2, m3, m4, m5, m6, m7, m8⟩ := X8.out.cells
          have X9 : Hid (Wx (w8.setCell ⟨bx, 7, none⟩ (.slice (some ⟨gg, 0, none⟩) (ss.length + 1) gc)) bx (.int .i64 X.turn) (.int .i64 X.next) (.int .i64 X.wide) (.int .i64 X.high) (.slice a1 X.gs.length r1) (.slice a2 X.os.length r2) (.slice a3 X.gold.length r3) (.slice (some ⟨gg, 0, none⟩) (ss.length + 1) gc) (.slice none 0 0)) := X8.out.set7 _
          have KS : Hid (Kp bx w8 (w8.setCell ⟨bx, 7, none⟩ (.slice (some ⟨gg, 0, none⟩) (ss.length + 1) gc))) := Kp.set _ _ _
          refine sched_skip rfl (w8.setCell ⟨bx, 7, none⟩ (.slice (some ⟨gg, 0, none⟩) (ss.length + 1) gc)) (by go_simp) (by go_simp) trivial ?_
          go_simp
          clear t8 m0 m1 m2 m3 m4 m5 m6 m7 m8
          generalize (w8.setCell ⟨bx, 7, none⟩ (.slice (some ⟨gg, 0, none⟩) (ss.length + 1) gc)) = w9 at *
          have L9 : Hid (Uno w9 b3 (.slice (some ⟨gg, 0, none⟩) (ss.length + 1) gc) (ss ++ [u])) := L8.out.kp KS.out (by have := BX.out; omega)
          have K9 : Hid (w3.grownBy w9 (some bx)) := gb_trans K8.out (gb_kp KS.out)
          unfold wpSched
          clear Y8 X8 U8 L8 K8 S8 CB KS
          go_wp2
          go_round
          case rel => exact ⟨n + 1, _, by go_num, by have := HN.out; omega, X9.out, by rw [NY.out]; exact L9.out, K9.out⟩
          case measure => simp [intOf]; omega
        · have hp' : (u.player == p) = false := by rw [beq_eq_false_iff_ne]; exact hp
          have NY : Hid ((X.us.take (n + 1)).filter (fun k => !hidU ks Wn X p k) = ss) := KN (by rw [HU.out, hp']; rfl)
          clear KY KN
          go_wp2
          go_round
          case rel => exact ⟨n + 1, _, by go_num, by have := HN.out; omega, Xa.out, by rw [NY.out]; exact La.out, Ka.out⟩
          case measure => simp [intOf]; omega
    subst h0
    have ST : Hid (X.us.filter (fun k => !hidU ks Wn X p k) = ss) := by have := SSE.out; rw [List.take_of_length_le (Nat.le_refl _)] at this; exact this
    have Or : Hid (Ow wr b1 (.slice a1 X.gs.length r1) X.gs ∧ Ow wr b1 (.slice a2 X.os.length r2) X.os ∧ Ow wr b1 (.slice a3 X.gold.length r3) X.gold) :=
      ⟨own_gb O3.out.1 Kr.out (fun b h1 h2 => by have := (LB.out.2.1 b h1).2; have := Option.some.inj h2; omega), own_gb O3.out.2.1 Kr.out (fun b h1 h2 => by have := (LB.out.2.2.1 b h1).2; have := Option.some.inj h2; omega), own_gb O3.out.2.2 Kr.out (fun b h1 h2 => by have := (LB.out.2.2.2 b h1).2; have := Option.some.inj h2; omega)⟩
    have Rr : Hid (Wx wr (w.heap.size + 1) (.int .i64 0) (.int .i64 0) (.int .i64 0) (.int .i64 0) (.slice none 0 0) (.slice none 0 0) (.slice none 0 0) (.slice none 0 0) (.slice none 0 0)) := R3.out.gb Kr.out (fun e => by have := Option.some.inj e; have := BX.out; omega)
    have x7 := Yr.out.c7
    go_upto_region 11 with fail
    clear x7 SSE SS Kr Y3 R3 B3 O3 X3 Sr
    generalize la = a6 at *
    generalize lc = r6 at *
    generalize ss = st at *
    generalize wr = w3' at *
    obtain ⟨b4, hb4⟩ : ∃ z, w3'.heap.size = z := ⟨_, rfl⟩
    have LU : Hid (∀ b, (Value.slice a6 st.length r6).ownBlock = some b → b3 ≤ b ∧ b < b4) := by unfold Hid; rw [← hb4]; exact World.ownsRow.lt Lr.out
    have BY : Hid (w.heap.size + 1 < b1 ∧ b1 ≤ bx ∧ bx < b4 ∧ w3'.heap.size = b4) := ⟨BX.out.1, BX.out.2.1, by rw [← hb4]; exact Xr.out.lt, hb4⟩
    have BZ : Hid (bx < b3) := BX.out.2.2.1
    clear hb4 BX
    have BX := BY
    clear BY
    generalize hb34 : b3 = bu at *
    clear hb34
    generalize b4 = b3 at *
    generalize w3' = w3 at *
    go_loopw [10] (fun v10 V => ∃ (n : Nat) (lv : Value), v10 = .int .i64 (n : Nat) ∧ n ≤ X.qs.length ∧ Wx V bx (.int .i64 X.turn) (.int .i64 X.next) (.int .i64 X.wide) (.int .i64 X.high) (.slice a1 X.gs.length r1) (.slice a2 X.os.length r2) (.slice a3 X.gold.length r3) (.slice a6 st.length r6) lv ∧ Jbo V b3 lv ((X.qs.take n).filter (fun k => !notJ p k)) ∧ w3.grownBy V (some bx)) (fun v10 _ => X.qs.length - (intOf v10).toNat)
    case atStart => exact ⟨0, _, rfl, Nat.zero_le _, Xr.out, Jbo.nil _ _, gb_below (Below.refl _ _)⟩
    case round =>
      obtain ⟨n, lv, rfl, hn, hx, hl, hg⟩ := hrel
      obtain ⟨ss, hss⟩ : ∃ l, (X.qs.take n).filter (fun k => !notJ p k) = l := ⟨_, rfl⟩
      rw [hss] at hl
      obtain ⟨la, lc, rfl⟩ := hl.len
      have SSE : Hid ((X.qs.take n).filter (fun k => !notJ p k) = ss) := hss
      have SS : Hid (ss.length ≤ 40) := by
        have h1 : ss.length ≤ (X.qs.take n).length := by rw [← hss]; exact List.length_filter_le _ _
        have h2 : (X.qs.take n).length ≤ X.qs.length := by simp; omega
        have h3 := WR.out.ql
        unfold Hid; omega
      have Xs : Hid (Wx wr bx (.int .i64 X.turn) (.int .i64 X.next) (.int .i64 X.wide) (.int .i64 X.high) (.slice a1 X.gs.length r1) (.slice a2 X.os.length r2) (.slice a3 X.gold.length r3) (.slice a6 st.length r6) (.slice la ss.length lc)) := hx
      have Ls : Hid (Jbo wr b3 (.slice la ss.length lc) ss) := hl
      have Ks : Hid (w3.grownBy wr (some bx)) := hg
      have Ys : Hid (Bw wr w.heap.size X (.slice p1 X.gs.length s1) (.slice p2 X.os.length s2) (.slice p3 X.gold.length s3) (.slice p4 X.us.length s4) (.slice p5 X.qs.length s5)) := Yr.out.gb hg (fun e => by have := Option.some.inj e; have := BX.out; omega)
      have Bs' : Hid (Below w.heap.size w wr) := below_gb Br.out hg Br.out.size (fun b e => by have := Option.some.inj e; have := BX.out; omega)
      have Ss : Hid (b3 ≤ wr.heap.size) := by have h := hg.size; rw [BX.out.2.2.2] at h; exact h
      clear hx hl hg hss
      by_cases h0 : n = X.qs.length
      case neg =>
        have hnl : n < X.qs.length := by omega
        have hni : ((n : Nat) : Int) < (X.qs.length : Nat) := by omega
        have HN : Hid (n < X.qs.length) := hnl
        have WN : IntKind.i64.wrap ((n : Nat) + 1 : Int) = ((n : Nat) : Int) + 1 := by have := WR.out.ql; rw [IntKind.wrap_i64]; omega
        obtain ⟨j, hj⟩ : ∃ j, X.qs[n]? = some j := ⟨_, List.getElem?_eq_getElem hnl⟩
        have KY := fun h => keep_yes (q := notJ p) hj h
        have KN := fun h => keep_no (q := notJ p) hj h
        rw [SSE.out] at KY KN
        obtain ⟨pa, pc, he, -, -, hus⟩ := H.out.slices.2.2.2.2
        obtain ⟨xj, hxj, hxjl, hxjc⟩ := hus (by intro h; rw [h] at hnl; simp at hnl)
        injection he with he1 he2 he3
        subst he1
        subst hxj
        have UC : Hid (Jbc w (xj.add (n * 4)) j ∧ (xj.add (n * 4)).block < w.heap.size) := ⟨hxjc n j hj, by rw [add_block]; exact hxjl⟩
        have UB : Hid ((xj.add (n * 4)).block < b3) := by have := UC.out.2; have := BX.out; unfold Hid; omega
        have Ua : Hid (Jbc wr (xj.add (n * 4)) j) := UC.out.1.below Bs'.out UC.out.2
        obtain ⟨y0, y1, y2, y3⟩ := Ua.out
        have x8 := Ys.out.c8
        have Ya : Hid (Bw wr w.heap.size X (.slice p1 X.gs.length s1) (.slice p2 X.os.length s2) (.slice p3 X.gold.length s3) (.slice p4 X.us.length s4) (.slice (some xj) X.qs.length s5)) := Ys.out
        have Xa := Xs
        have La := Ls
        have Ka := Ks
        have Sa := Ss
        clear hus he2 he3 hxjl hxjc hj Xs Ls Ks Ss Ys
        by_cases hp : j.player = p
        · have NY : Hid ((X.qs.take (n + 1)).filter (fun k => !notJ p k) = ss ++ [j]) := KY (by unfold notJ; rw [hp]; simp)
          rw [hp] at y0
          clear KY KN hp
          generalize wr = wa at *
          go_upto_region 14 with fail
          have CB : Hid (∀ V, Bw V w.heap.size X (.slice p1 X.gs.length s1) (.slice p2 X.os.length s2) (.slice p3 X.gold.length s3) (.slice p4 X.us.length s4) (.slice (some xj) X.qs.length s5) → Wx V bx (.int .i64 X.turn) (.int .i64 X.next) (.int .i64 X.wide) (.int .i64 X.high) (.slice a1 X.gs.length r1) (.slice a2 X.os.length r2) (.slice a3 X.gold.length r3) (.slice a6 st.length r6) (.slice la ss.length lc) → Jbc V (xj.add (n * 4)) j → (V.cell? ⟨bx, 8, none⟩ = some (.slice la ss.length lc) ∧ V.cell? ⟨w.heap.size, 8, none⟩ = some (.slice (some xj) X.qs.length s5) ∧ Jbc V (xj.add (n * 4)) j)) := fun V hy hx hu => ⟨hx.cells.2.2.2.2.2.2.2.2, hy.c8, hu⟩
          refine wp_region_two [(true, 0), (true, 1), (true, 2), (true, 3), (true, 4), (true, 5), (true, 6), (false, 7), (false, 8), (true, 9)] [(false, 10)] (fun V => V.cell? ⟨bx, 8, none⟩ = some (.slice la ss.length lc) ∧ V.cell? ⟨w.heap.size, 8, none⟩ = some (.slice (some xj) X.qs.length s5) ∧ Jbc V (xj.add (n * 4)) j) (by kernel_rfl) (by kernel_rfl) (by kernel_rfl) (by decide +kernel) (by decide +kernel) (CB.out _ (Ya.out.below ((Below.refl _ _).drew) Ya.out.lt) Xa.out.drew (Ua.out.below ((Below.refl _ _).drew) Ua.out.lt)) ?_
          have D6 : Hid (Below wa.heap.size wa { wa with drawn := wa.drawn + 1 }) := (Below.refl _ _).drew
          generalize ({ wa with drawn := wa.drawn + 1 } : World) = w6 at *
          have Y6 : Hid (Bw w6 w.heap.size X (.slice p1 X.gs.length s1) (.slice p2 X.os.length s2) (.slice p3 X.gold.length s3) (.slice p4 X.us.length s4) (.slice (some xj) X.qs.length s5)) := Ya.out.below D6.out Ya.out.lt
          have X6 : Hid (Wx w6 bx (.int .i64 X.turn) (.int .i64 X.next) (.int .i64 X.wide) (.int .i64 X.high) (.slice a1 X.gs.length r1) (.slice a2 X.os.length r2) (.slice a3 X.gold.length r3) (.slice a6 st.length r6) (.slice la ss.length lc)) := Xa.out.below D6.out Xa.out.lt
          have U6 : Hid (Jbc w6 (xj.add (n * 4)) j) := Ua.out.below D6.out Ua.out.lt
          have L6 : Hid (Jbo w6 b3 (.slice la ss.length lc) ss) := La.out.below D6.out
          have K6 : Hid (w3.grownBy w6 (some bx)) := gb_trans Ka.out (gb_below D6.out)
          have S6 : Hid (b3 ≤ w6.heap.size) := Nat.le_trans Sa.out D6.out.size
          clear Ya Xa Ua La Ka Sa D6
          refine headT_read rfl (.pointer (some ⟨bx, 8, none⟩)) (by go_simp) (fun V hV => by go_simp) ?_
          go_simp
          refine headT_read rfl (.slice la ss.length lc) (by go_simp) (fun V hV => by obtain ⟨e1, e2, ⟨y0, y1, y2, y3⟩⟩ := hV; go_simp) ?_
          go_simp
          refine headT_read rfl (.pointer (some ⟨w.heap.size, 8, none⟩)) (by go_simp) (fun V hV => by go_simp) ?_
          go_simp
          refine headT_read rfl (.slice (some xj) X.qs.length s5) (by go_simp) (fun V hV => by obtain ⟨e1, e2, ⟨y0, y1, y2, y3⟩⟩ := hV; go_simp) ?_
          go_simp
          refine headT_read rfl (.int .i64 (n : Nat)) (by go_simp) (fun V hV => by go_simp) ?_
          go_simp
          refine headT_read rfl (.pointer (some (xj.add (n * 4)))) (by go_simp) (fun V hV => by go_simp) ?_
          go_simp
          refine headT_read rfl (.agg #[.int .i64 j.player, .int .i64 j.unit, .int .i64 j.kind, .int .i64 j.left]) (by go_simp) (fun V hV => by obtain ⟨e1, e2, ⟨y0, y1, y2, y3⟩⟩ := hV; go_simp) ?_
          go_simp
          have BA : Hid (Below w6.heap.size w6 (w6.alloc (Obj.cells #[.int .i64 j.player, .int .i64 j.unit, .int .i64 j.kind, .int .i64 j.left] 65))) := (Below.refl _ _).alloc (Nat.le_refl _) _
          have EC : Hid (Jbc (w6.alloc (Obj.cells #[.int .i64 j.player, .int .i64 j.unit, .int .i64 j.kind, .int .i64 j.left] 65)) ⟨w6.heap.size, 0, none⟩ j) := Jbc.mk' j rfl
          refine headT_value rfl (.slice (some ⟨w6.heap.size, 0, none⟩) 1 1) (w6.alloc (Obj.cells #[.int .i64 j.player, .int .i64 j.unit, .int .i64 j.kind, .int .i64 j.left] 65)) (by go_simp) (by go_simp) (CB.out _ (Y6.out.below BA.out Y6.out.lt) (X6.out.below BA.out X6.out.lt) (U6.out.below BA.out U6.out.lt)) ?_
          go_simp
          generalize (w6.alloc (Obj.cells #[.int .i64 j.player, .int .i64 j.unit, .int .i64 j.kind, .int .i64 j.left] 65)) = w7 at *
          have Y7 : Hid (Bw w7 w.heap.size X (.slice p1 X.gs.length s1) (.slice p2 X.os.length s2) (.slice p3 X.gold.length s3) (.slice p4 X.us.length s4) (.slice (some xj) X.qs.length s5)) := Y6.out.below BA.out Y6.out.lt
          have X7 : Hid (Wx w7 bx (.int .i64 X.turn) (.int .i64 X.next) (.int .i64 X.wide) (.int .i64 X.high) (.slice a1 X.gs.length r1) (.slice a2 X.os.length r2) (.slice a3 X.gold.length r3) (.slice a6 st.length r6) (.slice la ss.length lc)) := X6.out.below BA.out X6.out.lt
          have U7 : Hid (Jbc w7 (xj.add (n * 4)) j) := U6.out.below BA.out U6.out.lt
          have L7 : Hid (Jbo w7 b3 (.slice la ss.length lc) ss) := L6.out.below BA.out
          have K7 : Hid (w3.grownBy w7 (some bx)) := gb_trans K6.out (gb_below BA.out)
          have S7 : Hid (b3 ≤ w7.heap.size) := Nat.le_trans S6.out BA.out.size
          clear Y6 X6 U6 L6 K6 S6 BA
          obtain ⟨gg, gc, w8, hr, ho8, hg8, -, -⟩ := run_jb w7 27 b3 (.slice la ss.length lc) ss L7.out _ _ EC.out (by have := SS.out; omega) S7.out
          have BG : Hid (Below b3 w7 w8) := (Below.refl _ _).grown hg8 S7.out (fun b hb => (World.ownsRow.lt L7.out b hb).1)
          have Y8 : Hid (Bw w8 w.heap.size X (.slice p1 X.gs.length s1) (.slice p2 X.os.length s2) (.slice p3 X.gold.length s3) (.slice p4 X.us.length s4) (.slice (some xj) X.qs.length s5)) := Y7.out.below BG.out (by have := BX.out; omega)
          have X8 : Hid (Wx w8 bx (.int .i64 X.turn) (.int .i64 X.next) (.int .i64 X.wide) (.int .i64 X.high) (.slice a1 X.gs.length r1) (.slice a2 X.os.length r2) (.slice a3 X.gold.length r3) (.slice a6 st.length r6) (.slice la ss.length lc)) := X7.out.below BG.out (by have := BX.out; omega)
          have U8 : Hid (Jbc w8 (xj.add (n * 4)) j) := U7.out.below BG.out (by have := UB.out; have := BX.out; omega)
          have K8 : Hid (w3.grownBy w8 (some bx)) := gb_low K7.out BG.out (by have := BX.out; omega)
          have L8 : Hid (Jbo w8 b3 (.slice (some ⟨gg, 0, none⟩) (ss.length + 1) gc) (ss ++ [j])) := ho8
          have S8 : Hid (b3 ≤ w8.heap.size) := Nat.le_trans S7.out BG.out.size
          refine headT_value rfl (.slice (some ⟨gg, 0, none⟩) (ss.length + 1) gc) w8 (by go_simp) (exec_append _ _ _ _ rfl _ _ (by go_simp) (by go_simp) hr) (CB.out _ Y8.out X8.out U8.out) ?_
          clear hr ho8 hg8 Y7 X7 U7 L7 K7 S7 BG EC
          go_simp
          refine headT_read rfl (.pointer (some ⟨bx, 8, none⟩)) (by go_simp) (fun V hV => by go_simp) ?_
          go_simp
          unfold wpHeadT
          have t8 := X8.out.thaw 8
          obtain ⟨m0, m1, m2, m3, m4, m5, m6, m7, m8⟩ := X8.out.cells
          have X9 : Hid (Wx (w8.setCell ⟨bx, 8, none⟩ (.slice (some ⟨gg, 0, none⟩) (ss.length + 1) gc)) bx (.int .i64 X.turn) (.int .i64 X.next) (.int .i64 X.wide) (.int .i64 X.high) (.slice a1 X.gs.length r1) (.slice a2 X.os.length r2) (.slice a3 X.gold.length r3) (.slice a6 st.length r6) (.slice (some ⟨gg, 0, none⟩) (ss.length + 1) gc)) := X8.out.set8 _
          have KS : Hid (Kp bx w8 (w8.setCell ⟨bx, 8, none⟩ (.slice (some ⟨gg, 0, none⟩) (ss.length + 1) gc))) := Kp.set _ _ _
          refine sched_skip rfl (w8.setCell ⟨bx, 8, none⟩ (.slice (some ⟨gg, 0, none⟩) (ss.length + 1) gc)) (by go_simp) (by go_simp) trivial ?_
          go_simp
          clear t8 m0 m1 m2 m3 m4 m5 m6 m7 m8
          generalize (w8.setCell ⟨bx, 8, none⟩ (.slice (some ⟨gg, 0, none⟩) (ss.length + 1) gc)) = w9 at *
          have L9 : Hid (Jbo w9 b3 (.slice (some ⟨gg, 0, none⟩) (ss.length + 1) gc) (ss ++ [j])) := L8.out.kp KS.out (by have := BX.out; omega)
          have K9 : Hid (w3.grownBy w9 (some bx)) := gb_trans K8.out (gb_kp KS.out)
          unfold wpSched
          clear Y8 X8 U8 L8 K8 S8 CB KS
          go_wp2
          go_round
          case rel => exact ⟨n + 1, _, by go_num, by have := HN.out; omega, X9.out, by rw [NY.out]; exact L9.out, K9.out⟩
          case measure => simp [intOf]; omega
        · have hp' : (j.player == p) = false := by rw [beq_eq_false_iff_ne]; exact hp
          have NY : Hid ((X.qs.take (n + 1)).filter (fun k => !notJ p k) = ss) := KN (by unfold notJ; rw [hp']; rfl)
          clear KY KN
          go_wp2
          go_round
          case rel => exact ⟨n + 1, _, by go_num, by have := HN.out; omega, Xa.out, by rw [NY.out]; exact La.out, Ka.out⟩
          case measure => simp [intOf]; omega
      subst h0
      have QS : Hid (X.qs.filter (fun k => !notJ p k) = ss) := by have := SSE.out; rw [List.take_of_length_le (Nat.le_refl _)] at this; exact this
      have Os : Hid (Ow wr b1 (.slice a1 X.gs.length r1) X.gs ∧ Ow wr b1 (.slice a2 X.os.length r2) X.os ∧ Ow wr b1 (.slice a3 X.gold.length r3) X.gold ∧ Uno wr b1 (.slice a6 st.length r6) st ∧ Jbo wr b1 (.slice la ss.length lc) ss) :=
        ⟨own_gb Or.out.1 Ks.out (fun b h1 h2 => by have := (LB.out.2.1 b h1).2; have := Option.some.inj h2; omega), own_gb Or.out.2.1 Ks.out (fun b h1 h2 => by have := (LB.out.2.2.1 b h1).2; have := Option.some.inj h2; omega), own_gb Or.out.2.2 Ks.out (fun b h1 h2 => by have := (LB.out.2.2.2 b h1).2; have := Option.some.inj h2; omega), Uno.mono (own_gb Lr.out Ks.out (fun b h1 h2 => by have := (LU.out b h1).1; have := Option.some.inj h2; have := BZ.out; omega)) (by have := BX.out; have := BZ.out; omega), Ls.out.mono (by have := BX.out; omega)⟩
      have Rs' : Hid (Wx wr (w.heap.size + 1) (.int .i64 0) (.int .i64 0) (.int .i64 0) (.int .i64 0) (.slice none 0 0) (.slice none 0 0) (.slice none 0 0) (.slice none 0 0) (.slice none 0 0)) := Rr.out.gb Ks.out (fun e => by have := Option.some.inj e; have := BX.out; omega)
      have LQ : Hid (∀ b, (Value.slice la ss.length lc).ownBlock = some b → b3 ≤ b) := fun b h => (World.ownsRow.lt Ls.out b h).1
      have LV : Hid (∀ b, (Value.slice a6 st.length r6).ownBlock = some b → bx < b) := fun b h => by have := (LU.out b h).1; have := BZ.out; omega
      have x8 := Ys.out.c8
      have hql : ¬ (((X.qs.length : Nat) : Int) < (X.qs.length : Nat)) := by omega
      rcases Os.out.2.2.1.bk with ⟨-, h⟩ | ⟨g3, cp3, rs3, h, -, hl3, hm3, hz3, hbk3⟩
      · exact absurd GD.out.2.2.2.2.1 (by rw [h]; simp)
      injection h with h1 h2 h3
      subst h1
      subst h3
      rcases Os.out.2.1.bk with ⟨-, h⟩ | ⟨g2, cp2, rs2, h, -, hl2, hm2, hz2, hbk2⟩
      · exact absurd GD.out.2.2.2.1 (by rw [← GD.out.2.2.1, h]; simp)
      injection h with h1 h2' h3
      subst h1
      subst h3
      have GG : Hid (b1 ≤ g3 ∧ g3 < bx ∧ b1 ≤ g2 ∧ g2 < bx ∧ g2 ≠ g3) := ⟨(LB.out.2.2.2 g3 rfl).1, (LB.out.2.2.2 g3 rfl).2, (LB.out.2.2.1 g2 rfl).1, (LB.out.2.2.1 g2 rfl).2, fun e => DD.out.2.2 g2 rfl (by rw [e]; rfl)⟩
      have CP : Hid ((X.gold.length ≤ r3 ∧ r3 ≤ maxLen ∧ X.gold.length + rs3.size = r3) ∧ X.os.length ≤ r2 ∧ r2 ≤ maxLen ∧ X.os.length + rs2.size = r2) := ⟨⟨hl3, hm3, hz3⟩, hl2, hm2, hz2⟩
      obtain ⟨q, hq⟩ : ∃ q : Nat → Bool, (fun i : Nat => !decide ((i : Int) = p)) = q := ⟨_, rfl⟩
      obtain ⟨s, hs⟩ : ∃ s : Nat → Bool, (fun i : Nat => !seesP ks Wn X.gs X.us p i) = s := ⟨_, rfl⟩
      have QQ : Hid ((∀ i : Nat, q i = !decide ((i : Int) = p)) ∧ ∀ i : Nat, s i = !seesP ks Wn X.gs X.us p i) := ⟨fun i => by rw [← hq], fun i => by rw [← hs]⟩
      have FO : Hid (viewOf ks Wn X p = { X with us := st, qs := ss, gold := zer q X.gold, os := zer s X.os }) := by unfold Hid viewOf; rw [ST.out, QS.out, hq, hs]
      have BK9 : Hid (Bk wr g3 X.gold rs3) := hbk3
      clear hl3 hm3 hz3 hbk3 hl2 hm2 hz2 hbk2 h2 h2' hq hs
      obtain ⟨-, -, -, -, -, -, z6, -, -⟩ := Xs.out.cells
      go_upto_region 16 with fail
      clear z6 x8 hql SSE SS Ks Ls Yr Rr Br Lr Or Xr ST QS
      generalize wr = w9 at *
      go_loopw [11] (fun v11 V => ∃ n : Nat, v11 = .int .i64 (n : Nat) ∧ n ≤ X.gold.length ∧ Bk V g3 (zerUp q n X.gold) rs3 ∧ Kp g3 w9 V) (fun v11 _ => X.gold.length - (intOf v11).toNat)
      case atStart => exact ⟨0, rfl, Nat.zero_le _, by rw [zerUp_zero]; exact BK9.out, Kp.refl _ _⟩
      case round =>
        obtain ⟨n, rfl, hn, hbk, hkp⟩ := hrel
        have BR : Hid (Bk wr g3 (zerUp q n X.gold) rs3) := hbk
        have KR : Hid (Kp g3 w9 wr) := hkp
        have XR : Hid (Wx wr bx (.int .i64 X.turn) (.int .i64 X.next) (.int .i64 X.wide) (.int .i64 X.high) (.slice a1 X.gs.length r1) (.slice (some ⟨g2, 0, none⟩) X.os.length r2) (.slice (some ⟨g3, 0, none⟩) X.gold.length r3) (.slice a6 st.length r6) (.slice la ss.length lc)) := Xs.out.kp hkp (by have := GG.out; omega)
        clear hbk hkp
        by_cases h0 : n = X.gold.length
        case neg =>
          have hnl : n < X.gold.length := by omega
          have hni : ((n : Nat) : Int) < (X.gold.length : Nat) := by omega
          have HN : Hid (n < X.gold.length) := hnl
          have WN : IntKind.i64.wrap ((n : Nat) + 1 : Int) = ((n : Nat) : Int) + 1 := by have := GD.out.2.2.2.2.2; rw [IntKind.wrap_i64]; omega
          obtain ⟨-, -, -, -, -, -, z6, -, -⟩ := XR.out.cells
          by_cases hp : ((n : Nat) : Int) = p
          · have NX : Hid (zerUp q (n + 1) X.gold = zerUp q n X.gold) := zerUp_no _ (by rw [QQ.out.1, hp]; simp)
            subst hp
            go_wp2
            go_round
            case rel => exact ⟨n + 1, by go_num, by have := HN.out; omega, by rw [NX.out]; exact BR.out, KR.out⟩
            case measure => simp [intOf]; omega
          · have NX : Hid (zerUp q (n + 1) X.gold = (zerUp q n X.gold).set n 0) := zerUp_yes _ (by rw [QQ.out.1]; simp [hp])
            have hp' : (((n : Nat) : Int) == p) = false := by rw [beq_eq_false_iff_ne]; exact hp
            obtain ⟨y, hy⟩ : ∃ y, (zerUp q n X.gold)[n]? = some y := ⟨_, List.getElem?_eq_getElem (by rw [zerUp_len]; exact hnl)⟩
            have cy := BR.out.cell hy
            have ty := BR.out.thaw n
            have KS : Hid (Kp g3 wr (wr.setCell ⟨g3, n, none⟩ (.int .i64 0))) := Kp.set _ _ _
            have BS3 : Hid (Bk (wr.setCell ⟨g3, n, none⟩ (.int .i64 0)) g3 ((zerUp q n X.gold).set n 0) rs3) := BR.out.set n 0 (by rw [zerUp_len]; exact hnl)
            clear hy
            go_wp2
            generalize (wr.setCell ⟨g3, n, none⟩ (.int .i64 0)) = w10 at *
            go_round
            case rel => exact ⟨n + 1, by go_num, by have := HN.out; omega, by rw [NX.out]; exact BS3.out, KR.out.trans KS.out⟩
            case measure => simp [intOf]; omega
        subst h0
        have O10 : Hid (Ow wr b1 (.slice a1 X.gs.length r1) X.gs ∧ Ow wr b1 (.slice (some ⟨g2, 0, none⟩) X.os.length r2) X.os ∧ Ow wr b1 (.slice (some ⟨g3, 0, none⟩) X.gold.length r3) (zer q X.gold) ∧ Uno wr b1 (.slice a6 st.length r6) st ∧ Jbo wr b1 (.slice la ss.length lc) ss) := by
          have hg := gb_kp KR.out
          have hz := BR.out
          rw [zerUp_all] at hz
          have ho := hz.ow (base := b1) (cap := r3) GG.out.1 (by rw [zer_len]; exact CP.out.1.1) CP.out.1.2.1 (by rw [zer_len]; exact CP.out.1.2.2)
          rw [zer_len] at ho
          exact ⟨own_gb Os.out.1 hg (fun b h1 h2 => DD.out.2.1 b h1 h2), own_gb Os.out.2.1 hg (fun b h1 h2 => DD.out.2.2 b h1 h2), ho, own_gb Os.out.2.2.2.1 hg (fun b h1 h2 => by have := LV.out b h1; have := Option.some.inj h2; have := GG.out; omega), own_gb Os.out.2.2.2.2 hg (fun b h1 h2 => by have := LQ.out b h1; have := Option.some.inj h2; have := GG.out; have := BX.out; omega)⟩
        have Y10 : Hid (Bw wr w.heap.size X (.slice p1 X.gs.length s1) (.slice p2 X.os.length s2) (.slice p3 X.gold.length s3) (.slice p4 X.us.length s4) (.slice p5 X.qs.length s5)) := Ys.out.gb (gb_kp KR.out) (fun e => by have := Option.some.inj e; have := GG.out; have := BX.out; omega)
        have R10 : Hid (Wx wr (w.heap.size + 1) (.int .i64 0) (.int .i64 0) (.int .i64 0) (.int .i64 0) (.slice none 0 0) (.slice none 0 0) (.slice none 0 0) (.slice none 0 0) (.slice none 0 0)) := Rs'.out.gb (gb_kp KR.out) (fun e => by have := Option.some.inj e; have := GG.out; have := BX.out; omega)
        have B10 : Hid (Below w.heap.size w wr) := below_gb Bs'.out (gb_kp KR.out) Bs'.out.size (fun b e => by have := Option.some.inj e; have := GG.out; have := BX.out; omega)
        have hgl : ¬ (((X.gold.length : Nat) : Int) < (X.gold.length : Nat)) := by omega
        obtain ⟨-, -, -, -, -, -, z6, -, -⟩ := XR.out.cells
        clear BR KR BK9 Xs Ys Rs' Bs' Os
        go_upto_region 21 with fail
        clear z6 hgl
        generalize wr = w10 at *
        have BK10 : Hid (∃ rs, Bk w10 g2 X.os rs ∧ X.os.length + rs.size = r2) := by
          rcases O10.out.2.1.bk with ⟨h, -⟩ | ⟨g, cp, rs, h, -, -, -, hz, hbk⟩
          · cases h
          · injection h with h1 h2 h3
            injection h1 with h1
            injection h1 with h1
            subst h1
            subst h3
            exact ⟨rs, hbk, hz⟩
        obtain ⟨rs, hbk, hz⟩ := BK10.out
        have BK10 : Hid (Bk w10 g2 X.os rs ∧ X.os.length + rs.size = r2) := ⟨hbk, hz⟩
        clear hbk hz
        go_loopw [12] (fun v12 V => ∃ n : Nat, v12 = .int .i64 (n : Nat) ∧ n ≤ X.os.length ∧ Bk V g2 (zerUp s n X.os) rs ∧ Kp g2 w10 V) (fun v12 _ => X.os.length - (intOf v12).toNat)
        case atStart => exact ⟨0, rfl, Nat.zero_le _, by rw [zerUp_zero]; exact BK10.out.1, Kp.refl _ _⟩
        case round =>
          obtain ⟨n, rfl, hn, hbk, hkp⟩ := hrel
          have BR : Hid (Bk wr g2 (zerUp s n X.os) rs) := hbk
          have KR : Hid (Kp g2 w10 wr) := hkp
          have X11 : Hid (Wx wr bx (.int .i64 X.turn) (.int .i64 X.next) (.int .i64 X.wide) (.int .i64 X.high) (.slice a1 X.gs.length r1) (.slice (some ⟨g2, 0, none⟩) X.os.length r2) (.slice (some ⟨g3, 0, none⟩) X.gold.length r3) (.slice a6 st.length r6) (.slice la ss.length lc)) := XR.out.kp hkp (by have := GG.out; omega)
          have Y11 : Hid (Bw wr w.heap.size X (.slice p1 X.gs.length s1) (.slice p2 X.os.length s2) (.slice p3 X.gold.length s3) (.slice p4 X.us.length s4) (.slice p5 X.qs.length s5)) := Y10.out.gb (gb_kp hkp) (fun e => by have := Option.some.inj e; have := GG.out; have := BX.out; omega)
          have B11 : Hid (Below w.heap.size w wr) := below_gb B10.out (gb_kp hkp) B10.out.size (fun b e => by have := Option.some.inj e; have := GG.out; have := BX.out; omega)
          clear hbk hkp
          by_cases h0 : n = X.os.length
          case neg =>
            have hnl : n < X.os.length := by omega
            have hni : ((n : Nat) : Int) < (X.os.length : Nat) := by omega
            have HN : Hid (n < X.os.length) := hnl
            have HG : Hid (n < X.gs.length) := by have := GD.out.2.2.1; unfold Hid; omega
            have WN : IntKind.i64.wrap ((n : Nat) + 1 : Int) = ((n : Nat) : Int) + 1 := by have := GD.out.2.1; have := GD.out.2.2.1; rw [IntKind.wrap_i64]; omega
            have SQ := QQ.out.2 n
            obtain ⟨-, -, -, -, -, z5, -, -, -⟩ := X11.out.cells
            obtain ⟨x0, x1, x2, x3, x4, x5, x6, x7, x8⟩ := Y11.out
            go_wp2_with fail
            refine (rsees_any _ _ ks X p Wn n wr WR.out GD.out.1 HG.out (K.out.below B11.out) (H.out.below B11.out)).mono ?_
            rintro e w11 ⟨rfl, hb⟩
            have BRa : Hid (Bk w11 g2 (zerUp s n X.os) rs) := BR.out.below hb
            have KRa : Hid (Kp g2 w10 w11) := kp_gb KR.out (gb_below (r := none) hb) (by simp)
            have X12 : Hid (Wx w11 bx (.int .i64 X.turn) (.int .i64 X.next) (.int .i64 X.wide) (.int .i64 X.high) (.slice a1 X.gs.length r1) (.slice (some ⟨g2, 0, none⟩) X.os.length r2) (.slice (some ⟨g3, 0, none⟩) X.gold.length r3) (.slice a6 st.length r6) (.slice la ss.length lc)) := X11.out.below hb X11.out.lt
            obtain ⟨t, ht⟩ : ∃ t, seesP ks Wn X.gs X.us p n = t := ⟨_, rfl⟩
            rw [ht] at SQ ⊢
            clear ht hb z5 x0 x1 x2 x3 x4 x5 x6 x7 x8 BR KR X11
            obtain ⟨-, -, -, -, -, z5, -, -, -⟩ := X12.out.cells
            cases t with
            | true =>
              have NX : Hid (zerUp s (n + 1) X.os = zerUp s n X.os) := zerUp_no _ SQ
              clear SQ
              go_wp2
              go_round
              case rel => exact ⟨n + 1, by go_num, by have := HN.out; omega, by rw [NX.out]; exact BRa.out, KRa.out⟩
              case measure => simp [intOf]; omega
            | false =>
              have NX : Hid (zerUp s (n + 1) X.os = (zerUp s n X.os).set n 0) := zerUp_yes _ SQ
              obtain ⟨y, hy⟩ : ∃ y, (zerUp s n X.os)[n]? = some y := ⟨_, List.getElem?_eq_getElem (by rw [zerUp_len]; exact hnl)⟩
              have cy := BRa.out.cell hy
              have ty := BRa.out.thaw n
              have KS : Hid (Kp g2 w11 (w11.setCell ⟨g2, n, none⟩ (.int .i64 0))) := Kp.set _ _ _
              have BS3 : Hid (Bk (w11.setCell ⟨g2, n, none⟩ (.int .i64 0)) g2 ((zerUp s n X.os).set n 0) rs) := BRa.out.set n 0 (by rw [zerUp_len]; exact hnl)
              clear SQ hy
              go_wp2
              generalize (w11.setCell ⟨g2, n, none⟩ (.int .i64 0)) = w12 at *
              go_round
              case rel => exact ⟨n + 1, by go_num, by have := HN.out; omega, by rw [NX.out]; exact BS3.out, KRa.out.trans KS.out⟩
              case measure => simp [intOf]; omega
          subst h0
          have O11 : Hid (Ow wr b1 (.slice a1 X.gs.length r1) X.gs ∧ Ow wr b1 (.slice (some ⟨g2, 0, none⟩) X.os.length r2) (zer s X.os) ∧ Ow wr b1 (.slice (some ⟨g3, 0, none⟩) X.gold.length r3) (zer q X.gold) ∧ Uno wr b1 (.slice a6 st.length r6) st ∧ Jbo wr b1 (.slice la ss.length lc) ss) := by
            have hg := gb_kp KR.out
            have hz := BR.out
            rw [zerUp_all] at hz
            have ho := hz.ow (base := b1) (cap := r2) GG.out.2.2.1 (by rw [zer_len]; exact CP.out.2.1) CP.out.2.2.1 (by rw [zer_len]; exact BK10.out.2)
            rw [zer_len] at ho
            exact ⟨own_gb O10.out.1 hg (fun b h1 h2 => DD.out.1 b h1 h2), ho, own_gb O10.out.2.2.1 hg (fun b h1 h2 => DD.out.2.2 b h2 h1), own_gb O10.out.2.2.2.1 hg (fun b h1 h2 => by have := LV.out b h1; have := Option.some.inj h2; have := GG.out; omega), own_gb O10.out.2.2.2.2 hg (fun b h1 h2 => by have := LQ.out b h1; have := Option.some.inj h2; have := GG.out; have := BX.out; omega)⟩
          have R11 : Hid (Wx wr (w.heap.size + 1) (.int .i64 0) (.int .i64 0) (.int .i64 0) (.int .i64 0) (.slice none 0 0) (.slice none 0 0) (.slice none 0 0) (.slice none 0 0) (.slice none 0 0)) := R10.out.gb (gb_kp KR.out) (fun e => by have := Option.some.inj e; have := GG.out; have := BX.out; omega)
          clear BR KR BK10 XR R10 B10 O10 Y10 Y11
          obtain ⟨x0, x1, x2, x3, x4, x5, x6, x7, x8⟩ := X11.out.cells
          obtain ⟨z0, z1, z2, z3, z4, z5, z6, z7, z8⟩ := R11.out.cells
          obtain ⟨t0, t1, t2, t3, t4, t5, t6, t7, t8⟩ := R11.out.thaws
          have hol : ¬ (((X.os.length : Nat) : Int) < (X.os.length : Nat)) := by omega
          have KZ : Hid (Kp (w.heap.size + 1) wr (((((((((wr.setCell ⟨w.heap.size + 1, 0, none⟩ (.int .i64 X.turn)).setCell ⟨w.heap.size + 1, 1, none⟩ (.int .i64 X.next)).setCell ⟨w.heap.size + 1, 2, none⟩ (.int .i64 X.wide)).setCell ⟨w.heap.size + 1, 3, none⟩ (.int .i64 X.high)).setCell ⟨w.heap.size + 1, 4, none⟩ (.slice a1 X.gs.length r1)).setCell ⟨w.heap.size + 1, 5, none⟩ (.slice (some ⟨g2, 0, none⟩) X.os.length r2)).setCell ⟨w.heap.size + 1, 6, none⟩ (.slice (some ⟨g3, 0, none⟩) X.gold.length r3)).setCell ⟨w.heap.size + 1, 7, none⟩ (.slice a6 st.length r6)).setCell ⟨w.heap.size + 1, 8, none⟩ (.slice la ss.length lc))) := put_kp _ _ _ _ _ _ _ _ _ _ _
          obtain ⟨y0, y1, y2, y3, y4, y5, y6, y7, y8⟩ := (R11.out.put (.int .i64 X.turn) (.int .i64 X.next) (.int .i64 X.wide) (.int .i64 X.high) (.slice a1 X.gs.length r1) (.slice (some ⟨g2, 0, none⟩) X.os.length r2) (.slice (some ⟨g3, 0, none⟩) X.gold.length r3) (.slice a6 st.length r6) (.slice la ss.length lc)).cells
          go_wp2
          clear x0 x1 x2 x3 x4 x5 x6 x7 x8 z0 z1 z2 z3 z4 z5 z6 z7 z8 t0 t1 t2 t3 t4 t5 t6 t7 t8
          generalize (((((((((wr.setCell ⟨w.heap.size + 1, 0, none⟩ (.int .i64 X.turn)).setCell ⟨w.heap.size + 1, 1, none⟩ (.int .i64 X.next)).setCell ⟨w.heap.size + 1, 2, none⟩ (.int .i64 X.wide)).setCell ⟨w.heap.size + 1, 3, none⟩ (.int .i64 X.high)).setCell ⟨w.heap.size + 1, 4, none⟩ (.slice a1 X.gs.length r1)).setCell ⟨w.heap.size + 1, 5, none⟩ (.slice (some ⟨g2, 0, none⟩) X.os.length r2)).setCell ⟨w.heap.size + 1, 6, none⟩ (.slice (some ⟨g3, 0, none⟩) X.gold.length r3)).setCell ⟨w.heap.size + 1, 7, none⟩ (.slice a6 st.length r6)).setCell ⟨w.heap.size + 1, 8, none⟩ (.slice la ss.length lc)) = wz at *
          refine bodyPost_ret (v := .agg #[.int .i64 X.turn, .int .i64 X.next, .int .i64 X.wide, .int .i64 X.high, .slice a1 X.gs.length r1, .slice (some ⟨g2, 0, none⟩) X.os.length r2, .slice (some ⟨g3, 0, none⟩) X.gold.length r3, .slice a6 st.length r6, .slice la ss.length lc]) (by simp [results, Tryz.results14, go_sem, y0, y1, y2, y3, y4, y5, y6, y7, y8]) rfl ⟨_, rfl, ?_, KZ.out.below B11.out B11.out.size (by omega)⟩
          have h := BX.out.1
          rw [FO.out]
          exact ⟨_, _, _, _, _, rfl, (O11.out.1.kp KZ.out (by omega)).mono (by omega), (O11.out.2.1.kp KZ.out (by omega)).mono (by omega), (O11.out.2.2.1.kp KZ.out (by omega)).mono (by omega), (O11.out.2.2.2.1.kp KZ.out (by omega)).mono (by omega), (O11.out.2.2.2.2.kp KZ.out (by omega)).mono (by omega)⟩
end Go.Proofs.YtagnjmellcibhaaGreatDoor

namespace Go.Proofs.YtagnjmellcibhaaGreatDoor
open Go.RowKit
set_option linter.unusedVariables false

/-- what View tells. -/
def ViewSays (ks : List KV) (X : WV) (p : Int) (w w' : World) (v : Value) : Prop :=
  (pfault ks X p ≠ 0 ∧ v = .agg #[.int .i64 0, .int .i64 0, .int .i64 0, .int .i64 0, .slice none 0 0, .slice none 0 0, .slice none 0 0, .slice none 0 0, .slice none 0 0]) ∨ (pfault ks X p = 0 ∧ ∃ Wn : Nat, X.wide = (Wn : Nat) ∧ Wo w' w.heap.size v (viewOf ks Wn X p))
set_option maxRecDepth 100000 in
set_option maxHeartbeats 16000000 in
theorem View_any (vk vw : Value) (ks : List KV) (X : WV) (p : Int) (w : World) (hk : Kl w vk ks) (hb : ∀ k ∈ ks, k.b.size ≤ 9223372036854775807) (hw : Wl w vw X) :
    Calls Tryz.prog 17 #[vk, vw, .int .i64 p] w fun e w' => ∃ v r, e = .returned (.tuple #[v, r]) ∧ Er r (pfault ks X p) ∧ ViewSays ks X p w w' v ∧ Below w.heap.size w w' := by
  have K : Hid (Kl w vk ks ∧ ∀ k ∈ ks, k.b.size ≤ 9223372036854775807) := ⟨hk, hb⟩
  have H : Hid (Wl w vw X) := hw
  obtain ⟨p1, q1, p2, q2, p3, q3, p4, q4, p5, q5, rfl⟩ := wl_shape9 hw
  obtain ⟨pk, qk, rfl, -⟩ := hk
  clear hb hw
  go_enter Tryz.func17, Tryz.ntmps17
  go_upto_region 1 with fail
  have R0 : Hid (Rs w p (((w.alloc (Obj.cells #[.int .i64 X.turn, .int .i64 X.next, .int .i64 X.wide, .int .i64 X.high, .slice p1 X.gs.length q1, .slice p2 X.os.length q2, .slice p3 X.gold.length q3, .slice p4 X.us.length q4, .slice p5 X.qs.length q5] 29)).alloc (Obj.cells #[.int .i64 p] 3)).alloc (Obj.cells #[.int .i64 0, .int .i64 0, .int .i64 0, .int .i64 0, .slice none 0 0, .slice none 0 0, .slice none 0 0, .slice none 0 0, .slice none 0 0] 29))) := ⟨by rw [cell_alloc (p := ⟨w.heap.size + 1, 0, none⟩) (by simp)]; exact cell_new1 _ _ (by simp), Wx.new _ _ _ _ _ _ _ _ _ (by simp), (((Below.refl _ _).alloc (Nat.le_refl _) _).alloc (by simp) _).alloc (by simp; omega) _⟩
  have X0 : Hid (Wx (((w.alloc (Obj.cells #[.int .i64 X.turn, .int .i64 X.next, .int .i64 X.wide, .int .i64 X.high, .slice p1 X.gs.length q1, .slice p2 X.os.length q2, .slice p3 X.gold.length q3, .slice p4 X.us.length q4, .slice p5 X.qs.length q5] 29)).alloc (Obj.cells #[.int .i64 p] 3)).alloc (Obj.cells #[.int .i64 0, .int .i64 0, .int .i64 0, .int .i64 0, .slice none 0 0, .slice none 0 0, .slice none 0 0, .slice none 0 0, .slice none 0 0] 29)) w.heap.size (.int .i64 X.turn) (.int .i64 X.next) (.int .i64 X.wide) (.int .i64 X.high) (.slice p1 X.gs.length q1) (.slice p2 X.os.length q2) (.slice p3 X.gold.length q3) (.slice p4 X.us.length q4) (.slice p5 X.qs.length q5)) := ((Wx.new _ _ _ _ _ _ _ _ _ rfl).below ((Below.refl _ _).alloc (Nat.le_refl _) _) (by simp)).below ((Below.refl _ _).alloc (Nat.le_refl _) _) (by simp; omega)
  generalize (((w.alloc (Obj.cells #[.int .i64 X.turn, .int .i64 X.next, .int .i64 X.wide, .int .i64 X.high, .slice p1 X.gs.length q1, .slice p2 X.os.length q2, .slice p3 X.gold.length q3, .slice p4 X.us.length q4, .slice p5 X.qs.length q5] 29)).alloc (Obj.cells #[.int .i64 p] 3)).alloc (Obj.cells #[.int .i64 0, .int .i64 0, .int .i64 0, .int .i64 0, .slice none 0 0, .slice none 0 0, .slice none 0 0, .slice none 0 0, .slice none 0 0] 29)) = w0 at *
  obtain ⟨x0, x1, x2, x3, x4, x5, x6, x7, x8⟩ := X0.out.cells
  have pp := R0.out.1
  go_wp2_with fail
  refine (checkPlayer_any _ _ ks X p w0 (K.out.1.below R0.out.2.2) K.out.2 (H.out.below R0.out.2.2)).mono ?_
  rintro e w1 ⟨r, rfl, hr, hb⟩
  obtain ⟨fw, hfw⟩ : ∃ f, pfault ks X p = f := ⟨_, rfl⟩
  have FW : Hid (pfault ks X p = fw) := hfw
  rw [hfw] at hr
  have R1 : Hid (Rs w p w1) := R0.out.gb (r := none) (gb_below hb) (by simp)
  have X1 : Hid (Wx w1 w.heap.size (.int .i64 X.turn) (.int .i64 X.next) (.int .i64 X.wide) (.int .i64 X.high) (.slice p1 X.gs.length q1) (.slice p2 X.os.length q2) (.slice p3 X.gold.length q3) (.slice p4 X.us.length q4) (.slice p5 X.qs.length q5)) := X0.out.below hb X0.out.lt
  clear hb hfw x0 x1 x2 x3 x4 x5 x6 x7 x8 pp X0 R0
  rcases hr with ⟨rfl, rfl⟩ | ⟨hf, rfl⟩
  case inr =>
    have HF : Hid (fw ≠ 0) := hf
    clear hf
    obtain ⟨z0, z1, z2, z3, z4, z5, z6, z7, z8⟩ := R1.out.2.1.cells
    obtain ⟨t0, t1, t2, t3, t4, t5, t6, t7, t8⟩ := R1.out.2.1.thaws
    have KZ : Hid (Kp (w.heap.size + 1 + 1) w1 (((((((((w1.setCell ⟨w.heap.size + 1 + 1, 0, none⟩ (.int .i64 0)).setCell ⟨w.heap.size + 1 + 1, 1, none⟩ (.int .i64 0)).setCell ⟨w.heap.size + 1 + 1, 2, none⟩ (.int .i64 0)).setCell ⟨w.heap.size + 1 + 1, 3, none⟩ (.int .i64 0)).setCell ⟨w.heap.size + 1 + 1, 4, none⟩ (.slice none 0 0)).setCell ⟨w.heap.size + 1 + 1, 5, none⟩ (.slice none 0 0)).setCell ⟨w.heap.size + 1 + 1, 6, none⟩ (.slice none 0 0)).setCell ⟨w.heap.size + 1 + 1, 7, none⟩ (.slice none 0 0)).setCell ⟨w.heap.size + 1 + 1, 8, none⟩ (.slice none 0 0))) := put_kp _ _ _ _ _ _ _ _ _ _ _
    obtain ⟨y0, y1, y2, y3, y4, y5, y6, y7, y8⟩ := (R1.out.2.1.put (.int .i64 0) (.int .i64 0) (.int .i64 0) (.int .i64 0) (.slice none 0 0) (.slice none 0 0) (.slice none 0 0) (.slice none 0 0) (.slice none 0 0)).cells
    go_wp2
    clear z0 z1 z2 z3 z4 z5 z6 z7 z8 t0 t1 t2 t3 t4 t5 t6 t7 t8
    generalize (((((((((w1.setCell ⟨w.heap.size + 1 + 1, 0, none⟩ (.int .i64 0)).setCell ⟨w.heap.size + 1 + 1, 1, none⟩ (.int .i64 0)).setCell ⟨w.heap.size + 1 + 1, 2, none⟩ (.int .i64 0)).setCell ⟨w.heap.size + 1 + 1, 3, none⟩ (.int .i64 0)).setCell ⟨w.heap.size + 1 + 1, 4, none⟩ (.slice none 0 0)).setCell ⟨w.heap.size + 1 + 1, 5, none⟩ (.slice none 0 0)).setCell ⟨w.heap.size + 1 + 1, 6, none⟩ (.slice none 0 0)).setCell ⟨w.heap.size + 1 + 1, 7, none⟩ (.slice none 0 0)).setCell ⟨w.heap.size + 1 + 1, 8, none⟩ (.slice none 0 0)) = w9 at *
    refine bodyPost_ret (v := .tuple #[.agg #[.int .i64 0, .int .i64 0, .int .i64 0, .int .i64 0, .slice none 0 0, .slice none 0 0, .slice none 0 0, .slice none 0 0, .slice none 0 0], .iface 75 (.int .i64 fw)]) (by simp [results, Tryz.results17, go_sem, y0, y1, y2, y3, y4, y5, y6, y7, y8]) rfl ⟨_, _, rfl, by rw [FW.out]; exact Er.no HF.out, .inl ⟨by rw [FW.out]; exact HF.out, rfl⟩, KZ.out.below R1.out.2.2 R1.out.2.2.size (by omega)⟩
  have WR : Hid (WRight ks X) := wright_of (pfault_zero FW.out).1
  obtain ⟨Wn, Hn, e1, e2, G⟩ := WR.out.good
  have GD : Hid (X.wide = (Wn : Nat) ∧ X.gs.length ≤ 144 ∧ X.os.length = X.gs.length ∧ 0 < X.gs.length ∧ 0 < X.gold.length ∧ X.gold.length ≤ 4) := ⟨e1, by rw [G.gl]; exact G.pos.2, by rw [G.gl, G.ol], by rw [G.gl]; exact G.pos.1, by have := (pfault_zero FW.out).2; omega, by have := (nums_ok WR.out.nums).2; omega⟩
  clear e1 e2 G
  obtain ⟨x0, x1, x2, x3, x4, x5, x6, x7, x8⟩ := X1.out.cells
  go_wp2_with fail
  refine (copy_any _ X w1 (H.out.below R1.out.2.2) WR.out.len).mono ?_
  rintro e w2 ⟨cu, rfl, ⟨k1, k2, k3, k4, k5, rfl, ⟨o1, o2, o3, o4, o5⟩, d12, d13, d14, d15, d23, d24, d25, d34, d35, d45⟩, hb⟩
  obtain ⟨a1, r1, rfl⟩ := o1.len
  obtain ⟨a2, r2, rfl⟩ := o2.len
  obtain ⟨a3, r3, rfl⟩ := o3.len
  obtain ⟨a4, r4, rfl⟩ := o4.len
  obtain ⟨a5, r5, rfl⟩ := o5.len
  obtain ⟨b1, hb1⟩ : ∃ z, w1.heap.size = z := ⟨_, rfl⟩
  rw [hb1] at o1 o2 o3 o4 o5
  have BS : Hid (w.heap.size + 1 + 1 < b1 ∧ b1 ≤ w2.heap.size) := ⟨by rw [← hb1]; exact R1.out.2.1.lt, by rw [← hb1]; exact hb.size⟩
  have X2 : Hid (Wx w2 w.heap.size (.int .i64 X.turn) (.int .i64 X.next) (.int .i64 X.wide) (.int .i64 X.high) (.slice p1 X.gs.length q1) (.slice p2 X.os.length q2) (.slice p3 X.gold.length q3) (.slice p4 X.us.length q4) (.slice p5 X.qs.length q5)) := X1.out.below hb X1.out.lt
  have R2 : Hid (Rs w p w2) := R1.out.gb (r := none) (gb_below hb) (by simp)
  have O2 : Hid (Ow w2 b1 (.slice a1 X.gs.length r1) X.gs ∧ Ow w2 b1 (.slice a2 X.os.length r2) X.os ∧ Ow w2 b1 (.slice a3 X.gold.length r3) X.gold ∧ Uno w2 b1 (.slice a4 X.us.length r4) X.us ∧ Jbo w2 b1 (.slice a5 X.qs.length r5) X.qs) := ⟨o1, o2, o3, o4, o5⟩
  have DD : Hid (Dif (.slice a1 X.gs.length r1) (.slice a2 X.os.length r2) ∧ Dif (.slice a1 X.gs.length r1) (.slice a3 X.gold.length r3) ∧ Dif (.slice a1 X.gs.length r1) (.slice a4 X.us.length r4) ∧ Dif (.slice a1 X.gs.length r1) (.slice a5 X.qs.length r5) ∧ Dif (.slice a2 X.os.length r2) (.slice a3 X.gold.length r3) ∧ Dif (.slice a2 X.os.length r2) (.slice a4 X.us.length r4) ∧ Dif (.slice a2 X.os.length r2) (.slice a5 X.qs.length r5) ∧ Dif (.slice a3 X.gold.length r3) (.slice a4 X.us.length r4) ∧ Dif (.slice a3 X.gold.length r3) (.slice a5 X.qs.length r5) ∧ Dif (.slice a4 X.us.length r4) (.slice a5 X.qs.length r5)) := ⟨d12, d13, d14, d15, d23, d24, d25, d34, d35, d45⟩
  clear hb hb1 x0 x1 x2 x3 x4 x5 x6 x7 x8 o1 o2 o3 o4 o5 d12 d13 d14 d15 d23 d24 d25 d34 d35 d45 X1 R1
  obtain ⟨z0, z1, z2, z3, z4, z5, z6, z7, z8⟩ := X2.out.cells
  obtain ⟨t0, t1, t2, t3, t4, t5, t6, t7, t8⟩ := X2.out.thaws
  have KZ : Hid (Kp w.heap.size w2 (((((((((w2.setCell ⟨w.heap.size, 0, none⟩ (.int .i64 X.turn)).setCell ⟨w.heap.size, 1, none⟩ (.int .i64 X.next)).setCell ⟨w.heap.size, 2, none⟩ (.int .i64 X.wide)).setCell ⟨w.heap.size, 3, none⟩ (.int .i64 X.high)).setCell ⟨w.heap.size, 4, none⟩ (.slice a1 X.gs.length r1)).setCell ⟨w.heap.size, 5, none⟩ (.slice a2 X.os.length r2)).setCell ⟨w.heap.size, 6, none⟩ (.slice a3 X.gold.length r3)).setCell ⟨w.heap.size, 7, none⟩ (.slice a4 X.us.length r4)).setCell ⟨w.heap.size, 8, none⟩ (.slice a5 X.qs.length r5))) := put_kp _ _ _ _ _ _ _ _ _ _ _
  have X3 : Hid (Wx (((((((((w2.setCell ⟨w.heap.size, 0, none⟩ (.int .i64 X.turn)).setCell ⟨w.heap.size, 1, none⟩ (.int .i64 X.next)).setCell ⟨w.heap.size, 2, none⟩ (.int .i64 X.wide)).setCell ⟨w.heap.size, 3, none⟩ (.int .i64 X.high)).setCell ⟨w.heap.size, 4, none⟩ (.slice a1 X.gs.length r1)).setCell ⟨w.heap.size, 5, none⟩ (.slice a2 X.os.length r2)).setCell ⟨w.heap.size, 6, none⟩ (.slice a3 X.gold.length r3)).setCell ⟨w.heap.size, 7, none⟩ (.slice a4 X.us.length r4)).setCell ⟨w.heap.size, 8, none⟩ (.slice a5 X.qs.length r5)) w.heap.size (.int .i64 X.turn) (.int .i64 X.next) (.int .i64 X.wide) (.int .i64 X.high) (.slice a1 X.gs.length r1) (.slice a2 X.os.length r2) (.slice a3 X.gold.length r3) (.slice a4 X.us.length r4) (.slice a5 X.qs.length r5)) := X2.out.put (.int .i64 X.turn) (.int .i64 X.next) (.int .i64 X.wide) (.int .i64 X.high) (.slice a1 X.gs.length r1) (.slice a2 X.os.length r2) (.slice a3 X.gold.length r3) (.slice a4 X.us.length r4) (.slice a5 X.qs.length r5)
  go_upto_region 5 with fail
  clear z0 z1 z2 z3 z4 z5 z6 z7 z8 t0 t1 t2 t3 t4 t5 t6 t7 t8
  generalize (((((((((w2.setCell ⟨w.heap.size, 0, none⟩ (.int .i64 X.turn)).setCell ⟨w.heap.size, 1, none⟩ (.int .i64 X.next)).setCell ⟨w.heap.size, 2, none⟩ (.int .i64 X.wide)).setCell ⟨w.heap.size, 3, none⟩ (.int .i64 X.high)).setCell ⟨w.heap.size, 4, none⟩ (.slice a1 X.gs.length r1)).setCell ⟨w.heap.size, 5, none⟩ (.slice a2 X.os.length r2)).setCell ⟨w.heap.size, 6, none⟩ (.slice a3 X.gold.length r3)).setCell ⟨w.heap.size, 7, none⟩ (.slice a4 X.us.length r4)).setCell ⟨w.heap.size, 8, none⟩ (.slice a5 X.qs.length r5)) = w3 at *
  have R3 : Hid (Rs w p w3) := R2.out.gb (gb_kp KZ.out) (fun b hb => .inl (Option.some.inj hb).symm)
  have O3 : Hid (Ow w3 b1 (.slice a1 X.gs.length r1) X.gs ∧ Ow w3 b1 (.slice a2 X.os.length r2) X.os ∧ Ow w3 b1 (.slice a3 X.gold.length r3) X.gold ∧ Uno w3 b1 (.slice a4 X.us.length r4) X.us ∧ Jbo w3 b1 (.slice a5 X.qs.length r5) X.qs) := by
    have h := BS.out.1
    exact ⟨O2.out.1.kp KZ.out (by omega), O2.out.2.1.kp KZ.out (by omega), O2.out.2.2.1.kp KZ.out (by omega), O2.out.2.2.2.1.kp KZ.out (by omega), O2.out.2.2.2.2.kp KZ.out (by omega)⟩
  obtain ⟨b3, hb3⟩ : ∃ z, w3.heap.size = z := ⟨_, rfl⟩
  have LB : Hid ((∀ b, (Value.slice a1 X.gs.length r1).ownBlock = some b → b1 ≤ b ∧ b < b3) ∧ (∀ b, (Value.slice a2 X.os.length r2).ownBlock = some b → b1 ≤ b ∧ b < b3) ∧ (∀ b, (Value.slice a3 X.gold.length r3).ownBlock = some b → b1 ≤ b ∧ b < b3) ∧ (∀ b, (Value.slice a4 X.us.length r4).ownBlock = some b → b1 ≤ b ∧ b < b3) ∧ (∀ b, (Value.slice a5 X.qs.length r5).ownBlock = some b → b1 ≤ b ∧ b < b3)) := by
    unfold Hid
    rw [← hb3]
    exact ⟨O3.out.1.block, O3.out.2.1.block, O3.out.2.2.1.block, World.ownsRow.lt O3.out.2.2.2.1, World.ownsRow.lt O3.out.2.2.2.2⟩
  have L3 : Hid (Wl w3 (.agg #[.int .i64 X.turn, .int .i64 X.next, .int .i64 X.wide, .int .i64 X.high, .slice a1 X.gs.length r1, .slice a2 X.os.length r2, .slice a3 X.gold.length r3, .slice a4 X.us.length r4, .slice a5 X.qs.length r5]) X) := ⟨_, _, _, _, _, rfl, O3.out.1.ro, O3.out.2.1.ro, O3.out.2.2.1.ro, O3.out.2.2.2.1.l, O3.out.2.2.2.2.l⟩
  have S3 : Hid (b1 ≤ b3) := by unfold Hid; rw [← hb3]; exact Nat.le_trans BS.out.2 KZ.out.size
  clear KZ X2 R2 O2
  obtain ⟨x0, x1, x2, x3, x4, x5, x6, x7, x8⟩ := X3.out.cells
  have pp := R3.out.1
  go_wp2_with fail
  refine (seen_any _ _ ks X p Wn w3 WR.out GD.out.1 (K.out.1.below R3.out.2.2) K.out.2 L3.out).mono ?_
  rintro e w4 ⟨bb, rfl, hbb, hlt, hb⟩
  rw [hb3] at hlt
  have X4 : Hid (Wx w4 w.heap.size (.int .i64 X.turn) (.int .i64 X.next) (.int .i64 X.wide) (.int .i64 X.high) (.slice a1 X.gs.length r1) (.slice a2 X.os.length r2) (.slice a3 X.gold.length r3) (.slice a4 X.us.length r4) (.slice a5 X.qs.length r5)) := X3.out.below hb X3.out.lt
  have R4 : Hid (Rs w p w4) := R3.out.gb (r := none) (gb_below hb) (by simp)
  have O4 : Hid (Ow w4 b1 (.slice a1 X.gs.length r1) X.gs ∧ Ow w4 b1 (.slice a2 X.os.length r2) X.os ∧ Ow w4 b1 (.slice a3 X.gold.length r3) X.gold ∧ Uno w4 b1 (.slice a4 X.us.length r4) X.us ∧ Jbo w4 b1 (.slice a5 X.qs.length r5) X.qs) := ⟨O3.out.1.below hb, O3.out.2.1.below hb, O3.out.2.2.1.below hb, O3.out.2.2.2.1.below hb, O3.out.2.2.2.2.below hb⟩
  have BK : Hid (Bb w4 bb (seenL ks Wn X p)) := hbb
  have S4 : Hid (b3 < bb ∧ b3 ≤ w4.heap.size) := ⟨hlt, by rw [← hb3]; exact hb.size⟩
  clear hb hb3 hbb hlt x0 x1 x2 x3 x4 x5 x6 x7 x8 pp X3 R3 O3 L3
  go_upto_region 6 with fail
  have BA : Hid (Below w4.heap.size w4 (w4.alloc (Obj.cells #[.slice (some ⟨bb, 0, none⟩) X.gs.length X.gs.length] 46))) := (Below.refl _ _).alloc (Nat.le_refl _) _
  obtain ⟨b9, hb9⟩ : ∃ z, w4.heap.size = z := ⟨_, rfl⟩
  have S5 : Hid (b3 < bb ∧ bb < b9) := ⟨S4.out.1, by rw [← hb9]; exact BK.out.lt⟩
  have B5 : Hid (Bs (w4.alloc (Obj.cells #[.slice (some ⟨bb, 0, none⟩) X.gs.length X.gs.length] 46)) bb b9 X.gs.length (seenL ks Wn X p)) := ⟨BK.out.low BA.out BK.out.lt, cell_new1 _ _ hb9, by rw [← hb9]; simp⟩
  rw [hb9]
  generalize (w4.alloc (Obj.cells #[.slice (some ⟨bb, 0, none⟩) X.gs.length X.gs.length] 46)) = w5 at *
  have X5 : Hid (Wx w5 w.heap.size (.int .i64 X.turn) (.int .i64 X.next) (.int .i64 X.wide) (.int .i64 X.high) (.slice a1 X.gs.length r1) (.slice a2 X.os.length r2) (.slice a3 X.gold.length r3) (.slice a4 X.us.length r4) (.slice a5 X.qs.length r5)) := X4.out.below BA.out X4.out.lt
  have R5 : Hid (Rs w p w5) := R4.out.gb (r := none) (gb_below BA.out) (by simp)
  have O5 : Hid (Ow w5 b1 (.slice a1 X.gs.length r1) X.gs ∧ Ow w5 b1 (.slice a2 X.os.length r2) X.os ∧ Ow w5 b1 (.slice a3 X.gold.length r3) X.gold ∧ Uno w5 b1 (.slice a4 X.us.length r4) X.us ∧ Jbo w5 b1 (.slice a5 X.qs.length r5) X.qs) := ⟨O4.out.1.below BA.out, O4.out.2.1.below BA.out, O4.out.2.2.1.below BA.out, O4.out.2.2.2.1.below BA.out, O4.out.2.2.2.2.below BA.out⟩
  have Z5 : Hid (b1 ≤ w5.heap.size) := by have h1 := BA.out.size; have h2 := S3.out; have h3 := S4.out.2; unfold Hid; omega
  clear BA hb9 BK S4 X4 R4 O4
  obtain ⟨-, -, -, -, -, -, -, x7, -⟩ := X5.out.cells
  go_wp2_with fail
  refine (del_own 46 (by intro args w; go_simp) (.slice a4 X.us.length r4) #[.pointer (some ⟨w.heap.size + 1, 0, none⟩), .pointer (some ⟨b9, 0, none⟩)] X.us (hidU ks Wn X p) w5 b1 O5.out.2.2.2.1 Z5.out (by have := WR.out.ul; omega) (fun W hbW hgW u hu => ?_)).mono ?_
  · obtain ⟨i, hi⟩ := List.mem_iff_getElem?.1 hu
    obtain ⟨k, fu⟩ := WR.out.fine hi
    have h1 := fu.at_
    have hB := B5.out.gb hgW (fun e => by have := LB.out.2.2.2.1 _ e; have := S5.out; omega) (fun e => by have := LB.out.2.2.2.1 _ e; have := S5.out; omega)
    have hR := R5.out.gb hgW (fun b e => .inr (by have := LB.out.2.2.2.1 _ e; have := BS.out.1; omega))
    exact hid_fg ks X u p Wn u.at_.toNat X.gs.length _ _ bb W (by omega) (by omega) hR.1 hB.2.1 (hB.1.cell (seen_at ks Wn X p (by omega)))
  rintro e w6 ⟨v4, rfl, ho, hb, hg, hown⟩
  obtain ⟨st, hst⟩ : ∃ l, X.us.filter (fun k => !hidU ks Wn X p k) = l := ⟨_, rfl⟩
  have ST : Hid (X.us.filter (fun k => !hidU ks Wn X p k) = st) := hst
  rw [hst] at ho
  obtain ⟨a6, r6, rfl⟩ := ho.len
  have OB : Hid ((Value.slice a6 st.length r6).ownBlock = (Value.slice a4 X.us.length r4).ownBlock) := hown
  have O6 : Hid (Ow w6 b1 (.slice a1 X.gs.length r1) X.gs ∧ Ow w6 b1 (.slice a2 X.os.length r2) X.os ∧ Ow w6 b1 (.slice a3 X.gold.length r3) X.gold ∧ Uno w6 b1 (.slice a6 st.length r6) st ∧ Jbo w6 b1 (.slice a5 X.qs.length r5) X.qs) := ⟨own_gb O5.out.1 hg (fun b h1 h2 => DD.out.2.2.1 b h1 h2), own_gb O5.out.2.1 hg (fun b h1 h2 => DD.out.2.2.2.2.2.1 b h1 h2), own_gb O5.out.2.2.1 hg (fun b h1 h2 => DD.out.2.2.2.2.2.2.2.1 b h1 h2), ho, own_gb O5.out.2.2.2.2 hg (fun b h1 h2 => DD.out.2.2.2.2.2.2.2.2.2 b h2 h1)⟩
  have X6 : Hid (Wx w6 w.heap.size (.int .i64 X.turn) (.int .i64 X.next) (.int .i64 X.wide) (.int .i64 X.high) (.slice a1 X.gs.length r1) (.slice a2 X.os.length r2) (.slice a3 X.gold.length r3) (.slice a4 X.us.length r4) (.slice a5 X.qs.length r5)) := X5.out.below hb (by have := BS.out.1; omega)
  have R6 : Hid (Rs w p w6) := R5.out.gb hg (fun b e => .inr (by have := LB.out.2.2.2.1 _ e; have := BS.out.1; omega))
  have B6 : Hid (Bs w6 bb b9 X.gs.length (seenL ks Wn X p)) := B5.out.gb hg (fun e => by have := LB.out.2.2.2.1 _ e; have := S5.out; omega) (fun e => by have := LB.out.2.2.2.1 _ e; have := S5.out; omega)
  have Z6 : Hid (b1 ≤ w6.heap.size) := Nat.le_trans Z5.out hb.size
  clear ho hb hg hown hst x7 O5 X5 R5 B5 Z5
  obtain ⟨-, -, -, -, -, -, -, x7, -⟩ := X6.out.cells
  have t7 := X6.out.thaw 7
  have X7 : Hid (Wx (w6.setCell ⟨w.heap.size, 7, none⟩ (.slice a6 st.length r6)) w.heap.size (.int .i64 X.turn) (.int .i64 X.next) (.int .i64 X.wide) (.int .i64 X.high) (.slice a1 X.gs.length r1) (.slice a2 X.os.length r2) (.slice a3 X.gold.length r3) (.slice a6 st.length r6) (.slice a5 X.qs.length r5)) := X6.out.set7 _
  have K7 : Hid (Kp w.heap.size w6 (w6.setCell ⟨w.heap.size, 7, none⟩ (.slice a6 st.length r6))) := Kp.set _ _ _
  go_upto_region 7 with fail
  clear x7 t7
  generalize (w6.setCell ⟨w.heap.size, 7, none⟩ (.slice a6 st.length r6)) = w7 at *
  have O7 : Hid (Ow w7 b1 (.slice a1 X.gs.length r1) X.gs ∧ Ow w7 b1 (.slice a2 X.os.length r2) X.os ∧ Ow w7 b1 (.slice a3 X.gold.length r3) X.gold ∧ Uno w7 b1 (.slice a6 st.length r6) st ∧ Jbo w7 b1 (.slice a5 X.qs.length r5) X.qs) := by
    have h := BS.out.1
    exact ⟨O6.out.1.kp K7.out (by omega), O6.out.2.1.kp K7.out (by omega), O6.out.2.2.1.kp K7.out (by omega), O6.out.2.2.2.1.kp K7.out (by omega), O6.out.2.2.2.2.kp K7.out (by omega)⟩
  have R7 : Hid (Rs w p w7) := R6.out.gb (gb_kp K7.out) (fun b hb => .inl (Option.some.inj hb).symm)
  have B7 : Hid (Bs w7 bb b9 X.gs.length (seenL ks Wn X p)) := B6.out.gb (gb_kp K7.out) (fun e => by have := Option.some.inj e; have := S5.out; have := S3.out; have := BS.out.1; omega) (fun e => by have := Option.some.inj e; have := S5.out; have := S3.out; have := BS.out.1; omega)
  have Z7 : Hid (b1 ≤ w7.heap.size) := Nat.le_trans Z6.out K7.out.size
  clear K7 O6 X6 R6 B6 Z6
  obtain ⟨-, -, -, -, -, -, -, -, x8⟩ := X7.out.cells
  go_wp2_with fail
  refine (delj_own 47 (by intro args w; go_simp) (.slice a5 X.qs.length r5) #[.pointer (some ⟨w.heap.size + 1, 0, none⟩)] X.qs (notJ p) w7 b1 O7.out.2.2.2.2 Z7.out (by have := WR.out.ql; omega) (fun W hbW hgW j _ => ?_)).mono ?_
  · exact not_fg j p _ W (R7.out.gb hgW (fun b e => .inr (by have := LB.out.2.2.2.2 _ e; have := BS.out.1; omega))).1
  rintro e w8 ⟨v5, rfl, ho, hb, hg, hown⟩
  obtain ⟨qs', hqs⟩ : ∃ l, X.qs.filter (fun k => !notJ p k) = l := ⟨_, rfl⟩
  have QS : Hid (X.qs.filter (fun k => !notJ p k) = qs') := hqs
  rw [hqs] at ho
  obtain ⟨a8, r8, rfl⟩ := ho.len
  have OC : Hid ((Value.slice a8 qs'.length r8).ownBlock = (Value.slice a5 X.qs.length r5).ownBlock) := hown
  have O8 : Hid (Ow w8 b1 (.slice a1 X.gs.length r1) X.gs ∧ Ow w8 b1 (.slice a2 X.os.length r2) X.os ∧ Ow w8 b1 (.slice a3 X.gold.length r3) X.gold ∧ Uno w8 b1 (.slice a6 st.length r6) st ∧ Jbo w8 b1 (.slice a8 qs'.length r8) qs') := ⟨own_gb O7.out.1 hg (fun b h1 h2 => DD.out.2.2.2.1 b h1 h2), own_gb O7.out.2.1 hg (fun b h1 h2 => DD.out.2.2.2.2.2.2.1 b h1 h2), own_gb O7.out.2.2.1 hg (fun b h1 h2 => DD.out.2.2.2.2.2.2.2.2.1 b h1 h2), own_gb O7.out.2.2.2.1 hg (fun b h1 h2 => DD.out.2.2.2.2.2.2.2.2.2 b (by rw [← OB.out]; exact h1) h2), ho⟩
  have X8 : Hid (Wx w8 w.heap.size (.int .i64 X.turn) (.int .i64 X.next) (.int .i64 X.wide) (.int .i64 X.high) (.slice a1 X.gs.length r1) (.slice a2 X.os.length r2) (.slice a3 X.gold.length r3) (.slice a6 st.length r6) (.slice a5 X.qs.length r5)) := X7.out.below hb (by have := BS.out.1; omega)
  have R8 : Hid (Rs w p w8) := R7.out.gb hg (fun b e => .inr (by have := LB.out.2.2.2.2 _ e; have := BS.out.1; omega))
  have B8 : Hid (Bs w8 bb b9 X.gs.length (seenL ks Wn X p)) := B7.out.gb hg (fun e => by have := LB.out.2.2.2.2 _ e; have := S5.out; omega) (fun e => by have := LB.out.2.2.2.2 _ e; have := S5.out; omega)
  clear ho hb hg hown hqs x8 O7 X7 R7 B7 Z7
  obtain ⟨-, -, -, -, -, -, -, -, x8⟩ := X8.out.cells
  have t8 := X8.out.thaw 8
  have X9 : Hid (Wx (w8.setCell ⟨w.heap.size, 8, none⟩ (.slice a8 qs'.length r8)) w.heap.size (.int .i64 X.turn) (.int .i64 X.next) (.int .i64 X.wide) (.int .i64 X.high) (.slice a1 X.gs.length r1) (.slice a2 X.os.length r2) (.slice a3 X.gold.length r3) (.slice a6 st.length r6) (.slice a8 qs'.length r8)) := X8.out.set8 _
  have K9 : Hid (Kp w.heap.size w8 (w8.setCell ⟨w.heap.size, 8, none⟩ (.slice a8 qs'.length r8))) := Kp.set _ _ _
  go_upto_region 8 with fail
  clear x8 t8
  generalize (w8.setCell ⟨w.heap.size, 8, none⟩ (.slice a8 qs'.length r8)) = w9 at *
  have O9 : Hid (Ow w9 b1 (.slice a1 X.gs.length r1) X.gs ∧ Ow w9 b1 (.slice a2 X.os.length r2) X.os ∧ Ow w9 b1 (.slice a3 X.gold.length r3) X.gold ∧ Uno w9 b1 (.slice a6 st.length r6) st ∧ Jbo w9 b1 (.slice a8 qs'.length r8) qs') := by
    have h := BS.out.1
    exact ⟨O8.out.1.kp K9.out (by omega), O8.out.2.1.kp K9.out (by omega), O8.out.2.2.1.kp K9.out (by omega), O8.out.2.2.2.1.kp K9.out (by omega), O8.out.2.2.2.2.kp K9.out (by omega)⟩
  have R9 : Hid (Rs w p w9) := R8.out.gb (gb_kp K9.out) (fun b hb => .inl (Option.some.inj hb).symm)
  have B9 : Hid (Bs w9 bb b9 X.gs.length (seenL ks Wn X p)) := B8.out.gb (gb_kp K9.out) (fun e => by have := Option.some.inj e; have := S5.out; have := S3.out; have := BS.out.1; omega) (fun e => by have := Option.some.inj e; have := S5.out; have := S3.out; have := BS.out.1; omega)
  clear K9 O8 X8 R8 B8
  rcases O9.out.2.2.1.bk with ⟨-, h⟩ | ⟨g3, cp3, rs3, h, -, hl3, hm3, hz3, hbk3⟩
  · exact absurd GD.out.2.2.2.2.1 (by rw [h]; simp)
  injection h with h1 h2 h3
  subst h1
  subst h3
  rcases O9.out.2.1.bk with ⟨-, h⟩ | ⟨g2, cp2, rs2, h, -, hl2, hm2, hz2, hbk2⟩
  · exact absurd GD.out.2.2.2.1 (by rw [← GD.out.2.2.1, h]; simp)
  injection h with h1 h2' h3
  subst h1
  subst h3
  have GG : Hid (b1 ≤ g3 ∧ g3 < b3 ∧ b1 ≤ g2 ∧ g2 < b3 ∧ g2 ≠ g3) := ⟨(LB.out.2.2.1 g3 rfl).1, (LB.out.2.2.1 g3 rfl).2, (LB.out.2.1 g2 rfl).1, (LB.out.2.1 g2 rfl).2, fun e => DD.out.2.2.2.2.1 g2 rfl (by rw [e]; rfl)⟩
  have CP : Hid ((X.gold.length ≤ r3 ∧ r3 ≤ maxLen ∧ X.gold.length + rs3.size = r3) ∧ X.os.length ≤ r2 ∧ r2 ≤ maxLen ∧ X.os.length + rs2.size = r2) := ⟨⟨hl3, hm3, hz3⟩, hl2, hm2, hz2⟩
  obtain ⟨q, hq⟩ : ∃ q : Nat → Bool, (fun i : Nat => !decide ((i : Int) = p)) = q := ⟨_, rfl⟩
  obtain ⟨s, hs⟩ : ∃ s : Nat → Bool, (fun i : Nat => !seesP ks Wn X.gs X.us p i) = s := ⟨_, rfl⟩
  have QQ : Hid ((∀ i : Nat, q i = !decide ((i : Int) = p)) ∧ ∀ i : Nat, s i = !seesP ks Wn X.gs X.us p i) := ⟨fun i => by rw [← hq], fun i => by rw [← hs]⟩
  have FO : Hid (viewOf ks Wn X p = { X with us := st, qs := qs', gold := zer q X.gold, os := zer s X.os }) := by unfold Hid viewOf; rw [ST.out, QS.out, hq, hs]
  have BK9 : Hid (Bk w9 g3 X.gold rs3) := hbk3
  clear hl3 hm3 hz3 hbk3 hl2 hm2 hz2 hbk2 h2 h2' hq hs
  obtain ⟨-, -, -, -, -, -, x6, -, -⟩ := X9.out.cells
  go_upto_region 9 with fail
  clear x6
  go_loopw [40] (fun v40 V => ∃ n : Nat, v40 = .int .i64 (n : Nat) ∧ n ≤ X.gold.length ∧ Bk V g3 (zerUp q n X.gold) rs3 ∧ Kp g3 w9 V) (fun v40 _ => X.gold.length - (intOf v40).toNat)
  case atStart => exact ⟨0, rfl, Nat.zero_le _, by rw [zerUp_zero]; exact BK9.out, Kp.refl _ _⟩
  case round =>
    obtain ⟨n, rfl, hn, hbk, hkp⟩ := hrel
    have BR : Hid (Bk wr g3 (zerUp q n X.gold) rs3) := hbk
    have KR : Hid (Kp g3 w9 wr) := hkp
    have XR : Hid (Wx wr w.heap.size (.int .i64 X.turn) (.int .i64 X.next) (.int .i64 X.wide) (.int .i64 X.high) (.slice a1 X.gs.length r1) (.slice (some ⟨g2, 0, none⟩) X.os.length r2) (.slice (some ⟨g3, 0, none⟩) X.gold.length r3) (.slice a6 st.length r6) (.slice a8 qs'.length r8)) := X9.out.kp hkp (by have := GG.out.1; have := BS.out.1; omega)
    have RR : Hid (Rs w p wr) := R9.out.gb (gb_kp hkp) (fun b hb => .inr (by have := Option.some.inj hb; have := GG.out.1; have := BS.out.1; omega))
    clear hbk hkp
    by_cases h0 : n = X.gold.length
    case neg =>
      have hnl : n < X.gold.length := by omega
      have hni : ((n : Nat) : Int) < (X.gold.length : Nat) := by omega
      have HN : Hid (n < X.gold.length) := hnl
      have WN : IntKind.i64.wrap ((n : Nat) + 1 : Int) = ((n : Nat) : Int) + 1 := by have := GD.out.2.2.2.2.2; rw [IntKind.wrap_i64]; omega
      have pp := RR.out.1
      obtain ⟨-, -, -, -, -, -, x6, -, -⟩ := XR.out.cells
      by_cases hp : ((n : Nat) : Int) = p
      · have NX : Hid (zerUp q (n + 1) X.gold = zerUp q n X.gold) := zerUp_no _ (by rw [QQ.out.1, hp]; simp)
        rw [← hp] at pp
        clear hp
        go_wp2
        go_round
        case rel => exact ⟨n + 1, by go_num, by have := HN.out; omega, by rw [NX.out]; exact BR.out, KR.out⟩
        case measure => simp [intOf]; omega
      · have NX : Hid (zerUp q (n + 1) X.gold = (zerUp q n X.gold).set n 0) := zerUp_yes _ (by rw [QQ.out.1]; simp [hp])
        have hp' : (((n : Nat) : Int) == p) = false := by rw [beq_eq_false_iff_ne]; exact hp
        obtain ⟨y, hy⟩ : ∃ y, (zerUp q n X.gold)[n]? = some y := ⟨_, List.getElem?_eq_getElem (by rw [zerUp_len]; exact hnl)⟩
        have cy := BR.out.cell hy
        have ty := BR.out.thaw n
        have KS : Hid (Kp g3 wr (wr.setCell ⟨g3, n, none⟩ (.int .i64 0))) := Kp.set _ _ _
        have BS3 : Hid (Bk (wr.setCell ⟨g3, n, none⟩ (.int .i64 0)) g3 ((zerUp q n X.gold).set n 0) rs3) := BR.out.set n 0 (by rw [zerUp_len]; exact hnl)
        clear hy
        go_wp2
        generalize (wr.setCell ⟨g3, n, none⟩ (.int .i64 0)) = w10 at *
        go_round
        case rel => exact ⟨n + 1, by go_num, by have := HN.out; omega, by rw [NX.out]; exact BS3.out, KR.out.trans KS.out⟩
        case measure => simp [intOf]; omega
    subst h0
    have O10 : Hid (Ow wr b1 (.slice a1 X.gs.length r1) X.gs ∧ Ow wr b1 (.slice (some ⟨g2, 0, none⟩) X.os.length r2) X.os ∧ Ow wr b1 (.slice (some ⟨g3, 0, none⟩) X.gold.length r3) (zer q X.gold) ∧ Uno wr b1 (.slice a6 st.length r6) st ∧ Jbo wr b1 (.slice a8 qs'.length r8) qs') := by
      have hg := gb_kp KR.out
      have hz := BR.out
      rw [zerUp_all] at hz
      have ho := hz.ow (base := b1) (cap := r3) GG.out.1 (by rw [zer_len]; exact CP.out.1.1) CP.out.1.2.1 (by rw [zer_len]; exact CP.out.1.2.2)
      rw [zer_len] at ho
      exact ⟨own_gb O9.out.1 hg (fun b h1 h2 => DD.out.2.1 b h1 h2), own_gb O9.out.2.1 hg (fun b h1 h2 => DD.out.2.2.2.2.1 b h1 h2), ho, own_gb O9.out.2.2.2.1 hg (fun b h1 h2 => DD.out.2.2.2.2.2.2.2.1 b h2 (by rw [← OB.out]; exact h1)), own_gb O9.out.2.2.2.2 hg (fun b h1 h2 => DD.out.2.2.2.2.2.2.2.2.1 b h2 (by rw [← OC.out]; exact h1))⟩
    have B10 : Hid (Bs wr bb b9 X.gs.length (seenL ks Wn X p)) := B9.out.gb (gb_kp KR.out) (fun e => by have := Option.some.inj e; have := S5.out; have := GG.out; omega) (fun e => by have := Option.some.inj e; have := S5.out; have := GG.out; omega)
    clear BR KR BK9 X9 R9 B9 O9
    have c9 := B10.out.2.1
    go_upto_region 15 with fail
    clear c9
    generalize wr = w10 at *
    have BK10 : Hid (∃ rs, Bk w10 g2 X.os rs ∧ X.os.length + rs.size = r2) := by
      rcases O10.out.2.1.bk with ⟨h, -⟩ | ⟨g, cp, rs, h, -, -, -, hz, hbk⟩
      · cases h
      · injection h with h1 h2 h3
        injection h1 with h1
        injection h1 with h1
        subst h1
        subst h3
        exact ⟨rs, hbk, hz⟩
    obtain ⟨rs, hbk, hz⟩ := BK10.out
    have BK10 : Hid (Bk w10 g2 X.os rs ∧ X.os.length + rs.size = r2) := ⟨hbk, hz⟩
    clear hbk hz
    go_loopw [53] (fun v53 V => ∃ n : Nat, v53 = .int .i64 (n : Nat) ∧ n ≤ X.gs.length ∧ Bk V g2 (zerUp s n X.os) rs ∧ Kp g2 w10 V) (fun v53 _ => X.gs.length - (intOf v53).toNat)
    case atStart => exact ⟨0, rfl, Nat.zero_le _, by rw [zerUp_zero]; exact BK10.out.1, Kp.refl _ _⟩
    case round =>
      obtain ⟨n, rfl, hn, hbk, hkp⟩ := hrel
      have BR : Hid (Bk wr g2 (zerUp s n X.os) rs) := hbk
      have KR : Hid (Kp g2 w10 wr) := hkp
      have X11 : Hid (Wx wr w.heap.size (.int .i64 X.turn) (.int .i64 X.next) (.int .i64 X.wide) (.int .i64 X.high) (.slice a1 X.gs.length r1) (.slice (some ⟨g2, 0, none⟩) X.os.length r2) (.slice (some ⟨g3, 0, none⟩) X.gold.length r3) (.slice a6 st.length r6) (.slice a8 qs'.length r8)) := XR.out.kp hkp (by have := GG.out.2.2.1; have := BS.out.1; omega)
      have R11 : Hid (Rs w p wr) := RR.out.gb (gb_kp hkp) (fun b hb => .inr (by have := Option.some.inj hb; have := GG.out.2.2.1; have := BS.out.1; omega))
      have B11 : Hid (Bs wr bb b9 X.gs.length (seenL ks Wn X p)) := B10.out.gb (gb_kp hkp) (fun e => by have := Option.some.inj e; have := S5.out; have := GG.out; omega) (fun e => by have := Option.some.inj e; have := S5.out; have := GG.out; omega)
      clear hbk hkp
      by_cases h0 : n = X.gs.length
      case neg =>
        have hnl : n < X.gs.length := by omega
        have hni : ((n : Nat) : Int) < (X.gs.length : Nat) := by omega
        have hno : ((n : Nat) : Int) < (X.os.length : Nat) := by have := GD.out.2.2.1; omega
        have HN : Hid (n < X.gs.length) := hnl
        have WN : IntKind.i64.wrap ((n : Nat) + 1 : Int) = ((n : Nat) : Int) + 1 := by have := GD.out.2.1; rw [IntKind.wrap_i64]; omega
        have cb := B11.out.1.cell (seen_at ks Wn X p hnl)
        have SQ := QQ.out.2 n
        obtain ⟨-, -, -, -, -, x5, -, -, -⟩ := X11.out.cells
        obtain ⟨t, ht⟩ : ∃ t, seesP ks Wn X.gs X.us p n = t := ⟨_, rfl⟩
        rw [ht] at cb SQ
        clear ht
        cases t with
        | true =>
          have NX : Hid (zerUp s (n + 1) X.os = zerUp s n X.os) := zerUp_no _ SQ
          clear SQ
          go_wp2
          go_round
          case rel => exact ⟨n + 1, by go_num, by have := HN.out; omega, by rw [NX.out]; exact BR.out, KR.out⟩
          case measure => simp [intOf]; omega
        | false =>
          have NX : Hid (zerUp s (n + 1) X.os = (zerUp s n X.os).set n 0) := zerUp_yes _ SQ
          obtain ⟨y, hy⟩ : ∃ y, (zerUp s n X.os)[n]? = some y := ⟨_, List.getElem?_eq_getElem (by rw [zerUp_len]; omega)⟩
          have cy := BR.out.cell hy
          have ty := BR.out.thaw n
          have KS : Hid (Kp g2 wr (wr.setCell ⟨g2, n, none⟩ (.int .i64 0))) := Kp.set _ _ _
          have BS3 : Hid (Bk (wr.setCell ⟨g2, n, none⟩ (.int .i64 0)) g2 ((zerUp s n X.os).set n 0) rs) := BR.out.set n 0 (by rw [zerUp_len]; omega)
          clear SQ hy
          go_wp2
          generalize (wr.setCell ⟨g2, n, none⟩ (.int .i64 0)) = w12 at *
          go_round
          case rel => exact ⟨n + 1, by go_num, by have := HN.out; omega, by rw [NX.out]; exact BS3.out, KR.out.trans KS.out⟩
          case measure => simp [intOf]; omega
      subst h0
      have O11 : Hid (Ow wr b1 (.slice a1 X.gs.length r1) X.gs ∧ Ow wr b1 (.slice (some ⟨g2, 0, none⟩) X.os.length r2) (zer s X.os) ∧ Ow wr b1 (.slice (some ⟨g3, 0, none⟩) X.gold.length r3) (zer q X.gold) ∧ Uno wr b1 (.slice a6 st.length r6) st ∧ Jbo wr b1 (.slice a8 qs'.length r8) qs') := by
        have hg := gb_kp KR.out
        have hz := BR.out
        rw [← GD.out.2.2.1, zerUp_all] at hz
        have ho := hz.ow (base := b1) (cap := r2) GG.out.2.2.1 (by rw [zer_len]; exact CP.out.2.1) CP.out.2.2.1 (by rw [zer_len]; exact BK10.out.2)
        rw [zer_len] at ho
        exact ⟨own_gb O10.out.1 hg (fun b h1 h2 => DD.out.1 b h1 h2), ho, own_gb O10.out.2.2.1 hg (fun b h1 h2 => DD.out.2.2.2.2.1 b h2 h1), own_gb O10.out.2.2.2.1 hg (fun b h1 h2 => DD.out.2.2.2.2.2.1 b h2 (by rw [← OB.out]; exact h1)), own_gb O10.out.2.2.2.2 hg (fun b h1 h2 => DD.out.2.2.2.2.2.2.1 b h2 (by rw [← OC.out]; exact h1))⟩
      clear BR KR BK10 XR RR B10 O10
      obtain ⟨x0, x1, x2, x3, x4, x5, x6, x7, x8⟩ := X11.out.cells
      obtain ⟨z0, z1, z2, z3, z4, z5, z6, z7, z8⟩ := R11.out.2.1.cells
      obtain ⟨t0, t1, t2, t3, t4, t5, t6, t7, t8⟩ := R11.out.2.1.thaws
      have KZ : Hid (Kp (w.heap.size + 1 + 1) wr (((((((((wr.setCell ⟨w.heap.size + 1 + 1, 0, none⟩ (.int .i64 X.turn)).setCell ⟨w.heap.size + 1 + 1, 1, none⟩ (.int .i64 X.next)).setCell ⟨w.heap.size + 1 + 1, 2, none⟩ (.int .i64 X.wide)).setCell ⟨w.heap.size + 1 + 1, 3, none⟩ (.int .i64 X.high)).setCell ⟨w.heap.size + 1 + 1, 4, none⟩ (.slice a1 X.gs.length r1)).setCell ⟨w.heap.size + 1 + 1, 5, none⟩ (.slice (some ⟨g2, 0, none⟩) X.os.length r2)).setCell ⟨w.heap.size + 1 + 1, 6, none⟩ (.slice (some ⟨g3, 0, none⟩) X.gold.length r3)).setCell ⟨w.heap.size + 1 + 1, 7, none⟩ (.slice a6 st.length r6)).setCell ⟨w.heap.size + 1 + 1, 8, none⟩ (.slice a8 qs'.length r8))) := put_kp _ _ _ _ _ _ _ _ _ _ _
      obtain ⟨y0, y1, y2, y3, y4, y5, y6, y7, y8⟩ := (R11.out.2.1.put (.int .i64 X.turn) (.int .i64 X.next) (.int .i64 X.wide) (.int .i64 X.high) (.slice a1 X.gs.length r1) (.slice (some ⟨g2, 0, none⟩) X.os.length r2) (.slice (some ⟨g3, 0, none⟩) X.gold.length r3) (.slice a6 st.length r6) (.slice a8 qs'.length r8)).cells
      go_wp2
      clear x0 x1 x2 x3 x4 x5 x6 x7 x8 z0 z1 z2 z3 z4 z5 z6 z7 z8 t0 t1 t2 t3 t4 t5 t6 t7 t8
      generalize (((((((((wr.setCell ⟨w.heap.size + 1 + 1, 0, none⟩ (.int .i64 X.turn)).setCell ⟨w.heap.size + 1 + 1, 1, none⟩ (.int .i64 X.next)).setCell ⟨w.heap.size + 1 + 1, 2, none⟩ (.int .i64 X.wide)).setCell ⟨w.heap.size + 1 + 1, 3, none⟩ (.int .i64 X.high)).setCell ⟨w.heap.size + 1 + 1, 4, none⟩ (.slice a1 X.gs.length r1)).setCell ⟨w.heap.size + 1 + 1, 5, none⟩ (.slice (some ⟨g2, 0, none⟩) X.os.length r2)).setCell ⟨w.heap.size + 1 + 1, 6, none⟩ (.slice (some ⟨g3, 0, none⟩) X.gold.length r3)).setCell ⟨w.heap.size + 1 + 1, 7, none⟩ (.slice a6 st.length r6)).setCell ⟨w.heap.size + 1 + 1, 8, none⟩ (.slice a8 qs'.length r8)) = wz at *
      refine bodyPost_ret (v := .tuple #[.agg #[.int .i64 X.turn, .int .i64 X.next, .int .i64 X.wide, .int .i64 X.high, .slice a1 X.gs.length r1, .slice (some ⟨g2, 0, none⟩) X.os.length r2, .slice (some ⟨g3, 0, none⟩) X.gold.length r3, .slice a6 st.length r6, .slice a8 qs'.length r8], .nilIface]) (by simp [results, Tryz.results17, go_sem, y0, y1, y2, y3, y4, y5, y6, y7, y8]) rfl ⟨_, _, rfl, by rw [FW.out]; exact Er.nil, .inr ⟨FW.out, Wn, GD.out.1, ?_⟩, KZ.out.below R11.out.2.2 R11.out.2.2.size (by omega)⟩
      have h := BS.out.1
      rw [FO.out]
      exact ⟨_, _, _, _, _, rfl, (O11.out.1.kp KZ.out (by omega)).mono (by omega), (O11.out.2.1.kp KZ.out (by omega)).mono (by omega), (O11.out.2.2.1.kp KZ.out (by omega)).mono (by omega), (O11.out.2.2.2.1.kp KZ.out (by omega)).mono (by omega), (O11.out.2.2.2.2.kp KZ.out (by omega)).mono (by omega)⟩
end Go.Proofs.YtagnjmellcibhaaGreatDoor

namespace Go.Proofs.YtagnjmellcibhaaGreatDoor
open Go.RowKit
set_option linter.unusedVariables false

set_option maxRecDepth 100000 in
set_option maxHeartbeats 2000000 in
theorem rfind_any (v : Value) (W : WV) (id : Int) (w : World) (h : Wl w v W) :
    Calls Tryz.prog 29 #[v, .int .i64 id] w fun e w' => ∃ r : Int, e = .returned (.int .i64 r) ∧ FstU (fun u => u.id == id) W.us r ∧ Below w.heap.size w w' := by
  obtain ⟨u1, u2, u3, u4, u5, rfl, -, -, -, ⟨a, c, rfl, c1, c2, ca⟩, -⟩ := h
  have Ca : Hid (W.us ≠ [] → ∃ x, a = some x ∧ x.block < w.heap.size ∧ ∀ (i : Nat) k, W.us[i]? = some k → Unc w (x.add (i * 8)) k) := ca
  clear ca
  go_enter Tryz.func29, Tryz.ntmps29
  go_wp2
  have B0 : Hid (Below w.heap.size w (w.alloc (Obj.cells #[.int .i64 W.turn, .int .i64 W.next, .int .i64 W.wide, .int .i64 W.high, u1, u2, u3, .slice a W.us.length c, u5] 29))) := (Below.refl _ _).alloc (Nat.le_refl _) _
  have X0 : Hid (Bw (w.alloc (Obj.cells #[.int .i64 W.turn, .int .i64 W.next, .int .i64 W.wide, .int .i64 W.high, u1, u2, u3, .slice a W.us.length c, u5] 29)) w.heap.size W u1 u2 u3 (.slice a W.us.length c) u5) := Bw.mk' W _ _ _ _ _ rfl
  generalize w.alloc (Obj.cells #[.int .i64 W.turn, .int .i64 W.next, .int .i64 W.wide, .int .i64 W.high, u1, u2, u3, .slice a W.us.length c, u5] 29) = w0 at *
  go_loopw [5] (fun iv V => ∃ k : Nat, k ≤ W.us.length ∧ iv = .int .i64 (k : Nat) ∧ (W.us.take k).any (fun u => u.id == id) = false ∧ V = w0) (fun iv _ => W.us.length - (intOf iv).toNat)
  case atStart => exact ⟨0, Nat.zero_le _, rfl, rfl, rfl⟩
  case round =>
    obtain ⟨k, hk, rfl, hn, rfl⟩ := hrel
    have HN : Hid ((W.us.take k).any (fun u => u.id == id) = false) := hn
    have c7 := X0.out.c7
    clear hn
    by_cases hkl : k = W.us.length
    · have F : Hid (FstU (fun u => u.id == id) W.us (-1)) := .inl ⟨rfl, by have := HN.out; rwa [hkl, List.take_length] at this⟩
      subst hkl
      clear hk
      go_wp2
      go_ret
      exact ⟨-1, rfl, F.out, B0.out⟩
    · have hlt : k < W.us.length := by omega
      have hli : (k : Int) < (W.us.length : Int) := by omega
      obtain ⟨u, hu⟩ : ∃ u, W.us[k]? = some u := ⟨_, List.getElem?_eq_getElem hlt⟩
      obtain ⟨x, rfl, hx, hcell⟩ := Ca.out (by intro e; rw [e] at hlt; simp at hlt)
      obtain ⟨d0, -, -, -, -, -, -, -⟩ := (hcell k u hu).below B0.out (by rw [add_block]; exact hx)
      have HU : Hid (W.us[k]? = some u) := hu
      clear hcell hx hu hkl
      by_cases hid : u.id = id
      · have F : Hid (FstU (fun u => u.id == id) W.us (k : Nat)) := .inr ⟨k, u, rfl, HU.out, by simp [hid], HN.out⟩
        go_wp2
        go_ret
        exact ⟨_, rfl, F.out, B0.out⟩
      · have hidb : (u.id == id) = false := by simpa using hid
        have N2 : Hid ((W.us.take (k + 1)).any (fun u => u.id == id) = false) := by unfold Hid; rw [anyu_next HU.out, HN.out, hidb]; rfl
        clear hid
        go_wp2
        go_roundw
        case rel => exact ⟨k + 1, by omega, rfl, N2.out, trivial⟩
        case measure => simp [intOf]; omega
end Go.Proofs.YtagnjmellcibhaaGreatDoor

namespace Go.Proofs.YtagnjmellcibhaaGreatDoor
open Go.RowKit
set_option linter.unusedVariables false

set_option maxHeartbeats 1000000 in
theorem rnumber_q (n : Int) (q : Bool) (w : World) (hq : Hid (decide (0 ≤ n ∧ n ≤ 1000000) = q)) :
    Calls Tryz.prog 26 #[.int .i64 n] w fun e w' => e = .returned (.bool q) ∧ w' = w := by
  go_enter Tryz.func26, Tryz.ntmps26
  by_cases h0 : 0 ≤ n
  · by_cases h1 : n ≤ 1000000
    · have E : Hid (q = true) := by unfold Hid; rw [← hq.out]; simp [h0, h1]
      go_wp2
      go_ret
      exact ⟨by rw [E.out]; rfl, rfl⟩
    · have E : Hid (q = false) := by unfold Hid; rw [← hq.out]; simp [h1]
      go_wp2
      go_ret
      exact ⟨by rw [E.out]; rfl, rfl⟩
  · have E : Hid (q = false) := by unfold Hid; rw [← hq.out]; simp [h0]
    go_wp2
    go_ret
    exact ⟨by rw [E.out]; rfl, rfl⟩
set_option maxRecDepth 100000 in
set_option maxHeartbeats 2000000 in
theorem ron_any (v : Value) (W : WV) (at_ : Int) (w : World) (h : Wl w v W) :
    Calls Tryz.prog 28 #[v, .int .i64 at_] w fun e w' => ∃ r : Int, e = .returned (.int .i64 r) ∧ FstU (fun u => u.at_ == at_) W.us r ∧ Below w.heap.size w w' := by
  obtain ⟨u1, u2, u3, u4, u5, rfl, -, -, -, ⟨a, c, rfl, c1, c2, ca⟩, -⟩ := h
  have Ca : Hid (W.us ≠ [] → ∃ x, a = some x ∧ x.block < w.heap.size ∧ ∀ (i : Nat) k, W.us[i]? = some k → Unc w (x.add (i * 8)) k) := ca
  clear ca
  go_enter Tryz.func28, Tryz.ntmps28
  go_wp2
  have B0 : Hid (Below w.heap.size w (w.alloc (Obj.cells #[.int .i64 W.turn, .int .i64 W.next, .int .i64 W.wide, .int .i64 W.high, u1, u2, u3, .slice a W.us.length c, u5] 29))) := (Below.refl _ _).alloc (Nat.le_refl _) _
  have X0 : Hid (Bw (w.alloc (Obj.cells #[.int .i64 W.turn, .int .i64 W.next, .int .i64 W.wide, .int .i64 W.high, u1, u2, u3, .slice a W.us.length c, u5] 29)) w.heap.size W u1 u2 u3 (.slice a W.us.length c) u5) := Bw.mk' W _ _ _ _ _ rfl
  generalize w.alloc (Obj.cells #[.int .i64 W.turn, .int .i64 W.next, .int .i64 W.wide, .int .i64 W.high, u1, u2, u3, .slice a W.us.length c, u5] 29) = w0 at *
  go_loopw [5] (fun iv V => ∃ k : Nat, k ≤ W.us.length ∧ iv = .int .i64 (k : Nat) ∧ (W.us.take k).any (fun u => u.at_ == at_) = false ∧ V = w0) (fun iv _ => W.us.length - (intOf iv).toNat)
  case atStart => exact ⟨0, Nat.zero_le _, rfl, rfl, rfl⟩
  case round =>
    obtain ⟨k, hk, rfl, hn, rfl⟩ := hrel
    have HN : Hid ((W.us.take k).any (fun u => u.at_ == at_) = false) := hn
    have c7 := X0.out.c7
    clear hn
    by_cases hkl : k = W.us.length
    · have F : Hid (FstU (fun u => u.at_ == at_) W.us (-1)) := .inl ⟨rfl, by have := HN.out; rwa [hkl, List.take_length] at this⟩
      subst hkl
      clear hk
      go_wp2
      go_ret
      exact ⟨-1, rfl, F.out, B0.out⟩
    · have hlt : k < W.us.length := by omega
      have hli : (k : Int) < (W.us.length : Int) := by omega
      obtain ⟨u, hu⟩ : ∃ u, W.us[k]? = some u := ⟨_, List.getElem?_eq_getElem hlt⟩
      obtain ⟨x, rfl, hx, hcell⟩ := Ca.out (by intro e; rw [e] at hlt; simp at hlt)
      obtain ⟨-, -, -, d3, -, -, -, -⟩ := (hcell k u hu).below B0.out (by rw [add_block]; exact hx)
      have HU : Hid (W.us[k]? = some u) := hu
      clear hcell hx hu hkl
      by_cases hid : u.at_ = at_
      · have F : Hid (FstU (fun u => u.at_ == at_) W.us (k : Nat)) := .inr ⟨k, u, rfl, HU.out, by simp [hid], HN.out⟩
        go_wp2
        go_ret
        exact ⟨_, rfl, F.out, B0.out⟩
      · have hidb : (u.at_ == at_) = false := by simpa using hid
        have N2 : Hid ((W.us.take (k + 1)).any (fun u => u.at_ == at_) = false) := by unfold Hid; rw [anyu_next HU.out, HN.out, hidb]; rfl
        clear hid
        go_wp2
        go_roundw
        case rel => exact ⟨k + 1, by omega, rfl, N2.out, trivial⟩
        case measure => simp [intOf]; omega
end Go.Proofs.YtagnjmellcibhaaGreatDoor

namespace Go.Proofs.YtagnjmellcibhaaGreatDoor
open Go.RowKit
set_option linter.unusedVariables false

theorem ref_numbers (k : KV) (w : World) :
    Calls Tryz.prog 83 #[k.val] w fun e w' => ∃ u, e = .returned u ∧ Ro w' u [k.n0, k.n1, k.n2, k.n3, k.n4, k.n5, k.n6, k.n7] ∧ Below w.heap.size w w' := by
  obtain ⟨b, n0, n1, n2, n3, n4, n5, n6, n7, f, t⟩ := k
  unfold KV.val
  go_enter Tryz.func83, Tryz.ntmps83
  go_wp2_with fail
  go_ret
  refine ⟨_, rfl, ?_, ((Below.refl _ _).alloc (Nat.le_refl _) _).alloc (by simp) _⟩
  exact Ro.lit (w := w.alloc _) (z := w.heap.size + 1) [n0, n1, n2, n3, n4, n5, n6, n7] _ rfl (by simp) (by simp)

theorem name_empty {s : ByteArray} (h : s.data.toList = []) : s.toList.isEmpty = true := by
  rw [← decide_eq_emptyBytes s]
  exact decide_eq_true (WideShapes.bytes_inj (by rw [h]; rfl))
theorem name_some {s : ByteArray} (h : s.data.toList ≠ []) : s.toList.isEmpty = false := by
  rw [← decide_eq_emptyBytes s]
  exact decide_eq_false (fun e => h (by rw [e]; rfl))
theorem kf_name {ah : List Kd.K} {k : Kd.K} (h : Kd.nameOk k.name = false) : Kd.kindFault ah k = 2 := by
  unfold Kd.kindFault
  rw [if_neg (by rw [h]; decide)]

set_option maxRecDepth 100000 in
set_option maxHeartbeats 4000000 in
theorem ref_kind (v : Value) (ks : List KV) (i : Nat) (k : KV) (w : World) (h : Kl w v ks) (hi : ks[i]? = some k) (hn : ks.length ≤ 1000000) (hb : k.b.size ≤ 9223372036854775807) :
    Calls Tryz.prog 53 #[v, .int .i64 (i : Nat)] w fun e w' => e = .returned (.int .i64 (Kd.kindFault ((ks.take i).map KV.k) k.k)) ∧ Below w.heap.size w w' := by
  have hil : i < ks.length := (List.getElem?_eq_some_iff.1 hi).1
  obtain ⟨a, c, rfl, c1, c2, hx⟩ := h
  obtain ⟨x, rfl, xl, hk⟩ := hx (by intro e; rw [e] at hil; simp at hil)
  have Hk : Hid (x.block < w.heap.size ∧ ∀ (i : Nat) k, ks[i]? = some k → Kc w (x.add (i * 11)) k) := ⟨xl, hk⟩
  obtain ⟨q0, q1, q2, q3, q4, q5, q6, q7, q8, q9, q10⟩ := hk i k hi
  clear hx hk xl
  obtain ⟨l, hl⟩ : ∃ l, k.b.data.toList = l := ⟨_, rfl⟩
  have Hl : Hid (k.b.data.toList = l) := hl
  have Ll : Hid (l.length = k.b.size) := by unfold Hid; rw [← hl]; rfl
  have Kn : Hid (k.k.name = l) := hl
  have Km : Hid (k.k.nums = [k.n0, k.n1, k.n2, k.n3, k.n4, k.n5, k.n6, k.n7]) := rfl
  have Hi : Hid (ks[i]? = some k) := hi
  clear hi hl
  obtain ⟨R, hR⟩ : ∃ R, Kd.kindFault ((ks.take i).map KV.k) k.k = R := ⟨_, rfl⟩
  have HR : Hid (Kd.kindFault ((ks.take i).map KV.k) k.k = R) := hR
  rw [hR]
  clear hR
  have NB : Hid (Kd.nameOk l = false → R = 2) := fun h => by rw [← HR.out]; exact kf_name (by rw [Kn.out]; exact h)
  have Z : Hid (k.val = k.val) := rfl
  obtain ⟨kb, n0, n1, n2, n3, n4, n5, n6, n7, kf, kt⟩ := k
  simp only at q0 q1 q2 q3 q4 q5 q6 q7 q8 q9 q10 hb Hl Ll Km
  go_enter Tryz.func53, Tryz.ntmps53
  have B1 : Hid (Below w.heap.size w (w.alloc (Obj.cells #[.string kb, .int .i64 n0, .int .i64 n1, .int .i64 n2, .int .i64 n3, .int .i64 n4, .int .i64 n5, .int .i64 n6, .int .i64 n7, .bool kf, .bool kt] 61))) := (Below.refl _ _).alloc (Nat.le_refl _) _
  have X1 : Hid (Kc (w.alloc (Obj.cells #[.string kb, .int .i64 n0, .int .i64 n1, .int .i64 n2, .int .i64 n3, .int .i64 n4, .int .i64 n5, .int .i64 n6, .int .i64 n7, .bool kf, .bool kt] 61)) ⟨w.heap.size, 0, none⟩ ⟨kb, n0, n1, n2, n3, n4, n5, n6, n7, kf, kt⟩) := Kc.mk' ⟨kb, n0, n1, n2, n3, n4, n5, n6, n7, kf, kt⟩ rfl
  go_upto_region 2 with fail
  generalize w.alloc (Obj.cells #[.string kb, .int .i64 n0, .int .i64 n1, .int .i64 n2, .int .i64 n3, .int .i64 n4, .int .i64 n5, .int .i64 n6, .int .i64 n7, .bool kf, .bool kt] 61) = w1 at *
  have y0 : w1.cell? ⟨w.heap.size, 0, none⟩ = some (.string kb) := X1.out.c0
  have y1 : w1.cell? ⟨w.heap.size, 1, none⟩ = some (.int .i64 n0) := X1.out.c1
  have y2 : w1.cell? ⟨w.heap.size, 2, none⟩ = some (.int .i64 n1) := X1.out.c2
  have y3 : w1.cell? ⟨w.heap.size, 3, none⟩ = some (.int .i64 n2) := X1.out.c3
  have y4 : w1.cell? ⟨w.heap.size, 4, none⟩ = some (.int .i64 n3) := X1.out.c4
  have y5 : w1.cell? ⟨w.heap.size, 5, none⟩ = some (.int .i64 n4) := X1.out.c5
  have y6 : w1.cell? ⟨w.heap.size, 6, none⟩ = some (.int .i64 n5) := X1.out.c6
  have y7 : w1.cell? ⟨w.heap.size, 7, none⟩ = some (.int .i64 n6) := X1.out.c7
  have y8 : w1.cell? ⟨w.heap.size, 8, none⟩ = some (.int .i64 n7) := X1.out.c8
  have y9 : w1.cell? ⟨w.heap.size, 9, none⟩ = some (.bool kf) := X1.out.c9
  have y10 : w1.cell? ⟨w.heap.size, 10, none⟩ = some (.bool kt) := X1.out.c10
  clear q0 q1 q2 q3 q4 q5 q6 q7 q8 q9 q10
  by_cases h0 : l = []
  · have he : kb.toList.isEmpty = true := name_empty (by rw [Hl.out]; exact h0)
    have E : Hid (R = 2) := NB.out (by rw [h0]; rfl)
    clear h0
    go_wp2
    go_ret
    exact ⟨by rw [E.out]; rfl, B1⟩
  · have he : kb.toList.isEmpty = false := name_some (by rw [Hl.out]; exact h0)
    by_cases h1 : 8 < kb.size
    · have E : Hid (R = 2) := NB.out (by
        unfold Kd.nameOk
        rw [decide_eq_false (by rw [Ll.out]; omega)]
        simp)
      have h1' : (8 : Int) < (kb.size : Int) := by omega
      clear h0
      go_wp2
      go_ret
      exact ⟨by rw [E.out]; rfl, B1⟩
    · have h1' : ¬ (8 : Int) < (kb.size : Int) := by omega
      have NO : Hid (Kd.nameOk l = l.all Kd.isLetter) := by
        unfold Hid Kd.nameOk
        rw [decide_eq_true (by rw [Ll.out]; omega), Bool.true_and]
        cases l with
        | nil => exact absurd rfl h0
        | cons a r => rfl
      clear h0
      go_wp2_with fail
      go_loop [6] (fun j => ∃ q : Nat, q ≤ kb.size ∧ j = .int .i64 (q : Nat) ∧ (l.take q).all Kd.isLetter = true) (fun j => kb.size - (intOf j).toNat)
      case atStart => exact ⟨0, Nat.zero_le _, rfl, by simp⟩
      case round =>
        obtain ⟨q, hq, rfl, hd⟩ := hrel
        have Hd : Hid ((l.take q).all Kd.isLetter = true) := hd
        clear hd
        by_cases hqs : q = kb.size
        · have Ok : Hid (Kd.nameOk l = true) := by
            unfold Hid
            rw [NO.out]
            have := Hd.out
            rw [List.take_of_length_le (by rw [Ll.out, hqs]; exact Nat.le_refl _)] at this
            exact this
          subst hqs
          clear NO Hd NB
          go_wp2_with fail
          clear y0 y1 y2 y3 y4 y5 y6 y7 y8 y9 y10 he h1 h1' hq
          go_loopw [7] (fun j W' => ∃ q r : Nat, q ≤ i ∧ j = .int .i64 (q : Nat) ∧ (ks.take q).any (fun a => a.k.name == l) = false ∧ W' = w1.drewN r) (fun j _ => i - (intOf j).toNat)
          case atStart => exact ⟨0, 0, Nat.zero_le _, rfl, by simp, rfl⟩
          case round =>
            obtain ⟨q, r, hq, rfl, hany, rfl⟩ := hrel
            have An : Hid ((ks.take q).any (fun a => a.k.name == l) = false) := hany
            clear hany
            have kr : Below w1.heap.size w1 (w1.drewN r) := _root_.Go.below_drewN (Below.refl _ _) _
            have B2 : Hid (Below w.heap.size w (w1.drewN r)) := B1.out.trans (kr.mono B1.out.size)
            have Y2 : Hid (Kc (w1.drewN r) ⟨w.heap.size, 0, none⟩ ⟨kb, n0, n1, n2, n3, n4, n5, n6, n7, kf, kt⟩) := X1.out.below kr X1.out.lt
            have Qr : Hid (∀ n, (w1.drewN r).drewN n = w1.drewN (r + n)) := fun n => by rw [World.drewN_drewN]
            generalize w1.drewN r = w2 at *
            have y0 : w2.cell? ⟨w.heap.size, 0, none⟩ = some (.string kb) := Y2.out.c0
            by_cases hqi : q = i
            · have R1 : Hid (R = Kd.numsFault [n0, n1, n2, n3, n4, n5, n6, n7]) := by
                unfold Hid
                rw [← HR.out]
                unfold Kd.kindFault
                rw [Kn.out, if_pos Ok.out, List.any_map, if_neg, Km.out]
                have := An.out
                rw [hqi] at this
                intro h9
                rw [show ((fun a : Kd.K => a.name == l) ∘ KV.k) = fun a : KV => a.k.name == l from rfl, this] at h9
                cases h9
              subst hqi
              obtain ⟨x0, x1, x2, x3, x4, x5, x6, x7, x8, x9, x10⟩ := Y2.out
              have x1 : w2.cell? ⟨w.heap.size, 1, none⟩ = some (.int .i64 n0) := x1
              have x2 : w2.cell? ⟨w.heap.size, 2, none⟩ = some (.int .i64 n1) := x2
              have x3 : w2.cell? ⟨w.heap.size, 3, none⟩ = some (.int .i64 n2) := x3
              have x4 : w2.cell? ⟨w.heap.size, 4, none⟩ = some (.int .i64 n3) := x4
              have x5 : w2.cell? ⟨w.heap.size, 5, none⟩ = some (.int .i64 n4) := x5
              have x6 : w2.cell? ⟨w.heap.size, 6, none⟩ = some (.int .i64 n5) := x6
              have x7 : w2.cell? ⟨w.heap.size, 7, none⟩ = some (.int .i64 n6) := x7
              have x8 : w2.cell? ⟨w.heap.size, 8, none⟩ = some (.int .i64 n7) := x8
              have x9 : w2.cell? ⟨w.heap.size, 9, none⟩ = some (.bool kf) := x9
              have x10 : w2.cell? ⟨w.heap.size, 10, none⟩ = some (.bool kt) := x10
              go_wp2_with fail
              refine (ref_numbers ⟨kb, n0, n1, n2, n3, n4, n5, n6, n7, kf, kt⟩ _).mono ?_
              rintro e w3 ⟨u, rfl, hu, k3⟩
              have B3 : Hid (Below w.heap.size w w3) := B2.out.trans (k3.mono B2.out.size)
              have Y3 := Y2.out.below k3 Y2.out.lt
              obtain ⟨au, cu, rfl, g1, g2, hc⟩ := hu
              obtain ⟨yu, rfl, -, hyu⟩ := hc (by simp)
              have Yu : Hid (∀ (j : Nat) d, [n0, n1, n2, n3, n4, n5, n6, n7][j]? = some d → w3.cell? (yu.add j) = some (.int .i64 d)) := hyu
              clear k3 hc hyu x0 x1 x2 x3 x4 x5 x6 x7 x8 x9 x10 y0 An
              obtain ⟨ns, hns⟩ : ∃ ns, [n0, n1, n2, n3, n4, n5, n6, n7] = ns := ⟨_, rfl⟩
              have Hns : Hid ([n0, n1, n2, n3, n4, n5, n6, n7] = ns) := hns
              simp only [List.length_cons, List.length_nil, Nat.zero_add, Nat.reduceAdd] at g1 ⊢
              rw [hns] at R1 Yu
              have nl : Hid (ns.length = 8) := by rw [← hns]; rfl
              clear hns
              go_wp2_with fail
              go_loop [9] (fun j => ∃ p : Nat, p ≤ 8 ∧ j = .int .i64 (p : Nat) ∧ (ns.take p).any (fun x => decide (x < 0 ∨ 1000 < x)) = false) (fun j => 8 - (intOf j).toNat)
              case atStart => exact ⟨0, Nat.zero_le _, rfl, by simp⟩
              case round =>
                obtain ⟨p, hp, rfl, hany⟩ := hrel
                have An : Hid ((ns.take p).any (fun x => decide (x < 0 ∨ 1000 < x)) = false) := hany
                clear hany
                by_cases hp8 : p = 8
                · have R2 : Hid (R = if n0 < 1 ∨ 4 < n4 ∨ 12 < n2 ∨ 12 < n3 then 1 else 0) := by
                    have h9 := An.out
                    rw [List.take_of_length_le (by rw [nl.out, hp8]; exact Nat.le_refl _)] at h9
                    unfold Hid
                    rw [R1.out]
                    unfold Kd.numsFault
                    rw [if_neg (by rw [h9]; decide), ← Hns.out]
                    rfl
                  have z1 : w3.cell? ⟨w.heap.size, 1, none⟩ = some (.int .i64 n0) := Y3.c1
                  have z3 : w3.cell? ⟨w.heap.size, 3, none⟩ = some (.int .i64 n2) := Y3.c3
                  have z4 : w3.cell? ⟨w.heap.size, 4, none⟩ = some (.int .i64 n3) := Y3.c4
                  have z5 : w3.cell? ⟨w.heap.size, 5, none⟩ = some (.int .i64 n4) := Y3.c5
                  subst hp8
                  clear R1 An Y3
                  by_cases t1 : n0 < 1
                  · have E : Hid (R = 1) := by unfold Hid; rw [R2.out, if_pos (.inl t1)]
                    go_wp2
                    go_ret
                    exact ⟨by rw [E.out]; rfl, B3⟩
                  · by_cases t2 : 4 < n4
                    · have E : Hid (R = 1) := by unfold Hid; rw [R2.out, if_pos (.inr (.inl t2))]
                      go_wp2
                      go_ret
                      exact ⟨by rw [E.out]; rfl, B3⟩
                    · by_cases t3 : 12 < n2
                      · have E : Hid (R = 1) := by unfold Hid; rw [R2.out, if_pos (.inr (.inr (.inl t3)))]
                        go_wp2
                        go_ret
                        exact ⟨by rw [E.out]; rfl, B3⟩
                      · by_cases t4 : 12 < n3
                        · have E : Hid (R = 1) := by unfold Hid; rw [R2.out, if_pos (.inr (.inr (.inr t4)))]
                          go_wp2
                          go_ret
                          exact ⟨by rw [E.out]; rfl, B3⟩
                        · have E : Hid (R = 0) := by unfold Hid; rw [R2.out, if_neg (by omega)]
                          go_wp2
                          go_ret
                          exact ⟨by rw [E.out]; rfl, B3⟩
                · have hpn : p < ns.length := by rw [nl.out]; omega
                  have hp9 : p < 8 := by omega
                  have cp := Yu.out p _ (List.getElem?_eq_getElem hpn)
                  have As : Hid ((ns.take (p + 1)).any (fun x => decide (x < 0 ∨ 1000 < x)) = decide (ns[p] < 0 ∨ 1000 < ns[p])) := by
                    unfold Hid
                    rw [List.take_succ_eq_append_getElem hpn, List.any_append, An.out]
                    simp
                  have N2 : Hid ((ns[p] < 0 ∨ 1000 < ns[p]) → R = 1) := fun h => by
                    rw [R1.out]
                    unfold Kd.numsFault
                    rw [if_pos]
                    rw [List.any_eq_true]
                    exact ⟨_, List.getElem_mem hpn, decide_eq_true h⟩
                  generalize ns[p] = y at *
                  by_cases t1 : y < 0
                  · have E : Hid (R = 1) := N2.out (.inl t1)
                    clear N2 As
                    go_wp2
                    go_ret
                    exact ⟨by rw [E.out]; rfl, B3⟩
                  · by_cases t2 : 1000 < y
                    · have E : Hid (R = 1) := N2.out (.inr t2)
                      clear N2 As
                      go_wp2
                      go_ret
                      exact ⟨by rw [E.out]; rfl, B3⟩
                    · have As' : Hid ((ns.take (p + 1)).any (fun x => decide (x < 0 ∨ 1000 < x)) = false) := by
                        unfold Hid
                        rw [As.out]
                        exact decide_eq_false (by omega)
                      clear N2 As
                      go_wp2
                      go_round
                      case rel => exact ⟨p + 1, by omega, by go_num, As'⟩
                      case measure => simp [intOf]; omega
            · have hqi' : q < i := by omega
              obtain ⟨kj, hkj⟩ : ∃ kj, ks[q]? = some kj := ⟨_, List.getElem?_eq_getElem (by omega)⟩
              have cj : w2.cell? (x.add (q * 11)) = some (.string kj.b) := by
                rw [B2.out.cell (p := x.add (q * 11)) (by rw [add_block]; exact Hk.out.1)]
                exact (Hk.out.2 q kj hkj).c0
              have As : Hid ((ks.take (q + 1)).any (fun a => a.k.name == l) = (kj.b.data.toList == l)) := by
                unfold Hid
                have hql : q < ks.length := by omega
                rw [List.take_succ_eq_append_getElem hql, List.any_append, An.out]
                have e : ks[q] = kj := by
                  rw [List.getElem?_eq_getElem hql] at hkj
                  injection hkj
                rw [e]
                simp [KV.k]
              have hqk : q < ks.length := by omega
              by_cases hE : kj.b = kb
              · have E : Hid (R = 8) := by
                  unfold Hid
                  rw [← HR.out]
                  unfold Kd.kindFault
                  rw [Kn.out, if_pos Ok.out, List.any_map, if_pos]
                  rw [List.any_eq_true]
                  refine ⟨kj, ?_, by show (kj.b.data.toList == l) = true; rw [hE, Hl.out]; simp⟩
                  rw [List.mem_iff_getElem?]
                  exact ⟨q, by rw [List.getElem?_take, if_pos hqi']; exact hkj⟩
                rw [hE] at cj
                clear hE hkj As
                go_wp2
                go_quiet (fail)
                go_wp2
                go_ret
                exact ⟨by rw [E.out]; rfl, _root_.Go.below_drewN B2.out _⟩
              · have As' : Hid ((ks.take (q + 1)).any (fun a => a.k.name == l) = false) := by
                  unfold Hid
                  rw [As.out]
                  cases h9 : (kj.b.data.toList == l) with
                  | false => rfl
                  | true =>
                    have : kj.b.data.toList = l := by simpa using h9
                    exact absurd (WideShapes.bytes_inj (by rw [this, Hl.out])) hE
                have hE2 : (kj.b.toList == kb.toList) = false := by
                  rw [ByteArray.toList_eq, ByteArray.toList_eq]
                  cases h9 : (kj.b.data.toList == kb.data.toList) with
                  | false => rfl
                  | true => exact absurd (WideShapes.bytes_inj (by simpa using h9)) hE
                clear As hkj
                generalize kj.b = jb at *
                go_wp2
                go_quiet (fail)
                go_wp2
                go_round
                case rel => exact ⟨q + 1, r + nq, by omega, by go_num, As', Qr.out _⟩
                case measure => simp [intOf]; omega
        · have hqs' : q < kb.size := by omega
          have hql : q < l.length := by rw [Ll.out]; exact hqs'
          have eb : l[q] = kb[q] := by
            have := Hl.out
            subst this
            rfl
          have TK : Hid (l.take (q + 1) = l.take q ++ [kb[q]]) := by unfold Hid; rw [List.take_succ_eq_append_getElem hql, eb]
          have MB : Hid (kb[q] ∈ l) := by unfold Hid; rw [← eb]; exact List.getElem_mem hql
          have N2 : Hid (Kd.isLetter kb[q] = false → R = 2) := fun h => NB.out (by
            rw [NO.out]
            cases ha : l.all Kd.isLetter with
            | false => rfl
            | true =>
              have := List.all_eq_true.1 ha _ MB.out
              rw [h] at this
              cases this)
          have DS : Hid (Kd.isLetter kb[q] = true → (l.take (q + 1)).all Kd.isLetter = true) := fun h => by rw [TK.out, List.all_append, Hd.out]; simpa using h
          have Db : Hid (Kd.isLetter kb[q] = (decide (97 ≤ kb[q].toNat) && decide (kb[q].toNat ≤ 122))) := rfl
          obtain ⟨b, hb9⟩ : ∃ b, kb[q].toNat = b := ⟨_, rfl⟩
          rw [hb9] at Db
          clear eb hql MB TK
          by_cases p1 : b < 97
          · have E : Hid (R = 2) := N2.out (by rw [Db.out, decide_eq_false (by omega)]; rfl)
            have p1' : (b : Int) < 97 := by omega
            clear N2 Db DS
            go_wp2
            go_ret
            exact ⟨by rw [E.out]; rfl, B1⟩
          · have p1' : ¬ (b : Int) < 97 := by omega
            by_cases p2 : 122 < b
            · have E : Hid (R = 2) := N2.out (by rw [Db.out, decide_eq_false (show ¬ b ≤ 122 by omega), Bool.and_false])
              have p2' : (122 : Int) < (b : Int) := by omega
              clear N2 Db DS
              go_wp2
              go_ret
              exact ⟨by rw [E.out]; rfl, B1⟩
            · have p2' : ¬ (122 : Int) < (b : Int) := by omega
              have DD : Hid ((l.take (q + 1)).all Kd.isLetter = true) := DS.out (by rw [Db.out, decide_eq_true (by omega), decide_eq_true (by omega)]; rfl)
              clear N2 Db DS
              go_wp2
              go_round
              case rel => exact ⟨q + 1, by omega, by go_num, DD⟩
              case measure => simp [intOf]; omega
end Go.Proofs.YtagnjmellcibhaaGreatDoor

namespace Go.Proofs.YtagnjmellcibhaaGreatDoor
open Go.RowKit
set_option linter.unusedVariables false

theorem kindsGo_at {ks : List KV} {i : Nat} {k : KV} (h : ks[i]? = some k) : Kd.kindsGo ((ks.take i).map KV.k) ((ks.drop i).map KV.k) = if Kd.kindFault ((ks.take i).map KV.k) k.k = 0 then Kd.kindsGo ((ks.take (i + 1)).map KV.k) ((ks.drop (i + 1)).map KV.k) else Kd.kindFault ((ks.take i).map KV.k) k.k := by
  obtain ⟨hi, e⟩ := List.getElem?_eq_some_iff.1 h
  rw [List.drop_eq_getElem_cons hi, e, List.map_cons, Kd.kindsGo, List.take_succ_eq_append_getElem hi, e, List.map_append]
  rfl

set_option maxHeartbeats 1000000 in
theorem ref_kinds (v : Value) (ks : List KV) (w : World) (h : Kl w v ks) (hb : ∀ k ∈ ks, k.b.size ≤ 9223372036854775807) :
    Calls Tryz.prog 24 #[v] w fun e w' => e = .returned (.int .i64 (Kd.kindsFault (ks.map KV.k))) ∧ Below w.heap.size w w' := by
  have K0 : Hid (Kl w v ks) := h
  have Hb : Hid (∀ k ∈ ks, k.b.size ≤ 9223372036854775807) := hb
  obtain ⟨R, hR⟩ : ∃ R, Kd.kindsFault (ks.map KV.k) = R := ⟨_, rfl⟩
  have HR : Hid (Kd.kindsFault (ks.map KV.k) = R) := hR
  rw [hR]
  clear hR hb
  obtain ⟨a, c, rfl, c1, c2, -⟩ := h
  by_cases h8 : 8 < ks.length
  · have E : Hid (R = 4) := by unfold Hid; rw [← HR.out]; unfold Kd.kindsFault; rw [if_pos (by simpa using h8)]
    have h8' : (8 : Int) < (ks.length : Int) := by omega
    go_enter Tryz.func24, Tryz.ntmps24
    go_wp2
    go_ret
    exact ⟨by rw [E.out]; rfl, Below.refl _ _⟩
  · have h8' : ¬ (8 : Int) < (ks.length : Int) := by omega
    have R1 : Hid (Kd.kindsGo [] (ks.map KV.k) = R) := by unfold Hid; rw [← HR.out]; unfold Kd.kindsFault; rw [if_neg (by simpa using h8)]
    go_enter Tryz.func24, Tryz.ntmps24
    go_wp2_with fail
    go_loopw [3] (fun j W' => ∃ q : Nat, q ≤ ks.length ∧ j = .int .i64 (q : Nat) ∧ Kd.kindsGo ((ks.take q).map KV.k) ((ks.drop q).map KV.k) = R ∧ Below w.heap.size w W') (fun j _ => ks.length - (intOf j).toNat)
    case atStart => exact ⟨0, Nat.zero_le _, rfl, R1, Below.refl _ _⟩
    case round =>
      obtain ⟨q, hq, rfl, hg, hb⟩ := hrel
      have Gq : Hid (Kd.kindsGo ((ks.take q).map KV.k) ((ks.drop q).map KV.k) = R) := hg
      have B : Hid (Below w.heap.size w wr) := hb
      clear hg hb
      by_cases hql : q = ks.length
      · have E : Hid (R = 0) := by
          unfold Hid
          rw [← Gq.out, hql, List.drop_of_length_le (Nat.le_refl _)]
          rfl
        subst hql
        go_wp2
        go_ret
        exact ⟨by rw [E.out]; rfl, B⟩
      · have hqk : q < ks.length := by omega
        obtain ⟨k, hk⟩ : ∃ k, ks[q]? = some k := ⟨_, List.getElem?_eq_getElem hqk⟩
        have At : Hid (R = if Kd.kindFault ((ks.take q).map KV.k) k.k = 0 then Kd.kindsGo ((ks.take (q + 1)).map KV.k) ((ks.drop (q + 1)).map KV.k) else Kd.kindFault ((ks.take q).map KV.k) k.k) := by
          unfold Hid
          rw [← kindsGo_at hk]
          exact Gq.out.symm
        have CK := ref_kind (.slice a ks.length c) ks q k wr (K0.out.below B.out) hk (by omega) (Hb.out k (List.mem_of_getElem? hk))
        generalize Kd.kindFault ((ks.take q).map KV.k) k.k = F at *
        have CK' : Hid (Calls Tryz.prog 53 #[.slice a ks.length c, .int .i64 (q : Nat)] wr fun e w' => e = .returned (.int .i64 F) ∧ Below wr.heap.size wr w') := CK
        clear CK hk
        go_wp2_with fail
        refine Calls.mono CK'.out ?_
        rintro e w2 ⟨rfl, k2⟩
        have B2 : Hid (Below w.heap.size w w2) := B.out.trans (k2.mono B.out.size)
        clear k2 CK'
        by_cases hF : F = 0
        · have G2 : Hid (Kd.kindsGo ((ks.take (q + 1)).map KV.k) ((ks.drop (q + 1)).map KV.k) = R) := by
            unfold Hid
            have := At.out
            rw [if_pos hF] at this
            exact this.symm
          subst hF
          clear At
          go_wp2
          go_round
          case rel => exact ⟨q + 1, by omega, by go_num, G2, B2⟩
          case measure => simp [intOf]; omega
        · have E : Hid (R = F) := by
            unfold Hid
            have := At.out
            rw [if_neg hF] at this
            exact this
          clear At
          go_wp2
          go_ret
          exact ⟨by rw [E.out]; rfl, B2⟩
end Go.Proofs.YtagnjmellcibhaaGreatDoor

