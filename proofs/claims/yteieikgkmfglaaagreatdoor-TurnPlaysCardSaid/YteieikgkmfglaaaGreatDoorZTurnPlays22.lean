/- fight.Fight: all strike at once; who has no Life left is gone. -/
import Derived.Test.YteieikgkmfglaaaGreatDoorZTurnPlays21
namespace Go.Proofs.YteieikgkmfglaaaGreatDoor
open Go.RowKit
set_option linter.unusedVariables false

def fellE (u : UnV) : EvV := ⟨3, u.id, 0⟩
/-- who is struck, who stays. -/
def struck (ks : List KV) (Wn : Nat) (X : WV) : List UnV := hurt X.us (strikes ks Wn X.us X.us).1
def stays (ks : List KV) (Wn : Nat) (X : WV) : List UnV := (struck ks Wn X).filter (fun u => !fallenU u)
def fought (ks : List KV) (Wn : Nat) (X : WV) : WV := { X with us := stays ks Wn X, qs := X.qs.filter (fun j => !orphanJ (stays ks Wn X) j) }
def fevents (ks : List KV) (Wn : Nat) (X : WV) : List EvV := (strikes ks Wn X.us X.us).2 ++ ((struck ks Wn X).filter fallenU).map fellE
theorem strikes_evlen {ks : List KV} {W : Nat} {us : List UnV} : ∀ (l : List UnV) (s : List Int × List EvV), (l.foldl (stk ks W us) s).2.length ≤ s.2.length + l.length
  | [], s => Nat.le_refl _
  | u :: l, s => by
    rw [List.foldl_cons]
    have h1 := strikes_evlen (ks := ks) (W := W) (us := us) l (stk ks W us s u)
    have h2 : (stk ks W us s u).2.length ≤ s.2.length + 1 := by
      unfold stk
      split
      · omega
      · simp
    rw [List.length_cons]
    omega
theorem fell_next {hs : List UnV} {n : Nat} {y : UnV} (hy : hs[n]? = some y) : ((hs.take (n + 1)).filter fallenU).map fellE = ((hs.take n).filter fallenU).map fellE ++ (if fallenU y then [fellE y] else []) := by
  obtain ⟨hi, e⟩ := List.getElem?_eq_some_iff.1 hy
  rw [List.take_succ_eq_append_getElem hi, e, List.filter_append, List.map_append]
  cases h : fallenU y <;> simp [h]
/-- what Fight tells. -/
def FightSays (ks : List KV) (X : WV) (w w' : World) (v ev : Value) : Prop :=
  (Wd.wfault ks X ≠ 0 ∧ v = .agg #[.int .i64 0, .int .i64 0, .int .i64 0, .int .i64 0, .slice none 0 0, .slice none 0 0, .slice none 0 0, .slice none 0 0, .slice none 0 0] ∧ ev = .slice none 0 0)
  ∨ (Wd.wfault ks X = 0 ∧ ∃ Wn : Nat, X.wide = (Wn : Nat) ∧ 0 < Wn ∧ Wn ≤ 12 ∧ Wo w' w.heap.size v (fought ks Wn X) ∧ Evo w' w.heap.size ev (fevents ks Wn X))
set_option maxRecDepth 100000 in
set_option maxHeartbeats 16000000 in
theorem Fight_any (vk vw : Value) (ks : List KV) (X : WV) (w : World) (hk : Kl w vk ks) (hb : ∀ k ∈ ks, k.b.size ≤ 9223372036854775807) (hw : Wl w vw X) :
    Calls Tryz.prog 51 #[vk, vw] w fun e w' => ∃ v ev r, e = .returned (.tuple #[v, ev, r]) ∧ Er r (Wd.wfault ks X) ∧ FightSays ks X w w' v ev ∧ Below w.heap.size w w' := by
  have K : Hid (Kl w vk ks ∧ ∀ k ∈ ks, k.b.size ≤ 9223372036854775807) := ⟨hk, hb⟩
  have H : Hid (Wl w vw X) := hw
  obtain ⟨p1, q1, p2, q2, p3, q3, p4, q4, p5, q5, rfl⟩ := wl_shape9 hw
  obtain ⟨pk, qk, rfl, ck1, ck2, kc⟩ := hk
  clear hb hw kc
  go_enter Tryz.func51, Tryz.ntmps51
  go_upto_region 1 with fail
  have B0 : Hid (Below w.heap.size w ((w.alloc (Obj.cells #[.int .i64 X.turn, .int .i64 X.next, .int .i64 X.wide, .int .i64 X.high, .slice p1 X.gs.length q1, .slice p2 X.os.length q2, .slice p3 X.gold.length q3, .slice p4 X.us.length q4, .slice p5 X.qs.length q5] 29)).alloc (Obj.cells #[.int .i64 0, .int .i64 0, .int .i64 0, .int .i64 0, .slice none 0 0, .slice none 0 0, .slice none 0 0, .slice none 0 0, .slice none 0 0] 29))) := ((Below.refl _ _).alloc (Nat.le_refl _) _).alloc (by simp) _
  have X0 : Hid (Wx ((w.alloc (Obj.cells #[.int .i64 X.turn, .int .i64 X.next, .int .i64 X.wide, .int .i64 X.high, .slice p1 X.gs.length q1, .slice p2 X.os.length q2, .slice p3 X.gold.length q3, .slice p4 X.us.length q4, .slice p5 X.qs.length q5] 29)).alloc (Obj.cells #[.int .i64 0, .int .i64 0, .int .i64 0, .int .i64 0, .slice none 0 0, .slice none 0 0, .slice none 0 0, .slice none 0 0, .slice none 0 0] 29)) (w.heap.size) (.int .i64 X.turn) (.int .i64 X.next) (.int .i64 X.wide) (.int .i64 X.high) (.slice p1 X.gs.length q1) (.slice p2 X.os.length q2) (.slice p3 X.gold.length q3) (.slice p4 X.us.length q4) (.slice p5 X.qs.length q5)) := (Wx.new (.int .i64 X.turn) (.int .i64 X.next) (.int .i64 X.wide) (.int .i64 X.high) (.slice p1 X.gs.length q1) (.slice p2 X.os.length q2) (.slice p3 X.gold.length q3) (.slice p4 X.us.length q4) (.slice p5 X.qs.length q5) rfl).below ((Below.refl _ _).alloc (Nat.le_refl _) _) (by simp)
  have Z0 : Hid (Wx ((w.alloc (Obj.cells #[.int .i64 X.turn, .int .i64 X.next, .int .i64 X.wide, .int .i64 X.high, .slice p1 X.gs.length q1, .slice p2 X.os.length q2, .slice p3 X.gold.length q3, .slice p4 X.us.length q4, .slice p5 X.qs.length q5] 29)).alloc (Obj.cells #[.int .i64 0, .int .i64 0, .int .i64 0, .int .i64 0, .slice none 0 0, .slice none 0 0, .slice none 0 0, .slice none 0 0, .slice none 0 0] 29)) (w.heap.size + 1) (.int .i64 0) (.int .i64 0) (.int .i64 0) (.int .i64 0) (.slice none 0 0) (.slice none 0 0) (.slice none 0 0) (.slice none 0 0) (.slice none 0 0)) := Wx.new (.int .i64 0) (.int .i64 0) (.int .i64 0) (.int .i64 0) (.slice none 0 0) (.slice none 0 0) (.slice none 0 0) (.slice none 0 0) (.slice none 0 0) (by simp)
  generalize ((w.alloc (Obj.cells #[.int .i64 X.turn, .int .i64 X.next, .int .i64 X.wide, .int .i64 X.high, .slice p1 X.gs.length q1, .slice p2 X.os.length q2, .slice p3 X.gold.length q3, .slice p4 X.us.length q4, .slice p5 X.qs.length q5] 29)).alloc (Obj.cells #[.int .i64 0, .int .i64 0, .int .i64 0, .int .i64 0, .slice none 0 0, .slice none 0 0, .slice none 0 0, .slice none 0 0, .slice none 0 0] 29)) = w0 at *
  obtain ⟨x0, x1, x2, x3, x4, x5, x6, x7, x8⟩ := X0.out.cells
  go_wp2_with fail
  refine (wcheck_any _ _ ks X w0 (K.out.1.below B0.out) K.out.2 (H.out.below B0.out)).mono ?_
  rintro e w1 ⟨r, rfl, hr, hb⟩
  obtain ⟨fw, hfw⟩ : ∃ f, Wd.wfault ks X = f := ⟨_, rfl⟩
  have FW : Hid (Wd.wfault ks X = fw) := hfw
  rw [hfw] at hr
  have B1 : Hid (Below w.heap.size w w1) := B0.out.trans (hb.mono B0.out.size)
  have X1 : Hid (Wx w1 (w.heap.size) (.int .i64 X.turn) (.int .i64 X.next) (.int .i64 X.wide) (.int .i64 X.high) (.slice p1 X.gs.length q1) (.slice p2 X.os.length q2) (.slice p3 X.gold.length q3) (.slice p4 X.us.length q4) (.slice p5 X.qs.length q5)) := X0.out.below hb X0.out.lt
  have Z1 : Hid (Wx w1 (w.heap.size + 1) (.int .i64 0) (.int .i64 0) (.int .i64 0) (.int .i64 0) (.slice none 0 0) (.slice none 0 0) (.slice none 0 0) (.slice none 0 0) (.slice none 0 0)) := Z0.out.below hb Z0.out.lt
  clear hb hfw x0 x1 x2 x3 x4 x5 x6 x7 x8 X0 B0 Z0
  rcases hr with ⟨rfl, rfl⟩ | ⟨hf, rfl⟩
  case inr =>
    have HF : Hid (fw ≠ 0) := hf
    clear hf
    obtain ⟨z0, z1, z2, z3, z4, z5, z6, z7, z8⟩ := Z1.out.cells
    obtain ⟨t0, t1, t2, t3, t4, t5, t6, t7, t8⟩ := Z1.out.thaws
    have KZ : Hid (Kp (w.heap.size + 1) w1 (((((((((w1.setCell ⟨w.heap.size + 1, 0, none⟩ (.int .i64 0)).setCell ⟨w.heap.size + 1, 1, none⟩ (.int .i64 0)).setCell ⟨w.heap.size + 1, 2, none⟩ (.int .i64 0)).setCell ⟨w.heap.size + 1, 3, none⟩ (.int .i64 0)).setCell ⟨w.heap.size + 1, 4, none⟩ (.slice none 0 0)).setCell ⟨w.heap.size + 1, 5, none⟩ (.slice none 0 0)).setCell ⟨w.heap.size + 1, 6, none⟩ (.slice none 0 0)).setCell ⟨w.heap.size + 1, 7, none⟩ (.slice none 0 0)).setCell ⟨w.heap.size + 1, 8, none⟩ (.slice none 0 0))) := put_kp _ _ _ _ _ _ _ _ _ _ _
    obtain ⟨y0, y1, y2, y3, y4, y5, y6, y7, y8⟩ := (Z1.out.put (.int .i64 0) (.int .i64 0) (.int .i64 0) (.int .i64 0) (.slice none 0 0) (.slice none 0 0) (.slice none 0 0) (.slice none 0 0) (.slice none 0 0)).cells
    go_wp2
    clear z0 z1 z2 z3 z4 z5 z6 z7 z8 t0 t1 t2 t3 t4 t5 t6 t7 t8
    generalize (((((((((w1.setCell ⟨w.heap.size + 1, 0, none⟩ (.int .i64 0)).setCell ⟨w.heap.size + 1, 1, none⟩ (.int .i64 0)).setCell ⟨w.heap.size + 1, 2, none⟩ (.int .i64 0)).setCell ⟨w.heap.size + 1, 3, none⟩ (.int .i64 0)).setCell ⟨w.heap.size + 1, 4, none⟩ (.slice none 0 0)).setCell ⟨w.heap.size + 1, 5, none⟩ (.slice none 0 0)).setCell ⟨w.heap.size + 1, 6, none⟩ (.slice none 0 0)).setCell ⟨w.heap.size + 1, 7, none⟩ (.slice none 0 0)).setCell ⟨w.heap.size + 1, 8, none⟩ (.slice none 0 0)) = w9 at *
    refine bodyPost_ret (v := .tuple #[.agg #[.int .i64 0, .int .i64 0, .int .i64 0, .int .i64 0, .slice none 0 0, .slice none 0 0, .slice none 0 0, .slice none 0 0, .slice none 0 0], .slice none 0 0, .iface 77 (.int .i64 fw)]) (by simp [results, Tryz.results51, go_sem, y0, y1, y2, y3, y4, y5, y6, y7, y8]) rfl ⟨_, _, _, rfl, by rw [FW.out]; exact Er.no HF.out, .inl ⟨by rw [FW.out]; exact HF.out, rfl, rfl⟩, KZ.out.below B1.out B1.out.size (by omega)⟩
  have WR : Hid (WRight ks X) := wright_of FW.out
  obtain ⟨Wn, Hn, e1, e2, G⟩ := WR.out.good
  have GD : Hid (X.wide = (Wn : Nat) ∧ 0 < Wn ∧ Wn ≤ 12) := ⟨e1, G.w1, G.w2⟩
  clear e1 e2 G
  obtain ⟨x0, x1, x2, x3, x4, x5, x6, x7, x8⟩ := X1.out.cells
  go_wp2_with fail
  refine (copy_any _ X w1 (H.out.below B1.out) WR.out.len).mono ?_
  rintro e w2 ⟨cu, rfl, ⟨k1, k2, k3, k4, k5, rfl, ⟨o1, o2, o3, o4, o5⟩, -, -, d14, d15, -, d24, d25, d34, d35, d45⟩, hb⟩
  obtain ⟨a1, r1, rfl⟩ := o1.len
  obtain ⟨a2, r2, rfl⟩ := o2.len
  obtain ⟨a3, r3, rfl⟩ := o3.len
  obtain ⟨a4, r4, rfl⟩ := o4.len
  obtain ⟨a5, r5, rfl⟩ := o5.len
  obtain ⟨b1, hb1⟩ : ∃ z, w1.heap.size = z := ⟨_, rfl⟩
  rw [hb1] at o1 o2 o3 o4 o5
  have BS : Hid (w.heap.size + 1 < b1 ∧ b1 ≤ w2.heap.size) := ⟨by rw [← hb1]; exact Z1.out.lt, by rw [← hb1]; exact hb.size⟩
  have X2 : Hid (Wx w2 (w.heap.size) (.int .i64 X.turn) (.int .i64 X.next) (.int .i64 X.wide) (.int .i64 X.high) (.slice p1 X.gs.length q1) (.slice p2 X.os.length q2) (.slice p3 X.gold.length q3) (.slice p4 X.us.length q4) (.slice p5 X.qs.length q5)) := X1.out.below hb X1.out.lt
  have Z2 : Hid (Wx w2 (w.heap.size + 1) (.int .i64 0) (.int .i64 0) (.int .i64 0) (.int .i64 0) (.slice none 0 0) (.slice none 0 0) (.slice none 0 0) (.slice none 0 0) (.slice none 0 0)) := Z1.out.below hb Z1.out.lt
  have B2 : Hid (Below w.heap.size w w2) := B1.out.trans (hb.mono B1.out.size)
  have O2 : Hid (Ow w2 b1 (Value.slice a1 X.gs.length r1) X.gs ∧ Ow w2 b1 (Value.slice a2 X.os.length r2) X.os ∧ Ow w2 b1 (Value.slice a3 X.gold.length r3) X.gold ∧ Uno w2 b1 (Value.slice a4 X.us.length r4) X.us ∧ Jbo w2 b1 (Value.slice a5 X.qs.length r5) X.qs) := ⟨o1, o2, o3, o4, o5⟩
  have DD : Hid (Dif (Value.slice a1 X.gs.length r1) (Value.slice a4 X.us.length r4) ∧ Dif (Value.slice a1 X.gs.length r1) (Value.slice a5 X.qs.length r5) ∧ Dif (Value.slice a2 X.os.length r2) (Value.slice a4 X.us.length r4) ∧ Dif (Value.slice a2 X.os.length r2) (Value.slice a5 X.qs.length r5) ∧ Dif (Value.slice a3 X.gold.length r3) (Value.slice a4 X.us.length r4) ∧ Dif (Value.slice a3 X.gold.length r3) (Value.slice a5 X.qs.length r5) ∧ Dif (Value.slice a4 X.us.length r4) (Value.slice a5 X.qs.length r5)) := ⟨d14, d15, d24, d25, d34, d35, d45⟩
  clear hb hb1 x0 x1 x2 x3 x4 x5 x6 x7 x8 o1 o2 o3 o4 o5 d14 d15 d24 d25 d34 d35 d45 X1 Z1 B1
  obtain ⟨z0, z1, z2, z3, z4, z5, z6, z7, z8⟩ := X2.out.cells
  obtain ⟨t0, t1, t2, t3, t4, t5, t6, t7, t8⟩ := X2.out.thaws
  have KZ : Hid (Kp (w.heap.size) w2 (((((((((w2.setCell ⟨w.heap.size, 0, none⟩ (.int .i64 X.turn)).setCell ⟨w.heap.size, 1, none⟩ (.int .i64 X.next)).setCell ⟨w.heap.size, 2, none⟩ (.int .i64 X.wide)).setCell ⟨w.heap.size, 3, none⟩ (.int .i64 X.high)).setCell ⟨w.heap.size, 4, none⟩ (Value.slice a1 X.gs.length r1)).setCell ⟨w.heap.size, 5, none⟩ (Value.slice a2 X.os.length r2)).setCell ⟨w.heap.size, 6, none⟩ (Value.slice a3 X.gold.length r3)).setCell ⟨w.heap.size, 7, none⟩ (Value.slice a4 X.us.length r4)).setCell ⟨w.heap.size, 8, none⟩ (Value.slice a5 X.qs.length r5))) := put_kp _ _ _ _ _ _ _ _ _ _ _
  have X3 : Hid (Wx (((((((((w2.setCell ⟨w.heap.size, 0, none⟩ (.int .i64 X.turn)).setCell ⟨w.heap.size, 1, none⟩ (.int .i64 X.next)).setCell ⟨w.heap.size, 2, none⟩ (.int .i64 X.wide)).setCell ⟨w.heap.size, 3, none⟩ (.int .i64 X.high)).setCell ⟨w.heap.size, 4, none⟩ (Value.slice a1 X.gs.length r1)).setCell ⟨w.heap.size, 5, none⟩ (Value.slice a2 X.os.length r2)).setCell ⟨w.heap.size, 6, none⟩ (Value.slice a3 X.gold.length r3)).setCell ⟨w.heap.size, 7, none⟩ (Value.slice a4 X.us.length r4)).setCell ⟨w.heap.size, 8, none⟩ (Value.slice a5 X.qs.length r5)) (w.heap.size) (.int .i64 X.turn) (.int .i64 X.next) (.int .i64 X.wide) (.int .i64 X.high) (Value.slice a1 X.gs.length r1) (Value.slice a2 X.os.length r2) (Value.slice a3 X.gold.length r3) (Value.slice a4 X.us.length r4) (Value.slice a5 X.qs.length r5)) := X2.out.put (.int .i64 X.turn) (.int .i64 X.next) (.int .i64 X.wide) (.int .i64 X.high) (Value.slice a1 X.gs.length r1) (Value.slice a2 X.os.length r2) (Value.slice a3 X.gold.length r3) (Value.slice a4 X.us.length r4) (Value.slice a5 X.qs.length r5)
  go_upto_region 5 with fail
  clear z0 z1 z2 z3 z4 z5 z6 z7 z8 t0 t1 t2 t3 t4 t5 t6 t7 t8
  generalize (((((((((w2.setCell ⟨w.heap.size, 0, none⟩ (.int .i64 X.turn)).setCell ⟨w.heap.size, 1, none⟩ (.int .i64 X.next)).setCell ⟨w.heap.size, 2, none⟩ (.int .i64 X.wide)).setCell ⟨w.heap.size, 3, none⟩ (.int .i64 X.high)).setCell ⟨w.heap.size, 4, none⟩ (Value.slice a1 X.gs.length r1)).setCell ⟨w.heap.size, 5, none⟩ (Value.slice a2 X.os.length r2)).setCell ⟨w.heap.size, 6, none⟩ (Value.slice a3 X.gold.length r3)).setCell ⟨w.heap.size, 7, none⟩ (Value.slice a4 X.us.length r4)).setCell ⟨w.heap.size, 8, none⟩ (Value.slice a5 X.qs.length r5)) = w3 at *
  have Z3 : Hid (Wx w3 (w.heap.size + 1) (.int .i64 0) (.int .i64 0) (.int .i64 0) (.int .i64 0) (.slice none 0 0) (.slice none 0 0) (.slice none 0 0) (.slice none 0 0) (.slice none 0 0)) := Z2.out.kp KZ.out (by omega)
  have B3 : Hid (Below w.heap.size w w3) := KZ.out.below B2.out B2.out.size (Nat.le_refl _)
  have O3 : Hid (Ow w3 b1 (Value.slice a1 X.gs.length r1) X.gs ∧ Ow w3 b1 (Value.slice a2 X.os.length r2) X.os ∧ Ow w3 b1 (Value.slice a3 X.gold.length r3) X.gold ∧ Uno w3 b1 (Value.slice a4 X.us.length r4) X.us ∧ Jbo w3 b1 (Value.slice a5 X.qs.length r5) X.qs) := by
    have h := BS.out.1
    exact ⟨O2.out.1.kp KZ.out (by omega), O2.out.2.1.kp KZ.out (by omega), O2.out.2.2.1.kp KZ.out (by omega), O2.out.2.2.2.1.kp KZ.out (by omega), O2.out.2.2.2.2.kp KZ.out (by omega)⟩
  obtain ⟨b3, hb3⟩ : ∃ z, w3.heap.size = z := ⟨_, rfl⟩
  have S3 : Hid (b1 ≤ b3 ∧ w3.heap.size = b3) := ⟨by rw [← hb3]; exact Nat.le_trans BS.out.2 KZ.out.size, hb3⟩
  have L3 : Hid (Wl w3 (.agg #[.int .i64 X.turn, .int .i64 X.next, .int .i64 X.wide, .int .i64 X.high, Value.slice a1 X.gs.length r1, Value.slice a2 X.os.length r2, Value.slice a3 X.gold.length r3, Value.slice a4 X.us.length r4, Value.slice a5 X.qs.length r5]) X) := ⟨(Value.slice a1 X.gs.length r1), (Value.slice a2 X.os.length r2), (Value.slice a3 X.gold.length r3), (Value.slice a4 X.us.length r4), (Value.slice a5 X.qs.length r5), rfl, O3.out.1.ro, O3.out.2.1.ro, O3.out.2.2.1.ro, O3.out.2.2.2.1.l, O3.out.2.2.2.2.l⟩
  clear hb3 KZ X2 Z2 B2 O2
  obtain ⟨x0, x1, x2, x3, x4, x5, x6, x7, x8⟩ := X3.out.cells
  go_wp2_with fail
  refine (strike_own _ ks X (Value.slice a1 X.gs.length r1) (Value.slice a2 X.os.length r2) (Value.slice a3 X.gold.length r3) (Value.slice a4 X.us.length r4) (Value.slice a5 X.qs.length r5) Wn b1 w3 WR.out GD.out.1 GD.out.2.1 GD.out.2.2 (K.out.1.below B3.out) L3.out O3.out.2.2.2.1).mono ?_
  rintro e w4 ⟨ev, rfl, hev, hu4, hg⟩
  rw [S3.out.2] at hev
  have BG : Hid (Below b1 w3 w4) := (Below.refl _ _).grown hg (by have := S3.out; omega) (fun k hk => (O3.out.2.2.2.1.block k hk).1)
  have X4 : Hid (Wx w4 (w.heap.size) (.int .i64 X.turn) (.int .i64 X.next) (.int .i64 X.wide) (.int .i64 X.high) (Value.slice a1 X.gs.length r1) (Value.slice a2 X.os.length r2) (Value.slice a3 X.gold.length r3) (Value.slice a4 X.us.length r4) (Value.slice a5 X.qs.length r5)) := X3.out.below BG.out (by have := BS.out.1; omega)
  have Z4 : Hid (Wx w4 (w.heap.size + 1) (.int .i64 0) (.int .i64 0) (.int .i64 0) (.int .i64 0) (.slice none 0 0) (.slice none 0 0) (.slice none 0 0) (.slice none 0 0) (.slice none 0 0)) := Z3.out.below BG.out BS.out.1
  have B4 : Hid (Below w.heap.size w w4) := B3.out.trans (BG.out.mono (by have := BS.out.1; omega))
  have O4 : Hid (Ow w4 b1 (Value.slice a1 X.gs.length r1) X.gs ∧ Ow w4 b1 (Value.slice a2 X.os.length r2) X.os ∧ Ow w4 b1 (Value.slice a3 X.gold.length r3) X.gold ∧ Jbo w4 b1 (Value.slice a5 X.qs.length r5) X.qs) := ⟨own_gb O3.out.1 hg (fun b h1 h2 => DD.out.1 b h1 h2), own_gb O3.out.2.1 hg (fun b h1 h2 => DD.out.2.2.1 b h1 h2), own_gb O3.out.2.2.1 hg (fun b h1 h2 => DD.out.2.2.2.2.1 b h1 h2), own_gb O3.out.2.2.2.2 hg (fun b h1 h2 => DD.out.2.2.2.2.2.2 b h2 h1)⟩
  have LB : Hid ((∀ b, (Value.slice a1 X.gs.length r1).ownBlock = some b → b < b3) ∧ (∀ b, (Value.slice a2 X.os.length r2).ownBlock = some b → b < b3) ∧ (∀ b, (Value.slice a3 X.gold.length r3).ownBlock = some b → b < b3) ∧ (∀ b, (Value.slice a4 X.us.length r4).ownBlock = some b → b < b3) ∧ (∀ b, (Value.slice a5 X.qs.length r5).ownBlock = some b → b < b3)) := by
    rw [← S3.out.2]
    exact ⟨fun b h => (O3.out.1.block b h).2, fun b h => (O3.out.2.1.block b h).2, fun b h => (O3.out.2.2.1.block b h).2, fun b h => (O3.out.2.2.2.1.block b h).2, fun b h => (O3.out.2.2.2.2.block b h).2⟩
  obtain ⟨hs, hhs⟩ : ∃ l, struck ks Wn X = l := ⟨_, rfl⟩
  obtain ⟨es, hes⟩ : ∃ l, (strikes ks Wn X.us X.us).2 = l := ⟨_, rfl⟩
  have hu4' : Uno w4 b1 (Value.slice a4 X.us.length r4) (struck ks Wn X) := hu4
  rw [hhs] at hu4'
  rw [hes] at hev
  have U4 : Hid (Uno w4 b1 (Value.slice a4 X.us.length r4) hs) := hu4'
  have E4 : Hid (Evo w4 b3 ev es) := hev
  have HS : Hid (struck ks Wn X = hs ∧ (strikes ks Wn X.us X.us).2 = es ∧ hs.length ≤ 40 ∧ es.length ≤ 40) := by
    have hul := WR.out.ul
    refine ⟨hhs, hes, ?_, ?_⟩
    · rw [← hhs]; unfold struck; rw [hurt_len strikes_len']; exact hul
    · rw [← hes]
      have := strikes_evlen (ks := ks) (W := Wn) (us := X.us) X.us (List.replicate X.us.length 0, [])
      unfold strikes
      simp at this
      omega
  have S4 : Hid (b3 ≤ w4.heap.size) := by have := S3.out.2; have := hg.size; unfold Hid; omega
  have HLN : Hid (hs.length = X.us.length) := by unfold Hid; rw [← HS.out.1]; unfold struck; exact hurt_len strikes_len'
  have hsl : X.us.length ≤ 40 := WR.out.ul
  clear hev hu4 hu4' hg hhs hes x0 x1 x2 x3 x4 x5 x6 x7 x8 X3 Z3 B3 O3 L3 BG
  obtain ⟨-, -, -, -, -, -, -, x7, -⟩ := X4.out.cells
  go_upto_region 8 with fail
  clear x7
  go_loopw [8, 28] (fun v8 v28 V => ∃ (n : Nat) (ev : Value), v28 = .int .i64 (n : Nat) ∧ ev = v8 ∧ n ≤ X.us.length ∧ Evo V b3 ev (es ++ ((hs.take n).filter fallenU).map fellE) ∧ Below b3 w4 V) (fun _ v28 _ => X.us.length - (intOf v28).toNat)
  case atStart => exact ⟨0, _, rfl, rfl, Nat.zero_le _, by simpa using E4.out, Below.refl _ _⟩
  case round =>
    obtain ⟨n, ev', rfl, rfl, hn, hev, hbb⟩ := hrel
    have E5 : Hid (Evo wr b3 ev' (es ++ ((hs.take n).filter fallenU).map fellE)) := hev
    have BB : Hid (Below b3 w4 wr) := hbb
    have UL : Hid (Unl wr (Value.slice a4 X.us.length r4) hs) := Uno.l (own_low U4.out hbb (fun b h => LB.out.2.2.2.1 b h))
    clear hev hbb E4
    by_cases h0 : n = X.us.length
    · subst h0
      rw [List.take_of_length_le (by rw [HLN.out]; exact Nat.le_refl _)] at E5
      have hnl : ¬ (((X.us.length : Nat) : Int) < (X.us.length : Nat)) := by omega
      obtain ⟨fs, hfs⟩ : ∃ l, es ++ (hs.filter fallenU).map fellE = l := ⟨_, rfl⟩
      have FE : Hid (fevents ks Wn X = fs) := by unfold Hid fevents; rw [HS.out.1, HS.out.2.1]; exact hfs
      rw [hfs] at E5
      have U5 : Hid (Uno wr b1 (Value.slice a4 X.us.length r4) hs) := own_low U4.out BB.out (fun b h => LB.out.2.2.2.1 b h)
      have O5 : Hid (Ow wr b1 (Value.slice a1 X.gs.length r1) X.gs ∧ Ow wr b1 (Value.slice a2 X.os.length r2) X.os ∧ Ow wr b1 (Value.slice a3 X.gold.length r3) X.gold ∧ Jbo wr b1 (Value.slice a5 X.qs.length r5) X.qs) := ⟨own_low O4.out.1 BB.out (fun b h => LB.out.1 b h), own_low O4.out.2.1 BB.out (fun b h => LB.out.2.1 b h), own_low O4.out.2.2.1 BB.out (fun b h => LB.out.2.2.1 b h), own_low O4.out.2.2.2 BB.out (fun b h => LB.out.2.2.2.2 b h)⟩
      have X5 : Hid (Wx wr (w.heap.size) (.int .i64 X.turn) (.int .i64 X.next) (.int .i64 X.wide) (.int .i64 X.high) (Value.slice a1 X.gs.length r1) (Value.slice a2 X.os.length r2) (Value.slice a3 X.gold.length r3) (Value.slice a4 X.us.length r4) (Value.slice a5 X.qs.length r5)) := X4.out.below BB.out (by have := BS.out.1; have := S3.out.1; omega)
      have Z5 : Hid (Wx wr (w.heap.size + 1) (.int .i64 0) (.int .i64 0) (.int .i64 0) (.int .i64 0) (.slice none 0 0) (.slice none 0 0) (.slice none 0 0) (.slice none 0 0) (.slice none 0 0)) := Z4.out.below BB.out (by have := BS.out.1; have := S3.out.1; omega)
      have B5 : Hid (Below w.heap.size w wr) := B4.out.trans (BB.out.mono (by have := BS.out.1; have := S3.out.1; omega))
      have S5 : Hid (b1 ≤ wr.heap.size) := by have := S4.out; have := BB.out.size; have := S3.out.1; unfold Hid; omega
      clear hfs UL BB U4 O4 X4 Z4 B4 S4
      obtain ⟨-, -, -, -, -, -, -, x7, -⟩ := X5.out.cells
      go_wp2_with fail
      refine (del_own 78 (by intro args w; go_simp) (Value.slice a4 X.us.length r4) #[] hs fallenU wr b1 U5.out S5.out (by have := HS.out.2.2.1; omega) (fun W _ _ h _ => fallen_fg h W)).mono ?_
      rintro e w6 ⟨v4, rfl, ho, hb, hg, hown⟩
      obtain ⟨st, hst⟩ : ∃ l, hs.filter (fun k => !fallenU k) = l := ⟨_, rfl⟩
      have ST : Hid (stays ks Wn X = st) := by unfold Hid stays; rw [HS.out.1]; exact hst
      rw [hst] at ho
      obtain ⟨a6, r6, rfl⟩ := ho.len
      have U6 : Hid (Uno w6 b1 (.slice a6 st.length r6) st) := ho
      have OB : Hid ((Value.slice a6 st.length r6).ownBlock = ((Value.slice a4 X.us.length r4)).ownBlock) := hown
      have O6 : Hid (Ow w6 b1 (Value.slice a1 X.gs.length r1) X.gs ∧ Ow w6 b1 (Value.slice a2 X.os.length r2) X.os ∧ Ow w6 b1 (Value.slice a3 X.gold.length r3) X.gold ∧ Jbo w6 b1 (Value.slice a5 X.qs.length r5) X.qs) := ⟨own_gb O5.out.1 hg (fun b h1 h2 => DD.out.1 b h1 h2), own_gb O5.out.2.1 hg (fun b h1 h2 => DD.out.2.2.1 b h1 h2), own_gb O5.out.2.2.1 hg (fun b h1 h2 => DD.out.2.2.2.2.1 b h1 h2), own_gb O5.out.2.2.2 hg (fun b h1 h2 => DD.out.2.2.2.2.2.2 b h2 h1)⟩
      have E6 : Hid (Evo w6 b3 ev' fs) := own_gb E5.out hg (fun b h1 h2 => by have := LB.out.2.2.2.1 b h2; have := (E5.out.block b h1).1; omega)
      have X6 : Hid (Wx w6 (w.heap.size) (.int .i64 X.turn) (.int .i64 X.next) (.int .i64 X.wide) (.int .i64 X.high) (Value.slice a1 X.gs.length r1) (Value.slice a2 X.os.length r2) (Value.slice a3 X.gold.length r3) (Value.slice a4 X.us.length r4) (Value.slice a5 X.qs.length r5)) := X5.out.below hb (by have := BS.out.1; omega)
      have Z6 : Hid (Wx w6 (w.heap.size + 1) (.int .i64 0) (.int .i64 0) (.int .i64 0) (.int .i64 0) (.slice none 0 0) (.slice none 0 0) (.slice none 0 0) (.slice none 0 0) (.slice none 0 0)) := Z5.out.below hb BS.out.1
      have B6 : Hid (Below w.heap.size w w6) := B5.out.trans (hb.mono (by have := BS.out.1; omega))
      have S6 : Hid (b1 ≤ w6.heap.size) := Nat.le_trans S5.out hb.size
      clear ho hb hg hown hst x7 U5 O5 X5 Z5 B5 S5 E5
      obtain ⟨-, -, -, -, -, -, -, x7, -⟩ := X6.out.cells
      have t7 := X6.out.thaw 7
      have X7 : Hid (Wx (w6.setCell ⟨w.heap.size, 7, none⟩ (.slice a6 st.length r6)) (w.heap.size) (.int .i64 X.turn) (.int .i64 X.next) (.int .i64 X.wide) (.int .i64 X.high) (Value.slice a1 X.gs.length r1) (Value.slice a2 X.os.length r2) (Value.slice a3 X.gold.length r3) (Value.slice a6 st.length r6) (Value.slice a5 X.qs.length r5)) := X6.out.set7 _
      have K7 : Hid (Kp (w.heap.size) w6 (w6.setCell ⟨w.heap.size, 7, none⟩ (.slice a6 st.length r6))) := Kp.set _ _ _
      go_upto_region 14 with fail
      clear x7 t7
      generalize (w6.setCell ⟨w.heap.size, 7, none⟩ (.slice a6 st.length r6)) = w7 at *
      have U7 : Hid (Uno w7 b1 (.slice a6 st.length r6) st) := U6.out.kp K7.out (by have := BS.out.1; omega)
      have O7 : Hid (Ow w7 b1 (Value.slice a1 X.gs.length r1) X.gs ∧ Ow w7 b1 (Value.slice a2 X.os.length r2) X.os ∧ Ow w7 b1 (Value.slice a3 X.gold.length r3) X.gold ∧ Jbo w7 b1 (Value.slice a5 X.qs.length r5) X.qs) := by
        have h := BS.out.1
        exact ⟨O6.out.1.kp K7.out (by omega), O6.out.2.1.kp K7.out (by omega), O6.out.2.2.1.kp K7.out (by omega), O6.out.2.2.2.kp K7.out (by omega)⟩
      have E7 : Hid (Evo w7 b3 ev' fs) := E6.out.kp9 K7.out (by have := BS.out.1; have := S3.out.1; omega)
      have Z7 : Hid (Wx w7 (w.heap.size + 1) (.int .i64 0) (.int .i64 0) (.int .i64 0) (.int .i64 0) (.slice none 0 0) (.slice none 0 0) (.slice none 0 0) (.slice none 0 0) (.slice none 0 0)) := Z6.out.kp K7.out (by omega)
      have B7 : Hid (Below w.heap.size w w7) := K7.out.below B6.out B6.out.size (Nat.le_refl _)
      have S7 : Hid (b1 ≤ w7.heap.size) := Nat.le_trans S6.out K7.out.size
      clear K7 U6 O6 E6 Z6 B6 S6 X6
      obtain ⟨-, -, -, -, -, -, -, -, x8⟩ := X7.out.cells
      go_wp2_with fail
      refine (delj_own 80 (by intro args w; go_simp) (Value.slice a5 X.qs.length r5) #[.pointer (some ⟨w.heap.size, 0, none⟩)] X.qs (orphanJ st) w7 b1 O7.out.2.2.2 S7.out (by have := WR.out.ql; omega) (fun W hbW hgW j _ => orphan_fg X st j _ _ _ _ _ _ W (wx_bw (X7.out.below hbW (by have := BS.out.1; omega))) (Uno.l (own_gb U7.out hgW (fun b h1 h2 => DD.out.2.2.2.2.2.2 b (by rw [← OB.out]; exact h1) h2))))).mono ?_
      rintro e w8 ⟨v5, rfl, ho, hb, hg, -⟩
      obtain ⟨qs', hqs⟩ : ∃ l, X.qs.filter (fun k => !orphanJ st k) = l := ⟨_, rfl⟩
      have FO : Hid (fought ks Wn X = { X with us := st, qs := qs' }) := by unfold Hid fought; rw [ST.out, hqs]
      rw [hqs] at ho
      obtain ⟨a8, r8, rfl⟩ := ho.len
      have J8 : Hid (Jbo w8 b1 (.slice a8 qs'.length r8) qs') := ho
      have O8 : Hid (Ow w8 b1 (Value.slice a1 X.gs.length r1) X.gs ∧ Ow w8 b1 (Value.slice a2 X.os.length r2) X.os ∧ Ow w8 b1 (Value.slice a3 X.gold.length r3) X.gold ∧ Uno w8 b1 (.slice a6 st.length r6) st) := ⟨own_gb O7.out.1 hg (fun b h1 h2 => DD.out.2.1 b h1 h2), own_gb O7.out.2.1 hg (fun b h1 h2 => DD.out.2.2.2.1 b h1 h2), own_gb O7.out.2.2.1 hg (fun b h1 h2 => DD.out.2.2.2.2.2.1 b h1 h2), own_gb U7.out hg (fun b h1 h2 => DD.out.2.2.2.2.2.2 b (by rw [← OB.out]; exact h1) h2)⟩
      have E8 : Hid (Evo w8 b3 ev' fs) := own_gb E7.out hg (fun b h1 h2 => by have := LB.out.2.2.2.2 b h2; have := (E7.out.block b h1).1; omega)
      have X8 : Hid (Wx w8 (w.heap.size) (.int .i64 X.turn) (.int .i64 X.next) (.int .i64 X.wide) (.int .i64 X.high) (Value.slice a1 X.gs.length r1) (Value.slice a2 X.os.length r2) (Value.slice a3 X.gold.length r3) (Value.slice a6 st.length r6) (Value.slice a5 X.qs.length r5)) := X7.out.below hb (by have := BS.out.1; omega)
      have Z8 : Hid (Wx w8 (w.heap.size + 1) (.int .i64 0) (.int .i64 0) (.int .i64 0) (.int .i64 0) (.slice none 0 0) (.slice none 0 0) (.slice none 0 0) (.slice none 0 0) (.slice none 0 0)) := Z7.out.below hb BS.out.1
      have B8 : Hid (Below w.heap.size w w8) := B7.out.trans (hb.mono (by have := BS.out.1; omega))
      clear ho hb hg hqs x8 U7 O7 X7 Z7 B7 S7 E7
      obtain ⟨-, -, -, -, -, -, -, -, x8⟩ := X8.out.cells
      have t8 := X8.out.thaw 8
      have X9 : Hid (Wx (w8.setCell ⟨w.heap.size, 8, none⟩ (.slice a8 qs'.length r8)) (w.heap.size) (.int .i64 X.turn) (.int .i64 X.next) (.int .i64 X.wide) (.int .i64 X.high) (Value.slice a1 X.gs.length r1) (Value.slice a2 X.os.length r2) (Value.slice a3 X.gold.length r3) (Value.slice a6 st.length r6) (Value.slice a8 qs'.length r8)) := X8.out.set8 _
      have K9 : Hid (Kp (w.heap.size) w8 (w8.setCell ⟨w.heap.size, 8, none⟩ (.slice a8 qs'.length r8))) := Kp.set _ _ _
      go_upto_region 16 with fail
      clear x8 t8
      generalize (w8.setCell ⟨w.heap.size, 8, none⟩ (.slice a8 qs'.length r8)) = w9 at *
      have J9 : Hid (Jbo w9 b1 (.slice a8 qs'.length r8) qs') := J8.out.kp K9.out (by have := BS.out.1; omega)
      have O9 : Hid (Ow w9 b1 (Value.slice a1 X.gs.length r1) X.gs ∧ Ow w9 b1 (Value.slice a2 X.os.length r2) X.os ∧ Ow w9 b1 (Value.slice a3 X.gold.length r3) X.gold ∧ Uno w9 b1 (.slice a6 st.length r6) st) := by
        have h := BS.out.1
        exact ⟨O8.out.1.kp K9.out (by omega), O8.out.2.1.kp K9.out (by omega), O8.out.2.2.1.kp K9.out (by omega), O8.out.2.2.2.kp K9.out (by omega)⟩
      have E9 : Hid (Evo w9 b3 ev' fs) := E8.out.kp9 K9.out (by have := BS.out.1; have := S3.out.1; omega)
      have Z9 : Hid (Wx w9 (w.heap.size + 1) (.int .i64 0) (.int .i64 0) (.int .i64 0) (.int .i64 0) (.slice none 0 0) (.slice none 0 0) (.slice none 0 0) (.slice none 0 0) (.slice none 0 0)) := Z8.out.kp K9.out (by omega)
      have B9 : Hid (Below w.heap.size w w9) := K9.out.below B8.out B8.out.size (Nat.le_refl _)
      clear K9 J8 O8 E8 Z8 B8 X8
      obtain ⟨x0, x1, x2, x3, x4, x5, x6, x7, x8⟩ := X9.out.cells
      obtain ⟨z0, z1, z2, z3, z4, z5, z6, z7, z8⟩ := Z9.out.cells
      obtain ⟨t0, t1, t2, t3, t4, t5, t6, t7, t8⟩ := Z9.out.thaws
      have KZ : Hid (Kp (w.heap.size + 1) w9 (((((((((w9.setCell ⟨w.heap.size + 1, 0, none⟩ (.int .i64 X.turn)).setCell ⟨w.heap.size + 1, 1, none⟩ (.int .i64 X.next)).setCell ⟨w.heap.size + 1, 2, none⟩ (.int .i64 X.wide)).setCell ⟨w.heap.size + 1, 3, none⟩ (.int .i64 X.high)).setCell ⟨w.heap.size + 1, 4, none⟩ (Value.slice a1 X.gs.length r1)).setCell ⟨w.heap.size + 1, 5, none⟩ (Value.slice a2 X.os.length r2)).setCell ⟨w.heap.size + 1, 6, none⟩ (Value.slice a3 X.gold.length r3)).setCell ⟨w.heap.size + 1, 7, none⟩ (Value.slice a6 st.length r6)).setCell ⟨w.heap.size + 1, 8, none⟩ (Value.slice a8 qs'.length r8))) := put_kp _ _ _ _ _ _ _ _ _ _ _
      obtain ⟨y0, y1, y2, y3, y4, y5, y6, y7, y8⟩ := (Z9.out.put (.int .i64 X.turn) (.int .i64 X.next) (.int .i64 X.wide) (.int .i64 X.high) (Value.slice a1 X.gs.length r1) (Value.slice a2 X.os.length r2) (Value.slice a3 X.gold.length r3) (Value.slice a6 st.length r6) (Value.slice a8 qs'.length r8)).cells
      go_wp2
      clear x0 x1 x2 x3 x4 x5 x6 x7 x8 z0 z1 z2 z3 z4 z5 z6 z7 z8 t0 t1 t2 t3 t4 t5 t6 t7 t8
      generalize (((((((((w9.setCell ⟨w.heap.size + 1, 0, none⟩ (.int .i64 X.turn)).setCell ⟨w.heap.size + 1, 1, none⟩ (.int .i64 X.next)).setCell ⟨w.heap.size + 1, 2, none⟩ (.int .i64 X.wide)).setCell ⟨w.heap.size + 1, 3, none⟩ (.int .i64 X.high)).setCell ⟨w.heap.size + 1, 4, none⟩ (Value.slice a1 X.gs.length r1)).setCell ⟨w.heap.size + 1, 5, none⟩ (Value.slice a2 X.os.length r2)).setCell ⟨w.heap.size + 1, 6, none⟩ (Value.slice a3 X.gold.length r3)).setCell ⟨w.heap.size + 1, 7, none⟩ (Value.slice a6 st.length r6)).setCell ⟨w.heap.size + 1, 8, none⟩ (Value.slice a8 qs'.length r8)) = wz at *
      refine bodyPost_ret (v := .tuple #[.agg #[.int .i64 X.turn, .int .i64 X.next, .int .i64 X.wide, .int .i64 X.high, Value.slice a1 X.gs.length r1, Value.slice a2 X.os.length r2, Value.slice a3 X.gold.length r3, Value.slice a6 st.length r6, Value.slice a8 qs'.length r8], ev', .nilIface]) (by simp [results, Tryz.results51, go_sem, y0, y1, y2, y3, y4, y5, y6, y7, y8]) rfl ⟨_, _, _, rfl, by rw [FW.out]; exact Er.nil, .inr ⟨FW.out, Wn, GD.out.1, GD.out.2.1, GD.out.2.2, ?_, ?_⟩, KZ.out.below B9.out B9.out.size (by omega)⟩
      · have h := BS.out.1
        rw [FO.out]
        exact ⟨_, _, _, _, _, rfl, (O9.out.1.kp KZ.out (by omega)).mono (by omega), (O9.out.2.1.kp KZ.out (by omega)).mono (by omega), (O9.out.2.2.1.kp KZ.out (by omega)).mono (by omega), (O9.out.2.2.2.kp KZ.out (by omega)).mono (by omega), (J9.out.kp KZ.out (by omega)).mono (by omega)⟩
      · have h := BS.out.1
        have h' := S3.out.1
        rw [FE.out]
        exact (E9.out.kp9 KZ.out (by omega)).mono (by omega)
    · have hnl : n < X.us.length := by omega
      have hnh : n < hs.length := by rw [HLN.out]; exact hnl
      have hni : ((n : Nat) : Int) < (X.us.length : Nat) := by omega
      obtain ⟨y, hy⟩ : ∃ y, hs[n]? = some y := ⟨_, List.getElem?_eq_getElem hnh⟩
      obtain ⟨a', c', he, -, -, hu⟩ := UL.out
      obtain ⟨xu, hxu, hxl, hxc⟩ := hu (by intro h; rw [h] at hnh; simp at hnh)
      injection he with he1 he2 he3
      subst he1
      subst hxu
      obtain ⟨y0, y1, y2, y3, y4, y5, y6, y7⟩ := hxc n y hy
      have NX := fell_next hy
      have WN : IntKind.i64.wrap ((n : Nat) + 1 : Int) = ((n : Nat) : Int) + 1 := by rw [IntKind.wrap_i64]; omega
      obtain ⟨fs, hfs⟩ : ∃ l, es ++ ((hs.take n).filter fallenU).map fellE = l := ⟨_, rfl⟩
      have FL : Hid (fs.length ≤ 80) := by
        have h1 : ((hs.take n).filter fallenU).length ≤ (hs.take n).length := List.length_filter_le _ _
        have h2 : (hs.take n).length ≤ n := by simp; omega
        have h3 := HS.out.2.2.2
        unfold Hid
        rw [← hfs, List.length_append, List.length_map]
        omega
      have NY : Hid (es ++ ((hs.take (n + 1)).filter fallenU).map fellE = fs ++ (if fallenU y then [fellE y] else [])) := by unfold Hid; rw [NX, ← List.append_assoc, hfs]
      rw [hfs] at E5
      clear hu he2 he3 hxl hxc hy NX hfs
      go_upto_region 10 with fail
      have BA : Hid (Below wr.heap.size wr (wr.alloc (Obj.cells #[.int .i64 y.id, .int .i64 y.player, .int .i64 y.kind, .int .i64 y.at_, .int .i64 y.life, .int .i64 y.load, .int .i64 y.task, .int .i64 y.goal] 44))) := (Below.refl _ _).alloc (Nat.le_refl _) _
      obtain ⟨bu, hbu⟩ : ∃ z, wr.heap.size = z := ⟨_, rfl⟩
      have U6 : Hid (Unc (wr.alloc (Obj.cells #[.int .i64 y.id, .int .i64 y.player, .int .i64 y.kind, .int .i64 y.at_, .int .i64 y.life, .int .i64 y.load, .int .i64 y.task, .int .i64 y.goal] 44)) ⟨bu, 0, none⟩ y) := Unc.mk' y hbu
      rw [hbu]
      generalize (wr.alloc (Obj.cells #[.int .i64 y.id, .int .i64 y.player, .int .i64 y.kind, .int .i64 y.at_, .int .i64 y.life, .int .i64 y.load, .int .i64 y.task, .int .i64 y.goal] 44)) = w6 at *
      have B6 : Hid (Below b3 w4 w6) := BB.out.trans (BA.out.mono (Nat.le_trans S4.out BB.out.size))
      have E6 : Hid (Evo w6 b3 ev' fs) := E5.out.below BA.out
      clear y0 y1 y2 y3 y4 y5 y6 y7 hbu BA BB E5 UL
      obtain ⟨y0, y1, y2, y3, y4, y5, y6, y7⟩ := U6.out
      have FG : Hid (Calls Tryz.prog 78 #[.agg #[.int .i64 y.id, .int .i64 y.player, .int .i64 y.kind, .int .i64 y.at_, .int .i64 y.life, .int .i64 y.load, .int .i64 y.task, .int .i64 y.goal]] w6 fun e w' => e = .returned (.bool (fallenU y)) ∧ Below w6.heap.size w6 w') := by
        have := fallen_fg y w6
        rw [Array.append_empty] at this
        exact this
      go_wp2_with fail
      refine Calls.mono FG.out ?_
      rintro e w7 ⟨rfl, hb⟩
      have B7 : Hid (Below b3 w4 w7) := B6.out.trans (hb.mono (Nat.le_trans S4.out B6.out.size))
      have E7 : Hid (Evo w7 b3 ev' fs) := E6.out.below hb
      have U7 : Hid (Unc w7 ⟨bu, 0, none⟩ y) := U6.out.below hb U6.out.lt
      clear hb y0 y1 y2 y3 y4 y5 y6 y7 FG B6 E6 U6
      cases hfl : fallenU y with
      | false =>
        have NZ : Hid (es ++ ((hs.take (n + 1)).filter fallenU).map fellE = fs) := by unfold Hid; rw [NY.out, hfl]; simp
        clear hfl
        go_wp2
        go_round
        case rel => exact ⟨n + 1, _, by go_num, rfl, by omega, by rw [NZ.out]; exact E7.out, B7.out⟩
        case measure => simp [intOf]; omega
      | true =>
        have NZ : Hid (es ++ ((hs.take (n + 1)).filter fallenU).map fellE = fs ++ [fellE y]) := by unfold Hid; rw [NY.out, hfl]; simp
        clear hfl
        obtain ⟨y0, y1, y2, y3, y4, y5, y6, y7⟩ := U7.out
        have BA : Hid (Below w7.heap.size w7 (w7.alloc (Obj.cells #[.int .i64 3, .int .i64 y.id, .int .i64 0] 73))) := (Below.refl _ _).alloc (Nat.le_refl _) _
        have EC : Hid (Evc (w7.alloc (Obj.cells #[.int .i64 3, .int .i64 y.id, .int .i64 0] 73)) ⟨w7.heap.size, 0, none⟩ (fellE y)) := Evc.mk' (fellE y) rfl
        have E8 : Hid (Evo (w7.alloc (Obj.cells #[.int .i64 3, .int .i64 y.id, .int .i64 0] 73)) b3 ev' fs) := E7.out.below BA.out
        have B8 : Hid (Below b3 w4 (w7.alloc (Obj.cells #[.int .i64 3, .int .i64 y.id, .int .i64 0] 73))) := B7.out.trans (BA.out.mono (Nat.le_trans S4.out B7.out.size))
        have SZ : Hid (b3 ≤ (w7.alloc (Obj.cells #[.int .i64 3, .int .i64 y.id, .int .i64 0] 73)).heap.size) := Nat.le_trans S4.out B8.out.size
        go_wp2_with (at_builtin; refine app_ev _ rfl _ _ rfl b3 _ fs rfl E8.out _ (fellE y) rfl EC.out (by have := FL.out; omega) SZ.out ?_)
        intro gg gc w9 o9 g9 _ _
        have E9 : Hid (Evo w9 b3 (.slice (some ⟨gg, 0, none⟩) (fs.length + 1) gc) (fs ++ [fellE y])) := o9
        have B9 : Hid (Below b3 w4 w9) := B8.out.grown g9 (Nat.le_trans S4.out B8.out.size) (fun k hk => (E8.out.block k hk).1)
        clear o9 g9 y0 y1 y2 y3 y4 y5 y6 y7 BA EC E8 B8 SZ
        go_wp2
        go_round
        case rel => exact ⟨n + 1, _, by go_num, rfl, by omega, by rw [NZ.out]; exact E9.out, B9.out⟩
        case measure => simp [intOf]; omega
end Go.Proofs.YteieikgkmfglaaaGreatDoor

