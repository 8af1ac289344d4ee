/- fight.Fight: all strike at once; who has no Life left is gone. · The reference's Copy. · Worlds: the reference's Find. -/
import Derived.Test.YtagnjmellcibhaaGreatDoorZFightStrikes6
import Derived.Test.YtagnjmellcibhaaGreatDoorZFightStrikes3
import Derived.Test.YtagnjmellcibhaaGreatDoorZFightStrikes2
namespace Go.Proofs.YtagnjmellcibhaaGreatDoor
open Go.RowKit
set_option linter.unusedVariables false

def fellE (u : UnV) : EvV := ⟨3, u.id, 0⟩
/-- who is struck, who stays. -/
def struck (ks : List KV) (Wn : Nat) (X : WV) : List UnV := hurt X.us (strikes ks Wn X.us X.us).1
def stays (ks : List KV) (Wn : Nat) (X : WV) : List UnV := (struck ks Wn X).filter (fun u => !fallenU u)
def fought (ks : List KV) (Wn : Nat) (X : WV) : WV := { X with us := stays ks Wn X, qs := X.qs.filter (fun j => !orphanJ (stays ks Wn X) j) }
def fevents (ks : List KV) (Wn : Nat) (X : WV) : List EvV := (strikes ks Wn X.us X.us).2 ++ ((struck ks Wn X).filter fallenU).map fellE
theorem strikes_evlen {ks : List KV} {W : Nat} {us : List UnV} : ∀ (l : List UnV) (s : List Int × List EvV), (l.foldl (stk ks W us) s).2.length ≤ s.2.length + l.length
  | [], s => Nat.le_refl _
  | u :: l, s => by
    rw [List.foldl_cons]
    have h1 := strikes_evlen (ks := ks) (W := W) (us := us) l (stk ks W us s u)
    have h2 : (stk ks W us s u).2.length ≤ s.2.length + 1 := by
      unfold stk
      split
      · omega
      · simp
    rw [List.length_cons]
    omega
theorem fell_next {hs : List UnV} {n : Nat} {y : UnV} (hy : hs[n]? = some y) : ((hs.take (n + 1)).filter fallenU).map fellE = ((hs.take n).filter fallenU).map fellE ++ (if fallenU y then [fellE y] else []) := by
  obtain ⟨hi, e⟩ := List.getElem?_eq_some_iff.1 hy
  rw [List.take_succ_eq_append_getElem hi, e, List.filter_append, List.map_append]
  cases h : fallenU y <;> simp [h]
/-- what Fight tells. -/
def FightSays (ks : List KV) (X : WV) (w w' : World) (v ev : Value) : Prop :=
  (Wd.wfault ks X ≠ 0 ∧ v = .agg #[.int .i64 0, .int .i64 0, .int .i64 0, .int .i64 0, .slice none 0 0, .slice none 0 0, .slice none 0 0, .slice none 0 0, .slice none 0 0] ∧ ev = .slice none 0 0)
  ∨ (Wd.wfault ks X = 0 ∧ ∃ Wn : Nat, X.wide = (Wn : Nat) ∧ 0 < Wn ∧ Wn ≤ 12 ∧ Wo w' w.heap.size v (fought ks Wn X) ∧ Evo w' w.heap.size ev (fevents ks Wn X))
set_option maxRecDepth 100000 in
set_option maxHeartbeats 16000000 in
theorem Fight_any (vk vw : Value) (ks : List KV) (X : WV) (w : World) (hk : Kl w vk ks) (hb : ∀ k ∈ ks, k.b.size ≤ 9223372036854775807) (hw : Wl w vw X) :
    Calls Tryz.prog 8 #[vk, vw] w fun e w' => ∃ v ev r, e = .returned (.tuple #[v, ev, r]) ∧ Er r (Wd.wfault ks X) ∧ FightSays ks X w w' v ev ∧ Below w.heap.size w w' := by
  have K : Hid (Kl w vk ks ∧ ∀ k ∈ ks, k.b.size ≤ 9223372036854775807) := ⟨hk, hb⟩
  have H : Hid (Wl w vw X) := hw
  obtain ⟨p1, q1, p2, q2, p3, q3, p4, q4, p5, q5, rfl⟩ := wl_shape9 hw
  obtain ⟨pk, qk, rfl, ck1, ck2, kc⟩ := hk
  clear hb hw kc
  go_enter Tryz.func8, Tryz.ntmps8
  go_upto_region 1 with fail
  have B0 : Hid (Below w.heap.size w ((w.alloc (Obj.cells #[.int .i64 X.turn, .int .i64 X.next, .int .i64 X.wide, .int .i64 X.high, .slice p1 X.gs.length q1, .slice p2 X.os.length q2, .slice p3 X.gold.length q3, .slice p4 X.us.length q4, .slice p5 X.qs.length q5] 29)).alloc (Obj.cells #[.int .i64 0, .int .i64 0, .int .i64 0, .int .i64 0, .slice none 0 0, .slice none 0 0, .slice none 0 0, .slice none 0 0, .slice none 0 0] 29))) := ((Below.refl _ _).alloc (Nat.le_refl _) _).alloc (by simp) _
  have X0 : Hid (Wx ((w.alloc (Obj.cells #[.int .i64 X.turn, .int .i64 X.next, .int .i64 X.wide, .int .i64 X.high, .slice p1 X.gs.length q1, .slice p2 X.os.length q2, .slice p3 X.gold.length q3, .slice p4 X.us.length q4, .slice p5 X.qs.length q5] 29)).alloc (Obj.cells #[.int .i64 0, .int .i64 0, .int .i64 0, .int .i64 0, .slice none 0 0, .slice none 0 0, .slice none 0 0, .slice none 0 0, .slice none 0 0] 29)) (w.heap.size) (.int .i64 X.turn) (.int .i64 X.next) (.int .i64 X.wide) (.int .i64 X.high) (.slice p1 X.gs.length q1) (.slice p2 X.os.length q2) (.slice p3 X.gold.length q3) (.slice p4 X.us.length q4) (.slice p5 X.qs.length q5)) := (Wx.new (.int .i64 X.turn) (.int .i64 X.next) (.int .i64 X.wide) (.int .i64 X.high) (.slice p1 X.gs.length q1) (.slice p2 X.os.length q2) (.slice p3 X.gold.length q3) (.slice p4 X.us.length q4) (.slice p5 X.qs.length q5) rfl).below ((Below.refl _ _).alloc (Nat.le_refl _) _) (by simp)
  have Z0 : Hid (Wx ((w.alloc (Obj.cells #[.int .i64 X.turn, .int .i64 X.next, .int .i64 X.wide, .int .i64 X.high, .slice p1 X.gs.length q1, .slice p2 X.os.length q2, .slice p3 X.gold.length q3, .slice p4 X.us.length q4, .slice p5 X.qs.length q5] 29)).alloc (Obj.cells #[.int .i64 0, .int .i64 0, .int .i64 0, .int .i64 0, .slice none 0 0, .slice none 0 0, .slice none 0 0, .slice none 0 0, .slice none 0 0] 29)) (w.heap.size + 1) (.int .i64 0) (.int .i64 0) (.int .i64 0) (.int .i64 0) (.slice none 0 0) (.slice none 0 0) (.slice none 0 0) (.slice none 0 0) (.slice none 0 0)) := Wx.new (.int .i64 0) (.int .i64 0) (.int .i64 0) (.int .i64 0) (.slice none 0 0) (.slice none 0 0) (.slice none 0 0) (.slice none 0 0) (.slice none 0 0) (by simp)
  generalize ((w.alloc (Obj.cells #[.int .i64 X.turn, .int .i64 X.next, .int .i64 X.wide, .int .i64 X.high, .slice p1 X.gs.length q1, .slice p2 X.os.length q2, .slice p3 X.gold.length q3, .slice p4 X.us.length q4, .slice p5 X.qs.length q5] 29)).alloc (Obj.cells #[.int .i64 0, .int .i64 0, .int .i64 0, .int .i64 0, .slice none 0 0, .slice none 0 0, .slice none 0 0, .slice none 0 0, .slice none 0 0] 29)) = w0 at *
  obtain ⟨x0, x1, x2, x3, x4, x5, x6, x7, x8⟩ := X0.out.cells
  go_wp2_with fail
  refine (wcheck_any _ _ ks X w0 (K.out.1.below B0.out) K.out.2 (H.out.below B0.out)).mono ?_
  rintro e w1 ⟨r, rfl, hr, hb⟩
  obtain ⟨fw, hfw⟩ : ∃ f, Wd.wfault ks X = f := ⟨_, rfl⟩
  have FW : Hid (Wd.wfault ks X = fw) := hfw
  rw [hfw] at hr
  have B1 : Hid (Below w.heap.size w w1) := B0.out.trans (hb.mono B0.out.size)
  have X1 : Hid (Wx w1 (w.heap.size) (.int .i64 X.turn) (.int .i64 X.next) (.int .i64 X.wide) (.int .i64 X.high) (.slice p1 X.gs.length q1) (.slice p2 X.os.length q2) (.slice p3 X.gold.length q3) (.slice p4 X.us.length q4) (.slice p5 X.qs.length q5)) := X0.out.below hb X0.out.lt
  have Z1 : Hid (Wx w1 (w.heap.size + 1) (.int .i64 0) (.int .i64 0) (.int .i64 0) (.int .i64 0) (.slice none 0 0) (.slice none 0 0) (.slice none 0 0) (.slice none 0 0) (.slice none 0 0)) := Z0.out.below hb Z0.out.lt
  clear hb hfw x0 x1 x2 x3 x4 x5 x6 x7 x8 X0 B0 Z0
  rcases hr with ⟨rfl, rfl⟩ | ⟨hf, rfl⟩
  case inr =>
    have HF : Hid (fw ≠ 0) := hf
    clear hf
    obtain ⟨z0, z1, z2, z3, z4, z5, z6, z7, z8⟩ := Z1.out.cells
    obtain ⟨t0, t1, t2, t3, t4, t5, t6, t7, t8⟩ := Z1.out.thaws
    have KZ : Hid (Kp (w.heap.size + 1) w1 (((((((((w1.setCell ⟨w.heap.size + 1, 0, none⟩ (.int .i64 0)).setCell ⟨w.heap.size + 1, 1, none⟩ (.int .i64 0)).setCell ⟨w.heap.size + 1, 2, none⟩ (.int .i64 0)).setCell ⟨w.heap.size + 1, 3, none⟩ (.int .i64 0)).setCell ⟨w.heap.size + 1, 4, none⟩ (.slice none 0 0)).setCell ⟨w.heap.size + 1, 5, none⟩ (.slice none 0 0)).setCell ⟨w.heap.size + 1, 6, none⟩ (.slice none 0 0)).setCell ⟨w.heap.size + 1, 7, none⟩ (.slice none 0 0)).setCell ⟨w.heap.size + 1, 8, none⟩ (.slice none 0 0))) := put_kp _ _ _ _ _ _ _ _ _ _ _
    obtain ⟨y0, y1, y2, y3, y4, y5, y6, y7, y8⟩ := (Z1.out.put (.int .i64 0) (.int .i64 0) (.int .i64 0) (.int .i64 0) (.slice none 0 0) (.slice none 0 0) (.slice none 0 0) (.slice none 0 0) (.slice none 0 0)).cells
    go_wp2
    clear z0 z1 z2 z3 z4 z5 z6 z7 z8 t0 t1 t2 t3 t4 t5 t6 t7 t8
    generalize (((((((((w1.setCell ⟨w.heap.size + 1, 0, none⟩ (.int .i64 0)).setCell ⟨w.heap.size + 1, 1, none⟩ (.int .i64 0)).setCell ⟨w.heap.size + 1, 2, none⟩ (.int .i64 0)).setCell ⟨w.heap.size + 1, 3, none⟩ (.int .i64 0)).setCell ⟨w.heap.size + 1, 4, none⟩ (.slice none 0 0)).setCell ⟨w.heap.size + 1, 5, none⟩ (.slice none 0 0)).setCell ⟨w.heap.size + 1, 6, none⟩ (.slice none 0 0)).setCell ⟨w.heap.size + 1, 7, none⟩ (.slice none 0 0)).setCell ⟨w.heap.size + 1, 8, none⟩ (.slice none 0 0)) = w9 at *
    refine bodyPost_ret (v := .tuple #[.agg #[.int .i64 0, .int .i64 0, .int .i64 0, .int .i64 0, .slice none 0 0, .slice none 0 0, .slice none 0 0, .slice none 0 0, .slice none 0 0], .slice none 0 0, .iface 75 (.int .i64 fw)]) (by simp [results, Tryz.results8, go_sem, y0, y1, y2, y3, y4, y5, y6, y7, y8]) rfl ⟨_, _, _, rfl, by rw [FW.out]; exact Er.no HF.out, .inl ⟨by rw [FW.out]; exact HF.out, rfl, rfl⟩, KZ.out.below B1.out B1.out.size (by omega)⟩
  have WR : Hid (WRight ks X) := wright_of FW.out
  obtain ⟨Wn, Hn, e1, e2, G⟩ := WR.out.good
  have GD : Hid (X.wide = (Wn : Nat) ∧ 0 < Wn ∧ Wn ≤ 12) := ⟨e1, G.w1, G.w2⟩
  clear e1 e2 G
  obtain ⟨x0, x1, x2, x3, x4, x5, x6, x7, x8⟩ := X1.out.cells
  go_wp2_with fail
  refine (copy_any _ X w1 (H.out.below B1.out) WR.out.len).mono ?_
  rintro e w2 ⟨cu, rfl, ⟨k1, k2, k3, k4, k5, rfl, ⟨o1, o2, o3, o4, o5⟩, -, -, d14, d15, -, d24, d25, d34, d35, d45⟩, hb⟩
  obtain ⟨a1, r1, rfl⟩ := o1.len
  obtain ⟨a2, r2, rfl⟩ := o2.len
  obtain ⟨a3, r3, rfl⟩ := o3.len
  obtain ⟨a4, r4, rfl⟩ := o4.len
  obtain ⟨a5, r5, rfl⟩ := o5.len
  obtain ⟨b1, hb1⟩ : ∃ z, w1.heap.size = z := ⟨_, rfl⟩
  rw [hb1] at o1 o2 o3 o4 o5
  have BS : Hid (w.heap.size + 1 < b1 ∧ b1 ≤ w2.heap.size) := ⟨by rw [← hb1]; exact Z1.out.lt, by rw [← hb1]; exact hb.size⟩
  have X2 : Hid (Wx w2 (w.heap.size) (.int .i64 X.turn) (.int .i64 X.next) (.int .i64 X.wide) (.int .i64 X.high) (.slice p1 X.gs.length q1) (.slice p2 X.os.length q2) (.slice p3 X.gold.length q3) (.slice p4 X.us.length q4) (.slice p5 X.qs.length q5)) := X1.out.below hb X1.out.lt
  have Z2 : Hid (Wx w2 (w.heap.size + 1) (.int .i64 0) (.int .i64 0) (.int .i64 0) (.int .i64 0) (.slice none 0 0) (.slice none 0 0) (.slice none 0 0) (.slice none 0 0) (.slice none 0 0)) := Z1.out.below hb Z1.out.lt
  have B2 : Hid (Below w.heap.size w w2) := B1.out.trans (hb.mono B1.out.size)
  have O2 : Hid (Ow w2 b1 (Value.slice a1 X.gs.length r1) X.gs ∧ Ow w2 b1 (Value.slice a2 X.os.length r2) X.os ∧ Ow w2 b1 (Value.slice a3 X.gold.length r3) X.gold ∧ Uno w2 b1 (Value.slice a4 X.us.length r4) X.us ∧ Jbo w2 b1 (Value.slice a5 X.qs.length r5) X.qs) := ⟨o1, o2, o3, o4, o5⟩
  have DD : Hid (Dif (Value.slice a1 X.gs.length r1) (Value.slice a4 X.us.length r4) ∧ Dif (Value.slice a1 X.gs.length r1) (Value.slice a5 X.qs.length r5) ∧ Dif (Value.slice a2 X.os.length r2) (Value.slice a4 X.us.length r4) ∧ Dif (Value.slice a2 X.os.length r2) (Value.slice a5 X.qs.length r5) ∧ Dif (Value.slice a3 X.gold.length r3) (Value.slice a4 X.us.length r4) ∧ Dif (Value.slice a3 X.gold.length r3) (Value.slice a5 X.qs.length r5) ∧ Dif (Value.slice a4 X.us.length r4) (Value.slice a5 X.qs.length r5)) := ⟨d14, d15, d24, d25, d34, d35, d45⟩
  clear hb hb1 x0 x1 x2 x3 x4 x5 x6 x7 x8 o1 o2 o3 o4 o5 d14 d15 d24 d25 d34 d35 d45 X1 Z1 B1
  obtain ⟨z0, z1, z2, z3, z4, z5, z6, z7, z8⟩ := X2.out.cells
  obtain ⟨t0, t1, t2, t3, t4, t5, t6, t7, t8⟩ := X2.out.thaws
  have KZ : Hid (Kp (w.heap.size) w2 (((((((((w2.setCell ⟨w.heap.size, 0, none⟩ (.int .i64 X.turn)).setCell ⟨w.heap.size, 1, none⟩ (.int .i64 X.next)).setCell ⟨w.heap.size, 2, none⟩ (.int .i64 X.wide)).setCell ⟨w.heap.size, 3, none⟩ (.int .i64 X.high)).setCell ⟨w.heap.size, 4, none⟩ (Value.slice a1 X.gs.length r1)).setCell ⟨w.heap.size, 5, none⟩ (Value.slice a2 X.os.length r2)).setCell ⟨w.heap.size, 6, none⟩ (Value.slice a3 X.gold.length r3)).setCell ⟨w.heap.size, 7, none⟩ (Value.slice a4 X.us.length r4)).setCell ⟨w.heap.size, 8, none⟩ (Value.slice a5 X.qs.length r5))) := put_kp _ _ _ _ _ _ _ _ _ _ _
  have X3 : Hid (Wx (((((((((w2.setCell ⟨w.heap.size, 0, none⟩ (.int .i64 X.turn)).setCell ⟨w.heap.size, 1, none⟩ (.int .i64 X.next)).setCell ⟨w.heap.size, 2, none⟩ (.int .i64 X.wide)).setCell ⟨w.heap.size, 3, none⟩ (.int .i64 X.high)).setCell ⟨w.heap.size, 4, none⟩ (Value.slice a1 X.gs.length r1)).setCell ⟨w.heap.size, 5, none⟩ (Value.slice a2 X.os.length r2)).setCell ⟨w.heap.size, 6, none⟩ (Value.slice a3 X.gold.length r3)).setCell ⟨w.heap.size, 7, none⟩ (Value.slice a4 X.us.length r4)).setCell ⟨w.heap.size, 8, none⟩ (Value.slice a5 X.qs.length r5)) (w.heap.size) (.int .i64 X.turn) (.int .i64 X.next) (.int .i64 X.wide) (.int .i64 X.high) (Value.slice a1 X.gs.length r1) (Value.slice a2 X.os.length r2) (Value.slice a3 X.gold.length r3) (Value.slice a4 X.us.length r4) (Value.slice a5 X.qs.length r5)) := X2.out.put (.int .i64 X.turn) (.int .i64 X.next) (.int .i64 X.wide) (.int .i64 X.high) (Value.slice a1 X.gs.length r1) (Value.slice a2 X.os.length r2) (Value.slice a3 X.gold.length r3) (Value.slice a4 X.us.length r4) (Value.slice a5 X.qs.length r5)
  go_upto_region 5 with fail
  clear z0 z1 z2 z3 z4 z5 z6 z7 z8 t0 t1 t2 t3 t4 t5 t6 t7 t8
  generalize (((((((((w2.setCell ⟨w.heap.size, 0, none⟩ (.int .i64 X.turn)).setCell ⟨w.heap.size, 1, none⟩ (.int .i64 X.next)).setCell ⟨w.heap.size, 2, none⟩ (.int .i64 X.wide)).setCell ⟨w.heap.size, 3, none⟩ (.int .i64 X.high)).setCell ⟨w.heap.size, 4, none⟩ (Value.slice a1 X.gs.length r1)).setCell ⟨w.heap.size, 5, none⟩ (Value.slice a2 X.os.length r2)).setCell ⟨w.heap.size, 6, none⟩ (Value.slice a3 X.gold.length r3)).setCell ⟨w.heap.size, 7, none⟩ (Value.slice a4 X.us.length r4)).setCell ⟨w.heap.size, 8, none⟩ (Value.slice a5 X.qs.length r5)) = w3 at *
  have Z3 : Hid (Wx w3 (w.heap.size + 1) (.int .i64 0) (.int .i64 0) (.int .i64 0) (.int .i64 0) (.slice none 0 0) (.slice none 0 0) (.slice none 0 0) (.slice none 0 0) (.slice none 0 0)) := Z2.out.kp KZ.out (by omega)
  have B3 : Hid (Below w.heap.size w w3) := KZ.out.below B2.out B2.out.size (Nat.le_refl _)
  have O3 : Hid (Ow w3 b1 (Value.slice a1 X.gs.length r1) X.gs ∧ Ow w3 b1 (Value.slice a2 X.os.length r2) X.os ∧ Ow w3 b1 (Value.slice a3 X.gold.length r3) X.gold ∧ Uno w3 b1 (Value.slice a4 X.us.length r4) X.us ∧ Jbo w3 b1 (Value.slice a5 X.qs.length r5) X.qs) := by
    have h := BS.out.1
    exact ⟨O2.out.1.kp KZ.out (by omega), O2.out.2.1.kp KZ.out (by omega), O2.out.2.2.1.kp KZ.out (by omega), O2.out.2.2.2.1.kp KZ.out (by omega), O2.out.2.2.2.2.kp KZ.out (by omega)⟩
  obtain ⟨b3, hb3⟩ : ∃ z, w3.heap.size = z := ⟨_, rfl⟩
  have S3 : Hid (b1 ≤ b3 ∧ w3.heap.size = b3) := ⟨by rw [← hb3]; exact Nat.le_trans BS.out.2 KZ.out.size, hb3⟩
  have L3 : Hid (Wl w3 (.agg #[.int .i64 X.turn, .int .i64 X.next, .int .i64 X.wide, .int .i64 X.high, Value.slice a1 X.gs.length r1, Value.slice a2 X.os.length r2, Value.slice a3 X.gold.length r3, Value.slice a4 X.us.length r4, Value.slice a5 X.qs.length r5]) X) := ⟨(Value.slice a1 X.gs.length r1), (Value.slice a2 X.os.length r2), (Value.slice a3 X.gold.length r3), (Value.slice a4 X.us.length r4), (Value.slice a5 X.qs.length r5), rfl, O3.out.1.ro, O3.out.2.1.ro, O3.out.2.2.1.ro, O3.out.2.2.2.1.l, O3.out.2.2.2.2.l⟩
  clear hb3 KZ X2 Z2 B2 O2
  obtain ⟨x0, x1, x2, x3, x4, x5, x6, x7, x8⟩ := X3.out.cells
  go_wp2_with fail
  refine (strike_own _ ks X (Value.slice a1 X.gs.length r1) (Value.slice a2 X.os.length r2) (Value.slice a3 X.gold.length r3) (Value.slice a4 X.us.length r4) (Value.slice a5 X.qs.length r5) Wn b1 w3 WR.out GD.out.1 GD.out.2.1 GD.out.2.2 (K.out.1.below B3.out) L3.out O3.out.2.2.2.1).mono ?_
  rintro e w4 ⟨ev, rfl, hev, hu4, hg⟩
  rw [S3.out.2] at hev
  have BG : Hid (Below b1 w3 w4) := (Below.refl _ _).grown hg (by have := S3.out; omega) (fun k hk => (O3.out.2.2.2.1.block k hk).1)
  have X4 : Hid (Wx w4 (w.heap.size) (.int .i64 X.turn) (.int .i64 X.next) (.int .i64 X.wide) (.int .i64 X.high) (Value.slice a1 X.gs.length r1) (Value.slice a2 X.os.length r2) (Value.slice a3 X.gold.length r3) (Value.slice a4 X.us.length r4) (Value.slice a5 X.qs.length r5)) := X3.out.below BG.out (by have := BS.out.1; omega)
  have Z4 : Hid (Wx w4 (w.heap.size + 1) (.int .i64 0) (.int .i64 0) (.int .i64 0) (.int .i64 0) (.slice none 0 0) (.slice none 0 0) (.slice none 0 0) (.slice none 0 0) (.slice none 0 0)) := Z3.out.below BG.out BS.out.1
  have B4 : Hid (Below w.heap.size w w4) := B3.out.trans (BG.out.mono (by have := BS.out.1; omega))
  have O4 : Hid (Ow w4 b1 (Value.slice a1 X.gs.length r1) X.gs ∧ Ow w4 b1 (Value.slice a2 X.os.length r2) X.os ∧ Ow w4 b1 (Value.slice a3 X.gold.length r3) X.gold ∧ Jbo w4 b1 (Value.slice a5 X.qs.length r5) X.qs) := ⟨own_gb O3.out.1 hg (fun b h1 h2 => DD.out.1 b h1 h2), own_gb O3.out.2.1 hg (fun b h1 h2 => DD.out.2.2.1 b h1 h2), own_gb O3.out.2.2.1 hg (fun b h1 h2 => DD.out.2.2.2.2.1 b h1 h2), own_gb O3.out.2.2.2.2 hg (fun b h1 h2 => DD.out.2.2.2.2.2.2 b h2 h1)⟩
  have LB : Hid ((∀ b, (Value.slice a1 X.gs.length r1).ownBlock = some b → b < b3) ∧ (∀ b, (Value.slice a2 X.os.length r2).ownBlock = some b → b < b3) ∧ (∀ b, (Value.slice a3 X.gold.length r3).ownBlock = some b → b < b3) ∧ (∀ b, (Value.slice a4 X.us.length r4).ownBlock = some b → b < b3) ∧ (∀ b, (Value.slice a5 X.qs.length r5).ownBlock = some b → b < b3)) := by
    rw [← S3.out.2]
    exact ⟨fun b h => (O3.out.1.block b h).2, fun b h => (O3.out.2.1.block b h).2, fun b h => (O3.out.2.2.1.block b h).2, fun b h => (O3.out.2.2.2.1.block b h).2, fun b h => (O3.out.2.2.2.2.block b h).2⟩
  obtain ⟨hs, hhs⟩ : ∃ l, struck ks Wn X = l := ⟨_, rfl⟩
  obtain ⟨es, hes⟩ : ∃ l, (strikes ks Wn X.us X.us).2 = l := ⟨_, rfl⟩
  have hu4' : Uno w4 b1 (Value.slice a4 X.us.length r4) (struck ks Wn X) := hu4
  rw [hhs] at hu4'
  rw [hes] at hev
  have U4 : Hid (Uno w4 b1 (Value.slice a4 X.us.length r4) hs) := hu4'
  have E4 : Hid (Evo w4 b3 ev es) := hev
  have HS : Hid (struck ks Wn X = hs ∧ (strikes ks Wn X.us X.us).2 = es ∧ hs.length ≤ 40 ∧ es.length ≤ 40) := by
    have hul := WR.out.ul
    refine ⟨hhs, hes, ?_, ?_⟩
    · rw [← hhs]; unfold struck; rw [hurt_len strikes_len']; exact hul
    · rw [← hes]
      have := strikes_evlen (ks := ks) (W := Wn) (us := X.us) X.us (List.replicate X.us.length 0, [])
      unfold strikes
      simp at this
      omega
  have S4 : Hid (b3 ≤ w4.heap.size) := by have := S3.out.2; have := hg.size; unfold Hid; omega
  have HLN : Hid (hs.length = X.us.length) := by unfold Hid; rw [← HS.out.1]; unfold struck; exact hurt_len strikes_len'
  have hsl : X.us.length ≤ 40 := WR.out.ul
  clear hev hu4 hu4' hg hhs hes x0 x1 x2 x3 x4 x5 x6 x7 x8 X3 Z3 B3 O3 L3 BG
  obtain ⟨-, -, -, -, -, -, -, x7, -⟩ := X4.out.cells
  go_upto_region 8 with fail
  clear x7
  go_loopw [8, 28] (fun v8 v28 V => ∃ (n : Nat) (ev : Value), v28 = .int .i64 (n : Nat) ∧ ev = v8 ∧ n ≤ X.us.length ∧ Evo V b3 ev (es ++ ((hs.take n).filter fallenU).map fellE) ∧ Below b3 w4 V) (fun _ v28 _ => X.us.length - (intOf v28).toNat)
  case atStart => exact ⟨0, _, rfl, rfl, Nat.zero_le _, by simpa using E4.out, Below.refl _ _⟩
  case round =>
    obtain ⟨n, ev', rfl, rfl, hn, hev, hbb⟩ := hrel
    have E5 : Hid (Evo wr b3 ev' (es ++ ((hs.take n).filter fallenU).map fellE)) := hev
    have BB : Hid (Below b3 w4 wr) := hbb
    have UL : Hid (Unl wr (Value.slice a4 X.us.length r4) hs) := Uno.l (own_low U4.out hbb (fun b h => LB.out.2.2.2.1 b h))
    clear hev hbb E4
    by_cases h0 : n = X.us.length
    · subst h0
      rw [List.take_of_length_le (by rw [HLN.out]; exact Nat.le_refl _)] at E5
      have hnl : ¬ (((X.us.length : Nat) : Int) < (X.us.length : Nat)) := by omega
      obtain ⟨fs, hfs⟩ : ∃ l, es ++ (hs.filter fallenU).map fellE = l := ⟨_, rfl⟩
      have FE : Hid (fevents ks Wn X = fs) := by unfold Hid fevents; rw [HS.out.1, HS.out.2.1]; exact hfs
      rw [hfs] at E5
      have U5 : Hid (Uno wr b1 (Value.slice a4 X.us.length r4) hs) := own_low U4.out BB.out (fun b h => LB.out.2.2.2.1 b h)
      have O5 : Hid (Ow wr b1 (Value.slice a1 X.gs.length r1) X.gs ∧ Ow wr b1 (Value.slice a2 X.os.length r2) X.os ∧ Ow wr b1 (Value.slice a3 X.gold.length r3) X.gold ∧ Jbo wr b1 (Value.slice a5 X.qs.length r5) X.qs) := ⟨own_low O4.out.1 BB.out (fun b h => LB.out.1 b h), own_low O4.out.2.1 BB.out (fun b h => LB.out.2.1 b h), own_low O4.out.2.2.1 BB.out (fun b h => LB.out.2.2.1 b h), own_low O4.out.2.2.2 BB.out (fun b h => LB.out.2.2.2.2 b h)⟩
      have X5 : Hid (Wx wr (w.heap.size) (.int .i64 X.turn) (.int .i64 X.next) (.int .i64 X.wide) (.int .i64 X.high) (Value.slice a1 X.gs.length r1) (Value.slice a2 X.os.length r2) (Value.slice a3 X.gold.length r3) (Value.slice a4 X.us.length r4) (Value.slice a5 X.qs.length r5)) := X4.out.below BB.out (by have := BS.out.1; have := S3.out.1; omega)
      have Z5 : Hid (Wx wr (w.heap.size + 1) (.int .i64 0) (.int .i64 0) (.int .i64 0) (.int .i64 0) (.slice none 0 0) (.slice none 0 0) (.slice none 0 0) (.slice none 0 0) (.slice none 0 0)) := Z4.out.below BB.out (by have := BS.out.1; have := S3.out.1; omega)
      have B5 : Hid (Below w.heap.size w wr) := B4.out.trans (BB.out.mono (by have := BS.out.1; have := S3.out.1; omega))
      have S5 : Hid (b1 ≤ wr.heap.size) := by have := S4.out; have := BB.out.size; have := S3.out.1; unfold Hid; omega
      clear hfs UL BB U4 O4 X4 Z4 B4 S4
      obtain ⟨-, -, -, -, -, -, -, x7, -⟩ := X5.out.cells
      go_wp2_with fail
      refine (del_own 34 (by intro args w; go_simp) (Value.slice a4 X.us.length r4) #[] hs fallenU wr b1 U5.out S5.out (by have := HS.out.2.2.1; omega) (fun W _ _ h _ => fallen_fg h W)).mono ?_
      rintro e w6 ⟨v4, rfl, ho, hb, hg, hown⟩
      obtain ⟨st, hst⟩ : ∃ l, hs.filter (fun k => !fallenU k) = l := ⟨_, rfl⟩
      have ST : Hid (stays ks Wn X = st) := by unfold Hid stays; rw [HS.out.1]; exact hst
      rw [hst] at ho
      obtain ⟨a6, r6, rfl⟩ := ho.len
      have U6 : Hid (Uno w6 b1 (.slice a6 st.length r6) st) := ho
      have OB : Hid ((Value.slice a6 st.length r6).ownBlock = ((Value.slice a4 X.us.length r4)).ownBlock) := hown
      have O6 : Hid (Ow w6 b1 (Value.slice a1 X.gs.length r1) X.gs ∧ Ow w6 b1 (Value.slice a2 X.os.length r2) X.os ∧ Ow w6 b1 (Value.slice a3 X.gold.length r3) X.gold ∧ Jbo w6 b1 (Value.slice a5 X.qs.length r5) X.qs) := ⟨own_gb O5.out.1 hg (fun b h1 h2 => DD.out.1 b h1 h2), own_gb O5.out.2.1 hg (fun b h1 h2 => DD.out.2.2.1 b h1 h2), own_gb O5.out.2.2.1 hg (fun b h1 h2 => DD.out.2.2.2.2.1 b h1 h2), own_gb O5.out.2.2.2 hg (fun b h1 h2 => DD.out.2.2.2.2.2.2 b h2 h1)⟩
      have E6 : Hid (Evo w6 b3 ev' fs) := own_gb E5.out hg (fun b h1 h2 => by have := LB.out.2.2.2.1 b h2; have := (E5.out.block b h1).1; omega)
      have X6 : Hid (Wx w6 (w.heap.size) (.int .i64 X.turn) (.int .i64 X.next) (.int .i64 X.wide) (.int .i64 X.high) (Value.slice a1 X.gs.length r1) (Value.slice a2 X.os.length r2) (Value.slice a3 X.gold.length r3) (Value.slice a4 X.us.length r4) (Value.slice a5 X.qs.length r5)) := X5.out.below hb (by have := BS.out.1; omega)
      have Z6 : Hid (Wx w6 (w.heap.size + 1) (.int .i64 0) (.int .i64 0) (.int .i64 0) (.int .i64 0) (.slice none 0 0) (.slice none 0 0) (.slice none 0 0) (.slice none 0 0) (.slice none 0 0)) := Z5.out.below hb BS.out.1
      have B6 : Hid (Below w.heap.size w w6) := B5.out.trans (hb.mono (by have := BS.out.1; omega))
      have S6 : Hid (b1 ≤ w6.heap.size) := Nat.le_trans S5.out hb.size
      clear ho hb hg hown hst x7 U5 O5 X5 Z5 B5 S5 E5
      obtain ⟨-, -, -, -, -, -, -, x7, -⟩ := X6.out.cells
      have t7 := X6.out.thaw 7
      have X7 : Hid (Wx (w6.setCell ⟨w.heap.size, 7, none⟩ (.slice a6 st.length r6)) (w.heap.size) (.int .i64 X.turn) (.int .i64 X.next) (.int .i64 X.wide) (.int .i64 X.high) (Value.slice a1 X.gs.length r1) (Value.slice a2 X.os.length r2) (Value.slice a3 X.gold.length r3) (Value.slice a6 st.length r6) (Value.slice a5 X.qs.length r5)) := X6.out.set7 _
      have K7 : Hid (Kp (w.heap.size) w6 (w6.setCell ⟨w.heap.size, 7, none⟩ (.slice a6 st.length r6))) := Kp.set _ _ _
      go_upto_region 14 with fail
      clear x7 t7
      generalize (w6.setCell ⟨w.heap.size, 7, none⟩ (.slice a6 st.length r6)) = w7 at *
      have U7 : Hid (Uno w7 b1 (.slice a6 st.length r6) st) := U6.out.kp K7.out (by have := BS.out.1; omega)
      have O7 : Hid (Ow w7 b1 (Value.slice a1 X.gs.length r1) X.gs ∧ Ow w7 b1 (Value.slice a2 X.os.length r2) X.os ∧ Ow w7 b1 (Value.slice a3 X.gold.length r3) X.gold ∧ Jbo w7 b1 (Value.slice a5 X.qs.length r5) X.qs) := by
        have h := BS.out.1
        exact ⟨O6.out.1.kp K7.out (by omega), O6.out.2.1.kp K7.out (by omega), O6.out.2.2.1.kp K7.out (by omega), O6.out.2.2.2.kp K7.out (by omega)⟩
      have E7 : Hid (Evo w7 b3 ev' fs) := E6.out.kp9 K7.out (by have := BS.out.1; have := S3.out.1; omega)
      have Z7 : Hid (Wx w7 (w.heap.size + 1) (.int .i64 0) (.int .i64 0) (.int .i64 0) (.int .i64 0) (.slice none 0 0) (.slice none 0 0) (.slice none 0 0) (.slice none 0 0) (.slice none 0 0)) := Z6.out.kp K7.out (by omega)
      have B7 : Hid (Below w.heap.size w w7) := K7.out.below B6.out B6.out.size (Nat.le_refl _)
      have S7 : Hid (b1 ≤ w7.heap.size) := Nat.le_trans S6.out K7.out.size
      clear K7 U6 O6 E6 Z6 B6 S6 X6
      obtain ⟨-, -, -, -, -, -, -, -, x8⟩ := X7.out.cells
      go_wp2_with fail
      refine (delj_own 36 (by intro args w; go_simp) (Value.slice a5 X.qs.length r5) #[.pointer (some ⟨w.heap.size, 0, none⟩)] X.qs (orphanJ st) w7 b1 O7.out.2.2.2 S7.out (by have := WR.out.ql; omega) (fun W hbW hgW j _ => orphan_fg X st j _ _ _ _ _ _ W (wx_bw (X7.out.below hbW (by have := BS.out.1; omega))) (Uno.l (own_gb U7.out hgW (fun b h1 h2 => DD.out.2.2.2.2.2.2 b (by rw [← OB.out]; exact h1) h2))))).mono ?_
      rintro e w8 ⟨v5, rfl, ho, hb, hg, -⟩
      obtain ⟨qs', hqs⟩ : ∃ l, X.qs.filter (fun k => !orphanJ st k) = l := ⟨_, rfl⟩
      have FO : Hid (fought ks Wn X = { X with us := st, qs := qs' }) := by unfold Hid fought; rw [ST.out, hqs]
      rw [hqs] at ho
      obtain ⟨a8, r8, rfl⟩ := ho.len
      have J8 : Hid (Jbo w8 b1 (.slice a8 qs'.length r8) qs') := ho
      have O8 : Hid (Ow w8 b1 (Value.slice a1 X.gs.length r1) X.gs ∧ Ow w8 b1 (Value.slice a2 X.os.length r2) X.os ∧ Ow w8 b1 (Value.slice a3 X.gold.length r3) X.gold ∧ Uno w8 b1 (.slice a6 st.length r6) st) := ⟨own_gb O7.out.1 hg (fun b h1 h2 => DD.out.2.1 b h1 h2), own_gb O7.out.2.1 hg (fun b h1 h2 => DD.out.2.2.2.1 b h1 h2), own_gb O7.out.2.2.1 hg (fun b h1 h2 => DD.out.2.2.2.2.2.1 b h1 h2), own_gb U7.out hg (fun b h1 h2 => DD.out.2.2.2.2.2.2 b (by rw [← OB.out]; exact h1) h2)⟩
      have E8 : Hid (Evo w8 b3 ev' fs) := own_gb E7.out hg (fun b h1 h2 => by have := LB.out.2.2.2.2 b h2; have := (E7.out.block b h1).1; omega)
      have X8 : Hid (Wx w8 (w.heap.size) (.int .i64 X.turn) (.int .i64 X.next) (.int .i64 X.wide) (.int .i64 X.high) (Value.slice a1 X.gs.length r1) (Value.slice a2 X.os.length r2) (Value.slice a3 X.gold.length r3) (Value.slice a6 st.length r6) (Value.slice a5 X.qs.length r5)) := X7.out.below hb (by have := BS.out.1; omega)
      have Z8 : Hid (Wx w8 (w.heap.size + 1) (.int .i64 0) (.int .i64 0) (.int .i64 0) (.int .i64 0) (.slice none 0 0) (.slice none 0 0) (.slice none 0 0) (.slice none 0 0) (.slice none 0 0)) := Z7.out.below hb BS.out.1
      have B8 : Hid (Below w.heap.size w w8) := B7.out.trans (hb.mono (by have := BS.out.1; omega))
      clear ho hb hg hqs x8 U7 O7 X7 Z7 B7 S7 E7
      obtain ⟨-, -, -, -, -, -, -, -, x8⟩ := X8.out.cells
      have t8 := X8.out.thaw 8
      have X9 : Hid (Wx (w8.setCell ⟨w.heap.size, 8, none⟩ (.slice a8 qs'.length r8)) (w.heap.size) (.int .i64 X.turn) (.int .i64 X.next) (.int .i64 X.wide) (.int .i64 X.high) (Value.slice a1 X.gs.length r1) (Value.slice a2 X.os.length r2) (Value.slice a3 X.gold.length r3) (Value.slice a6 st.length r6) (Value.slice a8 qs'.length r8)) := X8.out.set8 _
      have K9 : Hid (Kp (w.heap.size) w8 (w8.setCell ⟨w.heap.size, 8, none⟩ (.slice a8 qs'.length r8))) := Kp.set _ _ _
      go_upto_region 16 with fail
      clear x8 t8
      generalize (w8.setCell ⟨w.heap.size, 8, none⟩ (.slice a8 qs'.length r8)) = w9 at *
      have J9 : Hid (Jbo w9 b1 (.slice a8 qs'.length r8) qs') := J8.out.kp K9.out (by have := BS.out.1; omega)
      have O9 : Hid (Ow w9 b1 (Value.slice a1 X.gs.length r1) X.gs ∧ Ow w9 b1 (Value.slice a2 X.os.length r2) X.os ∧ Ow w9 b1 (Value.slice a3 X.gold.length r3) X.gold ∧ Uno w9 b1 (.slice a6 st.length r6) st) := by
        have h := BS.out.1
        exact ⟨O8.out.1.kp K9.out (by omega), O8.out.2.1.kp K9.out (by omega), O8.out.2.2.1.kp K9.out (by omega), O8.out.2.2.2.kp K9.out (by omega)⟩
      have E9 : Hid (Evo w9 b3 ev' fs) := E8.out.kp9 K9.out (by have := BS.out.1; have := S3.out.1; omega)
      have Z9 : Hid (Wx w9 (w.heap.size + 1) (.int .i64 0) (.int .i64 0) (.int .i64 0) (.int .i64 0) (.slice none 0 0) (.slice none 0 0) (.slice none 0 0) (.slice none 0 0) (.slice none 0 0)) := Z8.out.kp K9.out (by omega)
      have B9 : Hid (Below w.heap.size w w9) := K9.out.below B8.out B8.out.size (Nat.le_refl _)
      clear K9 J8 O8 E8 Z8 B8 X8
      obtain ⟨x0, x1, x2, x3, x4, x5, x6, x7, x8⟩ := X9.out.cells
      obtain ⟨z0, z1, z2, z3, z4, z5, z6, z7, z8⟩ := Z9.out.cells
      obtain ⟨t0, t1, t2, t3, t4, t5, t6, t7, t8⟩ := Z9.out.thaws
      have KZ : Hid (Kp (w.heap.size + 1) w9 (((((((((w9.setCell ⟨w.heap.size + 1, 0, none⟩ (.int .i64 X.turn)).setCell ⟨w.heap.size + 1, 1, none⟩ (.int .i64 X.next)).setCell ⟨w.heap.size + 1, 2, none⟩ (.int .i64 X.wide)).setCell ⟨w.heap.size + 1, 3, none⟩ (.int .i64 X.high)).setCell ⟨w.heap.size + 1, 4, none⟩ (Value.slice a1 X.gs.length r1)).setCell ⟨w.heap.size + 1, 5, none⟩ (Value.slice a2 X.os.length r2)).setCell ⟨w.heap.size + 1, 6, none⟩ (Value.slice a3 X.gold.length r3)).setCell ⟨w.heap.size + 1, 7, none⟩ (Value.slice a6 st.length r6)).setCell ⟨w.heap.size + 1, 8, none⟩ (Value.slice a8 qs'.length r8))) := put_kp _ _ _ _ _ _ _ _ _ _ _
      obtain ⟨y0, y1, y2, y3, y4, y5, y6, y7, y8⟩ := (Z9.out.put (.int .i64 X.turn) (.int .i64 X.next) (.int .i64 X.wide) (.int .i64 X.high) (Value.slice a1 X.gs.length r1) (Value.slice a2 X.os.length r2) (Value.slice a3 X.gold.length r3) (Value.slice a6 st.length r6) (Value.slice a8 qs'.length r8)).cells
      go_wp2
      clear x0 x1 x2 x3 x4 x5 x6 x7 x8 z0 z1 z2 z3 z4 z5 z6 z7 z8 t0 t1 t2 t3 t4 t5 t6 t7 t8
      generalize (((((((((w9.setCell ⟨w.heap.size + 1, 0, none⟩ (.int .i64 X.turn)).setCell ⟨w.heap.size + 1, 1, none⟩ (.int .i64 X.next)).setCell ⟨w.heap.size + 1, 2, none⟩ (.int .i64 X.wide)).setCell ⟨w.heap.size + 1, 3, none⟩ (.int .i64 X.high)).setCell ⟨w.heap.size + 1, 4, none⟩ (Value.slice a1 X.gs.length r1)).setCell ⟨w.heap.size + 1, 5, none⟩ (Value.slice a2 X.os.length r2)).setCell ⟨w.heap.size + 1, 6, none⟩ (Value.slice a3 X.gold.length r3)).setCell ⟨w.heap.size + 1, 7, none⟩ (Value.slice a6 st.length r6)).setCell ⟨w.heap.size + 1, 8, none⟩ (Value.slice a8 qs'.length r8)) = wz at *
      refine bodyPost_ret (v := .tuple #[.agg #[.int .i64 X.turn, .int .i64 X.next, .int .i64 X.wide, .int .i64 X.high, Value.slice a1 X.gs.length r1, Value.slice a2 X.os.length r2, Value.slice a3 X.gold.length r3, Value.slice a6 st.length r6, Value.slice a8 qs'.length r8], ev', .nilIface]) (by simp [results, Tryz.results8, go_sem, y0, y1, y2, y3, y4, y5, y6, y7, y8]) rfl ⟨_, _, _, rfl, by rw [FW.out]; exact Er.nil, .inr ⟨FW.out, Wn, GD.out.1, GD.out.2.1, GD.out.2.2, ?_, ?_⟩, KZ.out.below B9.out B9.out.size (by omega)⟩
      · have h := BS.out.1
        rw [FO.out]
        exact ⟨_, _, _, _, _, rfl, (O9.out.1.kp KZ.out (by omega)).mono (by omega), (O9.out.2.1.kp KZ.out (by omega)).mono (by omega), (O9.out.2.2.1.kp KZ.out (by omega)).mono (by omega), (O9.out.2.2.2.kp KZ.out (by omega)).mono (by omega), (J9.out.kp KZ.out (by omega)).mono (by omega)⟩
      · have h := BS.out.1
        have h' := S3.out.1
        rw [FE.out]
        exact (E9.out.kp9 KZ.out (by omega)).mono (by omega)
    · have hnl : n < X.us.length := by omega
      have hnh : n < hs.length := by rw [HLN.out]; exact hnl
      have hni : ((n : Nat) : Int) < (X.us.length : Nat) := by omega
      obtain ⟨y, hy⟩ : ∃ y, hs[n]? = some y := ⟨_, List.getElem?_eq_getElem hnh⟩
      obtain ⟨a', c', he, -, -, hu⟩ := UL.out
      obtain ⟨xu, hxu, hxl, hxc⟩ := hu (by intro h; rw [h] at hnh; simp at hnh)
      injection he with he1 he2 he3
      subst he1
      subst hxu
      obtain ⟨y0, y1, y2, y3, y4, y5, y6, y7⟩ := hxc n y hy
      have NX := fell_next hy
      have WN : IntKind.i64.wrap ((n : Nat) + 1 : Int) = ((n : Nat) : Int) + 1 := by rw [IntKind.wrap_i64]; omega
      obtain ⟨fs, hfs⟩ : ∃ l, es ++ ((hs.take n).filter fallenU).map fellE = l := ⟨_, rfl⟩
      have FL : Hid (fs.length ≤ 80) := by
        have h1 : ((hs.take n).filter fallenU).length ≤ (hs.take n).length := List.length_filter_le _ _
        have h2 : (hs.take n).length ≤ n := by simp; omega
        have h3 := HS.out.2.2.2
        unfold Hid
        rw [← hfs, List.length_append, List.length_map]
        omega
      have NY : Hid (es ++ ((hs.take (n + 1)).filter fallenU).map fellE = fs ++ (if fallenU y then [fellE y] else [])) := by unfold Hid; rw [NX, ← List.append_assoc, hfs]
      rw [hfs] at E5
      clear hu he2 he3 hxl hxc hy NX hfs
      go_upto_region 10 with fail
      have BA : Hid (Below wr.heap.size wr (wr.alloc (Obj.cells #[.int .i64 y.id, .int .i64 y.player, .int .i64 y.kind, .int .i64 y.at_, .int .i64 y.life, .int .i64 y.load, .int .i64 y.task, .int .i64 y.goal] 59))) := (Below.refl _ _).alloc (Nat.le_refl _) _
      obtain ⟨bu, hbu⟩ : ∃ z, wr.heap.size = z := ⟨_, rfl⟩
      have U6 : Hid (Unc (wr.alloc (Obj.cells #[.int .i64 y.id, .int .i64 y.player, .int .i64 y.kind, .int .i64 y.at_, .int .i64 y.life, .int .i64 y.load, .int .i64 y.task, .int .i64 y.goal] 59)) ⟨bu, 0, none⟩ y) := Unc.mk' y hbu
      rw [hbu]
      generalize (wr.alloc (Obj.cells #[.int .i64 y.id, .int .i64 y.player, .int .i64 y.kind, .int .i64 y.at_, .int .i64 y.life, .int .i64 y.load, .int .i64 y.task, .int .i64 y.goal] 59)) = w6 at *
      have B6 : Hid (Below b3 w4 w6) := BB.out.trans (BA.out.mono (Nat.le_trans S4.out BB.out.size))
      have E6 : Hid (Evo w6 b3 ev' fs) := E5.out.below BA.out
      clear y0 y1 y2 y3 y4 y5 y6 y7 hbu BA BB E5 UL
      obtain ⟨y0, y1, y2, y3, y4, y5, y6, y7⟩ := U6.out
      have FG : Hid (Calls Tryz.prog 34 #[.agg #[.int .i64 y.id, .int .i64 y.player, .int .i64 y.kind, .int .i64 y.at_, .int .i64 y.life, .int .i64 y.load, .int .i64 y.task, .int .i64 y.goal]] w6 fun e w' => e = .returned (.bool (fallenU y)) ∧ Below w6.heap.size w6 w') := by
        have := fallen_fg y w6
        rw [Array.append_empty] at this
        exact this
      go_wp2_with fail
      refine Calls.mono FG.out ?_
      rintro e w7 ⟨rfl, hb⟩
      have B7 : Hid (Below b3 w4 w7) := B6.out.trans (hb.mono (Nat.le_trans S4.out B6.out.size))
      have E7 : Hid (Evo w7 b3 ev' fs) := E6.out.below hb
      have U7 : Hid (Unc w7 ⟨bu, 0, none⟩ y) := U6.out.below hb U6.out.lt
      clear hb y0 y1 y2 y3 y4 y5 y6 y7 FG B6 E6 U6
      cases hfl : fallenU y with
      | false =>
        have NZ : Hid (es ++ ((hs.take (n + 1)).filter fallenU).map fellE = fs) := by unfold Hid; rw [NY.out, hfl]; simp
        clear hfl
        go_wp2
        go_round
        case rel => exact ⟨n + 1, _, by go_num, rfl, by omega, by rw [NZ.out]; exact E7.out, B7.out⟩
        case measure => simp [intOf]; omega
      | true =>
        have NZ : Hid (es ++ ((hs.take (n + 1)).filter fallenU).map fellE = fs ++ [fellE y]) := by unfold Hid; rw [NY.out, hfl]; simp
        clear hfl
        obtain ⟨y0, y1, y2, y3, y4, y5, y6, y7⟩ := U7.out
        have BA : Hid (Below w7.heap.size w7 (w7.alloc (Obj.cells #[.int .i64 3, .int .i64 y.id, .int .i64 0] 68))) := (Below.refl _ _).alloc (Nat.le_refl _) _
        have EC : Hid (Evc (w7.alloc (Obj.cells #[.int .i64 3, .int .i64 y.id, .int .i64 0] 68)) ⟨w7.heap.size, 0, none⟩ (fellE y)) := Evc.mk' (fellE y) rfl
        have E8 : Hid (Evo (w7.alloc (Obj.cells #[.int .i64 3, .int .i64 y.id, .int .i64 0] 68)) b3 ev' fs) := E7.out.below BA.out
        have B8 : Hid (Below b3 w4 (w7.alloc (Obj.cells #[.int .i64 3, .int .i64 y.id, .int .i64 0] 68))) := B7.out.trans (BA.out.mono (Nat.le_trans S4.out B7.out.size))
        have SZ : Hid (b3 ≤ (w7.alloc (Obj.cells #[.int .i64 3, .int .i64 y.id, .int .i64 0] 68)).heap.size) := Nat.le_trans S4.out B8.out.size
        go_wp2_with (at_builtin; refine app_ev _ rfl _ _ rfl b3 _ fs rfl E8.out _ (fellE y) rfl EC.out (by have := FL.out; omega) SZ.out ?_)
        intro gg gc w9 o9 g9 _ _
        have E9 : Hid (Evo w9 b3 (.slice (some ⟨gg, 0, none⟩) (fs.length + 1) gc) (fs ++ [fellE y])) := o9
        have B9 : Hid (Below b3 w4 w9) := B8.out.grown g9 (Nat.le_trans S4.out B8.out.size) (fun k hk => (E8.out.block k hk).1)
        clear o9 g9 y0 y1 y2 y3 y4 y5 y6 y7 BA EC E8 B8 SZ
        go_wp2
        go_round
        case rel => exact ⟨n + 1, _, by go_num, rfl, by omega, by rw [NZ.out]; exact E9.out, B9.out⟩
        case measure => simp [intOf]; omega
end Go.Proofs.YtagnjmellcibhaaGreatDoor

namespace Go.Proofs.YtagnjmellcibhaaGreatDoor
open Go.RowKit
set_option linter.unusedVariables false

/-- a field's four cells, in a block of their own. -/
def Fx (w : World) (z : Nat) (c0 c1 c2 c3 : Value) : Prop := w.heap[z]? = some (.cells #[c0, c1, c2, c3] 25 (0, 0))
theorem Fx.lt {w : World} {z : Nat} {c0 c1 c2 c3 : Value} (h : Fx w z c0 c1 c2 c3) : z < w.heap.size := lt_of_block h
theorem Fx.cells {w : World} {z : Nat} {c0 c1 c2 c3 : Value} (h : Fx w z c0 c1 c2 c3) : w.cell? ⟨z, 0, none⟩ = some c0 ∧ w.cell? ⟨z, 1, none⟩ = some c1 ∧ w.cell? ⟨z, 2, none⟩ = some c2 ∧ w.cell? ⟨z, 3, none⟩ = some c3 := by
  unfold Fx at h
  refine ⟨?_, ?_, ?_, ?_⟩ <;> simp [World.cell?, h]
theorem Fx.thaw {w : World} {z : Nat} {c0 c1 c2 c3 : Value} (h : Fx w z c0 c1 c2 c3) (i : Nat) : w.frozen? ⟨z, i, none⟩ = false := by
  unfold Fx at h
  simp [World.frozen?, h]
theorem Fx.new {w : World} {z : Nat} (c0 c1 c2 c3 : Value) (hz : w.heap.size = z) : Fx (w.alloc (.cells #[c0, c1, c2, c3] 25)) z c0 c1 c2 c3 := by
  subst hz
  exact heap_alloc_new _ _
theorem Fx.below {w w' : World} {z n : Nat} {c0 c1 c2 c3 : Value} (h : Fx w z c0 c1 c2 c3) (hb : Below n w w') (hn : z < n) : Fx w' z c0 c1 c2 c3 := (hb.block z hn).trans h
theorem Fx.kp {w w' : World} {z y : Nat} {c0 c1 c2 c3 : Value} (h : Fx w z c0 c1 c2 c3) (k : Kp y w w') (hn : z ≠ y) : Fx w' z c0 c1 c2 c3 := (k.block z h.lt hn).trans h
theorem Fx.set0 {w : World} {z : Nat} {c0 c1 c2 c3 : Value} (h : Fx w z c0 c1 c2 c3) (u : Value) : Fx (w.setCell ⟨z, 0, none⟩ u) z u c1 c2 c3 := heap_setCell_same w z 0 _ _ u h
theorem Fx.set1 {w : World} {z : Nat} {c0 c1 c2 c3 : Value} (h : Fx w z c0 c1 c2 c3) (u : Value) : Fx (w.setCell ⟨z, 1, none⟩ u) z c0 u c2 c3 := heap_setCell_same w z 1 _ _ u h
theorem Fx.set2 {w : World} {z : Nat} {c0 c1 c2 c3 : Value} (h : Fx w z c0 c1 c2 c3) (u : Value) : Fx (w.setCell ⟨z, 2, none⟩ u) z c0 c1 u c3 := heap_setCell_same w z 2 _ _ u h
theorem Fx.set3 {w : World} {z : Nat} {c0 c1 c2 c3 : Value} (h : Fx w z c0 c1 c2 c3) (u : Value) : Fx (w.setCell ⟨z, 3, none⟩ u) z c0 c1 c2 u := heap_setCell_same w z 3 _ _ u h
theorem owns_kpn {z : Nat} {w w' : World} {base : Nat} {T : TypeId} {size : Nat} {u : Value} {n : Nat} {cs : List Value} (h : w.ownsRow base T size u n cs) (k : Kp z w w') (hz : ∀ b, u.ownBlock = some b → b ≠ z) : w'.ownsRow base T size u n cs := by
  refine ⟨h.1, ?_⟩
  rcases h.2 with h1 | ⟨g, cap, cur, h1, h2, h3, h4⟩
  · exact .inl h1
  · exact .inr ⟨g, cap, cur, h1, h2, (k.block g (lt_of_block h3) (hz g (by rw [h1]; rfl))).trans h3, h4⟩
theorem Bw.kp {w w' : World} {z y : Nat} {W : WV} {u1 u2 u3 u4 u5 : Value} (h : Bw w z W u1 u2 u3 u4 u5) (k : Kp y w w') (hn : z ≠ y) : Bw w' z W u1 u2 u3 u4 u5 := by
  have hz := h.lt
  have hc : ∀ i, w'.cell? ⟨z, i, none⟩ = w.cell? ⟨z, i, none⟩ := fun i => by
    have := k.block z hz hn
    simp only [World.cell?, this]
  exact ⟨by rw [hc]; exact h.c0, by rw [hc]; exact h.c1, by rw [hc]; exact h.c2, by rw [hc]; exact h.c3, by rw [hc]; exact h.c4, by rw [hc]; exact h.c5, by rw [hc]; exact h.c6, by rw [hc]; exact h.c7, by rw [hc]; exact h.c8⟩
set_option maxRecDepth 100000 in
set_option maxHeartbeats 8000000 in
theorem rcopy_any (v : Value) (W : WV) (w : World) (h : Wl w v W) (hl : WLen W) :
    Calls Tryz.prog 30 #[v] w fun e w' => ∃ u, e = .returned u ∧ Wi w' w.heap.size u W ∧ Below w.heap.size w w' := by
  have H : Hid (Wl w v W) := h
  have L : Hid (WLen W) := hl
  obtain ⟨u1, u2, u3, u4, u5, rfl, -, -, -, -, -⟩ := h
  clear hl
  go_enter Tryz.func30, Tryz.ntmps30
  go_upto_region 2 with fail
  have B0 : Hid (Below w.heap.size w (((w.alloc (.cells #[.int .i64 W.turn, .int .i64 W.next, .int .i64 W.wide, .int .i64 W.high, u1, u2, u3, u4, u5] 29)).alloc (.cells #[.int .i64 0, .int .i64 0, .int .i64 0, .int .i64 0, .slice none 0 0, .slice none 0 0, .slice none 0 0, .slice none 0 0, .slice none 0 0] 29)).alloc (.cells #[.int .i64 0, .int .i64 0, .slice none 0 0, .slice none 0 0] 25))) := (((Below.refl _ _).alloc (Nat.le_refl _) _).alloc (by simp) _).alloc (by simp; omega) _
  have X0 : Hid (Bw (((w.alloc (.cells #[.int .i64 W.turn, .int .i64 W.next, .int .i64 W.wide, .int .i64 W.high, u1, u2, u3, u4, u5] 29)).alloc (.cells #[.int .i64 0, .int .i64 0, .int .i64 0, .int .i64 0, .slice none 0 0, .slice none 0 0, .slice none 0 0, .slice none 0 0, .slice none 0 0] 29)).alloc (.cells #[.int .i64 0, .int .i64 0, .slice none 0 0, .slice none 0 0] 25)) w.heap.size W u1 u2 u3 u4 u5) := ((Bw.mk' (w := w) W u1 u2 u3 u4 u5 rfl).below ((Below.refl _ _).alloc (Nat.le_refl _) _) (by simp)).below ((Below.refl _ _).alloc (Nat.le_refl _) _) (by simp; omega)
  have R0 : Hid (Wx (((w.alloc (.cells #[.int .i64 W.turn, .int .i64 W.next, .int .i64 W.wide, .int .i64 W.high, u1, u2, u3, u4, u5] 29)).alloc (.cells #[.int .i64 0, .int .i64 0, .int .i64 0, .int .i64 0, .slice none 0 0, .slice none 0 0, .slice none 0 0, .slice none 0 0, .slice none 0 0] 29)).alloc (.cells #[.int .i64 0, .int .i64 0, .slice none 0 0, .slice none 0 0] 25)) (w.heap.size + 1) (.int .i64 0) (.int .i64 0) (.int .i64 0) (.int .i64 0) (.slice none 0 0) (.slice none 0 0) (.slice none 0 0) (.slice none 0 0) (.slice none 0 0)) := (Wx.new _ _ _ _ _ _ _ _ _ (by simp)).below ((Below.refl _ _).alloc (Nat.le_refl _) _) (by simp)
  have F0 : Hid (Fx (((w.alloc (.cells #[.int .i64 W.turn, .int .i64 W.next, .int .i64 W.wide, .int .i64 W.high, u1, u2, u3, u4, u5] 29)).alloc (.cells #[.int .i64 0, .int .i64 0, .int .i64 0, .int .i64 0, .slice none 0 0, .slice none 0 0, .slice none 0 0, .slice none 0 0, .slice none 0 0] 29)).alloc (.cells #[.int .i64 0, .int .i64 0, .slice none 0 0, .slice none 0 0] 25)) (w.heap.size + 1 + 1) (.int .i64 0) (.int .i64 0) (.slice none 0 0) (.slice none 0 0)) := Fx.new _ _ _ _ (by simp)
  have S0 : Hid (w.heap.size + 3 ≤ (((w.alloc (.cells #[.int .i64 W.turn, .int .i64 W.next, .int .i64 W.wide, .int .i64 W.high, u1, u2, u3, u4, u5] 29)).alloc (.cells #[.int .i64 0, .int .i64 0, .int .i64 0, .int .i64 0, .slice none 0 0, .slice none 0 0, .slice none 0 0, .slice none 0 0, .slice none 0 0] 29)).alloc (.cells #[.int .i64 0, .int .i64 0, .slice none 0 0, .slice none 0 0] 25)).heap.size) := by unfold Hid; simp
  generalize (((w.alloc (.cells #[.int .i64 W.turn, .int .i64 W.next, .int .i64 W.wide, .int .i64 W.high, u1, u2, u3, u4, u5] 29)).alloc (.cells #[.int .i64 0, .int .i64 0, .int .i64 0, .int .i64 0, .slice none 0 0, .slice none 0 0, .slice none 0 0, .slice none 0 0, .slice none 0 0] 29)).alloc (.cells #[.int .i64 0, .int .i64 0, .slice none 0 0, .slice none 0 0] 25)) = w0 at *
  have t := F0.out.thaw 0
  obtain ⟨x, -, -, -⟩ := F0.out.cells
  have y := X0.out.c2
  go_upto_region 3 with fail
  have KW : Hid (Kp (w.heap.size + 1 + 1) w0 (w0.setCell ⟨(w.heap.size + 1 + 1), 0, none⟩ (.int .i64 W.wide))) := Kp.set _ _ _
  have F1 : Hid (Fx (w0.setCell ⟨(w.heap.size + 1 + 1), 0, none⟩ (.int .i64 W.wide)) (w.heap.size + 1 + 1) (.int .i64 W.wide) (.int .i64 0) (.slice none 0 0) (.slice none 0 0)) := F0.out.set0 _
  clear t x y
  generalize (w0.setCell ⟨(w.heap.size + 1 + 1), 0, none⟩ (.int .i64 W.wide)) = w1 at *
  have B1 : Hid (Below w.heap.size w w1) := KW.out.below B0.out B0.out.size (by omega)
  have X1 : Hid (Bw w1 w.heap.size W u1 u2 u3 u4 u5) := X0.out.kp KW.out (by omega)
  have R1 : Hid (Wx w1 (w.heap.size + 1) (.int .i64 0) (.int .i64 0) (.int .i64 0) (.int .i64 0) (.slice none 0 0) (.slice none 0 0) (.slice none 0 0) (.slice none 0 0) (.slice none 0 0)) := R0.out.kp KW.out (by omega)
  have S1 : Hid (w.heap.size + 3 ≤ w1.heap.size) := Nat.le_trans S0.out KW.out.size
  clear KW B0 X0 R0 S0
  have t := F1.out.thaw 1
  obtain ⟨-, x, -, -⟩ := F1.out.cells
  have y := X1.out.c3
  go_upto_region 4 with fail
  have KW : Hid (Kp (w.heap.size + 1 + 1) w1 (w1.setCell ⟨(w.heap.size + 1 + 1), 1, none⟩ (.int .i64 W.high))) := Kp.set _ _ _
  have F2 : Hid (Fx (w1.setCell ⟨(w.heap.size + 1 + 1), 1, none⟩ (.int .i64 W.high)) (w.heap.size + 1 + 1) (.int .i64 W.wide) (.int .i64 W.high) (.slice none 0 0) (.slice none 0 0)) := F1.out.set1 _
  clear t x y
  generalize (w1.setCell ⟨(w.heap.size + 1 + 1), 1, none⟩ (.int .i64 W.high)) = w2 at *
  have B2 : Hid (Below w.heap.size w w2) := KW.out.below B1.out B1.out.size (by omega)
  have X2 : Hid (Bw w2 w.heap.size W u1 u2 u3 u4 u5) := X1.out.kp KW.out (by omega)
  have R2 : Hid (Wx w2 (w.heap.size + 1) (.int .i64 0) (.int .i64 0) (.int .i64 0) (.int .i64 0) (.slice none 0 0) (.slice none 0 0) (.slice none 0 0) (.slice none 0 0) (.slice none 0 0)) := R1.out.kp KW.out (by omega)
  have S2 : Hid (w.heap.size + 3 ≤ w2.heap.size) := Nat.le_trans S1.out KW.out.size
  clear KW B1 X1 R1 S1
  obtain ⟨-, -, x, -⟩ := F2.out.cells
  have y := X2.out.c4
  go_wp2_with (at_builtin; refine app_row _ rfl _ _ rfl (w.heap.size + 3) _ [] rfl (Ow.nil _ _) _ W.gs rfl ((H.out.below B2.out).slices.1) (by have := L.out.g; simp only [List.length_nil]; omega) S2.out ?_)
  intro v0 a0 on gn dn
  have BG : Hid (Below w2.heap.size w2 a0) := (Below.refl _ _).grown gn (Nat.le_refl _) (fun k hk => by cases hk)
  try rw [List.nil_append] at on
  have BA : Hid (Below w.heap.size w a0) := B2.out.trans (BG.out.mono B2.out.size)
  have XA : Hid (Bw a0 w.heap.size W u1 u2 u3 u4 u5) := X2.out.below BG.out X2.out.lt
  have RA : Hid (Wx a0 (w.heap.size + 1) (.int .i64 0) (.int .i64 0) (.int .i64 0) (.int .i64 0) (.slice none 0 0) (.slice none 0 0) (.slice none 0 0) (.slice none 0 0) (.slice none 0 0)) := R2.out.below BG.out R2.out.lt
  have FA : Hid (Fx a0 (w.heap.size + 1 + 1) (.int .i64 W.wide) (.int .i64 W.high) (.slice none 0 0) (.slice none 0 0)) := F2.out.below BG.out F2.out.lt
  have SA : Hid (w.heap.size + 3 ≤ a0.heap.size) := Nat.le_trans S2.out BG.out.size
  have P0A : Hid (Ow a0 (w.heap.size + 3) v0 W.gs) := on
  obtain ⟨p0, q0, rfl⟩ := on.len
  clear gn dn on BG x y B2 X2 R2 F2 S2 
  have t := FA.out.thaw 2
  obtain ⟨-, -, x, -⟩ := FA.out.cells
  go_upto_region 5 with fail
  have KW : Hid (Kp (w.heap.size + 1 + 1) a0 (a0.setCell ⟨(w.heap.size + 1 + 1), 2, none⟩ (.slice p0 W.gs.length q0))) := Kp.set _ _ _
  have F3 : Hid (Fx (a0.setCell ⟨(w.heap.size + 1 + 1), 2, none⟩ (.slice p0 W.gs.length q0)) (w.heap.size + 1 + 1) (.int .i64 W.wide) (.int .i64 W.high) (.slice p0 W.gs.length q0) (.slice none 0 0)) := FA.out.set2 _
  clear t x FA
  generalize (a0.setCell ⟨(w.heap.size + 1 + 1), 2, none⟩ (.slice p0 W.gs.length q0)) = w3 at *
  have B3 : Hid (Below w.heap.size w w3) := KW.out.below BA.out BA.out.size (by omega)
  have X3 : Hid (Bw w3 w.heap.size W u1 u2 u3 u4 u5) := XA.out.kp KW.out (by omega)
  have R3 : Hid (Wx w3 (w.heap.size + 1) (.int .i64 0) (.int .i64 0) (.int .i64 0) (.int .i64 0) (.slice none 0 0) (.slice none 0 0) (.slice none 0 0) (.slice none 0 0) (.slice none 0 0)) := RA.out.kp KW.out (by omega)
  have S3 : Hid (w.heap.size + 3 ≤ w3.heap.size) := Nat.le_trans SA.out KW.out.size
  have P0_3 : Hid (Ow w3 (w.heap.size + 3) (.slice p0 W.gs.length q0) W.gs) := owns_kpn P0A.out KW.out (fun b hb => by have := (P0A.out.block b hb).1; omega)
  clear KW BA XA RA SA P0A
  obtain ⟨-, -, -, x⟩ := F3.out.cells
  have y := X3.out.c5
  go_wp2_with (at_builtin; refine app_row _ rfl _ _ rfl (w.heap.size + 3) _ [] rfl (Ow.nil _ _) _ W.os rfl ((H.out.below B3.out).slices.2.1) (by have := L.out.o; simp only [List.length_nil]; omega) S3.out ?_)
  intro v1 a1 on gn dn
  have BG : Hid (Below w3.heap.size w3 a1) := (Below.refl _ _).grown gn (Nat.le_refl _) (fun k hk => by cases hk)
  try rw [List.nil_append] at on
  have BA : Hid (Below w.heap.size w a1) := B3.out.trans (BG.out.mono B3.out.size)
  have XA : Hid (Bw a1 w.heap.size W u1 u2 u3 u4 u5) := X3.out.below BG.out X3.out.lt
  have RA : Hid (Wx a1 (w.heap.size + 1) (.int .i64 0) (.int .i64 0) (.int .i64 0) (.int .i64 0) (.slice none 0 0) (.slice none 0 0) (.slice none 0 0) (.slice none 0 0) (.slice none 0 0)) := R3.out.below BG.out R3.out.lt
  have FA : Hid (Fx a1 (w.heap.size + 1 + 1) (.int .i64 W.wide) (.int .i64 W.high) (.slice p0 W.gs.length q0) (.slice none 0 0)) := F3.out.below BG.out F3.out.lt
  have SA : Hid (w.heap.size + 3 ≤ a1.heap.size) := Nat.le_trans S3.out BG.out.size
  have P0A : Hid (Ow a1 (w.heap.size + 3) (.slice p0 W.gs.length q0) W.gs) := P0_3.out.below BG.out
  have D0_1 : Hid (Dif (.slice p0 W.gs.length q0) v1) := Dif.of (n := w3.heap.size) (fun b hb => (P0_3.out.block b hb).2) (fun b hb => by
    rcases dn with dn | dn
    · rw [hb] at dn; cases dn
    · rw [hb] at dn; injection dn with dn; omega)
  have P1A : Hid (Ow a1 (w.heap.size + 3) v1 W.os) := on
  obtain ⟨p1, q1, rfl⟩ := on.len
  clear gn dn on BG x y B3 X3 R3 F3 S3 P0_3
  have t := FA.out.thaw 3
  obtain ⟨-, -, -, x⟩ := FA.out.cells
  go_upto_region 6 with fail
  have KW : Hid (Kp (w.heap.size + 1 + 1) a1 (a1.setCell ⟨(w.heap.size + 1 + 1), 3, none⟩ (.slice p1 W.os.length q1))) := Kp.set _ _ _
  have F4 : Hid (Fx (a1.setCell ⟨(w.heap.size + 1 + 1), 3, none⟩ (.slice p1 W.os.length q1)) (w.heap.size + 1 + 1) (.int .i64 W.wide) (.int .i64 W.high) (.slice p0 W.gs.length q0) (.slice p1 W.os.length q1)) := FA.out.set3 _
  clear t x FA
  generalize (a1.setCell ⟨(w.heap.size + 1 + 1), 3, none⟩ (.slice p1 W.os.length q1)) = w4 at *
  have B4 : Hid (Below w.heap.size w w4) := KW.out.below BA.out BA.out.size (by omega)
  have X4 : Hid (Bw w4 w.heap.size W u1 u2 u3 u4 u5) := XA.out.kp KW.out (by omega)
  have R4 : Hid (Wx w4 (w.heap.size + 1) (.int .i64 0) (.int .i64 0) (.int .i64 0) (.int .i64 0) (.slice none 0 0) (.slice none 0 0) (.slice none 0 0) (.slice none 0 0) (.slice none 0 0)) := RA.out.kp KW.out (by omega)
  have S4 : Hid (w.heap.size + 3 ≤ w4.heap.size) := Nat.le_trans SA.out KW.out.size
  have P0_4 : Hid (Ow w4 (w.heap.size + 3) (.slice p0 W.gs.length q0) W.gs) := owns_kpn P0A.out KW.out (fun b hb => by have := (P0A.out.block b hb).1; omega)
  have P1_4 : Hid (Ow w4 (w.heap.size + 3) (.slice p1 W.os.length q1) W.os) := owns_kpn P1A.out KW.out (fun b hb => by have := (P1A.out.block b hb).1; omega)
  clear KW BA XA RA SA P0A P1A
  go_upto_region 7 with fail
  obtain ⟨z, hz⟩ : ∃ z, w4.heap.size = z := ⟨_, rfl⟩
  have SZ : Hid (w.heap.size + 3 ≤ z) := by rw [← hz]; exact S4.out
  have BN : Hid (Below w4.heap.size w4 (w4.alloc (.cells #[.int .i64 0, .int .i64 0, .int .i64 0, .int .i64 0, .slice none 0 0, .slice none 0 0, .slice none 0 0, .slice none 0 0, .slice none 0 0] 29))) := (Below.refl _ _).alloc (Nat.le_refl _) _
  have Y5 : Hid (Wx (w4.alloc (.cells #[.int .i64 0, .int .i64 0, .int .i64 0, .int .i64 0, .slice none 0 0, .slice none 0 0, .slice none 0 0, .slice none 0 0, .slice none 0 0] 29)) z (.int .i64 0) (.int .i64 0) (.int .i64 0) (.int .i64 0) (.slice none 0 0) (.slice none 0 0) (.slice none 0 0) (.slice none 0 0) (.slice none 0 0)) := Wx.new _ _ _ _ _ _ _ _ _ hz
  have Q0 : Hid (∀ b, ((.slice p0 W.gs.length q0) : Value).ownBlock = some b → b ≠ z) := fun b hb => by have := (P0_4.out.block b hb).2; omega
  have Q1 : Hid (∀ b, ((.slice p1 W.os.length q1) : Value).ownBlock = some b → b ≠ z) := fun b hb => by have := (P1_4.out.block b hb).2; omega
  rw [hz]
  generalize (w4.alloc (.cells #[.int .i64 0, .int .i64 0, .int .i64 0, .int .i64 0, .slice none 0 0, .slice none 0 0, .slice none 0 0, .slice none 0 0, .slice none 0 0] 29)) = w5 at *
  have B5 : Hid (Below w.heap.size w w5) := B4.out.trans (BN.out.mono B4.out.size)
  have X5 : Hid (Bw w5 w.heap.size W u1 u2 u3 u4 u5) := X4.out.below BN.out X4.out.lt
  have R5 : Hid (Wx w5 (w.heap.size + 1) (.int .i64 0) (.int .i64 0) (.int .i64 0) (.int .i64 0) (.slice none 0 0) (.slice none 0 0) (.slice none 0 0) (.slice none 0 0) (.slice none 0 0)) := R4.out.below BN.out R4.out.lt
  have F5 : Hid (Fx w5 (w.heap.size + 1 + 1) (.int .i64 W.wide) (.int .i64 W.high) (.slice p0 W.gs.length q0) (.slice p1 W.os.length q1)) := F4.out.below BN.out F4.out.lt
  have S5 : Hid (w.heap.size + 3 ≤ w5.heap.size) := Nat.le_trans S4.out BN.out.size
  have P0_5 : Hid (Ow w5 (w.heap.size + 3) (.slice p0 W.gs.length q0) W.gs) := P0_4.out.below BN.out
  have P1_5 : Hid (Ow w5 (w.heap.size + 3) (.slice p1 W.os.length q1) W.os) := P1_4.out.below BN.out
  clear hz BN B4 X4 R4 F4 S4 P0_4 P1_4
  have t := Y5.out.thaw 0
  obtain ⟨x, -, -, -, -, -, -, -, -⟩ := Y5.out.cells
  have y := X5.out.c0
  go_upto_region 8 with fail
  have KW : Hid (Kp z w5 (w5.setCell ⟨z, 0, none⟩ (.int .i64 W.turn))) := Kp.set _ _ _
  have Y6 : Hid (Wx (w5.setCell ⟨z, 0, none⟩ (.int .i64 W.turn)) z (.int .i64 W.turn) (.int .i64 0) (.int .i64 0) (.int .i64 0) (.slice none 0 0) (.slice none 0 0) (.slice none 0 0) (.slice none 0 0) (.slice none 0 0)) := Y5.out.set0 _
  clear t x y Y5
  generalize (w5.setCell ⟨z, 0, none⟩ (.int .i64 W.turn)) = w6 at *
  have B6 : Hid (Below w.heap.size w w6) := KW.out.below B5.out B5.out.size (by have := SZ.out; omega)
  have X6 : Hid (Bw w6 w.heap.size W u1 u2 u3 u4 u5) := X5.out.kp KW.out (by have := SZ.out; omega)
  have R6 : Hid (Wx w6 (w.heap.size + 1) (.int .i64 0) (.int .i64 0) (.int .i64 0) (.int .i64 0) (.slice none 0 0) (.slice none 0 0) (.slice none 0 0) (.slice none 0 0) (.slice none 0 0)) := R5.out.kp KW.out (by have := SZ.out; omega)
  have S6 : Hid (w.heap.size + 3 ≤ w6.heap.size) := Nat.le_trans S5.out KW.out.size
  have F6 : Hid (Fx w6 (w.heap.size + 1 + 1) (.int .i64 W.wide) (.int .i64 W.high) (.slice p0 W.gs.length q0) (.slice p1 W.os.length q1)) := F5.out.kp KW.out (by have := SZ.out; omega)
  have P0_6 : Hid (Ow w6 (w.heap.size + 3) (.slice p0 W.gs.length q0) W.gs) := owns_kpn P0_5.out KW.out (fun b hb => by have := (P0_5.out.block b hb).1; have := Q0.out b hb; have := SZ.out; omega)
  have P1_6 : Hid (Ow w6 (w.heap.size + 3) (.slice p1 W.os.length q1) W.os) := owns_kpn P1_5.out KW.out (fun b hb => by have := (P1_5.out.block b hb).1; have := Q1.out b hb; have := SZ.out; omega)
  clear KW B5 X5 R5 S5 F5 P0_5 P1_5
  have t := Y6.out.thaw 1
  obtain ⟨-, x, -, -, -, -, -, -, -⟩ := Y6.out.cells
  have y := X6.out.c1
  go_upto_region 9 with fail
  have KW : Hid (Kp z w6 (w6.setCell ⟨z, 1, none⟩ (.int .i64 W.next))) := Kp.set _ _ _
  have Y7 : Hid (Wx (w6.setCell ⟨z, 1, none⟩ (.int .i64 W.next)) z (.int .i64 W.turn) (.int .i64 W.next) (.int .i64 0) (.int .i64 0) (.slice none 0 0) (.slice none 0 0) (.slice none 0 0) (.slice none 0 0) (.slice none 0 0)) := Y6.out.set1 _
  clear t x y Y6
  generalize (w6.setCell ⟨z, 1, none⟩ (.int .i64 W.next)) = w7 at *
  have B7 : Hid (Below w.heap.size w w7) := KW.out.below B6.out B6.out.size (by have := SZ.out; omega)
  have X7 : Hid (Bw w7 w.heap.size W u1 u2 u3 u4 u5) := X6.out.kp KW.out (by have := SZ.out; omega)
  have R7 : Hid (Wx w7 (w.heap.size + 1) (.int .i64 0) (.int .i64 0) (.int .i64 0) (.int .i64 0) (.slice none 0 0) (.slice none 0 0) (.slice none 0 0) (.slice none 0 0) (.slice none 0 0)) := R6.out.kp KW.out (by have := SZ.out; omega)
  have S7 : Hid (w.heap.size + 3 ≤ w7.heap.size) := Nat.le_trans S6.out KW.out.size
  have F7 : Hid (Fx w7 (w.heap.size + 1 + 1) (.int .i64 W.wide) (.int .i64 W.high) (.slice p0 W.gs.length q0) (.slice p1 W.os.length q1)) := F6.out.kp KW.out (by have := SZ.out; omega)
  have P0_7 : Hid (Ow w7 (w.heap.size + 3) (.slice p0 W.gs.length q0) W.gs) := owns_kpn P0_6.out KW.out (fun b hb => by have := (P0_6.out.block b hb).1; have := Q0.out b hb; have := SZ.out; omega)
  have P1_7 : Hid (Ow w7 (w.heap.size + 3) (.slice p1 W.os.length q1) W.os) := owns_kpn P1_6.out KW.out (fun b hb => by have := (P1_6.out.block b hb).1; have := Q1.out b hb; have := SZ.out; omega)
  clear KW B6 X6 R6 S6 F6 P0_6 P1_6
  obtain ⟨f0, f1, f2, f3⟩ := F7.out.cells
  obtain ⟨-, -, x2, x3, x4, x5, -, -, -⟩ := Y7.out.cells
  have t2 := Y7.out.thaw 2
  have t3 := Y7.out.thaw 3
  have t4 := Y7.out.thaw 4
  have t5 := Y7.out.thaw 5
  go_upto_region 10 with fail
  have KW : Hid (Kp z w7 ((((w7.setCell ⟨z, 2, none⟩ (.int .i64 W.wide)).setCell ⟨z, 3, none⟩ (.int .i64 W.high)).setCell ⟨z, 4, none⟩ (.slice p0 W.gs.length q0)).setCell ⟨z, 5, none⟩ (.slice p1 W.os.length q1))) := (((Kp.set w7 2 (.int .i64 W.wide)).trans (Kp.set _ 3 (.int .i64 W.high))).trans (Kp.set _ 4 (.slice p0 W.gs.length q0))).trans (Kp.set _ 5 (.slice p1 W.os.length q1))
  have Y8 : Hid (Wx ((((w7.setCell ⟨z, 2, none⟩ (.int .i64 W.wide)).setCell ⟨z, 3, none⟩ (.int .i64 W.high)).setCell ⟨z, 4, none⟩ (.slice p0 W.gs.length q0)).setCell ⟨z, 5, none⟩ (.slice p1 W.os.length q1)) z (.int .i64 W.turn) (.int .i64 W.next) (.int .i64 W.wide) (.int .i64 W.high) (.slice p0 W.gs.length q0) (.slice p1 W.os.length q1) (.slice none 0 0) (.slice none 0 0) (.slice none 0 0)) := (((Y7.out.set2 (.int .i64 W.wide)).set3 (.int .i64 W.high)).set4 (.slice p0 W.gs.length q0)).set5 (.slice p1 W.os.length q1)
  clear f0 f1 f2 f3 x2 x3 x4 x5 t2 t3 t4 t5 Y7
  generalize ((((w7.setCell ⟨z, 2, none⟩ (.int .i64 W.wide)).setCell ⟨z, 3, none⟩ (.int .i64 W.high)).setCell ⟨z, 4, none⟩ (.slice p0 W.gs.length q0)).setCell ⟨z, 5, none⟩ (.slice p1 W.os.length q1)) = w8 at *
  have B8 : Hid (Below w.heap.size w w8) := KW.out.below B7.out B7.out.size (by have := SZ.out; omega)
  have X8 : Hid (Bw w8 w.heap.size W u1 u2 u3 u4 u5) := X7.out.kp KW.out (by have := SZ.out; omega)
  have R8 : Hid (Wx w8 (w.heap.size + 1) (.int .i64 0) (.int .i64 0) (.int .i64 0) (.int .i64 0) (.slice none 0 0) (.slice none 0 0) (.slice none 0 0) (.slice none 0 0) (.slice none 0 0)) := R7.out.kp KW.out (by have := SZ.out; omega)
  have S8 : Hid (w.heap.size + 3 ≤ w8.heap.size) := Nat.le_trans S7.out KW.out.size
  have F8 : Hid (Fx w8 (w.heap.size + 1 + 1) (.int .i64 W.wide) (.int .i64 W.high) (.slice p0 W.gs.length q0) (.slice p1 W.os.length q1)) := F7.out.kp KW.out (by have := SZ.out; omega)
  have P0_8 : Hid (Ow w8 (w.heap.size + 3) (.slice p0 W.gs.length q0) W.gs) := owns_kpn P0_7.out KW.out (fun b hb => by have := (P0_7.out.block b hb).1; have := Q0.out b hb; have := SZ.out; omega)
  have P1_8 : Hid (Ow w8 (w.heap.size + 3) (.slice p1 W.os.length q1) W.os) := owns_kpn P1_7.out KW.out (fun b hb => by have := (P1_7.out.block b hb).1; have := Q1.out b hb; have := SZ.out; omega)
  clear KW B7 X7 R7 S7 F7 P0_7 P1_7
  obtain ⟨-, -, -, -, -, -, x, -, -⟩ := Y8.out.cells
  have y := X8.out.c6
  go_wp2_with (at_builtin; refine app_row _ rfl _ _ rfl (w.heap.size + 3) _ [] rfl (Ow.nil _ _) _ W.gold rfl ((H.out.below B8.out).slices.2.2.1) (by have := L.out.p; simp only [List.length_nil]; omega) S8.out ?_)
  intro v2 a2 on gn dn
  have BG : Hid (Below w8.heap.size w8 a2) := (Below.refl _ _).grown gn (Nat.le_refl _) (fun k hk => by cases hk)
  try rw [List.nil_append] at on
  have BA : Hid (Below w.heap.size w a2) := B8.out.trans (BG.out.mono B8.out.size)
  have XA : Hid (Bw a2 w.heap.size W u1 u2 u3 u4 u5) := X8.out.below BG.out X8.out.lt
  have RA : Hid (Wx a2 (w.heap.size + 1) (.int .i64 0) (.int .i64 0) (.int .i64 0) (.int .i64 0) (.slice none 0 0) (.slice none 0 0) (.slice none 0 0) (.slice none 0 0) (.slice none 0 0)) := R8.out.below BG.out R8.out.lt
  have FA : Hid (Fx a2 (w.heap.size + 1 + 1) (.int .i64 W.wide) (.int .i64 W.high) (.slice p0 W.gs.length q0) (.slice p1 W.os.length q1)) := F8.out.below BG.out F8.out.lt
  have SA : Hid (w.heap.size + 3 ≤ a2.heap.size) := Nat.le_trans S8.out BG.out.size
  have YA : Hid (Wx a2 z (.int .i64 W.turn) (.int .i64 W.next) (.int .i64 W.wide) (.int .i64 W.high) (.slice p0 W.gs.length q0) (.slice p1 W.os.length q1) (.slice none 0 0) (.slice none 0 0) (.slice none 0 0)) := Y8.out.below BG.out Y8.out.lt
  have QN : Hid (∀ b, v2.ownBlock = some b → z < b) := fun b hb => by
    have h1 := Y8.out.lt
    rcases dn with dn | dn
    · rw [hb] at dn; cases dn
    · rw [hb] at dn; injection dn with dn; omega
  have P0A : Hid (Ow a2 (w.heap.size + 3) (.slice p0 W.gs.length q0) W.gs) := P0_8.out.below BG.out
  have D0_2 : Hid (Dif (.slice p0 W.gs.length q0) v2) := Dif.of (n := w8.heap.size) (fun b hb => (P0_8.out.block b hb).2) (fun b hb => by
    rcases dn with dn | dn
    · rw [hb] at dn; cases dn
    · rw [hb] at dn; injection dn with dn; omega)
  have P1A : Hid (Ow a2 (w.heap.size + 3) (.slice p1 W.os.length q1) W.os) := P1_8.out.below BG.out
  have D1_2 : Hid (Dif (.slice p1 W.os.length q1) v2) := Dif.of (n := w8.heap.size) (fun b hb => (P1_8.out.block b hb).2) (fun b hb => by
    rcases dn with dn | dn
    · rw [hb] at dn; cases dn
    · rw [hb] at dn; injection dn with dn; omega)
  have P2A : Hid (Ow a2 (w.heap.size + 3) v2 W.gold) := on
  obtain ⟨p2, q2, rfl⟩ := on.len
  clear gn dn on BG x y B8 X8 R8 F8 S8 Y8 P0_8 P1_8
  have t := YA.out.thaw 6
  obtain ⟨-, -, -, -, -, -, x, -, -⟩ := YA.out.cells
  go_upto_region 11 with fail
  have Q2 : Hid (∀ b, ((.slice p2 W.gold.length q2) : Value).ownBlock = some b → b ≠ z) := fun b hb => by have := QN.out b hb; omega
  clear QN
  have KW : Hid (Kp z a2 (a2.setCell ⟨z, 6, none⟩ (.slice p2 W.gold.length q2))) := Kp.set _ _ _
  have Y9 : Hid (Wx (a2.setCell ⟨z, 6, none⟩ (.slice p2 W.gold.length q2)) z (.int .i64 W.turn) (.int .i64 W.next) (.int .i64 W.wide) (.int .i64 W.high) (.slice p0 W.gs.length q0) (.slice p1 W.os.length q1) (.slice p2 W.gold.length q2) (.slice none 0 0) (.slice none 0 0)) := YA.out.set6 _
  clear t x YA
  generalize (a2.setCell ⟨z, 6, none⟩ (.slice p2 W.gold.length q2)) = w9 at *
  have B9 : Hid (Below w.heap.size w w9) := KW.out.below BA.out BA.out.size (by have := SZ.out; omega)
  have X9 : Hid (Bw w9 w.heap.size W u1 u2 u3 u4 u5) := XA.out.kp KW.out (by have := SZ.out; omega)
  have R9 : Hid (Wx w9 (w.heap.size + 1) (.int .i64 0) (.int .i64 0) (.int .i64 0) (.int .i64 0) (.slice none 0 0) (.slice none 0 0) (.slice none 0 0) (.slice none 0 0) (.slice none 0 0)) := RA.out.kp KW.out (by have := SZ.out; omega)
  have S9 : Hid (w.heap.size + 3 ≤ w9.heap.size) := Nat.le_trans SA.out KW.out.size
  have F9 : Hid (Fx w9 (w.heap.size + 1 + 1) (.int .i64 W.wide) (.int .i64 W.high) (.slice p0 W.gs.length q0) (.slice p1 W.os.length q1)) := FA.out.kp KW.out (by have := SZ.out; omega)
  have P0_9 : Hid (Ow w9 (w.heap.size + 3) (.slice p0 W.gs.length q0) W.gs) := owns_kpn P0A.out KW.out (fun b hb => by have := (P0A.out.block b hb).1; have := Q0.out b hb; have := SZ.out; omega)
  have P1_9 : Hid (Ow w9 (w.heap.size + 3) (.slice p1 W.os.length q1) W.os) := owns_kpn P1A.out KW.out (fun b hb => by have := (P1A.out.block b hb).1; have := Q1.out b hb; have := SZ.out; omega)
  have P2_9 : Hid (Ow w9 (w.heap.size + 3) (.slice p2 W.gold.length q2) W.gold) := owns_kpn P2A.out KW.out (fun b hb => by have := (P2A.out.block b hb).1; have := Q2.out b hb; have := SZ.out; omega)
  clear KW BA XA RA SA FA P0A P1A P2A
  obtain ⟨-, -, -, -, -, -, -, x, -⟩ := Y9.out.cells
  have y := X9.out.c7
  go_wp2_with (at_builtin; refine app_uns _ rfl _ _ rfl (w.heap.size + 3) _ [] rfl (Uno.nil _ _) _ W.us rfl ((H.out.below B9.out).slices.2.2.2.1) (by have := L.out.u; simp only [List.length_nil]; omega) S9.out ?_)
  intro v3 a3 on gn dn
  have BG : Hid (Below w9.heap.size w9 a3) := (Below.refl _ _).grown gn (Nat.le_refl _) (fun k hk => by cases hk)
  try rw [List.nil_append] at on
  have BA : Hid (Below w.heap.size w a3) := B9.out.trans (BG.out.mono B9.out.size)
  have XA : Hid (Bw a3 w.heap.size W u1 u2 u3 u4 u5) := X9.out.below BG.out X9.out.lt
  have RA : Hid (Wx a3 (w.heap.size + 1) (.int .i64 0) (.int .i64 0) (.int .i64 0) (.int .i64 0) (.slice none 0 0) (.slice none 0 0) (.slice none 0 0) (.slice none 0 0) (.slice none 0 0)) := R9.out.below BG.out R9.out.lt
  have FA : Hid (Fx a3 (w.heap.size + 1 + 1) (.int .i64 W.wide) (.int .i64 W.high) (.slice p0 W.gs.length q0) (.slice p1 W.os.length q1)) := F9.out.below BG.out F9.out.lt
  have SA : Hid (w.heap.size + 3 ≤ a3.heap.size) := Nat.le_trans S9.out BG.out.size
  have YA : Hid (Wx a3 z (.int .i64 W.turn) (.int .i64 W.next) (.int .i64 W.wide) (.int .i64 W.high) (.slice p0 W.gs.length q0) (.slice p1 W.os.length q1) (.slice p2 W.gold.length q2) (.slice none 0 0) (.slice none 0 0)) := Y9.out.below BG.out Y9.out.lt
  have QN : Hid (∀ b, v3.ownBlock = some b → z < b) := fun b hb => by
    have h1 := Y9.out.lt
    rcases dn with dn | dn
    · rw [hb] at dn; cases dn
    · rw [hb] at dn; injection dn with dn; omega
  have P0A : Hid (Ow a3 (w.heap.size + 3) (.slice p0 W.gs.length q0) W.gs) := P0_9.out.below BG.out
  have D0_3 : Hid (Dif (.slice p0 W.gs.length q0) v3) := Dif.of (n := w9.heap.size) (fun b hb => (P0_9.out.block b hb).2) (fun b hb => by
    rcases dn with dn | dn
    · rw [hb] at dn; cases dn
    · rw [hb] at dn; injection dn with dn; omega)
  have P1A : Hid (Ow a3 (w.heap.size + 3) (.slice p1 W.os.length q1) W.os) := P1_9.out.below BG.out
  have D1_3 : Hid (Dif (.slice p1 W.os.length q1) v3) := Dif.of (n := w9.heap.size) (fun b hb => (P1_9.out.block b hb).2) (fun b hb => by
    rcases dn with dn | dn
    · rw [hb] at dn; cases dn
    · rw [hb] at dn; injection dn with dn; omega)
  have P2A : Hid (Ow a3 (w.heap.size + 3) (.slice p2 W.gold.length q2) W.gold) := P2_9.out.below BG.out
  have D2_3 : Hid (Dif (.slice p2 W.gold.length q2) v3) := Dif.of (n := w9.heap.size) (fun b hb => (P2_9.out.block b hb).2) (fun b hb => by
    rcases dn with dn | dn
    · rw [hb] at dn; cases dn
    · rw [hb] at dn; injection dn with dn; omega)
  have P3A : Hid (Uno a3 (w.heap.size + 3) v3 W.us) := on
  obtain ⟨p3, q3, rfl⟩ := on.len
  clear gn dn on BG x y B9 X9 R9 F9 S9 Y9 P0_9 P1_9 P2_9
  have t := YA.out.thaw 7
  obtain ⟨-, -, -, -, -, -, -, x, -⟩ := YA.out.cells
  go_upto_region 12 with fail
  have Q3 : Hid (∀ b, ((.slice p3 W.us.length q3) : Value).ownBlock = some b → b ≠ z) := fun b hb => by have := QN.out b hb; omega
  clear QN
  have KW : Hid (Kp z a3 (a3.setCell ⟨z, 7, none⟩ (.slice p3 W.us.length q3))) := Kp.set _ _ _
  have Y10 : Hid (Wx (a3.setCell ⟨z, 7, none⟩ (.slice p3 W.us.length q3)) z (.int .i64 W.turn) (.int .i64 W.next) (.int .i64 W.wide) (.int .i64 W.high) (.slice p0 W.gs.length q0) (.slice p1 W.os.length q1) (.slice p2 W.gold.length q2) (.slice p3 W.us.length q3) (.slice none 0 0)) := YA.out.set7 _
  clear t x YA
  generalize (a3.setCell ⟨z, 7, none⟩ (.slice p3 W.us.length q3)) = w10 at *
  have B10 : Hid (Below w.heap.size w w10) := KW.out.below BA.out BA.out.size (by have := SZ.out; omega)
  have X10 : Hid (Bw w10 w.heap.size W u1 u2 u3 u4 u5) := XA.out.kp KW.out (by have := SZ.out; omega)
  have R10 : Hid (Wx w10 (w.heap.size + 1) (.int .i64 0) (.int .i64 0) (.int .i64 0) (.int .i64 0) (.slice none 0 0) (.slice none 0 0) (.slice none 0 0) (.slice none 0 0) (.slice none 0 0)) := RA.out.kp KW.out (by have := SZ.out; omega)
  have S10 : Hid (w.heap.size + 3 ≤ w10.heap.size) := Nat.le_trans SA.out KW.out.size
  have F10 : Hid (Fx w10 (w.heap.size + 1 + 1) (.int .i64 W.wide) (.int .i64 W.high) (.slice p0 W.gs.length q0) (.slice p1 W.os.length q1)) := FA.out.kp KW.out (by have := SZ.out; omega)
  have P0_10 : Hid (Ow w10 (w.heap.size + 3) (.slice p0 W.gs.length q0) W.gs) := owns_kpn P0A.out KW.out (fun b hb => by have := (P0A.out.block b hb).1; have := Q0.out b hb; have := SZ.out; omega)
  have P1_10 : Hid (Ow w10 (w.heap.size + 3) (.slice p1 W.os.length q1) W.os) := owns_kpn P1A.out KW.out (fun b hb => by have := (P1A.out.block b hb).1; have := Q1.out b hb; have := SZ.out; omega)
  have P2_10 : Hid (Ow w10 (w.heap.size + 3) (.slice p2 W.gold.length q2) W.gold) := owns_kpn P2A.out KW.out (fun b hb => by have := (P2A.out.block b hb).1; have := Q2.out b hb; have := SZ.out; omega)
  have P3_10 : Hid (Uno w10 (w.heap.size + 3) (.slice p3 W.us.length q3) W.us) := owns_kpn P3A.out KW.out (fun b hb => by have := (P3A.out.block b hb).1; have := Q3.out b hb; have := SZ.out; omega)
  clear KW BA XA RA SA FA P0A P1A P2A P3A
  obtain ⟨-, -, -, -, -, -, -, -, x⟩ := Y10.out.cells
  have y := X10.out.c8
  go_wp2_with (at_builtin; refine app_jbs _ rfl _ _ rfl (w.heap.size + 3) _ [] rfl (Jbo.nil _ _) _ W.qs rfl ((H.out.below B10.out).slices.2.2.2.2) (by have := L.out.q; simp only [List.length_nil]; omega) S10.out ?_)
  intro v4 a4 on gn dn
  have BG : Hid (Below w10.heap.size w10 a4) := (Below.refl _ _).grown gn (Nat.le_refl _) (fun k hk => by cases hk)
  try rw [List.nil_append] at on
  have BA : Hid (Below w.heap.size w a4) := B10.out.trans (BG.out.mono B10.out.size)
  have XA : Hid (Bw a4 w.heap.size W u1 u2 u3 u4 u5) := X10.out.below BG.out X10.out.lt
  have RA : Hid (Wx a4 (w.heap.size + 1) (.int .i64 0) (.int .i64 0) (.int .i64 0) (.int .i64 0) (.slice none 0 0) (.slice none 0 0) (.slice none 0 0) (.slice none 0 0) (.slice none 0 0)) := R10.out.below BG.out R10.out.lt
  have FA : Hid (Fx a4 (w.heap.size + 1 + 1) (.int .i64 W.wide) (.int .i64 W.high) (.slice p0 W.gs.length q0) (.slice p1 W.os.length q1)) := F10.out.below BG.out F10.out.lt
  have SA : Hid (w.heap.size + 3 ≤ a4.heap.size) := Nat.le_trans S10.out BG.out.size
  have YA : Hid (Wx a4 z (.int .i64 W.turn) (.int .i64 W.next) (.int .i64 W.wide) (.int .i64 W.high) (.slice p0 W.gs.length q0) (.slice p1 W.os.length q1) (.slice p2 W.gold.length q2) (.slice p3 W.us.length q3) (.slice none 0 0)) := Y10.out.below BG.out Y10.out.lt
  have QN : Hid (∀ b, v4.ownBlock = some b → z < b) := fun b hb => by
    have h1 := Y10.out.lt
    rcases dn with dn | dn
    · rw [hb] at dn; cases dn
    · rw [hb] at dn; injection dn with dn; omega
  have P0A : Hid (Ow a4 (w.heap.size + 3) (.slice p0 W.gs.length q0) W.gs) := P0_10.out.below BG.out
  have D0_4 : Hid (Dif (.slice p0 W.gs.length q0) v4) := Dif.of (n := w10.heap.size) (fun b hb => (P0_10.out.block b hb).2) (fun b hb => by
    rcases dn with dn | dn
    · rw [hb] at dn; cases dn
    · rw [hb] at dn; injection dn with dn; omega)
  have P1A : Hid (Ow a4 (w.heap.size + 3) (.slice p1 W.os.length q1) W.os) := P1_10.out.below BG.out
  have D1_4 : Hid (Dif (.slice p1 W.os.length q1) v4) := Dif.of (n := w10.heap.size) (fun b hb => (P1_10.out.block b hb).2) (fun b hb => by
    rcases dn with dn | dn
    · rw [hb] at dn; cases dn
    · rw [hb] at dn; injection dn with dn; omega)
  have P2A : Hid (Ow a4 (w.heap.size + 3) (.slice p2 W.gold.length q2) W.gold) := P2_10.out.below BG.out
  have D2_4 : Hid (Dif (.slice p2 W.gold.length q2) v4) := Dif.of (n := w10.heap.size) (fun b hb => (P2_10.out.block b hb).2) (fun b hb => by
    rcases dn with dn | dn
    · rw [hb] at dn; cases dn
    · rw [hb] at dn; injection dn with dn; omega)
  have P3A : Hid (Uno a4 (w.heap.size + 3) (.slice p3 W.us.length q3) W.us) := P3_10.out.below BG.out
  have D3_4 : Hid (Dif (.slice p3 W.us.length q3) v4) := Dif.of (n := w10.heap.size) (fun b hb => (P3_10.out.block b hb).2) (fun b hb => by
    rcases dn with dn | dn
    · rw [hb] at dn; cases dn
    · rw [hb] at dn; injection dn with dn; omega)
  have P4A : Hid (Jbo a4 (w.heap.size + 3) v4 W.qs) := on
  obtain ⟨p4, q4, rfl⟩ := on.len
  clear gn dn on BG x y B10 X10 R10 F10 S10 Y10 P0_10 P1_10 P2_10 P3_10
  have t := YA.out.thaw 8
  obtain ⟨-, -, -, -, -, -, -, -, x⟩ := YA.out.cells
  go_upto_region 13 with fail
  have Q4 : Hid (∀ b, ((.slice p4 W.qs.length q4) : Value).ownBlock = some b → b ≠ z) := fun b hb => by have := QN.out b hb; omega
  clear QN
  have KW : Hid (Kp z a4 (a4.setCell ⟨z, 8, none⟩ (.slice p4 W.qs.length q4))) := Kp.set _ _ _
  have Y11 : Hid (Wx (a4.setCell ⟨z, 8, none⟩ (.slice p4 W.qs.length q4)) z (.int .i64 W.turn) (.int .i64 W.next) (.int .i64 W.wide) (.int .i64 W.high) (.slice p0 W.gs.length q0) (.slice p1 W.os.length q1) (.slice p2 W.gold.length q2) (.slice p3 W.us.length q3) (.slice p4 W.qs.length q4)) := YA.out.set8 _
  clear t x YA
  generalize (a4.setCell ⟨z, 8, none⟩ (.slice p4 W.qs.length q4)) = w11 at *
  have B11 : Hid (Below w.heap.size w w11) := KW.out.below BA.out BA.out.size (by have := SZ.out; omega)
  have X11 : Hid (Bw w11 w.heap.size W u1 u2 u3 u4 u5) := XA.out.kp KW.out (by have := SZ.out; omega)
  have R11 : Hid (Wx w11 (w.heap.size + 1) (.int .i64 0) (.int .i64 0) (.int .i64 0) (.int .i64 0) (.slice none 0 0) (.slice none 0 0) (.slice none 0 0) (.slice none 0 0) (.slice none 0 0)) := RA.out.kp KW.out (by have := SZ.out; omega)
  have S11 : Hid (w.heap.size + 3 ≤ w11.heap.size) := Nat.le_trans SA.out KW.out.size
  have F11 : Hid (Fx w11 (w.heap.size + 1 + 1) (.int .i64 W.wide) (.int .i64 W.high) (.slice p0 W.gs.length q0) (.slice p1 W.os.length q1)) := FA.out.kp KW.out (by have := SZ.out; omega)
  have P0_11 : Hid (Ow w11 (w.heap.size + 3) (.slice p0 W.gs.length q0) W.gs) := owns_kpn P0A.out KW.out (fun b hb => by have := (P0A.out.block b hb).1; have := Q0.out b hb; have := SZ.out; omega)
  have P1_11 : Hid (Ow w11 (w.heap.size + 3) (.slice p1 W.os.length q1) W.os) := owns_kpn P1A.out KW.out (fun b hb => by have := (P1A.out.block b hb).1; have := Q1.out b hb; have := SZ.out; omega)
  have P2_11 : Hid (Ow w11 (w.heap.size + 3) (.slice p2 W.gold.length q2) W.gold) := owns_kpn P2A.out KW.out (fun b hb => by have := (P2A.out.block b hb).1; have := Q2.out b hb; have := SZ.out; omega)
  have P3_11 : Hid (Uno w11 (w.heap.size + 3) (.slice p3 W.us.length q3) W.us) := owns_kpn P3A.out KW.out (fun b hb => by have := (P3A.out.block b hb).1; have := Q3.out b hb; have := SZ.out; omega)
  have P4_11 : Hid (Jbo w11 (w.heap.size + 3) (.slice p4 W.qs.length q4) W.qs) := owns_kpn P4A.out KW.out (fun b hb => by have := (P4A.out.block b hb).1; have := Q4.out b hb; have := SZ.out; omega)
  clear KW BA XA RA SA FA P0A P1A P2A P3A P4A
  obtain ⟨x0, x1, x2, x3, x4, x5, x6, x7, x8⟩ := Y11.out.cells
  obtain ⟨z0, z1, z2, z3, z4, z5, z6, z7, z8⟩ := R11.out.cells
  obtain ⟨t0, t1, t2, t3, t4, t5, t6, t7, t8⟩ := R11.out.thaws
  have KZ : Hid (Kp (w.heap.size + 1) w11 (((((((((w11.setCell ⟨w.heap.size + 1, 0, none⟩ (.int .i64 W.turn)).setCell ⟨w.heap.size + 1, 1, none⟩ (.int .i64 W.next)).setCell ⟨w.heap.size + 1, 2, none⟩ (.int .i64 W.wide)).setCell ⟨w.heap.size + 1, 3, none⟩ (.int .i64 W.high)).setCell ⟨w.heap.size + 1, 4, none⟩ (.slice p0 W.gs.length q0)).setCell ⟨w.heap.size + 1, 5, none⟩ (.slice p1 W.os.length q1)).setCell ⟨w.heap.size + 1, 6, none⟩ (.slice p2 W.gold.length q2)).setCell ⟨w.heap.size + 1, 7, none⟩ (.slice p3 W.us.length q3)).setCell ⟨w.heap.size + 1, 8, none⟩ (.slice p4 W.qs.length q4))) := put_kp _ _ _ _ _ _ _ _ _ _ _
  obtain ⟨y0, y1, y2, y3, y4, y5, y6, y7, y8⟩ := (R11.out.put (.int .i64 W.turn) (.int .i64 W.next) (.int .i64 W.wide) (.int .i64 W.high) (.slice p0 W.gs.length q0) (.slice p1 W.os.length q1) (.slice p2 W.gold.length q2) (.slice p3 W.us.length q3) (.slice p4 W.qs.length q4)).cells
  go_wp2
  clear x0 x1 x2 x3 x4 x5 x6 x7 x8 z0 z1 z2 z3 z4 z5 z6 z7 z8 t0 t1 t2 t3 t4 t5 t6 t7 t8
  have s0 := S11.out
  generalize (((((((((w11.setCell ⟨w.heap.size + 1, 0, none⟩ (.int .i64 W.turn)).setCell ⟨w.heap.size + 1, 1, none⟩ (.int .i64 W.next)).setCell ⟨w.heap.size + 1, 2, none⟩ (.int .i64 W.wide)).setCell ⟨w.heap.size + 1, 3, none⟩ (.int .i64 W.high)).setCell ⟨w.heap.size + 1, 4, none⟩ (.slice p0 W.gs.length q0)).setCell ⟨w.heap.size + 1, 5, none⟩ (.slice p1 W.os.length q1)).setCell ⟨w.heap.size + 1, 6, none⟩ (.slice p2 W.gold.length q2)).setCell ⟨w.heap.size + 1, 7, none⟩ (.slice p3 W.us.length q3)).setCell ⟨w.heap.size + 1, 8, none⟩ (.slice p4 W.qs.length q4)) = wz at *
  refine bodyPost_ret (v := .agg #[.int .i64 W.turn, .int .i64 W.next, .int .i64 W.wide, .int .i64 W.high, .slice p0 W.gs.length q0, .slice p1 W.os.length q1, .slice p2 W.gold.length q2, .slice p3 W.us.length q3, .slice p4 W.qs.length q4]) (by simp [results, Tryz.results30, go_sem, y0, y1, y2, y3, y4, y5, y6, y7, y8]) rfl ⟨_, rfl, ⟨_, _, _, _, _, rfl, ⟨Ow.mono (owns_kp P0_11.out KZ.out (by omega)) (by omega), Ow.mono (owns_kp P1_11.out KZ.out (by omega)) (by omega), Ow.mono (owns_kp P2_11.out KZ.out (by omega)) (by omega), Uno.mono (owns_kp P3_11.out KZ.out (by omega)) (by omega), Jbo.mono (owns_kp P4_11.out KZ.out (by omega)) (by omega)⟩, D0_1.out, D0_2.out, D0_3.out, D0_4.out, D1_2.out, D1_3.out, D1_4.out, D2_3.out, D2_4.out, D3_4.out⟩, KZ.out.below B11.out B11.out.size (by omega)⟩
end Go.Proofs.YtagnjmellcibhaaGreatDoor

namespace Go.Proofs.YtagnjmellcibhaaGreatDoor
open Go.RowKit
set_option linter.unusedVariables false

set_option maxRecDepth 100000 in
set_option maxHeartbeats 2000000 in
theorem rfind_any (v : Value) (W : WV) (id : Int) (w : World) (h : Wl w v W) :
    Calls Tryz.prog 29 #[v, .int .i64 id] w fun e w' => ∃ r : Int, e = .returned (.int .i64 r) ∧ FstU (fun u => u.id == id) W.us r ∧ Below w.heap.size w w' := by
  obtain ⟨u1, u2, u3, u4, u5, rfl, -, -, -, ⟨a, c, rfl, c1, c2, ca⟩, -⟩ := h
  have Ca : Hid (W.us ≠ [] → ∃ x, a = some x ∧ x.block < w.heap.size ∧ ∀ (i : Nat) k, W.us[i]? = some k → Unc w (x.add (i * 8)) k) := ca
  clear ca
  go_enter Tryz.func29, Tryz.ntmps29
  go_wp2
  have B0 : Hid (Below w.heap.size w (w.alloc (Obj.cells #[.int .i64 W.turn, .int .i64 W.next, .int .i64 W.wide, .int .i64 W.high, u1, u2, u3, .slice a W.us.length c, u5] 29))) := (Below.refl _ _).alloc (Nat.le_refl _) _
  have X0 : Hid (Bw (w.alloc (Obj.cells #[.int .i64 W.turn, .int .i64 W.next, .int .i64 W.wide, .int .i64 W.high, u1, u2, u3, .slice a W.us.length c, u5] 29)) w.heap.size W u1 u2 u3 (.slice a W.us.length c) u5) := Bw.mk' W _ _ _ _ _ rfl
  generalize w.alloc (Obj.cells #[.int .i64 W.turn, .int .i64 W.next, .int .i64 W.wide, .int .i64 W.high, u1, u2, u3, .slice a W.us.length c, u5] 29) = w0 at *
  go_loopw [5] (fun iv V => ∃ k : Nat, k ≤ W.us.length ∧ iv = .int .i64 (k : Nat) ∧ (W.us.take k).any (fun u => u.id == id) = false ∧ V = w0) (fun iv _ => W.us.length - (intOf iv).toNat)
  case atStart => exact ⟨0, Nat.zero_le _, rfl, rfl, rfl⟩
  case round =>
    obtain ⟨k, hk, rfl, hn, rfl⟩ := hrel
    have HN : Hid ((W.us.take k).any (fun u => u.id == id) = false) := hn
    have c7 := X0.out.c7
    clear hn
    by_cases hkl : k = W.us.length
    · have F : Hid (FstU (fun u => u.id == id) W.us (-1)) := .inl ⟨rfl, by have := HN.out; rwa [hkl, List.take_length] at this⟩
      subst hkl
      clear hk
      go_wp2
      go_ret
      exact ⟨-1, rfl, F.out, B0.out⟩
    · have hlt : k < W.us.length := by omega
      have hli : (k : Int) < (W.us.length : Int) := by omega
      obtain ⟨u, hu⟩ : ∃ u, W.us[k]? = some u := ⟨_, List.getElem?_eq_getElem hlt⟩
      obtain ⟨x, rfl, hx, hcell⟩ := Ca.out (by intro e; rw [e] at hlt; simp at hlt)
      obtain ⟨d0, -, -, -, -, -, -, -⟩ := (hcell k u hu).below B0.out (by rw [add_block]; exact hx)
      have HU : Hid (W.us[k]? = some u) := hu
      clear hcell hx hu hkl
      by_cases hid : u.id = id
      · have F : Hid (FstU (fun u => u.id == id) W.us (k : Nat)) := .inr ⟨k, u, rfl, HU.out, by simp [hid], HN.out⟩
        go_wp2
        go_ret
        exact ⟨_, rfl, F.out, B0.out⟩
      · have hidb : (u.id == id) = false := by simpa using hid
        have N2 : Hid ((W.us.take (k + 1)).any (fun u => u.id == id) = false) := by unfold Hid; rw [anyu_next HU.out, HN.out, hidb]; rfl
        clear hid
        go_wp2
        go_roundw
        case rel => exact ⟨k + 1, by omega, rfl, N2.out, trivial⟩
        case measure => simp [intOf]; omega
end Go.Proofs.YtagnjmellcibhaaGreatDoor

