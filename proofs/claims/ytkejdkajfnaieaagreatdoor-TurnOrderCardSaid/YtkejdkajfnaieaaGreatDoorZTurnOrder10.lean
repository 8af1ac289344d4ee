/- fight.Fight: all strike at once; who has no Life left is gone. · Fight: behind a fight a world is right; what the events tell. Plain mathematics. · The program's orders: which of two stands ahead. · A stable order: elements with the place that they had. Plain mathematics. · orders.unit as a map's key; a map of such keys that a call makes. · orders.Last as mathematics: each unit's last order, and those to train. · turn.Step as mathematics: phase by phase. · What stays while jobs are looked at. · What stays from phase to phase of a turn. · turn.give: what stays between two orders. · turn: the unit that is asked; isOne; send. · turn.mayBe. · One more unit, one more job: the run itself. -/
import Derived.Test.YtkejdkajfnaieaaGreatDoorZTurnOrder9
import Derived.Test.YtkejdkajfnaieaaGreatDoorZTurnOrder3
import Derived.Test.YtkejdkajfnaieaaGreatDoorZTurnOrder1
import Derived.Laws.Closers25
import Derived.IntWalk
import Derived.LoopN
import Derived.Maps.Own
import Derived.Maps.OwnOps
import Derived.Maps.Views
import Derived.Carry
import Derived.DeepKeys4
import Derived.Test.YtkejdkajfnaieaaGreatDoorZTurnOrder4
import Derived.Test.YtkejdkajfnaieaaGreatDoorZTurnOrder6
import Derived.Test.YtkejdkajfnaieaaGreatDoorZTurnOrder8
import Derived.Test.YtkejdkajfnaieaaGreatDoorZTurnOrder5
import Derived.Deep.DeepCutAuto
import Derived.BigRegion
import Derived.Laws.MakeOwn
namespace Go.Proofs.YtkejdkajfnaieaaGreatDoor
open Go.RowKit
set_option linter.unusedVariables false

def fellE (u : UnV) : EvV := ⟨3, u.id, 0⟩
/-- who is struck, who stays. -/
def struck (ks : List KV) (Wn : Nat) (X : WV) : List UnV := hurt X.us (strikes ks Wn X.us X.us).1
def stays (ks : List KV) (Wn : Nat) (X : WV) : List UnV := (struck ks Wn X).filter (fun u => !fallenU u)
def fought (ks : List KV) (Wn : Nat) (X : WV) : WV := { X with us := stays ks Wn X, qs := X.qs.filter (fun j => !orphanJ (stays ks Wn X) j) }
def fevents (ks : List KV) (Wn : Nat) (X : WV) : List EvV := (strikes ks Wn X.us X.us).2 ++ ((struck ks Wn X).filter fallenU).map fellE
theorem strikes_evlen {ks : List KV} {W : Nat} {us : List UnV} : ∀ (l : List UnV) (s : List Int × List EvV), (l.foldl (stk ks W us) s).2.length ≤ s.2.length + l.length
  | [], s => Nat.le_refl _
  | u :: l, s => by
    rw [List.foldl_cons]
    have h1 := strikes_evlen (ks := ks) (W := W) (us := us) l (stk ks W us s u)
    have h2 : (stk ks W us s u).2.length ≤ s.2.length + 1 := by
      unfold stk
      split
      · omega
      · simp
    rw [List.length_cons]
    omega
theorem fell_next {hs : List UnV} {n : Nat} {y : UnV} (hy : hs[n]? = some y) : ((hs.take (n + 1)).filter fallenU).map fellE = ((hs.take n).filter fallenU).map fellE ++ (if fallenU y then [fellE y] else []) := by
  obtain ⟨hi, e⟩ := List.getElem?_eq_some_iff.1 hy
  rw [List.take_succ_eq_append_getElem hi, e, List.filter_append, List.map_append]
  cases h : fallenU y <;> simp [h]
/-- what Fight tells. -/
def FightSays (ks : List KV) (X : WV) (w w' : World) (v ev : Value) : Prop :=
  (Wd.wfault ks X ≠ 0 ∧ v = .agg #[.int .i64 0, .int .i64 0, .int .i64 0, .int .i64 0, .slice none 0 0, .slice none 0 0, .slice none 0 0, .slice none 0 0, .slice none 0 0] ∧ ev = .slice none 0 0)
  ∨ (Wd.wfault ks X = 0 ∧ ∃ Wn : Nat, X.wide = (Wn : Nat) ∧ 0 < Wn ∧ Wn ≤ 12 ∧ Wo w' w.heap.size v (fought ks Wn X) ∧ Evo w' w.heap.size ev (fevents ks Wn X))
set_option maxRecDepth 100000 in
set_option maxHeartbeats 16000000 in
theorem Fight_any (vk vw : Value) (ks : List KV) (X : WV) (w : World) (hk : Kl w vk ks) (hb : ∀ k ∈ ks, k.b.size ≤ 9223372036854775807) (hw : Wl w vw X) :
    Calls Tryz.prog 50 #[vk, vw] w fun e w' => ∃ v ev r, e = .returned (.tuple #[v, ev, r]) ∧ Er r (Wd.wfault ks X) ∧ FightSays ks X w w' v ev ∧ Below w.heap.size w w' := by
  have K : Hid (Kl w vk ks ∧ ∀ k ∈ ks, k.b.size ≤ 9223372036854775807) := ⟨hk, hb⟩
  have H : Hid (Wl w vw X) := hw
  obtain ⟨p1, q1, p2, q2, p3, q3, p4, q4, p5, q5, rfl⟩ := wl_shape9 hw
  obtain ⟨pk, qk, rfl, ck1, ck2, kc⟩ := hk
  clear hb hw kc
  go_enter Tryz.func50, Tryz.ntmps50
  go_upto_region 1 with fail
  have B0 : Hid (Below w.heap.size w ((w.alloc (Obj.cells #[.int .i64 X.turn, .int .i64 X.next, .int .i64 X.wide, .int .i64 X.high, .slice p1 X.gs.length q1, .slice p2 X.os.length q2, .slice p3 X.gold.length q3, .slice p4 X.us.length q4, .slice p5 X.qs.length q5] 29)).alloc (Obj.cells #[.int .i64 0, .int .i64 0, .int .i64 0, .int .i64 0, .slice none 0 0, .slice none 0 0, .slice none 0 0, .slice none 0 0, .slice none 0 0] 29))) := ((Below.refl _ _).alloc (Nat.le_refl _) _).alloc (by simp) _
  have X0 : Hid (Wx ((w.alloc (Obj.cells #[.int .i64 X.turn, .int .i64 X.next, .int .i64 X.wide, .int .i64 X.high, .slice p1 X.gs.length q1, .slice p2 X.os.length q2, .slice p3 X.gold.length q3, .slice p4 X.us.length q4, .slice p5 X.qs.length q5] 29)).alloc (Obj.cells #[.int .i64 0, .int .i64 0, .int .i64 0, .int .i64 0, .slice none 0 0, .slice none 0 0, .slice none 0 0, .slice none 0 0, .slice none 0 0] 29)) (w.heap.size) (.int .i64 X.turn) (.int .i64 X.next) (.int .i64 X.wide) (.int .i64 X.high) (.slice p1 X.gs.length q1) (.slice p2 X.os.length q2) (.slice p3 X.gold.length q3) (.slice p4 X.us.length q4) (.slice p5 X.qs.length q5)) := (Wx.new (.int .i64 X.turn) (.int .i64 X.next) (.int .i64 X.wide) (.int .i64 X.high) (.slice p1 X.gs.length q1) (.slice p2 X.os.length q2) (.slice p3 X.gold.length q3) (.slice p4 X.us.length q4) (.slice p5 X.qs.length q5) rfl).below ((Below.refl _ _).alloc (Nat.le_refl _) _) (by simp)
  have Z0 : Hid (Wx ((w.alloc (Obj.cells #[.int .i64 X.turn, .int .i64 X.next, .int .i64 X.wide, .int .i64 X.high, .slice p1 X.gs.length q1, .slice p2 X.os.length q2, .slice p3 X.gold.length q3, .slice p4 X.us.length q4, .slice p5 X.qs.length q5] 29)).alloc (Obj.cells #[.int .i64 0, .int .i64 0, .int .i64 0, .int .i64 0, .slice none 0 0, .slice none 0 0, .slice none 0 0, .slice none 0 0, .slice none 0 0] 29)) (w.heap.size + 1) (.int .i64 0) (.int .i64 0) (.int .i64 0) (.int .i64 0) (.slice none 0 0) (.slice none 0 0) (.slice none 0 0) (.slice none 0 0) (.slice none 0 0)) := Wx.new (.int .i64 0) (.int .i64 0) (.int .i64 0) (.int .i64 0) (.slice none 0 0) (.slice none 0 0) (.slice none 0 0) (.slice none 0 0) (.slice none 0 0) (by simp)
  generalize ((w.alloc (Obj.cells #[.int .i64 X.turn, .int .i64 X.next, .int .i64 X.wide, .int .i64 X.high, .slice p1 X.gs.length q1, .slice p2 X.os.length q2, .slice p3 X.gold.length q3, .slice p4 X.us.length q4, .slice p5 X.qs.length q5] 29)).alloc (Obj.cells #[.int .i64 0, .int .i64 0, .int .i64 0, .int .i64 0, .slice none 0 0, .slice none 0 0, .slice none 0 0, .slice none 0 0, .slice none 0 0] 29)) = w0 at *
  obtain ⟨x0, x1, x2, x3, x4, x5, x6, x7, x8⟩ := X0.out.cells
  go_wp2_with fail
  refine (wcheck_any _ _ ks X w0 (K.out.1.below B0.out) K.out.2 (H.out.below B0.out)).mono ?_
  rintro e w1 ⟨r, rfl, hr, hb⟩
  obtain ⟨fw, hfw⟩ : ∃ f, Wd.wfault ks X = f := ⟨_, rfl⟩
  have FW : Hid (Wd.wfault ks X = fw) := hfw
  rw [hfw] at hr
  have B1 : Hid (Below w.heap.size w w1) := B0.out.trans (hb.mono B0.out.size)
  have X1 : Hid (Wx w1 (w.heap.size) (.int .i64 X.turn) (.int .i64 X.next) (.int .i64 X.wide) (.int .i64 X.high) (.slice p1 X.gs.length q1) (.slice p2 X.os.length q2) (.slice p3 X.gold.length q3) (.slice p4 X.us.length q4) (.slice p5 X.qs.length q5)) := X0.out.below hb X0.out.lt
  have Z1 : Hid (Wx w1 (w.heap.size + 1) (.int .i64 0) (.int .i64 0) (.int .i64 0) (.int .i64 0) (.slice none 0 0) (.slice none 0 0) (.slice none 0 0) (.slice none 0 0) (.slice none 0 0)) := Z0.out.below hb Z0.out.lt
  clear hb hfw x0 x1 x2 x3 x4 x5 x6 x7 x8 X0 B0 Z0
  rcases hr with ⟨rfl, rfl⟩ | ⟨hf, rfl⟩
  case inr =>
    have HF : Hid (fw ≠ 0) := hf
    clear hf
    obtain ⟨z0, z1, z2, z3, z4, z5, z6, z7, z8⟩ := Z1.out.cells
    obtain ⟨t0, t1, t2, t3, t4, t5, t6, t7, t8⟩ := Z1.out.thaws
    have KZ : Hid (Kp (w.heap.size + 1) w1 (((((((((w1.setCell ⟨w.heap.size + 1, 0, none⟩ (.int .i64 0)).setCell ⟨w.heap.size + 1, 1, none⟩ (.int .i64 0)).setCell ⟨w.heap.size + 1, 2, none⟩ (.int .i64 0)).setCell ⟨w.heap.size + 1, 3, none⟩ (.int .i64 0)).setCell ⟨w.heap.size + 1, 4, none⟩ (.slice none 0 0)).setCell ⟨w.heap.size + 1, 5, none⟩ (.slice none 0 0)).setCell ⟨w.heap.size + 1, 6, none⟩ (.slice none 0 0)).setCell ⟨w.heap.size + 1, 7, none⟩ (.slice none 0 0)).setCell ⟨w.heap.size + 1, 8, none⟩ (.slice none 0 0))) := put_kp _ _ _ _ _ _ _ _ _ _ _
    obtain ⟨y0, y1, y2, y3, y4, y5, y6, y7, y8⟩ := (Z1.out.put (.int .i64 0) (.int .i64 0) (.int .i64 0) (.int .i64 0) (.slice none 0 0) (.slice none 0 0) (.slice none 0 0) (.slice none 0 0) (.slice none 0 0)).cells
    go_wp2
    clear z0 z1 z2 z3 z4 z5 z6 z7 z8 t0 t1 t2 t3 t4 t5 t6 t7 t8
    generalize (((((((((w1.setCell ⟨w.heap.size + 1, 0, none⟩ (.int .i64 0)).setCell ⟨w.heap.size + 1, 1, none⟩ (.int .i64 0)).setCell ⟨w.heap.size + 1, 2, none⟩ (.int .i64 0)).setCell ⟨w.heap.size + 1, 3, none⟩ (.int .i64 0)).setCell ⟨w.heap.size + 1, 4, none⟩ (.slice none 0 0)).setCell ⟨w.heap.size + 1, 5, none⟩ (.slice none 0 0)).setCell ⟨w.heap.size + 1, 6, none⟩ (.slice none 0 0)).setCell ⟨w.heap.size + 1, 7, none⟩ (.slice none 0 0)).setCell ⟨w.heap.size + 1, 8, none⟩ (.slice none 0 0)) = w9 at *
    refine bodyPost_ret (v := .tuple #[.agg #[.int .i64 0, .int .i64 0, .int .i64 0, .int .i64 0, .slice none 0 0, .slice none 0 0, .slice none 0 0, .slice none 0 0, .slice none 0 0], .slice none 0 0, .iface 97 (.int .i64 fw)]) (by simp [results, Tryz.results50, go_sem, y0, y1, y2, y3, y4, y5, y6, y7, y8]) rfl ⟨_, _, _, rfl, by rw [FW.out]; exact Er.no HF.out, .inl ⟨by rw [FW.out]; exact HF.out, rfl, rfl⟩, KZ.out.below B1.out B1.out.size (by omega)⟩
  have WR : Hid (WRight ks X) := wright_of FW.out
  obtain ⟨Wn, Hn, e1, e2, G⟩ := WR.out.good
  have GD : Hid (X.wide = (Wn : Nat) ∧ 0 < Wn ∧ Wn ≤ 12) := ⟨e1, G.w1, G.w2⟩
  clear e1 e2 G
  obtain ⟨x0, x1, x2, x3, x4, x5, x6, x7, x8⟩ := X1.out.cells
  go_wp2_with fail
  refine (copy_any _ X w1 (H.out.below B1.out) WR.out.len).mono ?_
  rintro e w2 ⟨cu, rfl, ⟨k1, k2, k3, k4, k5, rfl, ⟨o1, o2, o3, o4, o5⟩, -, -, d14, d15, -, d24, d25, d34, d35, d45⟩, hb⟩
  obtain ⟨a1, r1, rfl⟩ := o1.len
  obtain ⟨a2, r2, rfl⟩ := o2.len
  obtain ⟨a3, r3, rfl⟩ := o3.len
  obtain ⟨a4, r4, rfl⟩ := o4.len
  obtain ⟨a5, r5, rfl⟩ := o5.len
  obtain ⟨b1, hb1⟩ : ∃ z, w1.heap.size = z := ⟨_, rfl⟩
  rw [hb1] at o1 o2 o3 o4 o5
  have BS : Hid (w.heap.size + 1 < b1 ∧ b1 ≤ w2.heap.size) := ⟨by rw [← hb1]; exact Z1.out.lt, by rw [← hb1]; exact hb.size⟩
  have X2 : Hid (Wx w2 (w.heap.size) (.int .i64 X.turn) (.int .i64 X.next) (.int .i64 X.wide) (.int .i64 X.high) (.slice p1 X.gs.length q1) (.slice p2 X.os.length q2) (.slice p3 X.gold.length q3) (.slice p4 X.us.length q4) (.slice p5 X.qs.length q5)) := X1.out.below hb X1.out.lt
  have Z2 : Hid (Wx w2 (w.heap.size + 1) (.int .i64 0) (.int .i64 0) (.int .i64 0) (.int .i64 0) (.slice none 0 0) (.slice none 0 0) (.slice none 0 0) (.slice none 0 0) (.slice none 0 0)) := Z1.out.below hb Z1.out.lt
  have B2 : Hid (Below w.heap.size w w2) := B1.out.trans (hb.mono B1.out.size)
  have O2 : Hid (Ow w2 b1 (Value.slice a1 X.gs.length r1) X.gs ∧ Ow w2 b1 (Value.slice a2 X.os.length r2) X.os ∧ Ow w2 b1 (Value.slice a3 X.gold.length r3) X.gold ∧ Uno w2 b1 (Value.slice a4 X.us.length r4) X.us ∧ Jbo w2 b1 (Value.slice a5 X.qs.length r5) X.qs) := ⟨o1, o2, o3, o4, o5⟩
  have DD : Hid (Dif (Value.slice a1 X.gs.length r1) (Value.slice a4 X.us.length r4) ∧ Dif (Value.slice a1 X.gs.length r1) (Value.slice a5 X.qs.length r5) ∧ Dif (Value.slice a2 X.os.length r2) (Value.slice a4 X.us.length r4) ∧ Dif (Value.slice a2 X.os.length r2) (Value.slice a5 X.qs.length r5) ∧ Dif (Value.slice a3 X.gold.length r3) (Value.slice a4 X.us.length r4) ∧ Dif (Value.slice a3 X.gold.length r3) (Value.slice a5 X.qs.length r5) ∧ Dif (Value.slice a4 X.us.length r4) (Value.slice a5 X.qs.length r5)) := ⟨d14, d15, d24, d25, d34, d35, d45⟩
  clear hb hb1 x0 x1 x2 x3 x4 x5 x6 x7 x8 o1 o2 o3 o4 o5 d14 d15 d24 d25 d34 d35 d45 X1 Z1 B1
  obtain ⟨z0, z1, z2, z3, z4, z5, z6, z7, z8⟩ := X2.out.cells
  obtain ⟨t0, t1, t2, t3, t4, t5, t6, t7, t8⟩ := X2.out.thaws
  have KZ : Hid (Kp (w.heap.size) w2 (((((((((w2.setCell ⟨w.heap.size, 0, none⟩ (.int .i64 X.turn)).setCell ⟨w.heap.size, 1, none⟩ (.int .i64 X.next)).setCell ⟨w.heap.size, 2, none⟩ (.int .i64 X.wide)).setCell ⟨w.heap.size, 3, none⟩ (.int .i64 X.high)).setCell ⟨w.heap.size, 4, none⟩ (Value.slice a1 X.gs.length r1)).setCell ⟨w.heap.size, 5, none⟩ (Value.slice a2 X.os.length r2)).setCell ⟨w.heap.size, 6, none⟩ (Value.slice a3 X.gold.length r3)).setCell ⟨w.heap.size, 7, none⟩ (Value.slice a4 X.us.length r4)).setCell ⟨w.heap.size, 8, none⟩ (Value.slice a5 X.qs.length r5))) := put_kp _ _ _ _ _ _ _ _ _ _ _
  have X3 : Hid (Wx (((((((((w2.setCell ⟨w.heap.size, 0, none⟩ (.int .i64 X.turn)).setCell ⟨w.heap.size, 1, none⟩ (.int .i64 X.next)).setCell ⟨w.heap.size, 2, none⟩ (.int .i64 X.wide)).setCell ⟨w.heap.size, 3, none⟩ (.int .i64 X.high)).setCell ⟨w.heap.size, 4, none⟩ (Value.slice a1 X.gs.length r1)).setCell ⟨w.heap.size, 5, none⟩ (Value.slice a2 X.os.length r2)).setCell ⟨w.heap.size, 6, none⟩ (Value.slice a3 X.gold.length r3)).setCell ⟨w.heap.size, 7, none⟩ (Value.slice a4 X.us.length r4)).setCell ⟨w.heap.size, 8, none⟩ (Value.slice a5 X.qs.length r5)) (w.heap.size) (.int .i64 X.turn) (.int .i64 X.next) (.int .i64 X.wide) (.int .i64 X.high) (Value.slice a1 X.gs.length r1) (Value.slice a2 X.os.length r2) (Value.slice a3 X.gold.length r3) (Value.slice a4 X.us.length r4) (Value.slice a5 X.qs.length r5)) := X2.out.put (.int .i64 X.turn) (.int .i64 X.next) (.int .i64 X.wide) (.int .i64 X.high) (Value.slice a1 X.gs.length r1) (Value.slice a2 X.os.length r2) (Value.slice a3 X.gold.length r3) (Value.slice a4 X.us.length r4) (Value.slice a5 X.qs.length r5)
  go_upto_region 5 with fail
  clear z0 z1 z2 z3 z4 z5 z6 z7 z8 t0 t1 t2 t3 t4 t5 t6 t7 t8
  generalize (((((((((w2.setCell ⟨w.heap.size, 0, none⟩ (.int .i64 X.turn)).setCell ⟨w.heap.size, 1, none⟩ (.int .i64 X.next)).setCell ⟨w.heap.size, 2, none⟩ (.int .i64 X.wide)).setCell ⟨w.heap.size, 3, none⟩ (.int .i64 X.high)).setCell ⟨w.heap.size, 4, none⟩ (Value.slice a1 X.gs.length r1)).setCell ⟨w.heap.size, 5, none⟩ (Value.slice a2 X.os.length r2)).setCell ⟨w.heap.size, 6, none⟩ (Value.slice a3 X.gold.length r3)).setCell ⟨w.heap.size, 7, none⟩ (Value.slice a4 X.us.length r4)).setCell ⟨w.heap.size, 8, none⟩ (Value.slice a5 X.qs.length r5)) = w3 at *
  have Z3 : Hid (Wx w3 (w.heap.size + 1) (.int .i64 0) (.int .i64 0) (.int .i64 0) (.int .i64 0) (.slice none 0 0) (.slice none 0 0) (.slice none 0 0) (.slice none 0 0) (.slice none 0 0)) := Z2.out.kp KZ.out (by omega)
  have B3 : Hid (Below w.heap.size w w3) := KZ.out.below B2.out B2.out.size (Nat.le_refl _)
  have O3 : Hid (Ow w3 b1 (Value.slice a1 X.gs.length r1) X.gs ∧ Ow w3 b1 (Value.slice a2 X.os.length r2) X.os ∧ Ow w3 b1 (Value.slice a3 X.gold.length r3) X.gold ∧ Uno w3 b1 (Value.slice a4 X.us.length r4) X.us ∧ Jbo w3 b1 (Value.slice a5 X.qs.length r5) X.qs) := by
    have h := BS.out.1
    exact ⟨O2.out.1.kp KZ.out (by omega), O2.out.2.1.kp KZ.out (by omega), O2.out.2.2.1.kp KZ.out (by omega), O2.out.2.2.2.1.kp KZ.out (by omega), O2.out.2.2.2.2.kp KZ.out (by omega)⟩
  obtain ⟨b3, hb3⟩ : ∃ z, w3.heap.size = z := ⟨_, rfl⟩
  have S3 : Hid (b1 ≤ b3 ∧ w3.heap.size = b3) := ⟨by rw [← hb3]; exact Nat.le_trans BS.out.2 KZ.out.size, hb3⟩
  have L3 : Hid (Wl w3 (.agg #[.int .i64 X.turn, .int .i64 X.next, .int .i64 X.wide, .int .i64 X.high, Value.slice a1 X.gs.length r1, Value.slice a2 X.os.length r2, Value.slice a3 X.gold.length r3, Value.slice a4 X.us.length r4, Value.slice a5 X.qs.length r5]) X) := ⟨(Value.slice a1 X.gs.length r1), (Value.slice a2 X.os.length r2), (Value.slice a3 X.gold.length r3), (Value.slice a4 X.us.length r4), (Value.slice a5 X.qs.length r5), rfl, O3.out.1.ro, O3.out.2.1.ro, O3.out.2.2.1.ro, O3.out.2.2.2.1.l, O3.out.2.2.2.2.l⟩
  clear hb3 KZ X2 Z2 B2 O2
  obtain ⟨x0, x1, x2, x3, x4, x5, x6, x7, x8⟩ := X3.out.cells
  go_wp2_with fail
  refine (strike_own _ ks X (Value.slice a1 X.gs.length r1) (Value.slice a2 X.os.length r2) (Value.slice a3 X.gold.length r3) (Value.slice a4 X.us.length r4) (Value.slice a5 X.qs.length r5) Wn b1 w3 WR.out GD.out.1 GD.out.2.1 GD.out.2.2 (K.out.1.below B3.out) L3.out O3.out.2.2.2.1).mono ?_
  rintro e w4 ⟨ev, rfl, hev, hu4, hg⟩
  rw [S3.out.2] at hev
  have BG : Hid (Below b1 w3 w4) := (Below.refl _ _).grown hg (by have := S3.out; omega) (fun k hk => (O3.out.2.2.2.1.block k hk).1)
  have X4 : Hid (Wx w4 (w.heap.size) (.int .i64 X.turn) (.int .i64 X.next) (.int .i64 X.wide) (.int .i64 X.high) (Value.slice a1 X.gs.length r1) (Value.slice a2 X.os.length r2) (Value.slice a3 X.gold.length r3) (Value.slice a4 X.us.length r4) (Value.slice a5 X.qs.length r5)) := X3.out.below BG.out (by have := BS.out.1; omega)
  have Z4 : Hid (Wx w4 (w.heap.size + 1) (.int .i64 0) (.int .i64 0) (.int .i64 0) (.int .i64 0) (.slice none 0 0) (.slice none 0 0) (.slice none 0 0) (.slice none 0 0) (.slice none 0 0)) := Z3.out.below BG.out BS.out.1
  have B4 : Hid (Below w.heap.size w w4) := B3.out.trans (BG.out.mono (by have := BS.out.1; omega))
  have O4 : Hid (Ow w4 b1 (Value.slice a1 X.gs.length r1) X.gs ∧ Ow w4 b1 (Value.slice a2 X.os.length r2) X.os ∧ Ow w4 b1 (Value.slice a3 X.gold.length r3) X.gold ∧ Jbo w4 b1 (Value.slice a5 X.qs.length r5) X.qs) := ⟨own_gb O3.out.1 hg (fun b h1 h2 => DD.out.1 b h1 h2), own_gb O3.out.2.1 hg (fun b h1 h2 => DD.out.2.2.1 b h1 h2), own_gb O3.out.2.2.1 hg (fun b h1 h2 => DD.out.2.2.2.2.1 b h1 h2), own_gb O3.out.2.2.2.2 hg (fun b h1 h2 => DD.out.2.2.2.2.2.2 b h2 h1)⟩
  have LB : Hid ((∀ b, (Value.slice a1 X.gs.length r1).ownBlock = some b → b < b3) ∧ (∀ b, (Value.slice a2 X.os.length r2).ownBlock = some b → b < b3) ∧ (∀ b, (Value.slice a3 X.gold.length r3).ownBlock = some b → b < b3) ∧ (∀ b, (Value.slice a4 X.us.length r4).ownBlock = some b → b < b3) ∧ (∀ b, (Value.slice a5 X.qs.length r5).ownBlock = some b → b < b3)) := by
    rw [← S3.out.2]
    exact ⟨fun b h => (O3.out.1.block b h).2, fun b h => (O3.out.2.1.block b h).2, fun b h => (O3.out.2.2.1.block b h).2, fun b h => (O3.out.2.2.2.1.block b h).2, fun b h => (O3.out.2.2.2.2.block b h).2⟩
  obtain ⟨hs, hhs⟩ : ∃ l, struck ks Wn X = l := ⟨_, rfl⟩
  obtain ⟨es, hes⟩ : ∃ l, (strikes ks Wn X.us X.us).2 = l := ⟨_, rfl⟩
  have hu4' : Uno w4 b1 (Value.slice a4 X.us.length r4) (struck ks Wn X) := hu4
  rw [hhs] at hu4'
  rw [hes] at hev
  have U4 : Hid (Uno w4 b1 (Value.slice a4 X.us.length r4) hs) := hu4'
  have E4 : Hid (Evo w4 b3 ev es) := hev
  have HS : Hid (struck ks Wn X = hs ∧ (strikes ks Wn X.us X.us).2 = es ∧ hs.length ≤ 40 ∧ es.length ≤ 40) := by
    have hul := WR.out.ul
    refine ⟨hhs, hes, ?_, ?_⟩
    · rw [← hhs]; unfold struck; rw [hurt_len strikes_len']; exact hul
    · rw [← hes]
      have := strikes_evlen (ks := ks) (W := Wn) (us := X.us) X.us (List.replicate X.us.length 0, [])
      unfold strikes
      simp at this
      omega
  have S4 : Hid (b3 ≤ w4.heap.size) := by have := S3.out.2; have := hg.size; unfold Hid; omega
  have HLN : Hid (hs.length = X.us.length) := by unfold Hid; rw [← HS.out.1]; unfold struck; exact hurt_len strikes_len'
  have hsl : X.us.length ≤ 40 := WR.out.ul
  clear hev hu4 hu4' hg hhs hes x0 x1 x2 x3 x4 x5 x6 x7 x8 X3 Z3 B3 O3 L3 BG
  obtain ⟨-, -, -, -, -, -, -, x7, -⟩ := X4.out.cells
  go_upto_region 8 with fail
  clear x7
  go_loopw [8, 28] (fun v8 v28 V => ∃ (n : Nat) (ev : Value), v28 = .int .i64 (n : Nat) ∧ ev = v8 ∧ n ≤ X.us.length ∧ Evo V b3 ev (es ++ ((hs.take n).filter fallenU).map fellE) ∧ Below b3 w4 V) (fun _ v28 _ => X.us.length - (intOf v28).toNat)
  case atStart => exact ⟨0, _, rfl, rfl, Nat.zero_le _, by simpa using E4.out, Below.refl _ _⟩
  case round =>
    obtain ⟨n, ev', rfl, rfl, hn, hev, hbb⟩ := hrel
    have E5 : Hid (Evo wr b3 ev' (es ++ ((hs.take n).filter fallenU).map fellE)) := hev
    have BB : Hid (Below b3 w4 wr) := hbb
    have UL : Hid (Unl wr (Value.slice a4 X.us.length r4) hs) := Uno.l (own_low U4.out hbb (fun b h => LB.out.2.2.2.1 b h))
    clear hev hbb E4
    by_cases h0 : n = X.us.length
    · subst h0
      rw [List.take_of_length_le (by rw [HLN.out]; exact Nat.le_refl _)] at E5
      have hnl : ¬ (((X.us.length : Nat) : Int) < (X.us.length : Nat)) := by omega
      obtain ⟨fs, hfs⟩ : ∃ l, es ++ (hs.filter fallenU).map fellE = l := ⟨_, rfl⟩
      have FE : Hid (fevents ks Wn X = fs) := by unfold Hid fevents; rw [HS.out.1, HS.out.2.1]; exact hfs
      rw [hfs] at E5
      have U5 : Hid (Uno wr b1 (Value.slice a4 X.us.length r4) hs) := own_low U4.out BB.out (fun b h => LB.out.2.2.2.1 b h)
      have O5 : Hid (Ow wr b1 (Value.slice a1 X.gs.length r1) X.gs ∧ Ow wr b1 (Value.slice a2 X.os.length r2) X.os ∧ Ow wr b1 (Value.slice a3 X.gold.length r3) X.gold ∧ Jbo wr b1 (Value.slice a5 X.qs.length r5) X.qs) := ⟨own_low O4.out.1 BB.out (fun b h => LB.out.1 b h), own_low O4.out.2.1 BB.out (fun b h => LB.out.2.1 b h), own_low O4.out.2.2.1 BB.out (fun b h => LB.out.2.2.1 b h), own_low O4.out.2.2.2 BB.out (fun b h => LB.out.2.2.2.2 b h)⟩
      have X5 : Hid (Wx wr (w.heap.size) (.int .i64 X.turn) (.int .i64 X.next) (.int .i64 X.wide) (.int .i64 X.high) (Value.slice a1 X.gs.length r1) (Value.slice a2 X.os.length r2) (Value.slice a3 X.gold.length r3) (Value.slice a4 X.us.length r4) (Value.slice a5 X.qs.length r5)) := X4.out.below BB.out (by have := BS.out.1; have := S3.out.1; omega)
      have Z5 : Hid (Wx wr (w.heap.size + 1) (.int .i64 0) (.int .i64 0) (.int .i64 0) (.int .i64 0) (.slice none 0 0) (.slice none 0 0) (.slice none 0 0) (.slice none 0 0) (.slice none 0 0)) := Z4.out.below BB.out (by have := BS.out.1; have := S3.out.1; omega)
      have B5 : Hid (Below w.heap.size w wr) := B4.out.trans (BB.out.mono (by have := BS.out.1; have := S3.out.1; omega))
      have S5 : Hid (b1 ≤ wr.heap.size) := by have := S4.out; have := BB.out.size; have := S3.out.1; unfold Hid; omega
      clear hfs UL BB U4 O4 X4 Z4 B4 S4
      obtain ⟨-, -, -, -, -, -, -, x7, -⟩ := X5.out.cells
      go_wp2_with fail
      refine (del_own 118 (by intro args w; go_simp) (Value.slice a4 X.us.length r4) #[] hs fallenU wr b1 U5.out S5.out (by have := HS.out.2.2.1; omega) (fun W _ _ h _ => fallen_fg h W)).mono ?_
      rintro e w6 ⟨v4, rfl, ho, hb, hg, hown⟩
      obtain ⟨st, hst⟩ : ∃ l, hs.filter (fun k => !fallenU k) = l := ⟨_, rfl⟩
      have ST : Hid (stays ks Wn X = st) := by unfold Hid stays; rw [HS.out.1]; exact hst
      rw [hst] at ho
      obtain ⟨a6, r6, rfl⟩ := ho.len
      have U6 : Hid (Uno w6 b1 (.slice a6 st.length r6) st) := ho
      have OB : Hid ((Value.slice a6 st.length r6).ownBlock = ((Value.slice a4 X.us.length r4)).ownBlock) := hown
      have O6 : Hid (Ow w6 b1 (Value.slice a1 X.gs.length r1) X.gs ∧ Ow w6 b1 (Value.slice a2 X.os.length r2) X.os ∧ Ow w6 b1 (Value.slice a3 X.gold.length r3) X.gold ∧ Jbo w6 b1 (Value.slice a5 X.qs.length r5) X.qs) := ⟨own_gb O5.out.1 hg (fun b h1 h2 => DD.out.1 b h1 h2), own_gb O5.out.2.1 hg (fun b h1 h2 => DD.out.2.2.1 b h1 h2), own_gb O5.out.2.2.1 hg (fun b h1 h2 => DD.out.2.2.2.2.1 b h1 h2), own_gb O5.out.2.2.2 hg (fun b h1 h2 => DD.out.2.2.2.2.2.2 b h2 h1)⟩
      have E6 : Hid (Evo w6 b3 ev' fs) := own_gb E5.out hg (fun b h1 h2 => by have := LB.out.2.2.2.1 b h2; have := (E5.out.block b h1).1; omega)
      have X6 : Hid (Wx w6 (w.heap.size) (.int .i64 X.turn) (.int .i64 X.next) (.int .i64 X.wide) (.int .i64 X.high) (Value.slice a1 X.gs.length r1) (Value.slice a2 X.os.length r2) (Value.slice a3 X.gold.length r3) (Value.slice a4 X.us.length r4) (Value.slice a5 X.qs.length r5)) := X5.out.below hb (by have := BS.out.1; omega)
      have Z6 : Hid (Wx w6 (w.heap.size + 1) (.int .i64 0) (.int .i64 0) (.int .i64 0) (.int .i64 0) (.slice none 0 0) (.slice none 0 0) (.slice none 0 0) (.slice none 0 0) (.slice none 0 0)) := Z5.out.below hb BS.out.1
      have B6 : Hid (Below w.heap.size w w6) := B5.out.trans (hb.mono (by have := BS.out.1; omega))
      have S6 : Hid (b1 ≤ w6.heap.size) := Nat.le_trans S5.out hb.size
      clear ho hb hg hown hst x7 U5 O5 X5 Z5 B5 S5 E5
      obtain ⟨-, -, -, -, -, -, -, x7, -⟩ := X6.out.cells
      have t7 := X6.out.thaw 7
      have X7 : Hid (Wx (w6.setCell ⟨w.heap.size, 7, none⟩ (.slice a6 st.length r6)) (w.heap.size) (.int .i64 X.turn) (.int .i64 X.next) (.int .i64 X.wide) (.int .i64 X.high) (Value.slice a1 X.gs.length r1) (Value.slice a2 X.os.length r2) (Value.slice a3 X.gold.length r3) (Value.slice a6 st.length r6) (Value.slice a5 X.qs.length r5)) := X6.out.set7 _
      have K7 : Hid (Kp (w.heap.size) w6 (w6.setCell ⟨w.heap.size, 7, none⟩ (.slice a6 st.length r6))) := Kp.set _ _ _
      go_upto_region 14 with fail
      clear x7 t7
      generalize (w6.setCell ⟨w.heap.size, 7, none⟩ (.slice a6 st.length r6)) = w7 at *
      have U7 : Hid (Uno w7 b1 (.slice a6 st.length r6) st) := U6.out.kp K7.out (by have := BS.out.1; omega)
      have O7 : Hid (Ow w7 b1 (Value.slice a1 X.gs.length r1) X.gs ∧ Ow w7 b1 (Value.slice a2 X.os.length r2) X.os ∧ Ow w7 b1 (Value.slice a3 X.gold.length r3) X.gold ∧ Jbo w7 b1 (Value.slice a5 X.qs.length r5) X.qs) := by
        have h := BS.out.1
        exact ⟨O6.out.1.kp K7.out (by omega), O6.out.2.1.kp K7.out (by omega), O6.out.2.2.1.kp K7.out (by omega), O6.out.2.2.2.kp K7.out (by omega)⟩
      have E7 : Hid (Evo w7 b3 ev' fs) := E6.out.kp9 K7.out (by have := BS.out.1; have := S3.out.1; omega)
      have Z7 : Hid (Wx w7 (w.heap.size + 1) (.int .i64 0) (.int .i64 0) (.int .i64 0) (.int .i64 0) (.slice none 0 0) (.slice none 0 0) (.slice none 0 0) (.slice none 0 0) (.slice none 0 0)) := Z6.out.kp K7.out (by omega)
      have B7 : Hid (Below w.heap.size w w7) := K7.out.below B6.out B6.out.size (Nat.le_refl _)
      have S7 : Hid (b1 ≤ w7.heap.size) := Nat.le_trans S6.out K7.out.size
      clear K7 U6 O6 E6 Z6 B6 S6 X6
      obtain ⟨-, -, -, -, -, -, -, -, x8⟩ := X7.out.cells
      go_wp2_with fail
      refine (delj_own 119 (by intro args w; go_simp) (Value.slice a5 X.qs.length r5) #[.pointer (some ⟨w.heap.size, 0, none⟩)] X.qs (orphanJ st) w7 b1 O7.out.2.2.2 S7.out (by have := WR.out.ql; omega) (fun W hbW hgW j _ => orphan_fg X st j _ _ _ _ _ _ W (wx_bw (X7.out.below hbW (by have := BS.out.1; omega))) (Uno.l (own_gb U7.out hgW (fun b h1 h2 => DD.out.2.2.2.2.2.2 b (by rw [← OB.out]; exact h1) h2))))).mono ?_
      rintro e w8 ⟨v5, rfl, ho, hb, hg, -⟩
      obtain ⟨qs', hqs⟩ : ∃ l, X.qs.filter (fun k => !orphanJ st k) = l := ⟨_, rfl⟩
      have FO : Hid (fought ks Wn X = { X with us := st, qs := qs' }) := by unfold Hid fought; rw [ST.out, hqs]
      rw [hqs] at ho
      obtain ⟨a8, r8, rfl⟩ := ho.len
      have J8 : Hid (Jbo w8 b1 (.slice a8 qs'.length r8) qs') := ho
      have O8 : Hid (Ow w8 b1 (Value.slice a1 X.gs.length r1) X.gs ∧ Ow w8 b1 (Value.slice a2 X.os.length r2) X.os ∧ Ow w8 b1 (Value.slice a3 X.gold.length r3) X.gold ∧ Uno w8 b1 (.slice a6 st.length r6) st) := ⟨own_gb O7.out.1 hg (fun b h1 h2 => DD.out.2.1 b h1 h2), own_gb O7.out.2.1 hg (fun b h1 h2 => DD.out.2.2.2.1 b h1 h2), own_gb O7.out.2.2.1 hg (fun b h1 h2 => DD.out.2.2.2.2.2.1 b h1 h2), own_gb U7.out hg (fun b h1 h2 => DD.out.2.2.2.2.2.2 b (by rw [← OB.out]; exact h1) h2)⟩
      have E8 : Hid (Evo w8 b3 ev' fs) := own_gb E7.out hg (fun b h1 h2 => by have := LB.out.2.2.2.2 b h2; have := (E7.out.block b h1).1; omega)
      have X8 : Hid (Wx w8 (w.heap.size) (.int .i64 X.turn) (.int .i64 X.next) (.int .i64 X.wide) (.int .i64 X.high) (Value.slice a1 X.gs.length r1) (Value.slice a2 X.os.length r2) (Value.slice a3 X.gold.length r3) (Value.slice a6 st.length r6) (Value.slice a5 X.qs.length r5)) := X7.out.below hb (by have := BS.out.1; omega)
      have Z8 : Hid (Wx w8 (w.heap.size + 1) (.int .i64 0) (.int .i64 0) (.int .i64 0) (.int .i64 0) (.slice none 0 0) (.slice none 0 0) (.slice none 0 0) (.slice none 0 0) (.slice none 0 0)) := Z7.out.below hb BS.out.1
      have B8 : Hid (Below w.heap.size w w8) := B7.out.trans (hb.mono (by have := BS.out.1; omega))
      clear ho hb hg hqs x8 U7 O7 X7 Z7 B7 S7 E7
      obtain ⟨-, -, -, -, -, -, -, -, x8⟩ := X8.out.cells
      have t8 := X8.out.thaw 8
      have X9 : Hid (Wx (w8.setCell ⟨w.heap.size, 8, none⟩ (.slice a8 qs'.length r8)) (w.heap.size) (.int .i64 X.turn) (.int .i64 X.next) (.int .i64 X.wide) (.int .i64 X.high) (Value.slice a1 X.gs.length r1) (Value.slice a2 X.os.length r2) (Value.slice a3 X.gold.length r3) (Value.slice a6 st.length r6) (Value.slice a8 qs'.length r8)) := X8.out.set8 _
      have K9 : Hid (Kp (w.heap.size) w8 (w8.setCell ⟨w.heap.size, 8, none⟩ (.slice a8 qs'.length r8))) := Kp.set _ _ _
      go_upto_region 16 with fail
      clear x8 t8
      generalize (w8.setCell ⟨w.heap.size, 8, none⟩ (.slice a8 qs'.length r8)) = w9 at *
      have J9 : Hid (Jbo w9 b1 (.slice a8 qs'.length r8) qs') := J8.out.kp K9.out (by have := BS.out.1; omega)
      have O9 : Hid (Ow w9 b1 (Value.slice a1 X.gs.length r1) X.gs ∧ Ow w9 b1 (Value.slice a2 X.os.length r2) X.os ∧ Ow w9 b1 (Value.slice a3 X.gold.length r3) X.gold ∧ Uno w9 b1 (.slice a6 st.length r6) st) := by
        have h := BS.out.1
        exact ⟨O8.out.1.kp K9.out (by omega), O8.out.2.1.kp K9.out (by omega), O8.out.2.2.1.kp K9.out (by omega), O8.out.2.2.2.kp K9.out (by omega)⟩
      have E9 : Hid (Evo w9 b3 ev' fs) := E8.out.kp9 K9.out (by have := BS.out.1; have := S3.out.1; omega)
      have Z9 : Hid (Wx w9 (w.heap.size + 1) (.int .i64 0) (.int .i64 0) (.int .i64 0) (.int .i64 0) (.slice none 0 0) (.slice none 0 0) (.slice none 0 0) (.slice none 0 0) (.slice none 0 0)) := Z8.out.kp K9.out (by omega)
      have B9 : Hid (Below w.heap.size w w9) := K9.out.below B8.out B8.out.size (Nat.le_refl _)
      clear K9 J8 O8 E8 Z8 B8 X8
      obtain ⟨x0, x1, x2, x3, x4, x5, x6, x7, x8⟩ := X9.out.cells
      obtain ⟨z0, z1, z2, z3, z4, z5, z6, z7, z8⟩ := Z9.out.cells
      obtain ⟨t0, t1, t2, t3, t4, t5, t6, t7, t8⟩ := Z9.out.thaws
      have KZ : Hid (Kp (w.heap.size + 1) w9 (((((((((w9.setCell ⟨w.heap.size + 1, 0, none⟩ (.int .i64 X.turn)).setCell ⟨w.heap.size + 1, 1, none⟩ (.int .i64 X.next)).setCell ⟨w.heap.size + 1, 2, none⟩ (.int .i64 X.wide)).setCell ⟨w.heap.size + 1, 3, none⟩ (.int .i64 X.high)).setCell ⟨w.heap.size + 1, 4, none⟩ (Value.slice a1 X.gs.length r1)).setCell ⟨w.heap.size + 1, 5, none⟩ (Value.slice a2 X.os.length r2)).setCell ⟨w.heap.size + 1, 6, none⟩ (Value.slice a3 X.gold.length r3)).setCell ⟨w.heap.size + 1, 7, none⟩ (Value.slice a6 st.length r6)).setCell ⟨w.heap.size + 1, 8, none⟩ (Value.slice a8 qs'.length r8))) := put_kp _ _ _ _ _ _ _ _ _ _ _
      obtain ⟨y0, y1, y2, y3, y4, y5, y6, y7, y8⟩ := (Z9.out.put (.int .i64 X.turn) (.int .i64 X.next) (.int .i64 X.wide) (.int .i64 X.high) (Value.slice a1 X.gs.length r1) (Value.slice a2 X.os.length r2) (Value.slice a3 X.gold.length r3) (Value.slice a6 st.length r6) (Value.slice a8 qs'.length r8)).cells
      go_wp2
      clear x0 x1 x2 x3 x4 x5 x6 x7 x8 z0 z1 z2 z3 z4 z5 z6 z7 z8 t0 t1 t2 t3 t4 t5 t6 t7 t8
      generalize (((((((((w9.setCell ⟨w.heap.size + 1, 0, none⟩ (.int .i64 X.turn)).setCell ⟨w.heap.size + 1, 1, none⟩ (.int .i64 X.next)).setCell ⟨w.heap.size + 1, 2, none⟩ (.int .i64 X.wide)).setCell ⟨w.heap.size + 1, 3, none⟩ (.int .i64 X.high)).setCell ⟨w.heap.size + 1, 4, none⟩ (Value.slice a1 X.gs.length r1)).setCell ⟨w.heap.size + 1, 5, none⟩ (Value.slice a2 X.os.length r2)).setCell ⟨w.heap.size + 1, 6, none⟩ (Value.slice a3 X.gold.length r3)).setCell ⟨w.heap.size + 1, 7, none⟩ (Value.slice a6 st.length r6)).setCell ⟨w.heap.size + 1, 8, none⟩ (Value.slice a8 qs'.length r8)) = wz at *
      refine bodyPost_ret (v := .tuple #[.agg #[.int .i64 X.turn, .int .i64 X.next, .int .i64 X.wide, .int .i64 X.high, Value.slice a1 X.gs.length r1, Value.slice a2 X.os.length r2, Value.slice a3 X.gold.length r3, Value.slice a6 st.length r6, Value.slice a8 qs'.length r8], ev', .nilIface]) (by simp [results, Tryz.results50, go_sem, y0, y1, y2, y3, y4, y5, y6, y7, y8]) rfl ⟨_, _, _, rfl, by rw [FW.out]; exact Er.nil, .inr ⟨FW.out, Wn, GD.out.1, GD.out.2.1, GD.out.2.2, ?_, ?_⟩, KZ.out.below B9.out B9.out.size (by omega)⟩
      · have h := BS.out.1
        rw [FO.out]
        exact ⟨_, _, _, _, _, rfl, (O9.out.1.kp KZ.out (by omega)).mono (by omega), (O9.out.2.1.kp KZ.out (by omega)).mono (by omega), (O9.out.2.2.1.kp KZ.out (by omega)).mono (by omega), (O9.out.2.2.2.kp KZ.out (by omega)).mono (by omega), (J9.out.kp KZ.out (by omega)).mono (by omega)⟩
      · have h := BS.out.1
        have h' := S3.out.1
        rw [FE.out]
        exact (E9.out.kp9 KZ.out (by omega)).mono (by omega)
    · have hnl : n < X.us.length := by omega
      have hnh : n < hs.length := by rw [HLN.out]; exact hnl
      have hni : ((n : Nat) : Int) < (X.us.length : Nat) := by omega
      obtain ⟨y, hy⟩ : ∃ y, hs[n]? = some y := ⟨_, List.getElem?_eq_getElem hnh⟩
      obtain ⟨a', c', he, -, -, hu⟩ := UL.out
      obtain ⟨xu, hxu, hxl, hxc⟩ := hu (by intro h; rw [h] at hnh; simp at hnh)
      injection he with he1 he2 he3
      subst he1
      subst hxu
      obtain ⟨y0, y1, y2, y3, y4, y5, y6, y7⟩ := hxc n y hy
      have NX := fell_next hy
      have WN : IntKind.i64.wrap ((n : Nat) + 1 : Int) = ((n : Nat) : Int) + 1 := by rw [IntKind.wrap_i64]; omega
      obtain ⟨fs, hfs⟩ : ∃ l, es ++ ((hs.take n).filter fallenU).map fellE = l := ⟨_, rfl⟩
      have FL : Hid (fs.length ≤ 80) := by
        have h1 : ((hs.take n).filter fallenU).length ≤ (hs.take n).length := List.length_filter_le _ _
        have h2 : (hs.take n).length ≤ n := by simp; omega
        have h3 := HS.out.2.2.2
        unfold Hid
        rw [← hfs, List.length_append, List.length_map]
        omega
      have NY : Hid (es ++ ((hs.take (n + 1)).filter fallenU).map fellE = fs ++ (if fallenU y then [fellE y] else [])) := by unfold Hid; rw [NX, ← List.append_assoc, hfs]
      rw [hfs] at E5
      clear hu he2 he3 hxl hxc hy NX hfs
      go_upto_region 10 with fail
      have BA : Hid (Below wr.heap.size wr (wr.alloc (Obj.cells #[.int .i64 y.id, .int .i64 y.player, .int .i64 y.kind, .int .i64 y.at_, .int .i64 y.life, .int .i64 y.load, .int .i64 y.task, .int .i64 y.goal] 42))) := (Below.refl _ _).alloc (Nat.le_refl _) _
      obtain ⟨bu, hbu⟩ : ∃ z, wr.heap.size = z := ⟨_, rfl⟩
      have U6 : Hid (Unc (wr.alloc (Obj.cells #[.int .i64 y.id, .int .i64 y.player, .int .i64 y.kind, .int .i64 y.at_, .int .i64 y.life, .int .i64 y.load, .int .i64 y.task, .int .i64 y.goal] 42)) ⟨bu, 0, none⟩ y) := Unc.mk' y hbu
      rw [hbu]
      generalize (wr.alloc (Obj.cells #[.int .i64 y.id, .int .i64 y.player, .int .i64 y.kind, .int .i64 y.at_, .int .i64 y.life, .int .i64 y.load, .int .i64 y.task, .int .i64 y.goal] 42)) = w6 at *
      have B6 : Hid (Below b3 w4 w6) := BB.out.trans (BA.out.mono (Nat.le_trans S4.out BB.out.size))
      have E6 : Hid (Evo w6 b3 ev' fs) := E5.out.below BA.out
      clear y0 y1 y2 y3 y4 y5 y6 y7 hbu BA BB E5 UL
      obtain ⟨y0, y1, y2, y3, y4, y5, y6, y7⟩ := U6.out
      have FG : Hid (Calls Tryz.prog 118 #[.agg #[.int .i64 y.id, .int .i64 y.player, .int .i64 y.kind, .int .i64 y.at_, .int .i64 y.life, .int .i64 y.load, .int .i64 y.task, .int .i64 y.goal]] w6 fun e w' => e = .returned (.bool (fallenU y)) ∧ Below w6.heap.size w6 w') := by
        have := fallen_fg y w6
        rw [Array.append_empty] at this
        exact this
      go_wp2_with fail
      refine Calls.mono FG.out ?_
      rintro e w7 ⟨rfl, hb⟩
      have B7 : Hid (Below b3 w4 w7) := B6.out.trans (hb.mono (Nat.le_trans S4.out B6.out.size))
      have E7 : Hid (Evo w7 b3 ev' fs) := E6.out.below hb
      have U7 : Hid (Unc w7 ⟨bu, 0, none⟩ y) := U6.out.below hb U6.out.lt
      clear hb y0 y1 y2 y3 y4 y5 y6 y7 FG B6 E6 U6
      cases hfl : fallenU y with
      | false =>
        have NZ : Hid (es ++ ((hs.take (n + 1)).filter fallenU).map fellE = fs) := by unfold Hid; rw [NY.out, hfl]; simp
        clear hfl
        go_wp2
        go_round
        case rel => exact ⟨n + 1, _, by go_num, rfl, by omega, by rw [NZ.out]; exact E7.out, B7.out⟩
        case measure => simp [intOf]; omega
      | true =>
        have NZ : Hid (es ++ ((hs.take (n + 1)).filter fallenU).map fellE = fs ++ [fellE y]) := by unfold Hid; rw [NY.out, hfl]; simp
        clear hfl
        obtain ⟨y0, y1, y2, y3, y4, y5, y6, y7⟩ := U7.out
        have BA : Hid (Below w7.heap.size w7 (w7.alloc (Obj.cells #[.int .i64 3, .int .i64 y.id, .int .i64 0] 139))) := (Below.refl _ _).alloc (Nat.le_refl _) _
        have EC : Hid (Evc (w7.alloc (Obj.cells #[.int .i64 3, .int .i64 y.id, .int .i64 0] 139)) ⟨w7.heap.size, 0, none⟩ (fellE y)) := Evc.mk' (fellE y) rfl
        have E8 : Hid (Evo (w7.alloc (Obj.cells #[.int .i64 3, .int .i64 y.id, .int .i64 0] 139)) b3 ev' fs) := E7.out.below BA.out
        have B8 : Hid (Below b3 w4 (w7.alloc (Obj.cells #[.int .i64 3, .int .i64 y.id, .int .i64 0] 139))) := B7.out.trans (BA.out.mono (Nat.le_trans S4.out B7.out.size))
        have SZ : Hid (b3 ≤ (w7.alloc (Obj.cells #[.int .i64 3, .int .i64 y.id, .int .i64 0] 139)).heap.size) := Nat.le_trans S4.out B8.out.size
        go_wp2_with (at_builtin; refine app_ev _ rfl _ _ rfl b3 _ fs rfl E8.out _ (fellE y) rfl EC.out (by have := FL.out; omega) SZ.out ?_)
        intro gg gc w9 o9 g9 _ _
        have E9 : Hid (Evo w9 b3 (.slice (some ⟨gg, 0, none⟩) (fs.length + 1) gc) (fs ++ [fellE y])) := o9
        have B9 : Hid (Below b3 w4 w9) := B8.out.grown g9 (Nat.le_trans S4.out B8.out.size) (fun k hk => (E8.out.block k hk).1)
        clear o9 g9 y0 y1 y2 y3 y4 y5 y6 y7 BA EC E8 B8 SZ
        go_wp2
        go_round
        case rel => exact ⟨n + 1, _, by go_num, rfl, by omega, by rw [NZ.out]; exact E9.out, B9.out⟩
        case measure => simp [intOf]; omega
end Go.Proofs.YtkejdkajfnaieaaGreatDoor

namespace Go.Proofs.YtkejdkajfnaieaaGreatDoor
set_option linter.unusedVariables false

theorem filter_at {α : Type} {p : α → Bool} : ∀ (l : List α) (i : Nat) (x : α), (l.filter p)[i]? = some x → ∃ j, l[j]? = some x ∧ p x = true ∧ (l.filter p).take i = (l.take j).filter p
  | [], i, x, h => by simp at h
  | a :: l, i, x, h => by
    cases hp : p a with
    | true =>
      rw [List.filter_cons_of_pos hp] at h ⊢
      cases i with
      | zero =>
        simp at h
        subst h
        exact ⟨0, rfl, hp, rfl⟩
      | succ i =>
        rw [List.getElem?_cons_succ] at h
        obtain ⟨j, h1, h2, h3⟩ := filter_at l i x h
        exact ⟨j + 1, by rw [List.getElem?_cons_succ]; exact h1, h2, by rw [List.take_succ_cons, List.take_succ_cons, List.filter_cons_of_pos hp, h3]⟩
    | false =>
      have hn : ¬ p a = true := by rw [hp]; simp
      rw [List.filter_cons_of_neg hn] at h ⊢
      obtain ⟨j, h1, h2, h3⟩ := filter_at l i x h
      exact ⟨j + 1, by rw [List.getElem?_cons_succ]; exact h1, h2, by rw [List.take_succ_cons, List.filter_cons_of_neg hn, h3]⟩
theorem hurt_from {us : List UnV} {lost : List Int} {j : Nat} {y : UnV} (h : (hurt us lost)[j]? = some y) : ∃ u x, us[j]? = some u ∧ lost[j]? = some x ∧ y = { u with life := u.life - x } := by
  unfold hurt at h
  rw [List.getElem?_zipWith] at h
  cases hu : us[j]? with
  | none => rw [hu] at h; simp at h
  | some u =>
    cases hx : lost[j]? with
    | none => rw [hu, hx] at h; simp at h
    | some x =>
      rw [hu, hx] at h
      simp at h
      exact ⟨u, x, rfl, rfl, h.symm⟩
theorem hurt_take {us : List UnV} {lost : List Int} {j : Nat} {y : UnV} (h : y ∈ (hurt us lost).take j) : ∃ i u x, i < j ∧ us[i]? = some u ∧ lost[i]? = some x ∧ y = { u with life := u.life - x } := by
  obtain ⟨i, hi⟩ := List.mem_iff_getElem?.1 h
  have hl : i < j := by
    have := (List.getElem?_eq_some_iff.1 hi).1
    rw [List.length_take] at this
    omega
  rw [List.getElem?_take, if_pos hl] at hi
  obtain ⟨u, x, h1, h2, h3⟩ := hurt_from hi
  exact ⟨i, u, x, hl, h1, h2, h3⟩
theorem lost_upto {ks : List KV} {Wn : Nat} {X : WV} (h : WRight ks X) : Upto 40000 (strikes ks Wn X.us X.us).1 := by
  have := strikes_upto (W := Wn) (us := X.us) h.kinds X.us.length (Nat.le_refl _)
  rw [List.take_of_length_le (Nat.le_refl _)] at this
  intro x hx
  have := this x hx
  have := h.ul
  omega
theorem stay_from {ks : List KV} {Wn : Nat} {X : WV} (h : WRight ks X) {i : Nat} {y : UnV} (hy : (stays ks Wn X)[i]? = some y) :
    ∃ j u x, X.us[j]? = some u ∧ (strikes ks Wn X.us X.us).1[j]? = some x ∧ y = { u with life := u.life - x } ∧ 1 ≤ u.life - x ∧ 0 ≤ x ∧ (stays ks Wn X).take i = ((struck ks Wn X).take j).filter (fun u => !fallenU u) := by
  obtain ⟨j, h1, h2, h3⟩ := filter_at (struck ks Wn X) i y hy
  obtain ⟨u, x, hu, hx, rfl⟩ := hurt_from h1
  have hl : 1 ≤ u.life - x := by
    unfold fallenU at h2
    simp at h2
    omega
  exact ⟨j, u, x, hu, hx, rfl, hl, (lost_upto h x (List.mem_of_getElem? hx)).1, h3⟩
theorem fought_right {ks : List KV} {Wn : Nat} {X : WV} (h : WRight ks X) : Wd.wfault ks (fought ks Wn X) = 0 := by
  obtain ⟨Wm, Hm, e1, e2, G⟩ := h.good
  refine Wd.wfault_zero h.kinds (by show Fd.fault X.wide X.high X.gs X.os = 0; rw [e1, e2]; exact Fd.fault_good G) h.nums ?_ ?_ ?_ ?_
  · show (stays ks Wn X).length ≤ 40
    have h1 : (stays ks Wn X).length ≤ (struck ks Wn X).length := List.length_filter_le _ _
    have h2 : (struck ks Wn X).length = X.us.length := by unfold struck; exact hurt_len strikes_len'
    have := h.ul
    omega
  · intro i y hy
    have hy' : (stays ks Wn X)[i]? = some y := hy
    obtain ⟨j, u, x, hu, hx, rfl, hl, hx0, ht⟩ := stay_from h hy'
    obtain ⟨k, f⟩ := h.fine hu
    have AH : ∀ p ∈ (stays ks Wn X).take i, ∃ j' u' x', j' < j ∧ X.us[j']? = some u' ∧ p = { u' with life := u'.life - x' } := fun p hp => by
      rw [ht] at hp
      obtain ⟨j', u', x', a1, a2, -, a3⟩ := hurt_take (List.mem_filter.1 hp).1
      exact ⟨j', u', x', a1, a2, a3⟩
    refine ⟨k, f.id1, f.id2, ?_, f.p, f.k0, f.kk, ⟨hl, by have := f.life.2; show u.life - x ≤ k.n0; omega⟩, f.load, f.task, f.at_, f.goal, ?_, f.rest⟩
    · show Wd.notAbove (stays ks Wn X) i _ = false
      cases i with
      | zero => rfl
      | succ i =>
        have hil : i < (stays ks Wn X).length := by have := (List.getElem?_eq_some_iff.1 hy').1; omega
        obtain ⟨p, hp⟩ : ∃ p, (stays ks Wn X)[i]? = some p := ⟨_, List.getElem?_eq_getElem hil⟩
        simp only [Wd.notAbove, hp, decide_eq_false_iff_not]
        obtain ⟨j', u', x', a1, a2, rfl⟩ := AH p (List.mem_of_getElem? (by rw [List.getElem?_take, if_pos (Nat.lt_succ_self _)]; exact hp))
        have := ids_rise h (j - j' - 1) j' u' u a2 (by rw [show j' + (j - j' - 1) + 1 = j by omega]; exact hu)
        show ¬ u.id ≤ u'.id
        omega
    · have ho := f.opn
      unfold Wd.open_ at ho
      rw [Bool.and_eq_true] at ho
      show Wd.open_ X.gs ((stays ks Wn X).take i) u.at_ k.f = true
      unfold Wd.open_
      rw [Bool.and_eq_true]
      refine ⟨ho.1, ?_⟩
      rw [Bool.not_eq_true', List.any_eq_false]
      intro p hp
      obtain ⟨j', u', x', a1, a2, rfl⟩ := AH p hp
      have h1 := ho.2
      rw [Bool.not_eq_true', List.any_eq_false] at h1
      exact h1 u' (List.mem_of_getElem? (by rw [List.getElem?_take, if_pos a1]; exact a2))
  · show (X.qs.filter _).length ≤ 12
    have := List.length_filter_le (fun j => !orphanJ (stays ks Wn X) j) X.qs
    have := h.ql
    omega
  · intro j hj
    have hj' : j ∈ X.qs.filter (fun j => !orphanJ (stays ks Wn X) j) := hj
    obtain ⟨hjm, hjo⟩ := List.mem_filter.1 hj'
    have hx := h.job hjm
    unfold orphanJ at hjo
    rw [Bool.not_not, List.any_eq_true] at hjo
    obtain ⟨y, hy, hyi⟩ := hjo
    have hfs : ((stays ks Wn X).find? (fun u => u.id == j.unit)).isSome = true := List.find?_isSome.2 ⟨y, hy, hyi⟩
    obtain ⟨y0, hy0⟩ := Option.isSome_iff_exists.1 hfs
    have hm0 := List.mem_of_find?_eq_some hy0
    have hi0 := List.find?_some hy0
    obtain ⟨i0, hi0'⟩ := List.mem_iff_getElem?.1 hm0
    obtain ⟨j0, u0, x0, hu0, -, rfl, -, -, -⟩ := stay_from h hi0'
    have hid0 : u0.id = j.unit := by simpa using hi0
    cases hf : X.us.find? (fun u => u.id == j.unit) with
    | none =>
      unfold Wd.jobFault at hx
      rw [hf] at hx
      cases hx
    | some u1 =>
      have hm1 := List.mem_of_find?_eq_some hf
      have hi1 : u1.id = j.unit := by simpa using List.find?_some hf
      obtain ⟨j1, hj1⟩ := List.mem_iff_getElem?.1 hm1
      have := id_one h hu0 hj1 (by rw [hid0, hi1])
      subst this
      rw [hu0] at hj1
      injection hj1 with hj1
      subst hj1
      unfold Wd.jobFault at hx ⊢
      rw [hf] at hx
      have hy1 : (fought ks Wn X).us.find? (fun u => u.id == j.unit) = some { u0 with life := u0.life - x0 } := hy0
      rw [hy1]
      exact hx

/-- what an event adds to the hits. -/
def evHit (ks : List KV) (us : List UnV) (h : List Int) (e : EvV) : List Int :=
  if e.what = 2 then h.set (fsti (fun u => u.id == e.arg) us).toNat (h.getD (fsti (fun u => u.id == e.arg) us).toNat 0 + (us[(fsti (fun u => u.id == e.unit) us).toNat]?.map (hitOf ks)).getD 0) else h
def hitsOf (ks : List KV) (us : List UnV) (l : List EvV) : List Int := l.foldl (evHit ks us) (List.replicate us.length 0)
theorem hitsOf_next {ks : List KV} {us : List UnV} {l : List EvV} {n : Nat} {e : EvV} (h : l[n]? = some e) : hitsOf ks us (l.take (n + 1)) = evHit ks us (hitsOf ks us (l.take n)) e := by
  obtain ⟨hi, e'⟩ := List.getElem?_eq_some_iff.1 h
  unfold hitsOf
  rw [List.take_succ_eq_append_getElem hi, List.foldl_append, e']
  rfl
theorem tgt_says (W : Nat) (u : UnV) (k : KV) (us : List UnV) : TgSays W u k us (tgt W u k us) := by
  unfold tgt
  by_cases h1 : k.n1 = 0
  · rw [if_pos h1]; exact .inl ⟨h1, rfl⟩
  · rw [if_neg h1]
    cases hf : foesU W u k.n2 us with
    | nil => exact .inr (.inl ⟨h1, hf, rfl⟩)
    | cons x0 tl => exact .inr (.inr ⟨h1, x0, tl, hf, fsti_fst _ _⟩)
/-- an event as it should be. -/
def EvOk (ks : List KV) (us : List UnV) (e : EvV) : Prop :=
  (e.what = 2 ∧ ∃ (i j : Nat) (u x : UnV) (k : KV), us[i]? = some u ∧ us[j]? = some x ∧ u.id = e.unit ∧ x.id = e.arg ∧ u.player ≠ x.player ∧ ks[u.kind.toNat]? = some k ∧ 1 ≤ k.n1) ∨ (e.what = 3 ∧ ∃ (i : Nat) (u : UnV), us[i]? = some u ∧ u.id = e.unit)
theorem hit_at {ks : List KV} {X : WV} (h : WRight ks X) {l : List Int} {e : EvV} {i j : Nat} {u x : UnV} {k : KV} (he : e.what = 2) (hu : X.us[i]? = some u) (hx : X.us[j]? = some x) (h1 : u.id = e.unit) (h2 : x.id = e.arg) (hk : ks[u.kind.toNat]? = some k) : evHit ks X.us l e = l.set j (l.getD j 0 + k.n1) := by
  unfold evHit
  rw [if_pos he, fst_is h hx h2 (fsti_fst _ _), fst_is h hu h1 (fsti_fst _ _), Int.toNat_natCast, Int.toNat_natCast, hu]
  simp [hitOf_some hk]
theorem strikes_told {ks : List KV} {Wn : Nat} {X : WV} (h : WRight ks X) : ∀ (n : Nat), n ≤ X.us.length → (strikes ks Wn X.us (X.us.take n)).2.foldl (evHit ks X.us) (List.replicate X.us.length 0) = (strikes ks Wn X.us (X.us.take n)).1 ∧ ∀ e ∈ (strikes ks Wn X.us (X.us.take n)).2, EvOk ks X.us e
  | 0, _ => ⟨rfl, fun e he => by cases he⟩
  | n + 1, hn => by
    obtain ⟨u, hu⟩ : ∃ u, X.us[n]? = some u := ⟨_, List.getElem?_eq_getElem (by omega)⟩
    obtain ⟨ih1, ih2⟩ := strikes_told (Wn := Wn) h n (by omega)
    rw [strikes_next hu]
    obtain ⟨k, f⟩ := h.fine hu
    have ht := tgtOf_some (W := Wn) (us := X.us) f.kk
    have hw := tg_who h (tgt_says Wn u k X.us)
    rw [← ht] at hw
    unfold stk
    rcases hw with ⟨h1, -⟩ | ⟨h1, tn, x, f0, tl, h2, hx, hfo, hm⟩
    · rw [if_pos h1]; exact ⟨ih1, ih2⟩
    · rw [if_neg (by omega), h2, Int.toNat_natCast, hx]
      have hfm := minU_mem (keyU Wn u) tl f0
      rw [← hfo, ← hm] at hfm
      have hfe := (foe_iff.1 hfm).2.1
      have hk1 : 1 ≤ k.n1 := by have := (kind_nums h.kinds (List.mem_of_getElem? f.kk)).2.2.2.2.1; omega
      refine ⟨?_, fun e he => ?_⟩
      · show (_ ++ [(⟨2, u.id, x.id⟩ : EvV)]).foldl _ _ = _
        rw [List.foldl_append, ih1]
        show evHit ks X.us _ ⟨2, u.id, x.id⟩ = _
        rw [hit_at h rfl hu hx rfl rfl f.kk, hitOf_some f.kk]
      · rcases List.mem_append.1 he with he | he
        · exact ih2 e he
        · have he' : e ∈ [(⟨2, u.id, x.id⟩ : EvV)] := he
          simp at he'
          subst he'
          exact .inl ⟨rfl, n, tn, u, x, k, hu, hx, rfl, rfl, fun e => hfe e.symm, f.kk, hk1⟩
theorem hitsOf_all {ks : List KV} {Wn : Nat} {X : WV} (h : WRight ks X) : hitsOf ks X.us (fevents ks Wn X) = (strikes ks Wn X.us X.us).1 ∧ ∀ e ∈ fevents ks Wn X, EvOk ks X.us e := by
  have h0 := strikes_told (Wn := Wn) h X.us.length (Nat.le_refl _)
  rw [List.take_of_length_le (Nat.le_refl _)] at h0
  have hfell : ∀ (l : List UnV) (s : List Int), (l.map fellE).foldl (evHit ks X.us) s = s := by
    intro l
    induction l with
    | nil => intro s; rfl
    | cons a l ih => intro s; rw [List.map_cons, List.foldl_cons]; exact ih s
  refine ⟨?_, fun e he => ?_⟩
  · unfold hitsOf fevents
    rw [List.foldl_append, h0.1, hfell]
  · unfold fevents at he
    rcases List.mem_append.1 he with he | he
    · exact h0.2 e he
    · obtain ⟨y, hy, rfl⟩ := List.mem_map.1 he
      obtain ⟨j, hj⟩ := List.mem_iff_getElem?.1 (List.mem_filter.1 hy).1
      obtain ⟨u, x, hu, -, rfl⟩ := hurt_from hj
      exact .inr ⟨rfl, j, u, hu, rfl⟩
theorem evHit_len {ks : List KV} {us : List UnV} {l : List Int} {e : EvV} : (evHit ks us l e).length = l.length := by
  unfold evHit
  split <;> simp
theorem hitsOf_len {ks : List KV} {us : List UnV} {l : List EvV} : (hitsOf ks us l).length = us.length := by
  have : ∀ (l : List EvV) (s : List Int), (l.foldl (evHit ks us) s).length = s.length := by
    intro l
    induction l with
    | nil => intro s; rfl
    | cons a l ih => intro s; rw [List.foldl_cons, ih, evHit_len]
  unfold hitsOf
  rw [this]
  simp
theorem hits_upto {ks : List KV} {X : WV} (h : WRight ks X) {l : List EvV} : ∀ (n : Nat), n ≤ l.length → Upto (1000 * (n : Int)) (hitsOf ks X.us (l.take n))
  | 0, _ => by
    intro x hx
    have : x ∈ List.replicate X.us.length (0 : Int) := hx
    have := List.eq_of_mem_replicate this
    omega
  | n + 1, hn => by
    obtain ⟨e, he⟩ : ∃ e, l[n]? = some e := ⟨_, List.getElem?_eq_getElem (by omega)⟩
    rw [hitsOf_next he]
    have ih := hits_upto (ks := ks) h (l := l) n (by omega)
    unfold evHit
    split
    · intro x hx
      have h0 := ih.at_ (by omega) (fsti (fun u => u.id == e.arg) X.us).toNat
      have h1 : 0 ≤ (X.us[(fsti (fun u => u.id == e.unit) X.us).toNat]?.map (hitOf ks)).getD 0 ∧ (X.us[(fsti (fun u => u.id == e.unit) X.us).toNat]?.map (hitOf ks)).getD 0 ≤ 1000 := by
        cases hc : X.us[(fsti (fun u => u.id == e.unit) X.us).toNat]? with
        | none => simp
        | some v => simp; exact hit_in h.kinds v
      rcases List.mem_or_eq_of_mem_set hx with hx | hx
      · have := ih x hx
        omega
      · omega
    · intro x hx
      have := ih x hx
      omega
/-- where one that was there is now. -/
theorem stay_find {ks : List KV} {Wn : Nat} {X : WV} (h : WRight ks X) {i : Nat} {u : UnV} {x r : Int} (hu : X.us[i]? = some u) (hx : (strikes ks Wn X.us X.us).1[i]? = some x) (hr : FstU (fun o => o.id == u.id) (stays ks Wn X) r) :
    (r = -1 ∧ u.life ≤ x) ∨ ∃ k : Nat, r = k ∧ (stays ks Wn X)[k]? = some { u with life := u.life - x } ∧ 1 ≤ u.life - x := by
  rcases hr with ⟨h1, h2⟩ | ⟨k, y, h1, h2, h3, -⟩
  · refine .inl ⟨h1, ?_⟩
    by_cases hc : u.life ≤ x
    · exact hc
    · have hh : { u with life := u.life - x } ∈ stays ks Wn X := by
        unfold stays
        rw [List.mem_filter]
        refine ⟨List.mem_of_getElem? (hurt_at hu hx), ?_⟩
        unfold fallenU
        simp
        omega
      have := List.any_eq_false.1 h2 _ hh
      simp at this
  · obtain ⟨j, u', x', a1, a2, rfl, a3, -, -⟩ := stay_from h h2
    have hid : u'.id = u.id := by simpa using h3
    have := id_one h a1 hu hid
    subst this
    rw [a1] at hu
    injection hu with hu
    subst hu
    rw [a2] at hx
    injection hx with hx
    subst hx
    exact .inr ⟨k, h1, h2, a3⟩
end Go.Proofs.YtkejdkajfnaieaaGreatDoor

namespace Go.Proofs.YtkejdkajfnaieaaGreatDoor
open Go.RowKit
set_option linter.unusedVariables false

def sgn (x y : Int) : Int := if x < y then -1 else if y < x then 1 else 0
def or3 (x y z : Int) : Int := if x ≠ 0 then x else if y ≠ 0 then y else z
def rnk (o : OrV) : Int := if o.what = 3 then 0 else 1
/-- how two orders compare. -/
def cmpo (a b : OrV) : Int := or3 (sgn a.player b.player) (sgn a.unit b.unit) (sgn (rnk a) (rnk b))

theorem isnan_any (x : Int) (w : World) : Calls Tryz.prog 223 #[.int .i64 x] w fun e w' => e = .returned (.bool false) ∧ w' = w := by
  go_enter Tryz.func223, Tryz.ntmps223
  go_wp2
  go_ret
  exact ⟨by simp, rfl⟩
theorem cmpint_any (x y : Int) (w : World) : Calls Tryz.prog 190 #[.int .i64 x, .int .i64 y] w fun e w' => e = .returned (.int .i64 (sgn x y)) ∧ w' = w := by
  have NA : Hid (∀ x w, Calls Tryz.prog 223 #[.int .i64 x] w fun e w' => e = .returned (.bool false) ∧ w' = w) := isnan_any
  by_cases h1 : x < y
  · go_enter Tryz.func190, Tryz.ntmps190
    go_wp2_with fail
    refine (NA.out _ _).mono ?_
    rintro e w' ⟨rfl, rfl⟩
    go_wp2_with fail
    refine (NA.out _ _).mono ?_
    rintro e w' ⟨rfl, rfl⟩
    go_wp2
    go_ret
    exact ⟨by simp [sgn, h1], rfl⟩
  · by_cases h2 : y < x
    · go_enter Tryz.func190, Tryz.ntmps190
      go_wp2_with fail
      refine (NA.out _ _).mono ?_
      rintro e w' ⟨rfl, rfl⟩
      go_wp2_with fail
      refine (NA.out _ _).mono ?_
      rintro e w' ⟨rfl, rfl⟩
      go_wp2
      go_ret
      exact ⟨by simp [sgn, h1, h2], rfl⟩
    · go_enter Tryz.func190, Tryz.ntmps190
      go_wp2_with fail
      refine (NA.out _ _).mono ?_
      rintro e w' ⟨rfl, rfl⟩
      go_wp2_with fail
      refine (NA.out _ _).mono ?_
      rintro e w' ⟨rfl, rfl⟩
      go_wp2
      go_ret
      exact ⟨by unfold sgn; rw [if_neg (by omega), if_neg (by omega)]; rfl, rfl⟩
theorem rank_any (o : OrV) (w : World) : Calls Tryz.prog 191 #[o.val] w fun e w' => e = .returned (.int .i64 (rnk o)) ∧ Below w.heap.size w w' := by
  obtain ⟨p, u, n, a⟩ := o
  have BB : Hid (Below w.heap.size w (w.alloc (Obj.cells #[.int .i64 p, .int .i64 u, .int .i64 n, .int .i64 a] 40))) := (Below.refl _ _).alloc (Nat.le_refl _) _
  unfold OrV.val rnk
  simp only
  by_cases h : n = 3
  · subst h
    go_enter Tryz.func191, Tryz.ntmps191
    go_wp2
    go_ret
    exact ⟨rfl, BB⟩
  · have hb : (n == 3) = false := beq_eq_false_iff_ne.2 h
    rw [if_neg h]
    go_enter Tryz.func191, Tryz.ntmps191
    go_wp2
    go_ret
    exact ⟨rfl, BB⟩
theorem or_any (x y z : Int) (b : Nat) (w : World) (h0 : w.cell? ⟨b, 0, none⟩ = some (.int .i64 x)) (h1 : w.cell? ⟨b, 1, none⟩ = some (.int .i64 y)) (h2 : w.cell? ⟨b, 2, none⟩ = some (.int .i64 z)) :
    Calls Tryz.prog 189 #[.slice (some ⟨b, 0, none⟩) 3 3] w fun e w' => e = .returned (.int .i64 (or3 x y z)) ∧ w' = w := by
  by_cases hx : x = 0
  · subst hx
    by_cases hy : y = 0
    · subst hy
      by_cases hz : z = 0
      · subst hz
        go_enter Tryz.func189, Tryz.ntmps189
        go_wp2
        refine wp_loop_rounds 4 ?_
        rw [rounds_succ]
        go_wp2
        rw [rounds_succ]
        go_wp2
        rw [rounds_succ]
        go_wp2
        rw [rounds_succ]
        go_wp2
        go_ret
        exact ⟨rfl, rfl⟩
      · have hzb : (z == 0) = false := beq_eq_false_iff_ne.2 hz
        go_enter Tryz.func189, Tryz.ntmps189
        go_wp2
        refine wp_loop_rounds 3 ?_
        rw [rounds_succ]
        go_wp2
        rw [rounds_succ]
        go_wp2
        rw [rounds_succ]
        go_wp2
        go_ret
        exact ⟨by simp [or3], rfl⟩
    · have hyb : (y == 0) = false := beq_eq_false_iff_ne.2 hy
      go_enter Tryz.func189, Tryz.ntmps189
      go_wp2
      refine wp_loop_rounds 2 ?_
      rw [rounds_succ]
      go_wp2
      rw [rounds_succ]
      go_wp2
      go_ret
      exact ⟨by simp [or3, hy], rfl⟩
  · have hxb : (x == 0) = false := beq_eq_false_iff_ne.2 hx
    go_enter Tryz.func189, Tryz.ntmps189
    go_wp2
    refine wp_loop_rounds 1 ?_
    rw [rounds_succ]
    go_wp2
    go_ret
    exact ⟨by simp [or3, hx], rfl⟩
end Go.Proofs.YtkejdkajfnaieaaGreatDoor

namespace Go.Proofs.YtkejdkajfnaieaaGreatDoor.So
set_option linter.unusedVariables false

abbrev T := OrV × Nat
/-- the key of an order stands ahead of another one's. -/
def klt (a b : OrV) : Prop := a.player < b.player ∨ (a.player = b.player ∧ (a.unit < b.unit ∨ (a.unit = b.unit ∧ rnk a < rnk b)))
theorem sgn_neg {x y : Int} : sgn x y < 0 ↔ x < y := by
  unfold sgn
  split
  · omega
  · split <;> omega
theorem sgn_zero {x y : Int} : sgn x y = 0 ↔ x = y := by
  unfold sgn
  split
  · omega
  · split <;> omega
theorem klt_iff (a b : OrV) : cmpo a b < 0 ↔ klt a b := by
  unfold cmpo or3 klt
  by_cases h1 : sgn a.player b.player = 0
  · rw [if_neg (fun h => h h1)]
    have e1 := sgn_zero.1 h1
    by_cases h2 : sgn a.unit b.unit = 0
    · rw [if_neg (fun h => h h2), sgn_neg]
      have e2 := sgn_zero.1 h2
      omega
    · rw [if_pos h2, sgn_neg]
      have e2 : ¬ a.unit = b.unit := fun e => h2 (sgn_zero.2 e)
      omega
  · rw [if_pos h1, sgn_neg]
    have e2 : ¬ a.player = b.player := fun e => h1 (sgn_zero.2 e)
    omega
instance (a b : OrV) : Decidable (klt a b) := by unfold klt; infer_instance
theorem klt_irr (a : OrV) : ¬ klt a a := by unfold klt; omega
theorem klt_trans {a b c : OrV} (h : klt a b) (k : klt b c) : klt a c := by unfold klt at *; omega
theorem klt_asym {a b : OrV} (h : klt a b) : ¬ klt b a := by unfold klt at *; omega
theorem klt_neg {a b c : OrV} (h : ¬ klt b a) (k : ¬ klt c b) : ¬ klt c a := by unfold klt at *; omega
/-- x stands ahead of y: by the key, then by the place that it had. -/
def lt (x y : T) : Prop := klt x.1 y.1 ∨ (¬ klt y.1 x.1 ∧ x.2 < y.2)
theorem lt_trans {x y z : T} (h : lt x y) (k : lt y z) : lt x z := by
  unfold lt klt at *
  omega
theorem lt_irr (x : T) : ¬ lt x x := by
  unfold lt klt
  omega
/-- where x had its place ahead of y: what the program asks tells which stands ahead. -/
theorem ask_lt {x y : T} (h : x.2 < y.2) : klt y.1 x.1 ↔ lt y x := by
  unfold lt klt
  omega
theorem ask_ge {x y : T} (h : x.2 < y.2) : ¬ klt y.1 x.1 ↔ lt x y := by
  unfold lt klt
  omega
/-- a list that rises has one order alone. -/
theorem rise_unique : ∀ {l l' : List T}, l.Perm l' → l.Pairwise lt → l'.Pairwise lt → l = l'
  | [], l', p, _, _ => by
    have := p.length_eq
    cases l' with
    | nil => rfl
    | cons x l' => simp at this
  | x :: l, [], p, _, _ => by
    have := p.length_eq
    simp at this
  | x :: l, y :: l', p, h, h' => by
    rw [List.pairwise_cons] at h h'
    have exy : x = y := by
      have hx : x ∈ y :: l' := p.mem_iff.1 (List.mem_cons_self ..)
      have hy : y ∈ x :: l := p.mem_iff.2 (List.mem_cons_self ..)
      rcases List.mem_cons.1 hx with e | hx
      · exact e
      · rcases List.mem_cons.1 hy with e | hy
        · exact e.symm
        · exact absurd (lt_trans (h.1 y hy) (h'.1 x hx)) (lt_irr x)
    subst exy
    rw [rise_unique (List.Perm.cons_inv p) h.2 h'.2]
/-- x is put among those that rise. -/
theorem put_rise {S1 S2 : List T} {x : T} (h : (S1 ++ S2).Pairwise lt) (h1 : ∀ y ∈ S1, lt y x) (h2 : ∀ y ∈ S2, lt x y) : (S1 ++ x :: S2).Pairwise lt := by
  rw [List.pairwise_append] at h ⊢
  refine ⟨h.1, List.pairwise_cons.2 ⟨h2, h.2.1⟩, fun a ha b hb => ?_⟩
  rcases List.mem_cons.1 hb with rfl | hb
  · exact h1 a ha
  · exact h.2.2 a ha b hb
/-- two that rise, one behind the other. -/
theorem cat_rise {S1 S2 : List T} (h1 : S1.Pairwise lt) (h2 : S2.Pairwise lt) (h : ∀ x ∈ S1, ∀ y ∈ S2, lt x y) : (S1 ++ S2).Pairwise lt := List.pairwise_append.2 ⟨h1, h2, h⟩
end Go.Proofs.YtkejdkajfnaieaaGreatDoor.So

namespace Go.Proofs.YtkejdkajfnaieaaGreatDoor
open Go.RowKit
set_option linter.unusedVariables false
set_option maxRecDepth 100000

theorem um_laid : laidOutB Tryz.prog = true := by kernel_rfl
theorem um_row : (208 : TypeId) < Tryz.prog.types.size := of_decide_eq_true (by kernel_rfl)
theorem um_wide : (match Tryz.prog.underlying 208 with | some (.array _ _) | some (.struct _) => true | _ => false) = true := by kernel_rfl
theorem um_deep : Tryz.prog.keyTypeAt 3 208 = true := by kernel_rfl
theorem um_law : Maps.Keyed Tryz.prog 208 := Maps.Keyed.of_law (deep_law_laid um_laid (m := 3) (by omega) um_row um_deep um_wide)
theorem um_cells : Tryz.prog.cellsOf 208 = 2 := by kernel_rfl
theorem um_int : Tryz.prog.cellsOf 3 = 1 := by kernel_rfl
theorem um_type : Tryz.prog.keyType 208 = true := by kernel_rfl
theorem um_size : ∃ m, Tryz.prog.types.size = m + 1 := ⟨Tryz.prog.types.size - 1, by have h : 0 < Tryz.prog.types.size := Nat.lt_of_le_of_lt (Nat.zero_le _) um_row; omega⟩
theorem um_key {p u : Int} (hp : (Lit.int .i64 p).wf = true) (hu : (Lit.int .i64 u).wf = true) : ∃ kl, keyOf Tryz.prog 208 (.agg #[.int .i64 p, .int .i64 u]) = some kl := by
  obtain ⟨m, hm⟩ := um_size
  have ht := um_type
  have hc := um_cells
  have hi := um_int
  unfold keyOf
  simp only [Tryz.underlying208]
  rw [if_pos (by simp [ht, Value.formed, Tryz.underlying208, hc]), hm]
  unfold Program.keyLits
  simp only [Tryz.underlying208, Value.cells]
  rw [if_pos ⟨by rw [hc]; rfl, by kernel_rfl⟩]
  simp [Program.keyLits, Tryz.underlying3, hp, hu, hi]
theorem um_zero (w : World) : (zeroValue 3).run Tryz.prog w = .ok (.int .i64 0) w := by kernel_rfl
theorem wf64 {n : Int} (h0 : -9223372036854775808 ≤ n) (h1 : n ≤ 9223372036854775807) : (Lit.int .i64 n).wf = true := WalkArith.wf_i64 (by omega)
/-- block b is a map: f tells what stands at each player and unit. -/
def Um (w : World) (b n : Nat) (f : Int → Int → Int) : Prop := ∃ D : DataW Unit, w.ownsMap Tryz.prog 208 (plainElem Tryz.prog 3) b n D ∧ Maps.IsMap D ∧ ∀ p u kl, keyOf Tryz.prog 208 (.agg #[.int .i64 p, .int .i64 u]) = some kl → D.atKey kl (.lit (.int .i64 0)) = .lit (.int .i64 (f p u))
def updAt (f : Int → Int → Int) (p u v : Int) : Int → Int → Int := fun p' u' => if p' = p ∧ u' = u then v else f p' u'
theorem um_made (w : World) : Um (w.alloc (.map #[] 0)) w.heap.size 0 (fun _ _ => 0) :=
  ⟨.map [], World.ownsMap_made _ _ _ _, Maps.isMap_empty, fun p u kl _ => Maps.atKey_of_not_has rfl _⟩
theorem Um.lt {w : World} {b n : Nat} {f : Int → Int → Int} (h : Um w b n f) : b < w.heap.size := by
  obtain ⟨D, h1, -⟩ := h
  exact h1.lt
theorem Um.gb {w w' : World} {b n : Nat} {f : Int → Int → Int} {r : Option Nat} (h : Um w b n f) (g : w.grownBy w' r) (hr : some b ≠ r) : Um w' b n f := by
  obtain ⟨D, h1, h2⟩ := h
  exact ⟨D, h1.kept g hr, h2⟩
theorem Um.below {w w' : World} {b n : Nat} {f : Int → Int → Int} (h : Um w b n f) (g : Below w.heap.size w w') : Um w' b n f :=
  h.gb (r := none) ⟨g.os, g.tape, g.output, g.size, fun k hk _ => g.block k hk⟩ (by simp)
theorem Um.put {w : World} {b n : Nat} {f : Int → Int → Int} (h : Um w b n f) (hn : n < maxLen) {p u v : Int} (hp : (Lit.int .i64 p).wf = true) (hu : (Lit.int .i64 u).wf = true) (hv : (Lit.int .i64 v).wf = true) :
    ∃ w', (Instr.mapUpdate 205 (.map (some b)) (.agg #[.int .i64 p, .int .i64 u]) (.int .i64 v)).run Tryz.prog w = .ok () w' ∧ Um w' b (n + 1) (updAt f p u v) ∧ w.grownBy w' (some b) := by
  obtain ⟨D, h1, hD, h2⟩ := h
  obtain ⟨kl, hk⟩ := um_key hp hu
  obtain ⟨w', r, o, g⟩ := World.ownsMap.update h1 um_law Tryz.underlying205 hn hk (plainElem_int Tryz.underlying3 hv)
  refine ⟨w', r, ⟨_, o, hD.put _ _, fun p' u' kl' hk' => ?_⟩, g⟩
  unfold updAt
  by_cases e : kl' = kl
  · subst e
    have ei := um_law.inj hk hk'
    simp only [Value.agg.injEq, Array.mk.injEq, List.cons.injEq, Value.int.injEq, true_and, and_true] at ei
    rw [if_pos ⟨ei.1.symm, ei.2.symm⟩]
    exact Maps.atKey_put_same hD (um_law.key hk) _ _
  · rw [Maps.atKey_put_other e, if_neg, h2 p' u' kl' hk']
    rintro ⟨rfl, rfl⟩
    exact e (Option.some.inj (hk'.symm.trans hk))
theorem Um.look {w : World} {b n : Nat} {f : Int → Int → Int} (h : Um w b n f) {p u : Int} (hp : (Lit.int .i64 p).wf = true) (hu : (Lit.int .i64 u).wf = true) :
    (Instr.lookup 205 (.map (some b)) (.agg #[.int .i64 p, .int .i64 u]) false).run Tryz.prog w = .ok (.int .i64 (f p u)) w := by
  obtain ⟨D, h1, hD, h2⟩ := h
  obtain ⟨kl, hk⟩ := um_key hp hu
  obtain ⟨c, hr, hat, -⟩ := h1.lookup_int um_law Tryz.underlying205 Tryz.underlying3 (um_zero w) hk
  rw [h2 p u kl hk] at hat
  injection hat with e
  injection e with _ e
  rw [e]
  exact hr
end Go.Proofs.YtkejdkajfnaieaaGreatDoor

namespace Go.Proofs.YtkejdkajfnaieaaGreatDoor
namespace So
set_option linter.unusedVariables false
/-- where each unit's last order stands, among the first q. -/
def lf (l : List OrV) : Nat → Int → Int → Int
  | 0 => fun _ _ => 0
  | q + 1 => match l[q]? with
    | some o => if o.what = 3 then lf l q else updAt (lf l q) o.player o.unit (q : Nat)
    | none => lf l q
/-- those that count, of the first q, with their places. -/
def kp (l : List OrV) : Nat → List T
  | 0 => []
  | q + 1 => match l[q]? with
    | some o => if o.what = 3 ∨ lf l l.length o.player o.unit = (q : Nat) then kp l q ++ [(o, q)] else kp l q
    | none => kp l q
theorem lf_train {l : List OrV} {q : Nat} {o : OrV} (h : l[q]? = some o) (h3 : o.what = 3) : lf l (q + 1) = lf l q := by rw [lf]; simp only [h]; rw [if_pos h3]
theorem lf_other {l : List OrV} {q : Nat} {o : OrV} (h : l[q]? = some o) (h3 : ¬ o.what = 3) : lf l (q + 1) = updAt (lf l q) o.player o.unit (q : Nat) := by rw [lf]; simp only [h]; rw [if_neg h3]
theorem kp_yes {l : List OrV} {q : Nat} {o : OrV} (h : l[q]? = some o) (h3 : o.what = 3 ∨ lf l l.length o.player o.unit = (q : Nat)) : kp l (q + 1) = kp l q ++ [(o, q)] := by rw [kp]; simp only [h]; rw [if_pos h3]
theorem kp_no {l : List OrV} {q : Nat} {o : OrV} (h : l[q]? = some o) (h3 : ¬ (o.what = 3 ∨ lf l l.length o.player o.unit = (q : Nat))) : kp l (q + 1) = kp l q := by rw [kp]; simp only [h]; rw [if_neg h3]
theorem kp_mem {l : List OrV} : ∀ {q : Nat} {x : T}, x ∈ kp l q → x.2 < q ∧ l[x.2]? = some x.1 ∧ (x.1.what = 3 ∨ lf l l.length x.1.player x.1.unit = (x.2 : Nat))
  | 0, x, h => by simp [kp] at h
  | q + 1, x, h => by
    rw [kp] at h
    cases ho : l[q]? with
    | none =>
      simp only [ho] at h
      obtain ⟨h1, h2⟩ := kp_mem h
      exact ⟨by omega, h2⟩
    | some o =>
      simp only [ho] at h
      split at h
      · rename_i hc
        rcases List.mem_append.1 h with h | h
        · obtain ⟨h1, h2⟩ := kp_mem h
          exact ⟨by omega, h2⟩
        · simp at h
          subst h
          exact ⟨by simp, ho, hc⟩
      · obtain ⟨h1, h2⟩ := kp_mem h
        exact ⟨by omega, h2⟩
theorem kp_in {l : List OrV} {i : Nat} {o : OrV} (ho : l[i]? = some o) (hc : o.what = 3 ∨ lf l l.length o.player o.unit = (i : Nat)) : ∀ {q : Nat}, i < q → (o, i) ∈ kp l q
  | 0, h => by omega
  | q + 1, h => by
    by_cases e : i = q
    · subst e
      rw [kp_yes ho hc]
      simp
    · have ih := kp_in ho hc (q := q) (by omega)
      rw [kp]
      cases hq : l[q]? with
      | none => exact ih
      | some o' =>
        simp only
        split
        · exact List.mem_append_left _ ih
        · exact ih
theorem kp_tags {l : List OrV} : ∀ (q : Nat), (kp l q).Pairwise (fun x y => x.2 < y.2)
  | 0 => List.Pairwise.nil
  | q + 1 => by
    rw [kp]
    cases hq : l[q]? with
    | none => exact kp_tags q
    | some o =>
      simp only
      split
      · refine List.pairwise_append.2 ⟨kp_tags q, by simp, fun x hx y hy => ?_⟩
        simp at hy
        subst hy
        exact (kp_mem hx).1
      · exact kp_tags q
theorem kp_len {l : List OrV} : ∀ (q : Nat), (kp l q).length ≤ q
  | 0 => Nat.le_refl _
  | q + 1 => by
    rw [kp]
    have := kp_len (l := l) q
    cases hq : l[q]? with
    | none => simp only; omega
    | some o =>
      simp only
      split
      · simp; omega
      · omega
/-- the last order of a unit is told. -/
theorem lf_last {l : List OrV} {i : Nat} {o : OrV} (ho : l[i]? = some o) (h3 : ¬ o.what = 3) : ∀ {q : Nat}, i < q → (∀ k x, i < k → k < q → l[k]? = some x → x.what = 3 ∨ x.player ≠ o.player ∨ x.unit ≠ o.unit) → lf l q o.player o.unit = (i : Nat)
  | 0, h, _ => by omega
  | q + 1, h, hn => by
    by_cases e : i = q
    · subst e
      rw [lf_other ho h3]
      unfold updAt
      rw [if_pos ⟨rfl, rfl⟩]
    · have ih := lf_last ho h3 (q := q) (by omega) (fun k x h1 h2 hx => hn k x h1 (by omega) hx)
      rw [lf]
      cases hq : l[q]? with
      | none => exact ih
      | some x =>
        simp only
        split
        · exact ih
        · rename_i hx3
          unfold updAt
          rw [if_neg]
          · exact ih
          · rintro ⟨h1, h2⟩
            rcases hn q x (by omega) (by omega) hq with h | h | h
            · exact hx3 h
            · exact h h1.symm
            · exact h h2.symm
/-- of orders l, those that count. -/
def LastSays (l out : List OrV) : Prop := ∃ S : List T, S.Perm (kp l l.length) ∧ S.Pairwise lt ∧ out = S.map Prod.fst
theorem LastSays.one {l out out' : List OrV} (h : LastSays l out) (h' : LastSays l out') : out = out' := by
  obtain ⟨S, p, r, rfl⟩ := h
  obtain ⟨S', p', r', rfl⟩ := h'
  rw [rise_unique (p.trans p'.symm) r r']
theorem LastSays.len {l out : List OrV} (h : LastSays l out) : out.length ≤ l.length := by
  obtain ⟨S, p, r, rfl⟩ := h
  have := kp_len (l := l) l.length
  rw [List.length_map, p.length_eq]
  exact this
theorem LastSays.mem {l out : List OrV} (h : LastSays l out) {o : OrV} (ho : o ∈ out) : o ∈ l := by
  obtain ⟨S, p, r, rfl⟩ := h
  obtain ⟨x, hx, rfl⟩ := List.mem_map.1 ho
  exact List.mem_of_getElem? (kp_mem (p.mem_iff.1 hx)).2.1
end So
end Go.Proofs.YtkejdkajfnaieaaGreatDoor

namespace Go.Proofs.YtkejdkajfnaieaaGreatDoor
open Go.RowKit Go.Proofs.YtkejdkajfnaieaaGreatDoor.So
set_option linter.unusedVariables false

theorem goes_count {ks : List KV} {X : WV} {Wn Hn : Nat} {k : KV} {i : Nat} {us us' : List UnV} {left : Int} {cells : List Int} (h : Goes ks X Wn Hn k i us left cells us') : us'.length = us.length ∧ cells.length ≤ left.toNat := by
  induction h with
  | stop => exact ⟨rfl, by simp⟩
  | @step us us' left u c gg cells hu hw hg h1 h2 h3 ih =>
    have hp : 0 < Fd.onto gg k.f := by
      refine wish_pos hw hg (fun e => ?_)
      rw [List.any_eq_false] at h2
      exact h2 u (List.mem_of_getElem? hu) (by rw [e]; simp)
    obtain ⟨i1, i2⟩ := ih
    refine ⟨by rw [i1]; simp, ?_⟩
    simp only [List.length_cons]
    omega
theorem moves_count {ks : List KV} {X : WV} {Wn Hn n : Nat} {us us' : List UnV} {evs : List EvV} (hk : ∀ k ∈ ks, k.n4 ≤ 1000) (h : Moves ks X Wn Hn n us evs us') : evs.length ≤ 1000 * (us.length - n) := by
  induction h with
  | done => simp
  | @unit n us us1 us' u u1 k cells evs hu hkk hg h1 hm ih =>
    obtain ⟨g1, g2⟩ := goes_count hg
    have hn : n < us.length := (List.getElem?_eq_some_iff.1 hu).1
    have hs := hk k (List.mem_of_getElem? hkk)
    rw [List.length_set, g1] at ih
    rw [List.length_append, List.length_map]
    have : us.length - n = (us.length - (n + 1)) + 1 := by omega
    rw [this]
    omega
theorem kinds_speed {ks : List KV} (h : Kd.kindsFault (ks.map KV.k) = 0) : ∀ k ∈ ks, k.n4 ≤ 1000 := by
  intro k hk
  unfold Kd.kindsFault at h
  split at h
  · omega
  · have h2 := kgo_nums h k.k (List.mem_map.2 ⟨k, hk, rfl⟩)
    unfold Kd.numsFault at h2
    split at h2
    · omega
    · rename_i h3
      rw [Bool.not_eq_true, List.any_eq_false] at h3
      have := h3 k.n4 (by simp [KV.k])
      simp only [decide_eq_true_eq] at this
      omega
/-- the first n of the four phases have happened to A. -/
inductive Ph (ks : List KV) (Wn Hn : Nat) (A : WV) : Nat → WV → List EvV → Prop
  | zero : Ph ks Wn Hn A 0 A []
  | one {T : WV} {es : List EvV} {qs : List JbV} : Tr ks A A.qs.length T es qs → Ph ks Wn Hn A 1 { T with qs := qs } es
  | two {B : WV} {es evs : List EvV} {us : List UnV} : Ph ks Wn Hn A 1 B es → Moves ks B Wn Hn 0 B.us evs us → Ph ks Wn Hn A 2 { B with us := us } (es ++ evs)
  | three {C : WV} {es : List EvV} : Ph ks Wn Hn A 2 C es → Ph ks Wn Hn A 3 (dug ks Wn Hn C) (es ++ dugEv ks Wn Hn C)
  | four {D : WV} {es : List EvV} : Ph ks Wn Hn A 3 D es → Ph ks Wn Hn A 4 (fought ks Wn D) (es ++ fevents ks Wn D)
/-- through each phase a world is right, and as great. -/
theorem Ph.keep {ks : List KV} {Wn Hn : Nat} {A : WV} (h : WRight ks A) (e1 : A.wide = (Wn : Nat)) (e2 : A.high = (Hn : Nat)) {n : Nat} {Y : WV} {es : List EvV} (p : Ph ks Wn Hn A n Y es) : WRight ks Y ∧ Y.wide = (Wn : Nat) ∧ Y.high = (Hn : Nat) ∧ Y.turn = A.turn ∧ es.length ≤ 50000 * n := by
  induction p with
  | zero => exact ⟨h, e1, e2, rfl, by simp⟩
  | @one T es qs t =>
    obtain ⟨-, -, k3, -, k5, k6, k7, -⟩ := t.keep h
    refine ⟨wright_of (tr_right h t), by show T.wide = _; rw [k6, e1], by show T.high = _; rw [k7, e2], k5, ?_⟩
    have := h.ql
    omega
  | @two B es evs us p0 m ih =>
    obtain ⟨r, w1, w2, w3, w4⟩ := ih
    obtain ⟨Wm, Hm, f1, f2, G⟩ := r.good
    obtain rfl : Wm = Wn := by omega
    obtain rfl : Hm = Hn := by omega
    refine ⟨wright_of (minv_right r G w1 w2 (minv_moves G m (minv_start r G))), w1, w2, w3, ?_⟩
    have hm := moves_count (kinds_speed r.kinds) m
    have hu := r.ul
    rw [List.length_append]
    omega
  | @three C es p0 ih =>
    obtain ⟨r, w1, w2, w3, w4⟩ := ih
    obtain ⟨k0, k1, -, k3, k4, -⟩ := dug_keep (ks := ks) (Wn := Wn) (Hn := Hn) r
    refine ⟨wright_of k0, by rw [← w1]; exact k3, by rw [← w2]; exact k4, by rw [← w3]; exact k1, ?_⟩
    have a1 := tk_evs (ks := ks) (Y := C) C.us.length
    have a2 := br_evs (ks := ks) (Wn := Wn) (Hn := Hn) (Y := (tk ks C C.us.length).1) (tk ks C C.us.length).1.us.length
    have a3 : (tk ks C C.us.length).1.us.length = C.us.length := (tk_keep C.us.length).2.2.2.2.2.2.2.1
    have hu := r.ul
    rw [List.length_append]
    unfold dugEv
    rw [List.length_append]
    omega
  | @four D es p0 ih =>
    obtain ⟨r, w1, w2, w3, w4⟩ := ih
    refine ⟨wright_of (fought_right r), w1, w2, w3, ?_⟩
    have a1 := strikes_evlen (ks := ks) (W := Wn) (us := D.us) D.us (List.replicate D.us.length 0, [])
    have a2 : ((struck ks Wn D).filter fallenU).length ≤ D.us.length := by
      have h1 : (struck ks Wn D).length = D.us.length := by unfold struck; exact hurt_len strikes_len'
      have h2 := List.length_filter_le fallenU (struck ks Wn D)
      omega
    have hu := r.ul
    rw [List.length_append]
    unfold fevents strikes
    rw [List.length_append, List.length_map]
    simp at a1
    unfold strikes at *
    omega
theorem given_same {ks : List KV} {Y Z : WV} {o : OrV} (hg : given1 ks Y o = some Z) : Z.turn = Y.turn ∧ Z.wide = Y.wide ∧ Z.high = Y.high := by
  unfold given1 at hg
  split at hg
  · cases hg
  · split at hg
    · cases hg
    · split at hg
      · cases hg
      · split at hg
        · injection hg with hg
          subst hg
          split <;> exact ⟨rfl, rfl, rfl⟩
        · cases hg
theorem gv_same {ks : List KV} {Y : WV} {out : List OrV} : ∀ q, (gv ks Y out q).1.turn = Y.turn ∧ (gv ks Y out q).1.wide = Y.wide ∧ (gv ks Y out q).1.high = Y.high
  | 0 => ⟨rfl, rfl, rfl⟩
  | q + 1 => by
    have ih := gv_same (ks := ks) (Y := Y) (out := out) q
    cases hq : out[q]? with
    | none => rw [gv]; simp only [hq]; exact ih
    | some o =>
      cases hg : given1 ks (gv ks Y out q).1 o with
      | some Z =>
        rw [gv_yes hq hg]
        obtain ⟨a, b, c⟩ := given_same hg
        exact ⟨a.trans ih.1, b.trans ih.2.1, c.trans ih.2.2⟩
      | none => rw [gv_no hq hg]; exact ih
def stepFault (ks : List KV) (X : WV) (l : List OrV) : Int := if Wd.wfault ks X ≠ 0 then Wd.wfault ks X else if 1000000 ≤ X.turn then 4 else Od.faults l
/-- what comes of a turn. -/
def StepR (ks : List KV) (X : WV) (l : List OrV) (Y : WV) (es : List EvV) : Prop := ∃ (out : List OrV) (Wn Hn : Nat) (Z : WV), LastSays l out ∧ X.wide = (Wn : Nat) ∧ X.high = (Hn : Nat) ∧ Ph ks Wn Hn (gv ks X out out.length).1 4 Z es ∧ Y = { Z with turn := Z.turn + 1 }
end Go.Proofs.YtkejdkajfnaieaaGreatDoor

namespace Go.Proofs.YtkejdkajfnaieaaGreatDoor
open Go.RowKit
set_option linter.unusedVariables false

theorem own_two {w : World} {b1 b2 : Nat} {T S : TypeId} {s1 s2 : Nat} {u v : Value} {n m : Nat} {cs ds : List Value} (h : w.ownsRow b1 T s1 u n cs) (k : w.ownsRow b2 S s2 v m ds) (hT : T ≠ S) : ∀ b, u.ownBlock = some b → ¬ v.ownBlock = some b := by
  intro b hb hv
  rcases h.2 with ⟨h1, -⟩ | ⟨g, cap, cur, h1, -, h3, -⟩
  · rw [h1] at hb; cases hb
  · rcases k.2 with ⟨k1, -⟩ | ⟨g', cap', cur', k1, -, k3, -⟩
    · rw [k1] at hv; cases hv
    · rw [h1] at hb
      rw [k1] at hv
      simp [Value.ownBlock] at hb hv
      subst hb
      subst hv
      rw [h3] at k3
      injection k3 with k3
      injection k3 with _ k4
      exact hT k4
/-- the world in its box, its lists, the list of jobs that are left. -/
structure TrS (Y : WV) (es : List EvV) (qs : List JbV) (z b1 bm be : Nat) (w5 : World) (u1 u2 u3 u4 u5 ev qv : Value) (V : World) : Prop where
  x : Wx V z (.int .i64 Y.turn) (.int .i64 Y.next) (.int .i64 Y.wide) (.int .i64 Y.high) u1 u2 u3 u4 u5
  o1 : Ow V b1 u1 Y.gs
  o2 : Ow V b1 u2 Y.os
  o3 : Ow V b1 u3 Y.gold
  o4 : Uno V b1 u4 Y.us
  o5 : Jbo V b1 u5 Y.qs
  d : Dif u5 qv
  l : ∀ x ∈ [u1, u2, u3, u4, u5], ∀ k, x.ownBlock = some k → k < bm ∨ be ≤ k
  e : Evo V be ev es
  o : Jbo V be qv qs
  f : Fr (fun k => k = z ∨ k = bm) w5 V
  n : z < b1 ∧ b1 ≤ bm ∧ bm < be ∧ w5.heap.size = be
section
variable {Y : WV} {es : List EvV} {qs : List JbV} {z b1 bm be : Nat} {w5 : World} {u1 u2 u3 u4 u5 ev qv : Value} {V V' : World}
theorem TrS.below (h : TrS Y es qs z b1 bm be w5 u1 u2 u3 u4 u5 ev qv V) (hb : Below V.heap.size V V') : TrS Y es qs z b1 bm be w5 u1 u2 u3 u4 u5 ev qv V' :=
  ⟨h.x.below hb h.x.lt, h.o1.below hb, h.o2.below hb, h.o3.below hb, h.o4.below hb, h.o5.below hb, h.d, h.l, h.e.below hb, h.o.below hb, h.f.trans (Fr.below hb), h.n⟩
theorem TrS.wl (h : TrS Y es qs z b1 bm be w5 u1 u2 u3 u4 u5 ev qv V) : Wl V (.agg #[.int .i64 Y.turn, .int .i64 Y.next, .int .i64 Y.wide, .int .i64 Y.high, u1, u2, u3, u4, u5]) Y :=
  ⟨u1, u2, u3, u4, u5, rfl, h.o1.ro, h.o2.ro, h.o3.ro, h.o4.l, h.o5.l⟩
/-- the map has turned. -/
theorem TrS.map (h : TrS Y es qs z b1 bm be w5 u1 u2 u3 u4 u5 ev qv V) (hf : Fr (fun q => q = bm) V V') : TrS Y es qs z b1 bm be w5 u1 u2 u3 u4 u5 ev qv V' := by
  have hn := h.n
  have no : ∀ x ∈ [u1, u2, u3, u4, u5], ∀ k, x.ownBlock = some k → ¬ k = bm := fun x hx k hk => by have := h.l x hx k hk; omega
  exact ⟨hf.wx h.x (by omega), hf.own h.o1 (no u1 (by simp)), hf.own h.o2 (no u2 (by simp)), hf.own h.o3 (no u3 (by simp)), hf.own h.o4 (no u4 (by simp)), hf.own h.o5 (no u5 (by simp)), h.d, h.l,
    hf.own h.e (fun k hk => by have := (h.e.block k hk).1; omega), hf.own h.o (fun k hk => by have := (h.o.block k hk).1; omega), h.f.trans (hf.mono (fun k hk => .inr hk)), h.n⟩
/-- one more event. -/
theorem TrS.told (h : TrS Y es qs z b1 bm be w5 u1 u2 u3 u4 u5 ev qv V) {e : EvV} {ev' : Value} (g : V.grownBy V' ev.ownBlock) (he : Evo V' be ev' (es ++ [e])) : TrS Y (es ++ [e]) qs z b1 bm be w5 u1 u2 u3 u4 u5 ev' qv V' := by
  have hn := h.n
  have hf : Fr (fun q => ev.ownBlock = some q) V V' := Fr.gb g (fun k hk => hk)
  have ne : ∀ k, ev.ownBlock = some k → be ≤ k := fun k hk => (h.e.block k hk).1
  refine ⟨hf.wx h.x (fun e => by have := ne z e; omega), hf.own h.o1 (own_two h.o1 h.e (by decide)), hf.own h.o2 (own_two h.o2 h.e (by decide)), hf.own h.o3 (own_two h.o3 h.e (by decide)), hf.own h.o4 (own_two h.o4 h.e (by decide)), hf.own h.o5 (own_two h.o5 h.e (by decide)), h.d, h.l, he, hf.own h.o (own_two h.o h.e (by decide)), ?_, h.n⟩
  refine ⟨hf.os.trans h.f.os, hf.tape.trans h.f.tape, hf.output.trans h.f.output, Nat.le_trans h.f.size hf.size, fun q hq hm => (hf.block q (Nat.lt_of_lt_of_le hq h.f.size) (fun e => ?_)).trans (h.f.block q hq hm)⟩
  have := ne q e
  omega
/-- one more job that is left. -/
theorem TrS.left (h : TrS Y es qs z b1 bm be w5 u1 u2 u3 u4 u5 ev qv V) {j : JbV} {qv' : Value} {gq : Nat} (g : V.grownBy V' qv.ownBlock) (ho : Jbo V' be qv' (qs ++ [j])) (hq : qv'.ownBlock = some gq) (hg : qv.ownBlock = some gq ∨ gq = V.heap.size) : TrS Y es (qs ++ [j]) z b1 bm be w5 u1 u2 u3 u4 u5 ev qv' V' := by
  have hn := h.n
  have hf : Fr (fun q => qv.ownBlock = some q) V V' := Fr.gb g (fun k hk => hk)
  have ne : ∀ k, qv.ownBlock = some k → be ≤ k := fun k hk => (h.o.block k hk).1
  refine ⟨hf.wx h.x (fun e => by have := ne z e; omega), hf.own h.o1 (own_two h.o1 h.o (by decide)), hf.own h.o2 (own_two h.o2 h.o (by decide)), hf.own h.o3 (own_two h.o3 h.o (by decide)), hf.own h.o4 (own_two h.o4 h.o (by decide)), hf.own h.o5 h.d, ?_, h.l, hf.own h.e (own_two h.e h.o (by decide)), ho, ?_, h.n⟩
  · intro k hk e
    rw [hq] at e
    injection e with e
    subst e
    rcases hg with hg | hg
    · exact h.d _ hk hg
    · have := (h.o5.block _ hk).2; omega
  · refine ⟨hf.os.trans h.f.os, hf.tape.trans h.f.tape, hf.output.trans h.f.output, Nat.le_trans h.f.size hf.size, fun q hq hm => (hf.block q (Nat.lt_of_lt_of_le hq h.f.size) (fun e => ?_)).trans (h.f.block q hq hm)⟩
    have := ne q e
    omega
/-- a block that none of the lists lies in has turned. -/
theorem TrS.box (h : TrS Y es qs z b1 bm be w5 u1 u2 u3 u4 u5 ev qv V) {b : Nat} (hk : Kp b V V') (hb : be ≤ b) (hl : ∀ x ∈ [u1, u2, u3, u4, u5, ev, qv], ∀ k, x.ownBlock = some k → k < b) : TrS Y es qs z b1 bm be w5 u1 u2 u3 u4 u5 ev qv V' := by
  have hn := h.n
  have hf : Fr (fun q => q = b) V V' := Fr.kp hk rfl
  have no : ∀ x ∈ [u1, u2, u3, u4, u5, ev, qv], ∀ k, x.ownBlock = some k → ¬ k = b := fun x hx k hk => by have := hl x hx k hk; omega
  refine ⟨hf.wx h.x (by omega), hf.own h.o1 (no u1 (by simp)), hf.own h.o2 (no u2 (by simp)), hf.own h.o3 (no u3 (by simp)), hf.own h.o4 (no u4 (by simp)), hf.own h.o5 (no u5 (by simp)), h.d, h.l, hf.own h.e (no ev (by simp)), hf.own h.o (no qv (by simp)), ?_, h.n⟩
  exact ⟨hf.os.trans h.f.os, hf.tape.trans h.f.tape, hf.output.trans h.f.output, Nat.le_trans h.f.size hf.size, fun q hq hm => (hf.block q (Nat.lt_of_lt_of_le hq h.f.size) (fun e => by omega)).trans (h.f.block q hq hm)⟩
theorem TrS.under (h : TrS Y es qs z b1 bm be w5 u1 u2 u3 u4 u5 ev qv V) : ∀ x ∈ [u1, u2, u3, u4, u5, ev, qv], ∀ k, x.ownBlock = some k → k < V.heap.size := by
  intro x hx k hk
  simp only [List.mem_cons, List.not_mem_nil, or_false] at hx
  rcases hx with rfl | rfl | rfl | rfl | rfl | rfl | rfl
  · exact (h.o1.block k hk).2
  · exact (h.o2.block k hk).2
  · exact (h.o3.block k hk).2
  · exact (h.o4.block k hk).2
  · exact (h.o5.block k hk).2
  · exact (h.e.block k hk).2
  · exact (h.o.block k hk).2
/-- another world in the box: one whose lists lie behind all that was when it was made. -/
theorem TrS.puts (h : TrS Y es qs z b1 bm be w5 u1 u2 u3 u4 u5 ev qv V) {Z : WV} {k1 k2 k3 k4 k5 : Value} {B : Nat} (hB : be ≤ B) (hq : ∀ k, qv.ownBlock = some k → k < B) (hk : Kp z V V') (hx : Wx V' z (.int .i64 Z.turn) (.int .i64 Z.next) (.int .i64 Z.wide) (.int .i64 Z.high) k1 k2 k3 k4 k5)
    (p1 : Ow V B k1 Z.gs) (p2 : Ow V B k2 Z.os) (p3 : Ow V B k3 Z.gold) (p4 : Uno V B k4 Z.us) (p5 : Jbo V B k5 Z.qs) : TrS Z es qs z b1 bm be w5 k1 k2 k3 k4 k5 ev qv V' := by
  have hn := h.n
  have hf : Fr (fun q => q = z) V V' := Fr.kp hk rfl
  refine ⟨hx, Ow.mono (hf.own p1 (fun k hk => by have := (p1.block k hk).1; omega)) (by omega), Ow.mono (hf.own p2 (fun k hk => by have := (p2.block k hk).1; omega)) (by omega), Ow.mono (hf.own p3 (fun k hk => by have := (p3.block k hk).1; omega)) (by omega), Uno.mono (hf.own p4 (fun k hk => by have := (p4.block k hk).1; omega)) (by omega), Jbo.mono (hf.own p5 (fun k hk => by have := (p5.block k hk).1; omega)) (by omega), ?_, ?_, hf.own h.e (fun k hk => by have := (h.e.block k hk).1; omega), hf.own h.o (fun k hk => by have := (h.o.block k hk).1; omega), h.f.trans (hf.mono (fun k hk => .inl hk)), h.n⟩
  · intro k hk e
    have := (p5.block k hk).1
    have := hq k e
    omega
  · intro x hx k hk
    simp only [List.mem_cons, List.not_mem_nil, or_false] at hx
    rcases hx with rfl | rfl | rfl | rfl | rfl
    · have := (p1.block k hk).1; omega
    · have := (p2.block k hk).1; omega
    · have := (p3.block k hk).1; omega
    · have := (p4.block k hk).1; omega
    · have := (p5.block k hk).1; omega
end
end Go.Proofs.YtkejdkajfnaieaaGreatDoor

namespace Go.Proofs.YtkejdkajfnaieaaGreatDoor
open Go.RowKit
set_option linter.unusedVariables false

/-- the world in its box, its lists, what was told. -/
structure StS (Y : WV) (es : List EvV) (z b1 be : Nat) (w5 : World) (u1 u2 u3 u4 u5 ev : Value) (V : World) : Prop where
  x : Wx V z (.int .i64 Y.turn) (.int .i64 Y.next) (.int .i64 Y.wide) (.int .i64 Y.high) u1 u2 u3 u4 u5
  o1 : Ow V b1 u1 Y.gs
  o2 : Ow V b1 u2 Y.os
  o3 : Ow V b1 u3 Y.gold
  o4 : Uno V b1 u4 Y.us
  o5 : Jbo V b1 u5 Y.qs
  e : Evo V be ev es
  f : Fr (fun k => k = z) w5 V
  n : z < b1 ∧ b1 ≤ be ∧ w5.heap.size = be
section
variable {Y : WV} {es : List EvV} {z b1 be : Nat} {w5 : World} {u1 u2 u3 u4 u5 ev : Value} {V V' : World}
theorem StS.below (h : StS Y es z b1 be w5 u1 u2 u3 u4 u5 ev V) (hb : Below V.heap.size V V') : StS Y es z b1 be w5 u1 u2 u3 u4 u5 ev V' :=
  ⟨h.x.below hb h.x.lt, h.o1.below hb, h.o2.below hb, h.o3.below hb, h.o4.below hb, h.o5.below hb, h.e.below hb, h.f.trans (Fr.below hb), h.n⟩
theorem StS.wl (h : StS Y es z b1 be w5 u1 u2 u3 u4 u5 ev V) : Wl V (.agg #[.int .i64 Y.turn, .int .i64 Y.next, .int .i64 Y.wide, .int .i64 Y.high, u1, u2, u3, u4, u5]) Y :=
  ⟨u1, u2, u3, u4, u5, rfl, h.o1.ro, h.o2.ro, h.o3.ro, h.o4.l, h.o5.l⟩
/-- more that was told. -/
theorem StS.told (h : StS Y es z b1 be w5 u1 u2 u3 u4 u5 ev V) {fs : List EvV} {ev' : Value} (g : V.grownBy V' ev.ownBlock) (he : Evo V' be ev' (es ++ fs)) : StS Y (es ++ fs) z b1 be w5 u1 u2 u3 u4 u5 ev' V' := by
  have hn := h.n
  have hf : Fr (fun q => ev.ownBlock = some q) V V' := Fr.gb g (fun k hk => hk)
  have ne : ∀ k, ev.ownBlock = some k → be ≤ k := fun k hk => (h.e.block k hk).1
  refine ⟨hf.wx h.x (fun e => by have := ne z e; omega), hf.own h.o1 (own_two h.o1 h.e (by decide)), hf.own h.o2 (own_two h.o2 h.e (by decide)), hf.own h.o3 (own_two h.o3 h.e (by decide)), hf.own h.o4 (own_two h.o4 h.e (by decide)), hf.own h.o5 (own_two h.o5 h.e (by decide)), he, ?_, h.n⟩
  refine ⟨hf.os.trans h.f.os, hf.tape.trans h.f.tape, hf.output.trans h.f.output, Nat.le_trans h.f.size hf.size, fun q hq hm => (hf.block q (Nat.lt_of_lt_of_le hq h.f.size) (fun e => ?_)).trans (h.f.block q hq hm)⟩
  have := ne q e
  omega
/-- another world in the box. -/
theorem StS.puts (h : StS Y es z b1 be w5 u1 u2 u3 u4 u5 ev V) {Z : WV} {k1 k2 k3 k4 k5 : Value} (hk : Kp z V V') (hx : Wx V' z (.int .i64 Z.turn) (.int .i64 Z.next) (.int .i64 Z.wide) (.int .i64 Z.high) k1 k2 k3 k4 k5)
    (p1 : Ow V b1 k1 Z.gs) (p2 : Ow V b1 k2 Z.os) (p3 : Ow V b1 k3 Z.gold) (p4 : Uno V b1 k4 Z.us) (p5 : Jbo V b1 k5 Z.qs) : StS Z es z b1 be w5 k1 k2 k3 k4 k5 ev V' := by
  have hn := h.n
  have hf : Fr (fun q => q = z) V V' := Fr.kp hk rfl
  exact ⟨hx, hf.own p1 (fun k hk => by have := (p1.block k hk).1; omega), hf.own p2 (fun k hk => by have := (p2.block k hk).1; omega), hf.own p3 (fun k hk => by have := (p3.block k hk).1; omega), hf.own p4 (fun k hk => by have := (p4.block k hk).1; omega), hf.own p5 (fun k hk => by have := (p5.block k hk).1; omega), hf.own h.e (fun k hk => by have := (h.e.block k hk).1; omega), h.f.trans hf, h.n⟩
end
end Go.Proofs.YtkejdkajfnaieaaGreatDoor

namespace Go.Proofs.YtkejdkajfnaieaaGreatDoor
open Go.RowKit
set_option linter.unusedVariables false

structure GvS (ks : List KV) (Y : WV) (ref : List Int) (b1 z : Nat) (w1 : World) (u1 u2 u3 u4 u5 ur : Value) (V : World) : Prop where
  x : Wx V z (.int .i64 Y.turn) (.int .i64 Y.next) (.int .i64 Y.wide) (.int .i64 Y.high) u1 u2 u3 u4 u5
  o1 : Ow V b1 u1 Y.gs
  o2 : Ow V b1 u2 Y.os
  o3 : Ow V b1 u3 Y.gold
  o4 : Uno V b1 u4 Y.us
  o5 : Jbo V b1 u5 Y.qs
  r : Ow V b1 ur ref
  d : [u1, u2, u3, u4, u5, ur].Pairwise Dif
  k : Kp z w1 V
  f : GFit ks Y
section
variable {ks : List KV} {Y : WV} {ref : List Int} {b1 z : Nat} {w1 : World} {u1 u2 u3 u4 u5 ur : Value} {V V' : World}
theorem GvS.below (h : GvS ks Y ref b1 z w1 u1 u2 u3 u4 u5 ur V) (hb : Below V.heap.size V V') : GvS ks Y ref b1 z w1 u1 u2 u3 u4 u5 ur V' :=
  ⟨h.x.below hb h.x.lt, h.o1.below hb, h.o2.below hb, h.o3.below hb, h.o4.below hb, h.o5.below hb, h.r.below hb, h.d, h.k.trans (Kp.of hb), h.f⟩
theorem GvS.wo (h : GvS ks Y ref b1 z w1 u1 u2 u3 u4 u5 ur V) : Wo V b1 (.agg #[.int .i64 Y.turn, .int .i64 Y.next, .int .i64 Y.wide, .int .i64 Y.high, u1, u2, u3, u4, u5]) Y := ⟨u1, u2, u3, u4, u5, rfl, h.o1, h.o2, h.o3, h.o4, h.o5⟩
theorem GvS.difs (h : GvS ks Y ref b1 z w1 u1 u2 u3 u4 u5 ur V) : (Dif u1 u2 ∧ Dif u1 u3 ∧ Dif u1 u4 ∧ Dif u1 u5 ∧ Dif u1 ur) ∧ (Dif u2 u3 ∧ Dif u2 u4 ∧ Dif u2 u5 ∧ Dif u2 ur) ∧ (Dif u3 u4 ∧ Dif u3 u5 ∧ Dif u3 ur) ∧ (Dif u4 u5 ∧ Dif u4 ur) ∧ Dif u5 ur := by
  have := h.d
  simp only [List.pairwise_cons, List.mem_cons, List.not_mem_nil, or_false, forall_eq_or_imp, forall_eq] at this
  obtain ⟨⟨a1, a2, a3, a4, a5⟩, ⟨b1, b2, b3, b4⟩, ⟨c1, c2, c3⟩, ⟨d1, d2⟩, e, -⟩ := this
  exact ⟨⟨a1, a2, a3, a4, a5⟩, ⟨b1, b2, b3, b4⟩, ⟨c1, c2, c3⟩, ⟨d1, d2⟩, e⟩
theorem dif_to {u v v' : Value} {n : Nat} (h : Dif u v) (hu : ∀ k, u.ownBlock = some k → k < n) (hv : v'.ownBlock = v.ownBlock ∨ ∃ q, v'.ownBlock = some q ∧ n ≤ q) : Dif u v' := fun k h1 h2 => by
  rcases hv with e | ⟨q, e, hq⟩
  · exact h k h1 (by rw [← e]; exact h2)
  · rw [e] at h2
    injection h2 with h2
    have := hu k h1
    omega
theorem GvS.refuse {ref' : List Int} {ur' : Value} (h : GvS ks Y ref b1 z w1 u1 u2 u3 u4 u5 ur V) (hz : z < b1) (hw : w1.heap.size = b1) (g : V.grownBy V' ur.ownBlock) (ho : Ow V' b1 ur' ref') (hn : ur'.ownBlock = ur.ownBlock ∨ ∃ q, ur'.ownBlock = some q ∧ V.heap.size ≤ q) : GvS ks Y ref' b1 z w1 u1 u2 u3 u4 u5 ur' V' := by
  obtain ⟨⟨d12, d13, d14, d15, d1r⟩, ⟨d23, d24, d25, d2r⟩, ⟨d34, d35, d3r⟩, ⟨d45, d4r⟩, d5r⟩ := h.difs
  have F : Fr (fun q => ur.ownBlock = some q) V V' := Fr.gb g (fun k hk => hk)
  refine ⟨F.wx h.x (fun e => by have := (h.r.block z e).1; omega), F.own h.o1 (fun b hb e => d1r b hb e), F.own h.o2 (fun b hb e => d2r b hb e), F.own h.o3 (fun b hb e => d3r b hb e), F.own h.o4 (fun b hb e => d4r b hb e), F.own h.o5 (fun b hb e => d5r b hb e), ho, ?_, kp_gb h.k g (fun k hk => by rw [hw]; exact (h.r.block k hk).1), h.f⟩
  simp only [List.pairwise_cons, List.mem_cons, List.not_mem_nil, or_false, forall_eq_or_imp, forall_eq]
  exact ⟨⟨d12, d13, d14, d15, dif_to d1r (fun k hk => (h.o1.block k hk).2) hn⟩, ⟨d23, d24, d25, dif_to d2r (fun k hk => (h.o2.block k hk).2) hn⟩, ⟨d34, d35, dif_to d3r (fun k hk => (h.o3.block k hk).2) hn⟩, ⟨d45, dif_to d4r (fun k hk => (h.o4.block k hk).2) hn⟩, dif_to d5r (fun k hk => (h.o5.block k hk).2) hn, by simp, by simp⟩
theorem GvS.send {gu cap i : Nat} {rest : List Value} {u : UnV} {o : OrV} (h : GvS ks Y ref b1 z w1 u1 u2 u3 (.slice (some ⟨gu, 0, none⟩) Y.us.length cap) u5 ur V) (hz : z < b1) (hw : w1.heap.size = b1) (hu : Y.us[i]? = some u) (hg : b1 ≤ gu) (h1 : Y.us.length ≤ cap) (h2 : cap ≤ maxLen) (h3 : Y.us.length * 8 + rest.length = cap * 8) (hb : Ub V' gu (Y.us.set i (sentU o u)) rest) (hk : Kp gu V V') :
    GvS ks (sentW Y i u o) ref b1 z w1 u1 u2 u3 (.slice (some ⟨gu, 0, none⟩) Y.us.length cap) u5 ur V' := by
  obtain ⟨⟨d12, d13, d14, d15, d1r⟩, ⟨d23, d24, d25, d2r⟩, ⟨d34, d35, d3r⟩, ⟨d45, d4r⟩, d5r⟩ := h.difs
  have F : Fr (fun q => q = gu) V V' := Fr.kp hk rfl
  have own : (Value.slice (some ⟨gu, 0, none⟩) Y.us.length cap).ownBlock = some gu := rfl
  refine ⟨F.wx h.x (by omega), F.own h.o1 (fun b hb e => d14 b hb (by rw [own, e])), F.own h.o2 (fun b hb e => d24 b hb (by rw [own, e])), F.own h.o3 (fun b hb e => d34 b hb (by rw [own, e])), ?_, F.own h.o5 (fun b hb e => d45 gu own (by rw [hb, e])), F.own h.r (fun b hb e => d4r gu own (by rw [hb, e])), h.d, ?_, h.f.sent hu o⟩
  · have := hb.uno (base := b1) (cap := cap) hg (by simpa using h1) h2 (by simpa using h3)
    simpa [sentW] using this
  · exact ⟨hk.os.trans h.k.os, hk.tape.trans h.k.tape, hk.output.trans h.k.output, Nat.le_trans h.k.size hk.size, fun q hq hn => (hk.block q (Nat.lt_of_lt_of_le hq h.k.size) (by omega)).trans (h.k.block q hq hn)⟩
theorem GvS.hire {gg cg pn : Nat} {rest : Array Value} {g : Int} {o : OrV} {u5' : Value} (h : GvS ks Y ref b1 z w1 u1 u2 (.slice (some ⟨gg, 0, none⟩) Y.gold.length cg) u4 u5 ur V) (hz : z < b1) (hw : w1.heap.size = b1) (hg : b1 ≤ gg) (h1 : Y.gold.length ≤ cg) (h2 : cg ≤ maxLen) (h3 : Y.gold.length + rest.size = cg)
    (hx : Wx V' z (.int .i64 Y.turn) (.int .i64 Y.next) (.int .i64 Y.wide) (.int .i64 Y.high) u1 u2 (.slice (some ⟨gg, 0, none⟩) Y.gold.length cg) u4 u5') (hb : Bk V' gg (hired ks Y o).gold rest) (hj : Jbo V' b1 u5' (hired ks Y o).qs) (hf : Fr (fun q => q = z ∨ q = gg ∨ u5.ownBlock = some q) V V') (hn : u5'.ownBlock = u5.ownBlock ∨ ∃ q, u5'.ownBlock = some q ∧ V.heap.size ≤ q) (hfit : GFit ks (hired ks Y o)) :
    GvS ks (hired ks Y o) ref b1 z w1 u1 u2 (.slice (some ⟨gg, 0, none⟩) Y.gold.length cg) u4 u5' ur V' := by
  obtain ⟨⟨d12, d13, d14, d15, d1r⟩, ⟨d23, d24, d25, d2r⟩, ⟨d34, d35, d3r⟩, ⟨d45, d4r⟩, d5r⟩ := h.difs
  have own : (Value.slice (some ⟨gg, 0, none⟩) Y.gold.length cg).ownBlock = some gg := rfl
  have no : ∀ {u : Value}, (∀ k, u.ownBlock = some k → b1 ≤ k ∧ k < V.heap.size) → Dif u (.slice (some ⟨gg, 0, none⟩) Y.gold.length cg) → Dif u u5 → ∀ b, u.ownBlock = some b → ¬ (b = z ∨ b = gg ∨ u5.ownBlock = some b) := fun hu e3 e5 b hb hs => by
    rcases hs with e | e | e
    · have := (hu b hb).1; omega
    · exact e3 b hb (by rw [own, e])
    · exact e5 b hb e
  have el : (hired ks Y o).gold.length = Y.gold.length := by simp [hired]
  refine ⟨hx, hf.own h.o1 (no h.o1.block d13 d15), hf.own h.o2 (no h.o2.block d23 d25), ?_, hf.own h.o4 (no h.o4.block d34.symm d45), hj, hf.own h.r (no h.r.block d3r.symm d5r.symm), ?_, ?_, hfit⟩
  · have := hb.ow (base := b1) (cap := cg) hg (by omega) h2 (by omega)
    rw [el] at this
    exact this
  · simp only [List.pairwise_cons, List.mem_cons, List.not_mem_nil, or_false, forall_eq_or_imp, forall_eq]
    exact ⟨⟨d12, d13, d14, dif_to d15 (fun k hk => (h.o1.block k hk).2) hn, d1r⟩, ⟨d23, d24, dif_to d25 (fun k hk => (h.o2.block k hk).2) hn, d2r⟩, ⟨d34, dif_to d35 (fun k hk => (h.o3.block k hk).2) hn, d3r⟩, ⟨dif_to d45 (fun k hk => (h.o4.block k hk).2) hn, d4r⟩, (dif_to d5r.symm (fun k hk => (h.r.block k hk).2) hn).symm, by simp, by simp⟩
  · exact ⟨hf.os.trans h.k.os, hf.tape.trans h.k.tape, hf.output.trans h.k.output, Nat.le_trans h.k.size hf.size, fun q hq hn => (hf.block q (Nat.lt_of_lt_of_le hq h.k.size) (fun e => by
      rcases e with e | e | e
      · exact hn e
      · omega
      · have := (h.o5.block q e).1; omega)).trans (h.k.block q hq hn)⟩
end
end Go.Proofs.YtkejdkajfnaieaaGreatDoor

namespace Go.Proofs.YtkejdkajfnaieaaGreatDoor
open Go.RowKit
set_option linter.unusedVariables false

set_option maxHeartbeats 2000000 in
theorem ask_fn (o : OrV) (u : UnV) (b : Nat) (w : World) (x0 : w.cell? ⟨b, 0, none⟩ = some (.int .i64 o.player)) (x1 : w.cell? ⟨b, 1, none⟩ = some (.int .i64 o.unit)) :
    Calls Tryz.prog 111 #[u.val, .pointer (some ⟨b, 0, none⟩)] w fun e w' => e = .returned (.bool (askU o u)) ∧ Below w.heap.size w w' := by
  have BB : Hid (∀ ob, Below w.heap.size w (w.alloc ob)) := fun ob => (Below.refl _ _).alloc (Nat.le_refl _) _
  have hb : b < w.heap.size := cell_lt x0
  have hne : b ≠ w.heap.size := by omega
  have y0 : ∀ ob, (w.alloc ob).cell? ⟨b, 0, none⟩ = some (.int .i64 o.player) := fun ob => by rw [(BB.out ob).cell (p := ⟨b, 0, none⟩) hb]; exact x0
  have y1 : ∀ ob, (w.alloc ob).cell? ⟨b, 1, none⟩ = some (.int .i64 o.unit) := fun ob => by rw [(BB.out ob).cell (p := ⟨b, 1, none⟩) hb]; exact x1
  unfold UnV.val
  by_cases h1 : u.id = o.unit
  · by_cases h2 : u.player = o.player
    · have E : Hid (askU o u = true) := decide_eq_true ⟨h1, h2⟩
      clear hne hb x0 x1
      go_enter Tryz.func111, Tryz.ntmps111
      go_wp2
      go_ret
      exact ⟨by rw [E.out]; rfl, BB.out _⟩
    · have E : Hid (askU o u = false) := decide_eq_false (fun h => h2 h.2)
      have h2b : (u.player == o.player) = false := beq_eq_false_iff_ne.2 h2
      clear hne hb x0 x1
      go_enter Tryz.func111, Tryz.ntmps111
      go_wp2
      go_ret
      exact ⟨by rw [E.out]; rfl, BB.out _⟩
  · have E : Hid (askU o u = false) := decide_eq_false (fun h => h1 h.1)
    have h1b : (u.id == o.unit) = false := beq_eq_false_iff_ne.2 h1
    clear hne hb x0 x1
    go_enter Tryz.func111, Tryz.ntmps111
    go_wp2
    go_ret
    exact ⟨by rw [E.out]; rfl, BB.out _⟩
set_option maxHeartbeats 2000000 in
theorem one_ints (a : Option Addr) (n c : Nat) (i : Nat) (w : World) (hn : n ≤ 9223372036854775807) : Calls Tryz.prog 160 #[.slice a n c, .int .i64 (i : Nat)] w fun e w' => e = .returned (.bool (decide (i < n))) ∧ w' = w := by
  by_cases h : i < n
  · have hi : ((i : Nat) : Int) < (n : Nat) := by omega
    have E : Hid (decide (i < n) = true) := decide_eq_true h
    have h0 : (0 : Int) ≤ ((i : Nat) : Int) := by omega
    go_enter Tryz.func160, Tryz.ntmps160
    go_wp2
    go_ret
    exact ⟨by first | (rw [E.out]; rfl) | rfl, rfl⟩
  · have hi : ¬ ((i : Nat) : Int) < (n : Nat) := by omega
    have E : Hid (decide (i < n) = false) := decide_eq_false h
    have h0 : (0 : Int) ≤ ((i : Nat) : Int) := by omega
    go_enter Tryz.func160, Tryz.ntmps160
    go_wp2
    go_ret
    exact ⟨by first | (rw [E.out]; rfl) | rfl, rfl⟩
set_option maxHeartbeats 2000000 in
theorem one_kinds (a : Option Addr) (n c : Nat) (i : Nat) (w : World) (hn : n ≤ 9223372036854775807) : Calls Tryz.prog 161 #[.slice a n c, .int .i64 (i : Nat)] w fun e w' => e = .returned (.bool (decide (i < n))) ∧ w' = w := by
  by_cases h : i < n
  · have hi : ((i : Nat) : Int) < (n : Nat) := by omega
    have E : Hid (decide (i < n) = true) := decide_eq_true h
    have h0 : (0 : Int) ≤ ((i : Nat) : Int) := by omega
    go_enter Tryz.func161, Tryz.ntmps161
    go_wp2
    go_ret
    exact ⟨by first | (rw [E.out]; rfl) | rfl, rfl⟩
  · have hi : ¬ ((i : Nat) : Int) < (n : Nat) := by omega
    have E : Hid (decide (i < n) = false) := decide_eq_false h
    have h0 : (0 : Int) ≤ ((i : Nat) : Int) := by omega
    go_enter Tryz.func161, Tryz.ntmps161
    go_wp2
    go_ret
    exact ⟨by first | (rw [E.out]; rfl) | rfl, rfl⟩
theorem ub_two {w : World} {g i : Nat} {us : List UnV} {rest : List Value} {u : UnV} (h : Ub w g us rest) (hu : us[i]? = some u) (o : OrV) : Ub ((w.setCell ⟨g, i * 8 + 6, none⟩ (.int .i64 o.what)).setCell ⟨g, i * 8 + 7, none⟩ (.int .i64 o.arg)) g (us.set i (sentU o u)) rest := by
  have hi : i < us.length := (List.getElem?_eq_some_iff.1 hu).1
  have h1 := h.set6 hu o.what
  have h2 := h1.set7 (i := i) (o := { u with task := o.what }) (by simp [hi]) o.arg
  simpa [sentU] using h2
set_option maxRecDepth 100000 in
set_option maxHeartbeats 4000000 in
theorem send_any (g i : Nat) (us : List UnV) (rest : List Value) (u : UnV) (o : OrV) (w : World) (h : Ub w g us rest) (hu : us[i]? = some u) (ho : o.what = 0 ∧ o.arg = 0 ∨ o.what = 1 ∨ o.what = 2) :
    Calls Tryz.prog 115 #[.pointer (some ⟨g, i * 8, none⟩), o.val] w fun e w' => e = .returned (.tuple #[]) ∧ Ub w' g (us.set i (sentU o u)) rest ∧ Kp g w w' := by
  have U0 : Hid (Ub w g us rest) := h
  have HU : Hid (us[i]? = some u) := hu
  have gl := h.lt
  clear h hu
  have W1 : Hid (Kp g w (w.alloc (Obj.cells #[.int .i64 o.player, .int .i64 o.unit, .int .i64 o.what, .int .i64 o.arg] 40))) := Kp.of ((Below.refl _ _).alloc (Nat.le_refl _) _)
  have U1 : Hid (Ub (w.alloc (Obj.cells #[.int .i64 o.player, .int .i64 o.unit, .int .i64 o.what, .int .i64 o.arg] 40)) g us rest) := U0.out.below ((Below.refl _ _).alloc (Nat.le_refl _) _) gl
  have X1 : Hid (Orc (w.alloc (Obj.cells #[.int .i64 o.player, .int .i64 o.unit, .int .i64 o.what, .int .i64 o.arg] 40)) ⟨w.heap.size, 0, none⟩ o) := Orc.mk' (w := w) o rfl
  unfold OrV.val
  go_enter Tryz.func115, Tryz.ntmps115
  go_upto_region 1 with fail
  obtain ⟨z, hz⟩ : ∃ z, w.heap.size = z := ⟨_, rfl⟩
  rw [hz] at X1 ⊢
  have zg : Hid (z ≠ g) := by unfold Hid; omega
  clear hz gl
  generalize w.alloc (Obj.cells #[.int .i64 o.player, .int .i64 o.unit, .int .i64 o.what, .int .i64 o.arg] 40) = w1 at *
  obtain ⟨x0, x1, x2, x3⟩ := X1.out
  simp only [Nat.zero_add] at x1 x2 x3
  have UC := U1.out.unc HU.out
  have c6 := UC.c6
  have c7 := UC.c7
  have t6 := U1.out.thaw (i * 8 + 6)
  have t7 := U1.out.thaw (i * 8 + 7)
  have FIN : Hid (Ub ((w1.setCell ⟨g, i * 8 + 6, none⟩ (.int .i64 o.what)).setCell ⟨g, i * 8 + 7, none⟩ (.int .i64 o.arg)) g (us.set i (sentU o u)) rest ∧ Kp g w ((w1.setCell ⟨g, i * 8 + 6, none⟩ (.int .i64 o.what)).setCell ⟨g, i * 8 + 7, none⟩ (.int .i64 o.arg))) := ⟨ub_two U1.out HU.out o, (W1.out.trans (Kp.set _ _ _)).trans (Kp.set _ _ _)⟩
  simp only at c6 c7
  have zg' : ¬ z = g := zg.out
  clear UC
  rcases ho with ⟨h0, ha⟩ | h0 | h0
  · rw [h0] at x2
    rw [ha] at x3
    rw [h0, ha] at FIN
    clear h0 ha
    go_wp2
    go_end0
    exact ⟨rfl, FIN.out.1, FIN.out.2⟩
  · rw [h0] at x2
    rw [h0] at FIN
    clear h0
    go_wp2_with fail
    go_region
    go_wp2
    go_end0
    exact ⟨rfl, FIN.out.1.below ((Below.refl _ _).drew) FIN.out.1.lt, FIN.out.2.trans (Kp.of (Below.refl _ _).drew)⟩
  · rw [h0] at x2
    rw [h0] at FIN
    clear h0
    go_wp2_with fail
    go_region
    go_wp2
    go_end0
    exact ⟨rfl, FIN.out.1.below ((Below.refl _ _).drew) FIN.out.1.lt, FIN.out.2.trans (Kp.of (Below.refl _ _).drew)⟩
end Go.Proofs.YtkejdkajfnaieaaGreatDoor

namespace Go.Proofs.YtkejdkajfnaieaaGreatDoor
open Go.RowKit
set_option linter.unusedVariables false

set_option maxRecDepth 100000 in
set_option maxHeartbeats 8000000 in
theorem maybe_any (vk vw : Value) (ks : List KV) (Y : WV) (k : KV) (o : OrV) (w : World) (hk : Kl w vk ks) (hw : Wl w vw Y) (F : GFit ks Y) (ob : ¬ Od.bad o) (hp : o.player.toNat < Y.gold.length) :
    Calls Tryz.prog 113 #[vk, vw, k.val, o.val] w fun e w' => e = .returned (.bool (mayB ks Y k o)) ∧ Below w.heap.size w w' := by
  have K : Hid (Kl w vk ks) := hk
  have H : Hid (Wl w vw Y) := hw
  have FF : Hid (GFit ks Y) := F
  have OK := Od.ok_of ob
  obtain ⟨p1, q1, p2, q2, p3, q3, p4, q4, p5, q5, rfl⟩ := wl_shape9 hw
  obtain ⟨pk, qk, rfl, ck1, ck2, kc⟩ := hk
  obtain ⟨an, han⟩ : ∃ an : Nat, o.arg = an := ⟨o.arg.toNat, by omega⟩
  obtain ⟨pn, hpn⟩ : ∃ pn : Nat, o.player = pn := ⟨o.player.toNat, by omega⟩
  have HAN : Hid (o.arg = (an : Nat) ∧ o.player = (pn : Nat)) := ⟨han, hpn⟩
  have hpl : pn < Y.gold.length := by rw [hpn] at hp; simpa using hp
  have MB : Hid (∀ b, mayB ks Y k o = b → Value.bool (mayB ks Y k o) = .bool b) := fun b h => by rw [h]
  have WH : o.what = 0 ∨ o.what = 1 ∨ o.what = 2 ∨ o.what = 3 := by omega
  have MD : Hid (mayB ks Y k o = if o.what = 1 then decide (o.arg < (Y.gs.length : Int) ∧ 0 < Fd.onto (Y.gs.getD o.arg.toNat 0) k.f) else if o.what = 2 then decide (o.arg < (Y.os.length : Int) ∧ 0 < Y.os.getD o.arg.toNat 0 ∧ 0 < k.n7) else if o.what = 3 then decide (k.t = true ∧ o.arg < (ks.length : Int) ∧ priceOf ks o.arg ≤ Y.gold.getD o.player.toNat 0 ∧ Y.qs.length < 12) else true) := rfl
  generalize mayB ks Y k o = ans at *
  clear MB hw F ob hp kc OK han hpn
  unfold KV.val OrV.val
  go_enter Tryz.func113, Tryz.ntmps113
  go_upto_region 1 with fail
  have BA : Hid (Below w.heap.size w (w.alloc (Obj.cells #[.int .i64 Y.turn, .int .i64 Y.next, .int .i64 Y.wide, .int .i64 Y.high, .slice p1 Y.gs.length q1, .slice p2 Y.os.length q2, .slice p3 Y.gold.length q3, .slice p4 Y.us.length q4, .slice p5 Y.qs.length q5] 29))) := (Below.refl _ _).alloc (Nat.le_refl _) _
  have BB : Hid (Below (w.alloc (Obj.cells #[.int .i64 Y.turn, .int .i64 Y.next, .int .i64 Y.wide, .int .i64 Y.high, .slice p1 Y.gs.length q1, .slice p2 Y.os.length q2, .slice p3 Y.gold.length q3, .slice p4 Y.us.length q4, .slice p5 Y.qs.length q5] 29)).heap.size (w.alloc (Obj.cells #[.int .i64 Y.turn, .int .i64 Y.next, .int .i64 Y.wide, .int .i64 Y.high, .slice p1 Y.gs.length q1, .slice p2 Y.os.length q2, .slice p3 Y.gold.length q3, .slice p4 Y.us.length q4, .slice p5 Y.qs.length q5] 29)) ((w.alloc (Obj.cells #[.int .i64 Y.turn, .int .i64 Y.next, .int .i64 Y.wide, .int .i64 Y.high, .slice p1 Y.gs.length q1, .slice p2 Y.os.length q2, .slice p3 Y.gold.length q3, .slice p4 Y.us.length q4, .slice p5 Y.qs.length q5] 29)).alloc (Obj.cells #[.string k.b, .int .i64 k.n0, .int .i64 k.n1, .int .i64 k.n2, .int .i64 k.n3, .int .i64 k.n4, .int .i64 k.n5, .int .i64 k.n6, .int .i64 k.n7, .bool k.f, .bool k.t] 101))) := (Below.refl _ _).alloc (Nat.le_refl _) _
  have BC : Hid (Below ((w.alloc (Obj.cells #[.int .i64 Y.turn, .int .i64 Y.next, .int .i64 Y.wide, .int .i64 Y.high, .slice p1 Y.gs.length q1, .slice p2 Y.os.length q2, .slice p3 Y.gold.length q3, .slice p4 Y.us.length q4, .slice p5 Y.qs.length q5] 29)).alloc (Obj.cells #[.string k.b, .int .i64 k.n0, .int .i64 k.n1, .int .i64 k.n2, .int .i64 k.n3, .int .i64 k.n4, .int .i64 k.n5, .int .i64 k.n6, .int .i64 k.n7, .bool k.f, .bool k.t] 101)).heap.size ((w.alloc (Obj.cells #[.int .i64 Y.turn, .int .i64 Y.next, .int .i64 Y.wide, .int .i64 Y.high, .slice p1 Y.gs.length q1, .slice p2 Y.os.length q2, .slice p3 Y.gold.length q3, .slice p4 Y.us.length q4, .slice p5 Y.qs.length q5] 29)).alloc (Obj.cells #[.string k.b, .int .i64 k.n0, .int .i64 k.n1, .int .i64 k.n2, .int .i64 k.n3, .int .i64 k.n4, .int .i64 k.n5, .int .i64 k.n6, .int .i64 k.n7, .bool k.f, .bool k.t] 101)) (((w.alloc (Obj.cells #[.int .i64 Y.turn, .int .i64 Y.next, .int .i64 Y.wide, .int .i64 Y.high, .slice p1 Y.gs.length q1, .slice p2 Y.os.length q2, .slice p3 Y.gold.length q3, .slice p4 Y.us.length q4, .slice p5 Y.qs.length q5] 29)).alloc (Obj.cells #[.string k.b, .int .i64 k.n0, .int .i64 k.n1, .int .i64 k.n2, .int .i64 k.n3, .int .i64 k.n4, .int .i64 k.n5, .int .i64 k.n6, .int .i64 k.n7, .bool k.f, .bool k.t] 101)).alloc (Obj.cells #[.int .i64 o.player, .int .i64 o.unit, .int .i64 o.what, .int .i64 o.arg] 40))) := (Below.refl _ _).alloc (Nat.le_refl _) _
  have X1 : Hid (Wx (((w.alloc (Obj.cells #[.int .i64 Y.turn, .int .i64 Y.next, .int .i64 Y.wide, .int .i64 Y.high, .slice p1 Y.gs.length q1, .slice p2 Y.os.length q2, .slice p3 Y.gold.length q3, .slice p4 Y.us.length q4, .slice p5 Y.qs.length q5] 29)).alloc (Obj.cells #[.string k.b, .int .i64 k.n0, .int .i64 k.n1, .int .i64 k.n2, .int .i64 k.n3, .int .i64 k.n4, .int .i64 k.n5, .int .i64 k.n6, .int .i64 k.n7, .bool k.f, .bool k.t] 101)).alloc (Obj.cells #[.int .i64 o.player, .int .i64 o.unit, .int .i64 o.what, .int .i64 o.arg] 40)) w.heap.size (.int .i64 Y.turn) (.int .i64 Y.next) (.int .i64 Y.wide) (.int .i64 Y.high) (.slice p1 Y.gs.length q1) (.slice p2 Y.os.length q2) (.slice p3 Y.gold.length q3) (.slice p4 Y.us.length q4) (.slice p5 Y.qs.length q5)) := ((Wx.new (w := w) _ _ _ _ _ _ _ _ _ rfl).below BB.out (by simp)).below BC.out (by simp; omega)
  have KC1 : Hid (Kc (((w.alloc (Obj.cells #[.int .i64 Y.turn, .int .i64 Y.next, .int .i64 Y.wide, .int .i64 Y.high, .slice p1 Y.gs.length q1, .slice p2 Y.os.length q2, .slice p3 Y.gold.length q3, .slice p4 Y.us.length q4, .slice p5 Y.qs.length q5] 29)).alloc (Obj.cells #[.string k.b, .int .i64 k.n0, .int .i64 k.n1, .int .i64 k.n2, .int .i64 k.n3, .int .i64 k.n4, .int .i64 k.n5, .int .i64 k.n6, .int .i64 k.n7, .bool k.f, .bool k.t] 101)).alloc (Obj.cells #[.int .i64 o.player, .int .i64 o.unit, .int .i64 o.what, .int .i64 o.arg] 40)) ⟨w.heap.size + 1, 0, none⟩ k) := (kind_new (w := w.alloc (Obj.cells #[.int .i64 Y.turn, .int .i64 Y.next, .int .i64 Y.wide, .int .i64 Y.high, .slice p1 Y.gs.length q1, .slice p2 Y.os.length q2, .slice p3 Y.gold.length q3, .slice p4 Y.us.length q4, .slice p5 Y.qs.length q5] 29)) k (by simp)).below BC.out (by simp)
  have OC1 : Hid (Orc (((w.alloc (Obj.cells #[.int .i64 Y.turn, .int .i64 Y.next, .int .i64 Y.wide, .int .i64 Y.high, .slice p1 Y.gs.length q1, .slice p2 Y.os.length q2, .slice p3 Y.gold.length q3, .slice p4 Y.us.length q4, .slice p5 Y.qs.length q5] 29)).alloc (Obj.cells #[.string k.b, .int .i64 k.n0, .int .i64 k.n1, .int .i64 k.n2, .int .i64 k.n3, .int .i64 k.n4, .int .i64 k.n5, .int .i64 k.n6, .int .i64 k.n7, .bool k.f, .bool k.t] 101)).alloc (Obj.cells #[.int .i64 o.player, .int .i64 o.unit, .int .i64 o.what, .int .i64 o.arg] 40)) ⟨w.heap.size + 1 + 1, 0, none⟩ o) := Orc.mk' (w := (w.alloc (Obj.cells #[.int .i64 Y.turn, .int .i64 Y.next, .int .i64 Y.wide, .int .i64 Y.high, .slice p1 Y.gs.length q1, .slice p2 Y.os.length q2, .slice p3 Y.gold.length q3, .slice p4 Y.us.length q4, .slice p5 Y.qs.length q5] 29)).alloc (Obj.cells #[.string k.b, .int .i64 k.n0, .int .i64 k.n1, .int .i64 k.n2, .int .i64 k.n3, .int .i64 k.n4, .int .i64 k.n5, .int .i64 k.n6, .int .i64 k.n7, .bool k.f, .bool k.t] 101)) o (by simp)
  have B1 : Hid (Below w.heap.size w (((w.alloc (Obj.cells #[.int .i64 Y.turn, .int .i64 Y.next, .int .i64 Y.wide, .int .i64 Y.high, .slice p1 Y.gs.length q1, .slice p2 Y.os.length q2, .slice p3 Y.gold.length q3, .slice p4 Y.us.length q4, .slice p5 Y.qs.length q5] 29)).alloc (Obj.cells #[.string k.b, .int .i64 k.n0, .int .i64 k.n1, .int .i64 k.n2, .int .i64 k.n3, .int .i64 k.n4, .int .i64 k.n5, .int .i64 k.n6, .int .i64 k.n7, .bool k.f, .bool k.t] 101)).alloc (Obj.cells #[.int .i64 o.player, .int .i64 o.unit, .int .i64 o.what, .int .i64 o.arg] 40))) := BA.out.trans ((BB.out.trans (BC.out.mono BB.out.size)).mono BA.out.size)
  clear BA BB BC
  generalize (((w.alloc (Obj.cells #[.int .i64 Y.turn, .int .i64 Y.next, .int .i64 Y.wide, .int .i64 Y.high, .slice p1 Y.gs.length q1, .slice p2 Y.os.length q2, .slice p3 Y.gold.length q3, .slice p4 Y.us.length q4, .slice p5 Y.qs.length q5] 29)).alloc (Obj.cells #[.string k.b, .int .i64 k.n0, .int .i64 k.n1, .int .i64 k.n2, .int .i64 k.n3, .int .i64 k.n4, .int .i64 k.n5, .int .i64 k.n6, .int .i64 k.n7, .bool k.f, .bool k.t] 101)).alloc (Obj.cells #[.int .i64 o.player, .int .i64 o.unit, .int .i64 o.what, .int .i64 o.arg] 40)) = w1 at *
  have H1 : Hid (Wl w1 (.agg #[.int .i64 Y.turn, .int .i64 Y.next, .int .i64 Y.wide, .int .i64 Y.high, .slice p1 Y.gs.length q1, .slice p2 Y.os.length q2, .slice p3 Y.gold.length q3, .slice p4 Y.us.length q4, .slice p5 Y.qs.length q5]) Y) := H.out.below B1.out
  obtain ⟨x0, x1, x2, x3, x4, x5, x6, x7, x8⟩ := X1.out.cells
  obtain ⟨k0, k1, k2, k3, k4, k5, k6, k7, k8, k9, k10⟩ := KC1.out
  obtain ⟨o0, o1, o2, o3⟩ := OC1.out
  simp only [Nat.zero_add] at k1 k2 k3 k4 k5 k6 k7 k8 k9 k10 o1 o2 o3
  rw [HAN.out.1] at o3
  rw [HAN.out.2] at o0
  clear X1 KC1 OC1
  rcases WH with h | h | h | h
  · have E : Hid (ans = true) := by have h9 := MD.out; unfold Hid; rw [h9, h, if_neg (by decide), if_neg (by decide), if_neg (by decide)]
    rw [h] at o2
    clear MD h
    go_wp2
    go_ret
    exact ⟨by rw [E.out]; rfl, B1.out⟩
  · have E : Hid (ans = decide ((an : Int) < (Y.gs.length : Int) ∧ 0 < Fd.onto (Y.gs.getD an 0) k.f)) := by have h9 := MD.out; unfold Hid; rw [h9, h, if_pos rfl, HAN.out.1]; simp only [Int.toNat_natCast]
    rw [h] at o2
    obtain ⟨Wn, Hn, e1, e2, G⟩ := FF.out.good
    have GG : Hid (Fd.Good Wn Hn Y.gs Y.os) := G
    have FL := fl_of H1.out
    rw [e1, e2] at FL
    have FL' : Hid (Fl w1 (.agg #[.int .i64 (Wn : Nat), .int .i64 (Hn : Nat), .slice p1 Y.gs.length q1, .slice p2 Y.os.length q2]) Wn Hn Y.gs Y.os) := FL
    have gl := G.gl
    rw [e1] at x2
    rw [e2] at x3
    by_cases ha : an < Y.gs.length
    · obtain ⟨g, hg⟩ : ∃ g, Y.gs[an]? = some g := ⟨_, List.getElem?_eq_getElem ha⟩
      have ST : Hid (Calls Tryz.prog 159 #[.agg #[.int .i64 (Wn : Nat), .int .i64 (Hn : Nat), .slice p1 Y.gs.length q1, .slice p2 Y.os.length q2], .int .i64 (an : Nat), .bool k.f] w1 fun e w' => e = .returned (.tuple #[.int .i64 (Fd.onto g k.f), .nilIface]) ∧ Below w1.heap.size w1 w') := Step_ok _ Wn Hn Y.gs Y.os an g k.f w1 FL'.out GG.out (by omega) hg
      have E2 : Hid (ans = decide (0 < Fd.onto g k.f)) := by
        unfold Hid
        rw [E.out]
        congr 1
        rw [List.getD_eq_getElem?_getD, hg]
        exact propext ⟨fun h => h.2, fun h => ⟨by omega, h⟩⟩
      clear MD E h e1 e2 G FL FL' gl hg H1
      generalize Fd.onto g k.f = st at *
      go_wp2_with fail
      refine ST.out.mono ?_
      rintro e w2 ⟨rfl, b2⟩
      have B2 : Hid (Below w.heap.size w w2) := B1.out.trans (b2.mono B1.out.size)
      clear b2 ST x0 x1 x2 x3 x4 x5 x6 x7 x8 k0 k1 k2 k3 k4 k5 k6 k7 k8 k9 k10 o0 o1 o2 o3
      go_wp2
      go_ret
      exact ⟨by rw [E2.out]; rfl, B2.out⟩
    · have hF : Fd.askFault (Fd.fault (Wn : Nat) (Hn : Nat) Y.gs Y.os) Y.gs.length [((an : Nat) : Int)] ≠ 0 := fun h0 => by
        have := (ask1_zero h0).2.2
        omega
      obtain ⟨ff, hff⟩ : ∃ f, Fd.askFault (Fd.fault (Wn : Nat) (Hn : Nat) Y.gs Y.os) Y.gs.length [((an : Nat) : Int)] = f := ⟨_, rfl⟩
      have ST : Hid (Calls Tryz.prog 159 #[.agg #[.int .i64 (Wn : Nat), .int .i64 (Hn : Nat), .slice p1 Y.gs.length q1, .slice p2 Y.os.length q2], .int .i64 (an : Nat), .bool k.f] w1 fun e w' => e = .returned (.tuple #[.int .i64 0, .iface 97 (.int .i64 ff)]) ∧ Below w1.heap.size w1 w') := Step_bad _ _ _ _ _ _ ff k.f w1 FL'.out hff (by rw [← hff]; exact hF)
      have E2 : Hid (ans = false) := by
        unfold Hid
        rw [E.out]
        exact decide_eq_false (fun h => ha (by omega))
      clear MD E h e1 e2 G FL FL' gl H1 hF hff
      go_wp2_with fail
      refine ST.out.mono ?_
      rintro e w2 ⟨rfl, b2⟩
      have B2 : Hid (Below w.heap.size w w2) := B1.out.trans (b2.mono B1.out.size)
      clear b2 ST x0 x1 x2 x3 x4 x5 x6 x7 x8 k0 k1 k2 k3 k4 k5 k6 k7 k8 k9 k10 o0 o1 o2 o3
      go_wp2
      go_ret
      exact ⟨by rw [E2.out]; rfl, B2.out⟩
  · have E : Hid (ans = decide ((an : Int) < (Y.os.length : Int) ∧ 0 < Y.os.getD an 0 ∧ 0 < k.n7)) := by have h9 := MD.out; unfold Hid; rw [h9, h, if_neg (by decide), if_pos rfl, HAN.out.1]; simp only [Int.toNat_natCast]
    rw [h] at o2
    have RO := H1.out.slices.2.1
    obtain ⟨a2, c2, e2, r1, r2, r3⟩ := RO
    injection e2 with e21 e22 e23
    subst e21 e23
    have OI := one_ints p2 Y.os.length q2 an
    by_cases ha : an < Y.os.length
    · obtain ⟨g, hg⟩ : ∃ g, Y.os[an]? = some g := ⟨_, List.getElem?_eq_getElem ha⟩
      obtain ⟨xo, rfl, -, hxo⟩ := r3 (by rintro hn; rw [hn] at ha; simp at ha)
      have co := hxo an g hg
      have OC : Hid (Calls Tryz.prog 160 #[.slice (some xo) Y.os.length q2, .int .i64 (an : Nat)] w1 fun e w' => e = .returned (.bool true) ∧ w' = w1) := by have := OI w1 (by omega); rw [decide_eq_true ha] at this; exact this
      have E2 : Hid (ans = decide (0 < g ∧ 0 < k.n7)) := by
        unfold Hid
        rw [E.out]
        congr 1
        rw [List.getD_eq_getElem?_getD, hg]
        exact propext ⟨fun h => h.2, fun h => ⟨by omega, h⟩⟩
      have hai : ((an : Nat) : Int) < (Y.os.length : Nat) := by omega
      clear MD E h H1 OI hg hxo r3 e22
      by_cases h1 : 0 < g
      · by_cases h2 : 0 < k.n7
        · have E3 : Hid (ans = true) := by unfold Hid; rw [E2.out]; exact decide_eq_true ⟨h1, h2⟩
          go_wp2_with fail
          refine OC.out.mono ?_
          rintro e w' ⟨rfl, rfl⟩
          go_wp2
          go_ret
          exact ⟨by rw [E3.out]; rfl, B1.out⟩
        · have E3 : Hid (ans = false) := by unfold Hid; rw [E2.out]; exact decide_eq_false (fun h => h2 h.2)
          have H2 : Hid (decide (0 < k.n7) = false) := decide_eq_false h2
          go_wp2_with fail
          refine OC.out.mono ?_
          rintro e w' ⟨rfl, rfl⟩
          go_wp2
          go_ret
          exact ⟨by rw [E3.out]; first | rfl | (show Ending.returned (Value.bool (decide (0 < k.n7))) = _; rw [H2.out]), B1.out⟩
      · have E3 : Hid (ans = false) := by unfold Hid; rw [E2.out]; exact decide_eq_false (fun h => h1 h.1)
        have h1d : decide (0 < g) = false := decide_eq_false h1
        go_wp2_with fail
        refine OC.out.mono ?_
        rintro e w' ⟨rfl, rfl⟩
        go_wp2
        go_ret
        exact ⟨by rw [E3.out]; rfl, B1.out⟩
    · have OC : Hid (Calls Tryz.prog 160 #[.slice p2 Y.os.length q2, .int .i64 (an : Nat)] w1 fun e w' => e = .returned (.bool false) ∧ w' = w1) := by have := OI w1 (by omega); rw [decide_eq_false ha] at this; exact this
      have E3 : Hid (ans = false) := by unfold Hid; rw [E.out]; exact decide_eq_false (fun h => ha (by omega))
      clear MD E h H1 OI r3 e22
      go_wp2_with fail
      refine OC.out.mono ?_
      rintro e w' ⟨rfl, rfl⟩
      go_wp2
      go_ret
      exact ⟨by rw [E3.out]; rfl, B1.out⟩
  · have E : Hid (ans = decide (k.t = true ∧ (an : Int) < (ks.length : Int) ∧ priceOf ks an ≤ Y.gold.getD pn 0 ∧ Y.qs.length < 12)) := by have h9 := MD.out; unfold Hid; rw [h9, h, if_neg (by decide), if_neg (by decide), if_pos rfl, HAN.out.1, HAN.out.2]; simp only [Int.toNat_natCast]
    rw [h] at o2
    have kl := FF.out.kinds.1
    have OI := one_kinds pk ks.length qk an
    have BD : Hid (∀ n, Below w.heap.size w (w1.drewN n)) := fun n => ⟨B1.out.os, B1.out.tape, B1.out.output, B1.out.size, B1.out.block⟩
    cases hkt : k.t with
    | false =>
      have E3 : Hid (ans = false) := by unfold Hid; rw [E.out]; exact decide_eq_false (fun h => by rw [hkt] at h; simp at h)
      rw [hkt] at k10
      clear MD E h H1 OI hkt
      go_upto_region 8 with fail
      go_quiet (fail)
      go_wp2
      go_ret
      exact ⟨by rw [E3.out]; rfl, BD.out _⟩
    | true =>
      rw [hkt] at k10
      by_cases ha : an < ks.length
      · obtain ⟨kk, hkk⟩ : ∃ kk, ks[an]? = some kk := ⟨_, List.getElem?_eq_getElem ha⟩
        obtain ⟨g, hg⟩ : ∃ g, Y.gold[pn]? = some g := ⟨_, List.getElem?_eq_getElem hpl⟩
        have OC : Hid (∀ W, Calls Tryz.prog 161 #[.slice pk ks.length qk, .int .i64 (an : Nat)] W fun e w' => e = .returned (.bool true) ∧ w' = W) := fun W => by have := OI W (by omega); rw [decide_eq_true ha] at this; exact this
        have K1 := K.out.below B1.out
        obtain ⟨a', c', e', -, -, hx⟩ := K1
        injection e' with e1' e2' e3'
        subst e1' e3'
        obtain ⟨xk, rfl, -, hxk⟩ := hx (by rintro hn; rw [hn] at ha; simp at ha)
        have c6 := (hxk an kk hkk).c6
        obtain ⟨a3, c3, e3, r1, r2, r3⟩ := H1.out.slices.2.2.1
        injection e3 with e31 e32 e33
        subst e31 e33
        obtain ⟨xg, rfl, -, hxg⟩ := r3 (by rintro hn; rw [hn] at hpl; simp at hpl)
        have cg := hxg pn g hg
        have hai : ((an : Nat) : Int) < (ks.length : Nat) := by omega
        have hpi : ((pn : Nat) : Int) < (Y.gold.length : Nat) := by omega
        have E2 : Hid (ans = decide (kk.n5 ≤ g ∧ Y.qs.length < 12)) := by
          unfold Hid
          rw [E.out]
          congr 1
          rw [List.getD_eq_getElem?_getD, hg]
          have e9 : priceOf ks an = kk.n5 := by unfold priceOf; rw [Int.toNat_natCast, hkk]
          rw [e9]
          exact propext ⟨fun h => h.2.2, fun h => ⟨hkt, by omega, h.1, h.2⟩⟩
        clear MD E h H1 OI hkt hkk hg hxk hxg hx r3 e2' e32
        by_cases h1 : kk.n5 ≤ g
        · have h1d : decide (kk.n5 ≤ g) = true := decide_eq_true h1
          by_cases h2 : Y.qs.length < 12
          · have E3 : Hid (ans = true) := by unfold Hid; rw [E2.out]; exact decide_eq_true ⟨h1, h2⟩
            have h2i : ((Y.qs.length : Nat) : Int) < 12 := by omega
            go_upto_region 8 with fail
            go_quiet ((go_at_call 161; exact Calls.quiet_of_same (OC.out _)))
            go_wp2
            go_ret
            exact ⟨by rw [E3.out]; rfl, BD.out _⟩
          · have E3 : Hid (ans = false) := by unfold Hid; rw [E2.out]; exact decide_eq_false (fun h => h2 h.2)
            have h2i : ¬ ((Y.qs.length : Nat) : Int) < 12 := by omega
            have h2d : decide (((Y.qs.length : Nat) : Int) < 12) = false := decide_eq_false h2i
            go_upto_region 8 with fail
            go_quiet ((go_at_call 161; exact Calls.quiet_of_same (OC.out _)))
            go_wp2
            go_ret
            exact ⟨by rw [E3.out]; rfl, BD.out _⟩
        · have h1d : decide (kk.n5 ≤ g) = false := decide_eq_false h1
          have E3 : Hid (ans = false) := by unfold Hid; rw [E2.out]; exact decide_eq_false (fun h => h1 h.1)
          go_upto_region 8 with fail
          go_quiet ((go_at_call 161; exact Calls.quiet_of_same (OC.out _)))
          go_wp2
          go_ret
          exact ⟨by rw [E3.out]; rfl, BD.out _⟩
      · have OC : Hid (∀ W, Calls Tryz.prog 161 #[.slice pk ks.length qk, .int .i64 (an : Nat)] W fun e w' => e = .returned (.bool false) ∧ w' = W) := fun W => by have := OI W (by omega); rw [decide_eq_false ha] at this; exact this
        have E3 : Hid (ans = false) := by unfold Hid; rw [E.out]; exact decide_eq_false (fun h => ha (by omega))
        clear MD E h H1 OI hkt
        go_upto_region 8 with fail
        go_quiet ((go_at_call 161; exact Calls.quiet_of_same (OC.out _)))
        go_wp2
        go_ret
        exact ⟨by rw [E3.out]; rfl, BD.out _⟩
end Go.Proofs.YtkejdkajfnaieaaGreatDoor

namespace Go.Proofs.YtkejdkajfnaieaaGreatDoor
open Go.RowKit
set_option linter.unusedVariables false

theorem run_un (w : World) (ty : TypeId) (base : Nat) (v : Value) (ks : List UnV) (hown : Uno w base v ks) (b : Nat) (d : UnV) (hd : Unc w ⟨b, 0, none⟩ d) (hl : ks.length ≤ 1000000) (hbase : base ≤ w.heap.size) :
    ∃ g cap w', (Builtin.append_ #[26, 26] ty #[v, .slice (some ⟨b, 0, none⟩) 1 1]).run Tryz.prog w = .ok (.slice (some ⟨g, 0, none⟩) (ks.length + 1) cap) w' ∧ Uno w' base (.slice (some ⟨g, 0, none⟩) (ks.length + 1) cap) (ks ++ [d]) ∧ w.grownBy w' v.ownBlock ∧ (v.ownBlock = some g ∨ g = w.heap.size) ∧ g < w'.heap.size := by
  obtain ⟨i0, hi, hz0, hz1, hz2⟩ := info_parts info_un
  obtain ⟨g, cap, w6, hr, ho6, hg6, ha6, hl6⟩ := run_append_lies (P := Tryz.prog) w 26 26 base 42 i0 _ 8 64 Tryz.underlying26 hi hz0 hz1 hz2 rfl (by decide) v ks.length _ hown ⟨b, 0, none⟩ 1 1 (UnV.cs d) rfl (fun j u hj => by
    have hjn : j < 8 := (List.getElem?_eq_some_iff.1 hj).1
    rw [Addr.add_lit, Nat.zero_add]
    match j, hjn, hj with
    | 0, _, hj => simp [UnV.cs] at hj; subst hj; exact hd.c0
    | 1, _, hj => simp [UnV.cs] at hj; subst hj; exact hd.c1
    | 2, _, hj => simp [UnV.cs] at hj; subst hj; exact hd.c2
    | 3, _, hj => simp [UnV.cs] at hj; subst hj; exact hd.c3
    | 4, _, hj => simp [UnV.cs] at hj; subst hj; exact hd.c4
    | 5, _, hj => simp [UnV.cs] at hj; subst hj; exact hd.c5
    | 6, _, hj => simp [UnV.cs] at hj; subst hj; exact hd.c6
    | 7, _, hj => simp [UnV.cs] at hj; subst hj; exact hd.c7) (fun u hu => by
    simp [UnV.cs] at hu
    rcases hu with rfl | rfl | rfl | rfl | rfl | rfl | rfl | rfl <;> rfl) (by decide) (by unfold maxLen; omega) (by omega) hbase _ rfl
  refine ⟨g, cap, w6, hr, ?_, hg6, ha6, hl6⟩
  unfold Uno
  rw [List.length_append, List.flatMap_append]
  simpa using ho6
theorem run_jb (w : World) (ty : TypeId) (base : Nat) (v : Value) (ks : List JbV) (hown : Jbo w base v ks) (b : Nat) (d : JbV) (hd : Jbc w ⟨b, 0, none⟩ d) (hl : ks.length ≤ 1000000) (hbase : base ≤ w.heap.size) :
    ∃ g cap w', (Builtin.append_ #[27, 27] ty #[v, .slice (some ⟨b, 0, none⟩) 1 1]).run Tryz.prog w = .ok (.slice (some ⟨g, 0, none⟩) (ks.length + 1) cap) w' ∧ Jbo w' base (.slice (some ⟨g, 0, none⟩) (ks.length + 1) cap) (ks ++ [d]) ∧ w.grownBy w' v.ownBlock ∧ (v.ownBlock = some g ∨ g = w.heap.size) ∧ g < w'.heap.size := by
  obtain ⟨i0, hi, hz0, hz1, hz2⟩ := info_parts info_jb
  obtain ⟨g, cap, w6, hr, ho6, hg6, ha6, hl6⟩ := run_append_lies (P := Tryz.prog) w 27 27 base 104 i0 _ 4 32 Tryz.underlying27 hi hz0 hz1 hz2 rfl (by decide) v ks.length _ hown ⟨b, 0, none⟩ 1 1 (JbV.cs d) rfl (fun j u hj => by
    have hjn : j < 4 := (List.getElem?_eq_some_iff.1 hj).1
    rw [Addr.add_lit, Nat.zero_add]
    match j, hjn, hj with
    | 0, _, hj => simp [JbV.cs] at hj; subst hj; exact hd.c0
    | 1, _, hj => simp [JbV.cs] at hj; subst hj; exact hd.c1
    | 2, _, hj => simp [JbV.cs] at hj; subst hj; exact hd.c2
    | 3, _, hj => simp [JbV.cs] at hj; subst hj; exact hd.c3) (fun u hu => by
    simp [JbV.cs] at hu
    rcases hu with rfl | rfl | rfl | rfl <;> rfl) (by decide) (by unfold maxLen; omega) (by omega) hbase _ rfl
  refine ⟨g, cap, w6, hr, ?_, hg6, ha6, hl6⟩
  unfold Jbo
  rw [List.length_append, List.flatMap_append]
  simpa using ho6
end Go.Proofs.YtkejdkajfnaieaaGreatDoor

