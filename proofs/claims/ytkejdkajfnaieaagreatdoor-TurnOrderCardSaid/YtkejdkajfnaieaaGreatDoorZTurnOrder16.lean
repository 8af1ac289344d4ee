/- turn.Play. · Spot and Train have one answer. Plain mathematics. · Moves, taken apart. Plain mathematics. · Move: there is one answer: plain mathematics. · Turns have one answer; played in parts they come to the same; a world stays right. Plain mathematics. · Ways: who flies gets there no later; a way's steps; two small fields. Plain mathematics. · world.New. · Fields as texts: plain mathematics. · A fact's kinds, and its small world. Plain mathematics. · What orders.Last tells of the orders: those to train are all there, each unit's last word is, and no unit has two. · Orders that count, asked once more, are those that count; so are some of them. · How far it is, told by a list that is looked through; turns that are reckoned out. Plain mathematics. · TurnOrder: the fact: a turn in the small world, reckoned out. Plain mathematics. · What is refused changes nothing: given without those that were refused, orders bring the same. · TurnOrder: orders turned round, but each unit's in their order, bring the same. Plain mathematics. · TurnOrder: the loops that turn orders round, step by step. Plain mathematics. · A world in a box; an answer that is no error. · TurnOrder: what its three calls of Step bring. · Lists of integers: what marchsame.Ints answers. · What marchsame.Field answers of two fields that are the same. · What marchsame.World answers of two worlds that are the same. · Fields: what a sign stands for. · Fields: a field as far as its text is read. · Fields: one byte more. -/
import Derived.Test.YtkejdkajfnaieaaGreatDoorZTurnOrder15
import Derived.Test.YtkejdkajfnaieaaGreatDoorZTurnOrder4
import Derived.Test.YtkejdkajfnaieaaGreatDoorZTurnOrder8
import Derived.Test.YtkejdkajfnaieaaGreatDoorZTurnOrder3
import Derived.Test.YtkejdkajfnaieaaGreatDoorZTurnOrder6
import Derived.Test.YtkejdkajfnaieaaGreatDoorZTurnOrder14
import Derived.Test.YtkejdkajfnaieaaGreatDoorZTurnOrder1
import Derived.Test.YtkejdkajfnaieaaGreatDoorZTurnOrder10
import Derived.Test.YtkejdkajfnaieaaGreatDoorZTurnOrder5
import Derived.Lib.Strings
import Derived.Lib.Bytealg
import Derived.Laws.Pointers
import Derived.Deep.DeepCutAuto
namespace Go.Proofs.YtkejdkajfnaieaaGreatDoor
open Go.RowKit Go.Proofs.YtkejdkajfnaieaaGreatDoor.So
set_option linter.unusedVariables false

/-- what n turns come to. -/
inductive PlayR (ks : List KV) (X : WV) (ls : List (List OrV)) : Nat → WV → Prop
  | zero : PlayR ks X ls 0 X
  | turn {n : Nat} {Y Z : WV} {l : List OrV} {es : List EvV} : PlayR ks X ls n Y → ls[n]? = some l → stepFault ks Y l = 0 → StepR ks Y l Z es → PlayR ks X ls (n + 1) Z
/-- what Play tells. -/
def PlaySays (ks : List KV) (X : WV) (ls : List (List OrV)) (F : Int) (w w' : World) (v : Value) : Prop :=
  (F ≠ 0 ∧ v = .agg #[.int .i64 0, .int .i64 0, .int .i64 0, .int .i64 0, .slice none 0 0, .slice none 0 0, .slice none 0 0, .slice none 0 0, .slice none 0 0] ∧ ((Wd.wfault ks X ≠ 0 ∧ F = Wd.wfault ks X) ∨ (Wd.wfault ks X = 0 ∧ 200 < ls.length ∧ F = 4) ∨ (Wd.wfault ks X = 0 ∧ ls.length ≤ 200 ∧ ∃ n Y l, PlayR ks X ls n Y ∧ ls[n]? = some l ∧ stepFault ks Y l = F)))
  ∨ (F = 0 ∧ Wd.wfault ks X = 0 ∧ ls.length ≤ 200 ∧ ∃ Y, PlayR ks X ls ls.length Y ∧ Wo w' w.heap.size v Y)
set_option maxRecDepth 100000 in
set_option maxHeartbeats 64000000 in
theorem Play_any (vk vw vl : Value) (ks : List KV) (X : WV) (ls : List (List OrV)) (w : World) (hk : Kl w vk ks) (hb : ∀ k ∈ ks, k.b.size ≤ 9223372036854775807) (hw : Wl w vw X) (hl : Oll w vl ls) (hs : Sd w) :
    Calls Tryz.prog 43 #[vk, vw, vl] w fun e w' => ∃ v r F, e = .returned (.tuple #[v, r]) ∧ Er r F ∧ PlaySays ks X ls F w w' v ∧ Below w.heap.size w w' := by
  have K : Hid (Kl w vk ks ∧ ∀ k ∈ ks, k.b.size ≤ 9223372036854775807) := ⟨hk, hb⟩
  have H : Hid (Wl w vw X) := hw
  have SD : Hid (Sd w ∧ Oll w vl ls) := ⟨hs, hl⟩
  obtain ⟨pl, ql, rfl, cl1, cl2, -⟩ := hl
  clear hs
  obtain ⟨p1, q1, p2, q2, p3, q3, p4, q4, p5, q5, rfl⟩ := wl_shape9 hw
  obtain ⟨pk, qk, rfl, ck1, ck2, kc⟩ := hk
  clear hb hw kc
  go_enter Tryz.func43, Tryz.ntmps43
  go_upto_region 1 with fail
  have B0 : Hid (Below w.heap.size w ((w.alloc (Obj.cells #[.int .i64 X.turn, .int .i64 X.next, .int .i64 X.wide, .int .i64 X.high, .slice p1 X.gs.length q1, .slice p2 X.os.length q2, .slice p3 X.gold.length q3, .slice p4 X.us.length q4, .slice p5 X.qs.length q5] 29)).alloc (Obj.cells #[.int .i64 0, .int .i64 0, .int .i64 0, .int .i64 0, .slice none 0 0, .slice none 0 0, .slice none 0 0, .slice none 0 0, .slice none 0 0] 29))) := ((Below.refl _ _).alloc (Nat.le_refl _) _).alloc (by simp) _
  have X0 : Hid (Wx ((w.alloc (Obj.cells #[.int .i64 X.turn, .int .i64 X.next, .int .i64 X.wide, .int .i64 X.high, .slice p1 X.gs.length q1, .slice p2 X.os.length q2, .slice p3 X.gold.length q3, .slice p4 X.us.length q4, .slice p5 X.qs.length q5] 29)).alloc (Obj.cells #[.int .i64 0, .int .i64 0, .int .i64 0, .int .i64 0, .slice none 0 0, .slice none 0 0, .slice none 0 0, .slice none 0 0, .slice none 0 0] 29)) (w.heap.size) (.int .i64 X.turn) (.int .i64 X.next) (.int .i64 X.wide) (.int .i64 X.high) (.slice p1 X.gs.length q1) (.slice p2 X.os.length q2) (.slice p3 X.gold.length q3) (.slice p4 X.us.length q4) (.slice p5 X.qs.length q5)) := (Wx.new (.int .i64 X.turn) (.int .i64 X.next) (.int .i64 X.wide) (.int .i64 X.high) (.slice p1 X.gs.length q1) (.slice p2 X.os.length q2) (.slice p3 X.gold.length q3) (.slice p4 X.us.length q4) (.slice p5 X.qs.length q5) rfl).below ((Below.refl _ _).alloc (Nat.le_refl _) _) (by simp)
  have Z0 : Hid (Wx ((w.alloc (Obj.cells #[.int .i64 X.turn, .int .i64 X.next, .int .i64 X.wide, .int .i64 X.high, .slice p1 X.gs.length q1, .slice p2 X.os.length q2, .slice p3 X.gold.length q3, .slice p4 X.us.length q4, .slice p5 X.qs.length q5] 29)).alloc (Obj.cells #[.int .i64 0, .int .i64 0, .int .i64 0, .int .i64 0, .slice none 0 0, .slice none 0 0, .slice none 0 0, .slice none 0 0, .slice none 0 0] 29)) (w.heap.size + 1) (.int .i64 0) (.int .i64 0) (.int .i64 0) (.int .i64 0) (.slice none 0 0) (.slice none 0 0) (.slice none 0 0) (.slice none 0 0) (.slice none 0 0)) := Wx.new (.int .i64 0) (.int .i64 0) (.int .i64 0) (.int .i64 0) (.slice none 0 0) (.slice none 0 0) (.slice none 0 0) (.slice none 0 0) (.slice none 0 0) (by simp)
  generalize ((w.alloc (Obj.cells #[.int .i64 X.turn, .int .i64 X.next, .int .i64 X.wide, .int .i64 X.high, .slice p1 X.gs.length q1, .slice p2 X.os.length q2, .slice p3 X.gold.length q3, .slice p4 X.us.length q4, .slice p5 X.qs.length q5] 29)).alloc (Obj.cells #[.int .i64 0, .int .i64 0, .int .i64 0, .int .i64 0, .slice none 0 0, .slice none 0 0, .slice none 0 0, .slice none 0 0, .slice none 0 0] 29)) = w0 at *
  obtain ⟨x0, x1, x2, x3, x4, x5, x6, x7, x8⟩ := X0.out.cells
  go_wp2_with fail
  refine (wcheck_any _ _ ks X w0 (K.out.1.below B0.out) K.out.2 (H.out.below B0.out)).mono ?_
  rintro e w1 ⟨r, rfl, hr, hb⟩
  obtain ⟨fw, hfw⟩ : ∃ f, Wd.wfault ks X = f := ⟨_, rfl⟩
  have FW : Hid (Wd.wfault ks X = fw) := hfw
  rw [hfw] at hr
  have B1 : Hid (Below w.heap.size w w1) := B0.out.trans (hb.mono B0.out.size)
  have X1 : Hid (Wx w1 (w.heap.size) (.int .i64 X.turn) (.int .i64 X.next) (.int .i64 X.wide) (.int .i64 X.high) (.slice p1 X.gs.length q1) (.slice p2 X.os.length q2) (.slice p3 X.gold.length q3) (.slice p4 X.us.length q4) (.slice p5 X.qs.length q5)) := X0.out.below hb X0.out.lt
  have Z1 : Hid (Wx w1 (w.heap.size + 1) (.int .i64 0) (.int .i64 0) (.int .i64 0) (.int .i64 0) (.slice none 0 0) (.slice none 0 0) (.slice none 0 0) (.slice none 0 0) (.slice none 0 0)) := Z0.out.below hb Z0.out.lt
  clear hb hfw x0 x1 x2 x3 x4 x5 x6 x7 x8 X0 B0 Z0
  rcases hr with ⟨rfl, rfl⟩ | ⟨hf, rfl⟩
  case inr =>
    have HF : Hid (fw ≠ 0) := hf
    clear hf
    obtain ⟨z0, z1, z2, z3, z4, z5, z6, z7, z8⟩ := Z1.out.cells
    obtain ⟨t0, t1, t2, t3, t4, t5, t6, t7, t8⟩ := Z1.out.thaws
    have KZ : Hid (Kp (w.heap.size + 1) w1 (((((((((w1.setCell ⟨w.heap.size + 1, 0, none⟩ (.int .i64 0)).setCell ⟨w.heap.size + 1, 1, none⟩ (.int .i64 0)).setCell ⟨w.heap.size + 1, 2, none⟩ (.int .i64 0)).setCell ⟨w.heap.size + 1, 3, none⟩ (.int .i64 0)).setCell ⟨w.heap.size + 1, 4, none⟩ (.slice none 0 0)).setCell ⟨w.heap.size + 1, 5, none⟩ (.slice none 0 0)).setCell ⟨w.heap.size + 1, 6, none⟩ (.slice none 0 0)).setCell ⟨w.heap.size + 1, 7, none⟩ (.slice none 0 0)).setCell ⟨w.heap.size + 1, 8, none⟩ (.slice none 0 0))) := put_kp _ _ _ _ _ _ _ _ _ _ _
    obtain ⟨y0, y1, y2, y3, y4, y5, y6, y7, y8⟩ := (Z1.out.put (.int .i64 0) (.int .i64 0) (.int .i64 0) (.int .i64 0) (.slice none 0 0) (.slice none 0 0) (.slice none 0 0) (.slice none 0 0) (.slice none 0 0)).cells
    go_wp2
    clear z0 z1 z2 z3 z4 z5 z6 z7 z8 t0 t1 t2 t3 t4 t5 t6 t7 t8
    generalize (((((((((w1.setCell ⟨w.heap.size + 1, 0, none⟩ (.int .i64 0)).setCell ⟨w.heap.size + 1, 1, none⟩ (.int .i64 0)).setCell ⟨w.heap.size + 1, 2, none⟩ (.int .i64 0)).setCell ⟨w.heap.size + 1, 3, none⟩ (.int .i64 0)).setCell ⟨w.heap.size + 1, 4, none⟩ (.slice none 0 0)).setCell ⟨w.heap.size + 1, 5, none⟩ (.slice none 0 0)).setCell ⟨w.heap.size + 1, 6, none⟩ (.slice none 0 0)).setCell ⟨w.heap.size + 1, 7, none⟩ (.slice none 0 0)).setCell ⟨w.heap.size + 1, 8, none⟩ (.slice none 0 0)) = w9 at *
    refine bodyPost_ret (v := .tuple #[.agg #[.int .i64 0, .int .i64 0, .int .i64 0, .int .i64 0, .slice none 0 0, .slice none 0 0, .slice none 0 0, .slice none 0 0, .slice none 0 0], .iface 97 (.int .i64 fw)]) (by simp [results, Tryz.results43, go_sem, y0, y1, y2, y3, y4, y5, y6, y7, y8]) rfl ⟨_, _, fw, rfl, Er.no HF.out, .inl ⟨HF.out, rfl, .inl ⟨by rw [FW.out]; exact HF.out, FW.out.symm⟩⟩, KZ.out.below B1.out B1.out.size (by omega)⟩
  have WR : Hid (WRight ks X) := wright_of FW.out
  obtain ⟨x0, x1, x2, x3, x4, x5, x6, x7, x8⟩ := X1.out.cells
  by_cases hln : 200 < ls.length
  case pos =>
    have hln' : (200 : Int) < (ls.length : Int) := by omega
    have HLN : Hid (200 < ls.length) := hln
    clear hln
    obtain ⟨z0, z1, z2, z3, z4, z5, z6, z7, z8⟩ := Z1.out.cells
    obtain ⟨t0, t1, t2, t3, t4, t5, t6, t7, t8⟩ := Z1.out.thaws
    have KZ : Hid (Kp (w.heap.size + 1) w1 (((((((((w1.setCell ⟨w.heap.size + 1, 0, none⟩ (.int .i64 0)).setCell ⟨w.heap.size + 1, 1, none⟩ (.int .i64 0)).setCell ⟨w.heap.size + 1, 2, none⟩ (.int .i64 0)).setCell ⟨w.heap.size + 1, 3, none⟩ (.int .i64 0)).setCell ⟨w.heap.size + 1, 4, none⟩ (.slice none 0 0)).setCell ⟨w.heap.size + 1, 5, none⟩ (.slice none 0 0)).setCell ⟨w.heap.size + 1, 6, none⟩ (.slice none 0 0)).setCell ⟨w.heap.size + 1, 7, none⟩ (.slice none 0 0)).setCell ⟨w.heap.size + 1, 8, none⟩ (.slice none 0 0))) := put_kp _ _ _ _ _ _ _ _ _ _ _
    obtain ⟨y0, y1, y2, y3, y4, y5, y6, y7, y8⟩ := (Z1.out.put (.int .i64 0) (.int .i64 0) (.int .i64 0) (.int .i64 0) (.slice none 0 0) (.slice none 0 0) (.slice none 0 0) (.slice none 0 0) (.slice none 0 0)).cells
    go_wp2
    clear z0 z1 z2 z3 z4 z5 z6 z7 z8 t0 t1 t2 t3 t4 t5 t6 t7 t8
    generalize (((((((((w1.setCell ⟨w.heap.size + 1, 0, none⟩ (.int .i64 0)).setCell ⟨w.heap.size + 1, 1, none⟩ (.int .i64 0)).setCell ⟨w.heap.size + 1, 2, none⟩ (.int .i64 0)).setCell ⟨w.heap.size + 1, 3, none⟩ (.int .i64 0)).setCell ⟨w.heap.size + 1, 4, none⟩ (.slice none 0 0)).setCell ⟨w.heap.size + 1, 5, none⟩ (.slice none 0 0)).setCell ⟨w.heap.size + 1, 6, none⟩ (.slice none 0 0)).setCell ⟨w.heap.size + 1, 7, none⟩ (.slice none 0 0)).setCell ⟨w.heap.size + 1, 8, none⟩ (.slice none 0 0)) = wz at *
    refine bodyPost_ret (v := .tuple #[.agg #[.int .i64 0, .int .i64 0, .int .i64 0, .int .i64 0, .slice none 0 0, .slice none 0 0, .slice none 0 0, .slice none 0 0, .slice none 0 0], .iface 97 (.int .i64 4)]) (by simp [results, Tryz.results43, go_sem, y0, y1, y2, y3, y4, y5, y6, y7, y8]) rfl ⟨_, _, 4, rfl, Er.no (by decide), .inl ⟨by decide, rfl, .inr (.inl ⟨FW.out, HLN.out, rfl⟩)⟩, KZ.out.below B1.out B1.out.size (by omega)⟩
  have HLN : Hid (ls.length ≤ 200) := by unfold Hid; omega
  have hln' : ¬ (200 : Int) < (ls.length : Int) := by omega
  clear hln
  go_wp2_with fail
  refine (copy_any _ X w1 (H.out.below B1.out) WR.out.len).mono ?_
  rintro e w2 ⟨cu, rfl, ⟨k1, k2, k3, k4, k5, rfl, ⟨o1, o2, o3, o4, o5⟩, -⟩, hb⟩
  obtain ⟨a1, r1, rfl⟩ := o1.len
  obtain ⟨a2, r2, rfl⟩ := o2.len
  obtain ⟨a3, r3, rfl⟩ := o3.len
  obtain ⟨a4, r4, rfl⟩ := o4.len
  obtain ⟨a5, r5, rfl⟩ := o5.len
  have B2 : Hid (Below w.heap.size w w2) := B1.out.trans (hb.mono B1.out.size)
  have X2 : Hid (Wx w2 w.heap.size (.int .i64 X.turn) (.int .i64 X.next) (.int .i64 X.wide) (.int .i64 X.high) (.slice p1 X.gs.length q1) (.slice p2 X.os.length q2) (.slice p3 X.gold.length q3) (.slice p4 X.us.length q4) (.slice p5 X.qs.length q5)) := X1.out.below hb X1.out.lt
  have Z2 : Hid (Wx w2 (w.heap.size + 1) (.int .i64 0) (.int .i64 0) (.int .i64 0) (.int .i64 0) (.slice none 0 0) (.slice none 0 0) (.slice none 0 0) (.slice none 0 0) (.slice none 0 0)) := Z1.out.below hb Z1.out.lt
  have S1 : Hid (w.heap.size + 2 ≤ w1.heap.size) := Z1.out.lt
  have OA : Hid (Ow w2 (w.heap.size + 2) (Value.slice a1 X.gs.length r1) X.gs ∧ Ow w2 (w.heap.size + 2) (Value.slice a2 X.os.length r2) X.os ∧ Ow w2 (w.heap.size + 2) (Value.slice a3 X.gold.length r3) X.gold ∧ Uno w2 (w.heap.size + 2) (Value.slice a4 X.us.length r4) X.us ∧ Jbo w2 (w.heap.size + 2) (Value.slice a5 X.qs.length r5) X.qs) := ⟨o1.mono S1.out, o2.mono S1.out, o3.mono S1.out, o4.mono S1.out, o5.mono S1.out⟩
  clear hb x0 x1 x2 x3 x4 x5 x6 x7 x8 X1 B1 Z1 o1 o2 o3 o4 o5
  obtain ⟨c0, c1, c2, c3, c4, c5, c6, c7, c8⟩ := X2.out.cells
  obtain ⟨d0, d1, d2, d3, d4, d5, d6, d7, d8⟩ := X2.out.thaws
  have KB : Hid (Kp w.heap.size w2 (((((((((w2.setCell ⟨w.heap.size, 0, none⟩ (.int .i64 X.turn)).setCell ⟨w.heap.size, 1, none⟩ (.int .i64 X.next)).setCell ⟨w.heap.size, 2, none⟩ (.int .i64 X.wide)).setCell ⟨w.heap.size, 3, none⟩ (.int .i64 X.high)).setCell ⟨w.heap.size, 4, none⟩ (Value.slice a1 X.gs.length r1)).setCell ⟨w.heap.size, 5, none⟩ (Value.slice a2 X.os.length r2)).setCell ⟨w.heap.size, 6, none⟩ (Value.slice a3 X.gold.length r3)).setCell ⟨w.heap.size, 7, none⟩ (Value.slice a4 X.us.length r4)).setCell ⟨w.heap.size, 8, none⟩ (Value.slice a5 X.qs.length r5))) := put_kp _ _ _ _ _ _ _ _ _ _ _
  have XB : Hid (Wx (((((((((w2.setCell ⟨w.heap.size, 0, none⟩ (.int .i64 X.turn)).setCell ⟨w.heap.size, 1, none⟩ (.int .i64 X.next)).setCell ⟨w.heap.size, 2, none⟩ (.int .i64 X.wide)).setCell ⟨w.heap.size, 3, none⟩ (.int .i64 X.high)).setCell ⟨w.heap.size, 4, none⟩ (Value.slice a1 X.gs.length r1)).setCell ⟨w.heap.size, 5, none⟩ (Value.slice a2 X.os.length r2)).setCell ⟨w.heap.size, 6, none⟩ (Value.slice a3 X.gold.length r3)).setCell ⟨w.heap.size, 7, none⟩ (Value.slice a4 X.us.length r4)).setCell ⟨w.heap.size, 8, none⟩ (Value.slice a5 X.qs.length r5)) w.heap.size (.int .i64 X.turn) (.int .i64 X.next) (.int .i64 X.wide) (.int .i64 X.high) (Value.slice a1 X.gs.length r1) (Value.slice a2 X.os.length r2) (Value.slice a3 X.gold.length r3) (Value.slice a4 X.us.length r4) (Value.slice a5 X.qs.length r5)) := X2.out.put (.int .i64 X.turn) (.int .i64 X.next) (.int .i64 X.wide) (.int .i64 X.high) (Value.slice a1 X.gs.length r1) (Value.slice a2 X.os.length r2) (Value.slice a3 X.gold.length r3) (Value.slice a4 X.us.length r4) (Value.slice a5 X.qs.length r5)
  go_upto_region 7 with fail
  clear c0 c1 c2 c3 c4 c5 c6 c7 c8 d0 d1 d2 d3 d4 d5 d6 d7 d8
  generalize (((((((((w2.setCell ⟨w.heap.size, 0, none⟩ (.int .i64 X.turn)).setCell ⟨w.heap.size, 1, none⟩ (.int .i64 X.next)).setCell ⟨w.heap.size, 2, none⟩ (.int .i64 X.wide)).setCell ⟨w.heap.size, 3, none⟩ (.int .i64 X.high)).setCell ⟨w.heap.size, 4, none⟩ (Value.slice a1 X.gs.length r1)).setCell ⟨w.heap.size, 5, none⟩ (Value.slice a2 X.os.length r2)).setCell ⟨w.heap.size, 6, none⟩ (Value.slice a3 X.gold.length r3)).setCell ⟨w.heap.size, 7, none⟩ (Value.slice a4 X.us.length r4)).setCell ⟨w.heap.size, 8, none⟩ (Value.slice a5 X.qs.length r5)) = w5 at *
  have B5 : Hid (Below w.heap.size w w5) := KB.out.below B2.out B2.out.size (Nat.le_refl _)
  have Z5 : Hid (Wx w5 (w.heap.size + 1) (.int .i64 0) (.int .i64 0) (.int .i64 0) (.int .i64 0) (.slice none 0 0) (.slice none 0 0) (.slice none 0 0) (.slice none 0 0) (.slice none 0 0)) := Z2.out.kp KB.out (by omega)
  obtain ⟨be, hbe⟩ : ∃ b, w5.heap.size = b := ⟨_, rfl⟩
  have SZ : Hid (w5.heap.size = be ∧ w.heap.size + 2 ≤ be) := ⟨hbe, by rw [← hbe]; exact Z5.out.lt⟩
  have T5 : Hid (StS X [] w.heap.size (w.heap.size + 2) be w5 (Value.slice a1 X.gs.length r1) (Value.slice a2 X.os.length r2) (Value.slice a3 X.gold.length r3) (Value.slice a4 X.us.length r4) (Value.slice a5 X.qs.length r5) (.slice none 0 0) w5) := ⟨XB.out, OA.out.1.kp KB.out (by omega), OA.out.2.1.kp KB.out (by omega), OA.out.2.2.1.kp KB.out (by omega), OA.out.2.2.2.1.kp KB.out (by omega), OA.out.2.2.2.2.kp KB.out (by omega), Evo.nil _ _, Fr.below (Below.refl _ _), ⟨by omega, SZ.out.2, hbe⟩⟩
  clear hbe KB X2 B2 Z2 OA XB
  go_wp2_with fail
  go_loopw [30] (fun j V => ∃ n : Nat, n ≤ ls.length ∧ j = .int .i64 (n : Nat) ∧ ∃ Y, PlayR ks X ls n Y ∧ ∃ u1 u2 u3 u4 u5, StS Y [] w.heap.size (w.heap.size + 2) be w5 u1 u2 u3 u4 u5 (.slice none 0 0) V) (fun j _ => ls.length - (intOf j).toNat)
  case atStart => exact ⟨0, Nat.zero_le _, rfl, X, .zero, _, _, _, _, _, T5.out⟩
  case round =>
  obtain ⟨n, hn, rfl, Y, hp, u1, u2, u3, u4, u5, hT⟩ := hrel
  have PR : Hid (PlayR ks X ls n Y) := hp
  have TQ : Hid (StS Y [] w.heap.size (w.heap.size + 2) be w5 u1 u2 u3 u4 u5 (.slice none 0 0) wr) := hT
  clear hp hT
  have ZW : Hid (Wx wr (w.heap.size + 1) (.int .i64 0) (.int .i64 0) (.int .i64 0) (.int .i64 0) (.slice none 0 0) (.slice none 0 0) (.slice none 0 0) (.slice none 0 0) (.slice none 0 0)) := TQ.out.f.wx Z5.out (by omega)
  have BW : Hid (Below w.heap.size w wr) := B5.out.trans (TQ.out.f.low B5.out.size (fun k hk => by omega))
  have SW : Hid (w.heap.size + 2 ≤ wr.heap.size) := ZW.out.lt
  obtain ⟨g1, l1, rfl⟩ := TQ.out.o1.len
  obtain ⟨g2, l2, rfl⟩ := TQ.out.o2.len
  obtain ⟨g3, l3, rfl⟩ := TQ.out.o3.len
  obtain ⟨g4, l4, rfl⟩ := TQ.out.o4.len
  obtain ⟨g5, l5, rfl⟩ := TQ.out.o5.len
  by_cases hne : n = ls.length
  case pos =>
    have PE : Hid (PlayR ks X ls ls.length Y) := by rw [← hne]; exact PR.out
    subst hne
    obtain ⟨x0, x1, x2, x3, x4, x5, x6, x7, x8⟩ := TQ.out.x.cells
    obtain ⟨z0, z1, z2, z3, z4, z5, z6, z7, z8⟩ := ZW.out.cells
    obtain ⟨t0, t1, t2, t3, t4, t5, t6, t7, t8⟩ := ZW.out.thaws
    have KZ : Hid (Kp (w.heap.size + 1) wr (((((((((wr.setCell ⟨w.heap.size + 1, 0, none⟩ (.int .i64 Y.turn)).setCell ⟨w.heap.size + 1, 1, none⟩ (.int .i64 Y.next)).setCell ⟨w.heap.size + 1, 2, none⟩ (.int .i64 Y.wide)).setCell ⟨w.heap.size + 1, 3, none⟩ (.int .i64 Y.high)).setCell ⟨w.heap.size + 1, 4, none⟩ (Value.slice g1 Y.gs.length l1)).setCell ⟨w.heap.size + 1, 5, none⟩ (Value.slice g2 Y.os.length l2)).setCell ⟨w.heap.size + 1, 6, none⟩ (Value.slice g3 Y.gold.length l3)).setCell ⟨w.heap.size + 1, 7, none⟩ (Value.slice g4 Y.us.length l4)).setCell ⟨w.heap.size + 1, 8, none⟩ (Value.slice g5 Y.qs.length l5))) := put_kp _ _ _ _ _ _ _ _ _ _ _
    obtain ⟨y0, y1, y2, y3, y4, y5, y6, y7, y8⟩ := (ZW.out.put (.int .i64 Y.turn) (.int .i64 Y.next) (.int .i64 Y.wide) (.int .i64 Y.high) (Value.slice g1 Y.gs.length l1) (Value.slice g2 Y.os.length l2) (Value.slice g3 Y.gold.length l3) (Value.slice g4 Y.us.length l4) (Value.slice g5 Y.qs.length l5)).cells
    go_wp2
    clear x0 x1 x2 x3 x4 x5 x6 x7 x8 z0 z1 z2 z3 z4 z5 z6 z7 z8 t0 t1 t2 t3 t4 t5 t6 t7 t8
    generalize (((((((((wr.setCell ⟨w.heap.size + 1, 0, none⟩ (.int .i64 Y.turn)).setCell ⟨w.heap.size + 1, 1, none⟩ (.int .i64 Y.next)).setCell ⟨w.heap.size + 1, 2, none⟩ (.int .i64 Y.wide)).setCell ⟨w.heap.size + 1, 3, none⟩ (.int .i64 Y.high)).setCell ⟨w.heap.size + 1, 4, none⟩ (Value.slice g1 Y.gs.length l1)).setCell ⟨w.heap.size + 1, 5, none⟩ (Value.slice g2 Y.os.length l2)).setCell ⟨w.heap.size + 1, 6, none⟩ (Value.slice g3 Y.gold.length l3)).setCell ⟨w.heap.size + 1, 7, none⟩ (Value.slice g4 Y.us.length l4)).setCell ⟨w.heap.size + 1, 8, none⟩ (Value.slice g5 Y.qs.length l5)) = wt at *
    refine bodyPost_ret (v := .tuple #[.agg #[.int .i64 Y.turn, .int .i64 Y.next, .int .i64 Y.wide, .int .i64 Y.high, Value.slice g1 Y.gs.length l1, Value.slice g2 Y.os.length l2, Value.slice g3 Y.gold.length l3, Value.slice g4 Y.us.length l4, Value.slice g5 Y.qs.length l5], .nilIface]) (by simp [results, Tryz.results43, go_sem, y0, y1, y2, y3, y4, y5, y6, y7, y8]) rfl ⟨_, _, 0, rfl, Er.nil, .inr ⟨rfl, FW.out, HLN.out, Y, PE.out, ?_⟩, KZ.out.below BW.out BW.out.size (by omega)⟩
    exact ⟨_, _, _, _, _, rfl, (TQ.out.o1.kp KZ.out (by omega)).mono (by omega), (TQ.out.o2.kp KZ.out (by omega)).mono (by omega), (TQ.out.o3.kp KZ.out (by omega)).mono (by omega), (TQ.out.o4.kp KZ.out (by omega)).mono (by omega), (TQ.out.o5.kp KZ.out (by omega)).mono (by omega)⟩
  case neg =>
  have hnl : n < ls.length := by omega
  have hnl' : (n : Int) < (ls.length : Int) := by omega
  have hl2 : ls.length ≤ 200 := HLN.out
  obtain ⟨l, hl⟩ : ∃ l, ls[n]? = some l := ⟨_, List.getElem?_eq_getElem hnl⟩
  have HL : Hid (ls[n]? = some l) := hl
  obtain ⟨a', c', e', -, -, hy⟩ := SD.out.2.below BW.out
  injection e' with e1 e2 e3
  subst e1 e3
  obtain ⟨xl, rfl, -, hy⟩ := hy (by rintro hn; rw [hn] at hnl; simp at hnl)
  obtain ⟨vo, cv, hvo⟩ := hy n l hl
  have VO : Hid (Orl wr vo l) := hvo
  clear hy hl e2 hvo
  obtain ⟨x0, x1, x2, x3, x4, x5, x6, x7, x8⟩ := TQ.out.x.cells
  go_wp2_with fail
  clear cv x0 x1 x2 x3 x4 x5 x6 x7 x8
  refine (Step_any _ _ vo ks Y l wr (K.out.1.below BW.out) K.out.2 TQ.out.wl VO.out (SD.out.1.below BW.out)).mono ?_
  rintro e w7 ⟨v, ev2, r, rfl, hr, hd, hb⟩
  have T7 : Hid (StS Y [] w.heap.size (w.heap.size + 2) be w5 (Value.slice g1 Y.gs.length l1) (Value.slice g2 Y.os.length l2) (Value.slice g3 Y.gold.length l3) (Value.slice g4 Y.us.length l4) (Value.slice g5 Y.qs.length l5) (.slice none 0 0) w7) := TQ.out.below hb
  have B7 : Hid (Below w.heap.size w w7) := BW.out.trans (hb.mono BW.out.size)
  have Z7 : Hid (Wx w7 (w.heap.size + 1) (.int .i64 0) (.int .i64 0) (.int .i64 0) (.int .i64 0) (.slice none 0 0) (.slice none 0 0) (.slice none 0 0) (.slice none 0 0) (.slice none 0 0)) := ZW.out.below hb ZW.out.lt
  clear hb
  obtain ⟨sf, hsf⟩ : ∃ f, stepFault ks Y l = f := ⟨_, rfl⟩
  have SF : Hid (stepFault ks Y l = sf) := hsf
  rw [hsf] at hr
  clear hsf
  rcases hr with ⟨rfl, rfl⟩ | ⟨hf, rfl⟩
  case inr =>
    have HF : Hid (sf ≠ 0) := hf
    rcases hd with ⟨-, rfl, rfl⟩ | ⟨h, -⟩
    case inr => rw [SF.out] at h; exact absurd h hf
    clear hf
    have BN : Hid (Below w7.heap.size w7 (w7.alloc (Obj.cells #[.int .i64 0, .int .i64 0, .int .i64 0, .int .i64 0, .slice none 0 0, .slice none 0 0, .slice none 0 0, .slice none 0 0, .slice none 0 0] 29))) := (Below.refl _ _).alloc (Nat.le_refl _) _
    go_upto_region 12 with fail
    generalize w7.alloc (Obj.cells #[.int .i64 0, .int .i64 0, .int .i64 0, .int .i64 0, .slice none 0 0, .slice none 0 0, .slice none 0 0, .slice none 0 0, .slice none 0 0] 29) = w8 at *
    have B8 : Hid (Below w.heap.size w w8) := B7.out.trans (BN.out.mono B7.out.size)
    have Z8 : Hid (Wx w8 (w.heap.size + 1) (.int .i64 0) (.int .i64 0) (.int .i64 0) (.int .i64 0) (.slice none 0 0) (.slice none 0 0) (.slice none 0 0) (.slice none 0 0) (.slice none 0 0)) := Z7.out.below BN.out Z7.out.lt
    obtain ⟨z0, z1, z2, z3, z4, z5, z6, z7, z8⟩ := Z8.out.cells
    obtain ⟨t0, t1, t2, t3, t4, t5, t6, t7, t8⟩ := Z8.out.thaws
    have KZ : Hid (Kp (w.heap.size + 1) w8 (((((((((w8.setCell ⟨w.heap.size + 1, 0, none⟩ (.int .i64 0)).setCell ⟨w.heap.size + 1, 1, none⟩ (.int .i64 0)).setCell ⟨w.heap.size + 1, 2, none⟩ (.int .i64 0)).setCell ⟨w.heap.size + 1, 3, none⟩ (.int .i64 0)).setCell ⟨w.heap.size + 1, 4, none⟩ (.slice none 0 0)).setCell ⟨w.heap.size + 1, 5, none⟩ (.slice none 0 0)).setCell ⟨w.heap.size + 1, 6, none⟩ (.slice none 0 0)).setCell ⟨w.heap.size + 1, 7, none⟩ (.slice none 0 0)).setCell ⟨w.heap.size + 1, 8, none⟩ (.slice none 0 0))) := put_kp _ _ _ _ _ _ _ _ _ _ _
    obtain ⟨y0, y1, y2, y3, y4, y5, y6, y7, y8⟩ := (Z8.out.put (.int .i64 0) (.int .i64 0) (.int .i64 0) (.int .i64 0) (.slice none 0 0) (.slice none 0 0) (.slice none 0 0) (.slice none 0 0) (.slice none 0 0)).cells
    go_wp2
    clear z0 z1 z2 z3 z4 z5 z6 z7 z8 t0 t1 t2 t3 t4 t5 t6 t7 t8
    generalize (((((((((w8.setCell ⟨w.heap.size + 1, 0, none⟩ (.int .i64 0)).setCell ⟨w.heap.size + 1, 1, none⟩ (.int .i64 0)).setCell ⟨w.heap.size + 1, 2, none⟩ (.int .i64 0)).setCell ⟨w.heap.size + 1, 3, none⟩ (.int .i64 0)).setCell ⟨w.heap.size + 1, 4, none⟩ (.slice none 0 0)).setCell ⟨w.heap.size + 1, 5, none⟩ (.slice none 0 0)).setCell ⟨w.heap.size + 1, 6, none⟩ (.slice none 0 0)).setCell ⟨w.heap.size + 1, 7, none⟩ (.slice none 0 0)).setCell ⟨w.heap.size + 1, 8, none⟩ (.slice none 0 0)) = wz at *
    refine bodyPost_ret (v := .tuple #[.agg #[.int .i64 0, .int .i64 0, .int .i64 0, .int .i64 0, .slice none 0 0, .slice none 0 0, .slice none 0 0, .slice none 0 0, .slice none 0 0], .iface 97 (.int .i64 sf)]) (by simp [results, Tryz.results43, go_sem, y0, y1, y2, y3, y4, y5, y6, y7, y8]) rfl ⟨_, _, sf, rfl, Er.no HF.out, .inl ⟨HF.out, rfl, .inr (.inr ⟨FW.out, HLN.out, n, Y, l, PR.out, HL.out, SF.out⟩)⟩, KZ.out.below B8.out B8.out.size (by omega)⟩
  rcases hd with ⟨h, -⟩ | ⟨-, Z, es, hsr, ho, -⟩
  case inl => exact absurd SF.out h
  have PN : Hid (PlayR ks X ls (n + 1) Z) := .turn PR.out HL.out SF.out hsr
  obtain ⟨v1, v2, v3, v4, v5, rfl, o1, o2, o3, o4, o5⟩ := ho
  obtain ⟨m1, k1, rfl⟩ := o1.len
  obtain ⟨m2, k2, rfl⟩ := o2.len
  obtain ⟨m3, k3, rfl⟩ := o3.len
  obtain ⟨m4, k4, rfl⟩ := o4.len
  obtain ⟨m5, k5, rfl⟩ := o5.len
  have OZ : Hid (Ow w7 (w.heap.size + 2) (Value.slice m1 Z.gs.length k1) Z.gs ∧ Ow w7 (w.heap.size + 2) (Value.slice m2 Z.os.length k2) Z.os ∧ Ow w7 (w.heap.size + 2) (Value.slice m3 Z.gold.length k3) Z.gold ∧ Uno w7 (w.heap.size + 2) (Value.slice m4 Z.us.length k4) Z.us ∧ Jbo w7 (w.heap.size + 2) (Value.slice m5 Z.qs.length k5) Z.qs) := ⟨o1.mono SW.out, o2.mono SW.out, o3.mono SW.out, o4.mono SW.out, o5.mono SW.out⟩
  clear o1 o2 o3 o4 o5 hsr
  obtain ⟨bn, hbn⟩ : ∃ b, w7.heap.size = b := ⟨_, rfl⟩
  have BN : Hid (Below w7.heap.size w7 (w7.alloc (Obj.cells #[.int .i64 Z.turn, .int .i64 Z.next, .int .i64 Z.wide, .int .i64 Z.high, Value.slice m1 Z.gs.length k1, Value.slice m2 Z.os.length k2, Value.slice m3 Z.gold.length k3, Value.slice m4 Z.us.length k4, Value.slice m5 Z.qs.length k5] 29))) := (Below.refl _ _).alloc (Nat.le_refl _) _
  have XN : Hid (Wx (w7.alloc (Obj.cells #[.int .i64 Z.turn, .int .i64 Z.next, .int .i64 Z.wide, .int .i64 Z.high, Value.slice m1 Z.gs.length k1, Value.slice m2 Z.os.length k2, Value.slice m3 Z.gold.length k3, Value.slice m4 Z.us.length k4, Value.slice m5 Z.qs.length k5] 29)) bn (.int .i64 Z.turn) (.int .i64 Z.next) (.int .i64 Z.wide) (.int .i64 Z.high) (Value.slice m1 Z.gs.length k1) (Value.slice m2 Z.os.length k2) (Value.slice m3 Z.gold.length k3) (Value.slice m4 Z.us.length k4) (Value.slice m5 Z.qs.length k5)) := Wx.new (w := w7) (.int .i64 Z.turn) (.int .i64 Z.next) (.int .i64 Z.wide) (.int .i64 Z.high) (Value.slice m1 Z.gs.length k1) (Value.slice m2 Z.os.length k2) (Value.slice m3 Z.gold.length k3) (Value.slice m4 Z.us.length k4) (Value.slice m5 Z.qs.length k5) hbn
  go_upto_region 13 with fail
  (try rw [hbn])
  clear hbn
  generalize w7.alloc (Obj.cells #[.int .i64 Z.turn, .int .i64 Z.next, .int .i64 Z.wide, .int .i64 Z.high, Value.slice m1 Z.gs.length k1, Value.slice m2 Z.os.length k2, Value.slice m3 Z.gold.length k3, Value.slice m4 Z.us.length k4, Value.slice m5 Z.qs.length k5] 29) = w8 at *
  have T8 : Hid (StS Y [] w.heap.size (w.heap.size + 2) be w5 (Value.slice g1 Y.gs.length l1) (Value.slice g2 Y.os.length l2) (Value.slice g3 Y.gold.length l3) (Value.slice g4 Y.us.length l4) (Value.slice g5 Y.qs.length l5) (.slice none 0 0) w8) := T7.out.below BN.out
  have O8 : Hid (Ow w8 (w.heap.size + 2) (Value.slice m1 Z.gs.length k1) Z.gs ∧ Ow w8 (w.heap.size + 2) (Value.slice m2 Z.os.length k2) Z.os ∧ Ow w8 (w.heap.size + 2) (Value.slice m3 Z.gold.length k3) Z.gold ∧ Uno w8 (w.heap.size + 2) (Value.slice m4 Z.us.length k4) Z.us ∧ Jbo w8 (w.heap.size + 2) (Value.slice m5 Z.qs.length k5) Z.qs) := ⟨OZ.out.1.below BN.out, OZ.out.2.1.below BN.out, OZ.out.2.2.1.below BN.out, OZ.out.2.2.2.1.below BN.out, OZ.out.2.2.2.2.below BN.out⟩
  obtain ⟨x0, x1, x2, x3, x4, x5, x6, x7, x8⟩ := XN.out.cells
  obtain ⟨z0, z1, z2, z3, z4, z5, z6, z7, z8⟩ := T8.out.x.cells
  obtain ⟨t0, t1, t2, t3, t4, t5, t6, t7, t8⟩ := T8.out.x.thaws
  have KZ : Hid (Kp w.heap.size w8 (((((((((w8.setCell ⟨w.heap.size, 0, none⟩ (.int .i64 Z.turn)).setCell ⟨w.heap.size, 1, none⟩ (.int .i64 Z.next)).setCell ⟨w.heap.size, 2, none⟩ (.int .i64 Z.wide)).setCell ⟨w.heap.size, 3, none⟩ (.int .i64 Z.high)).setCell ⟨w.heap.size, 4, none⟩ (Value.slice m1 Z.gs.length k1)).setCell ⟨w.heap.size, 5, none⟩ (Value.slice m2 Z.os.length k2)).setCell ⟨w.heap.size, 6, none⟩ (Value.slice m3 Z.gold.length k3)).setCell ⟨w.heap.size, 7, none⟩ (Value.slice m4 Z.us.length k4)).setCell ⟨w.heap.size, 8, none⟩ (Value.slice m5 Z.qs.length k5))) := put_kp _ _ _ _ _ _ _ _ _ _ _
  have XZ : Hid (Wx (((((((((w8.setCell ⟨w.heap.size, 0, none⟩ (.int .i64 Z.turn)).setCell ⟨w.heap.size, 1, none⟩ (.int .i64 Z.next)).setCell ⟨w.heap.size, 2, none⟩ (.int .i64 Z.wide)).setCell ⟨w.heap.size, 3, none⟩ (.int .i64 Z.high)).setCell ⟨w.heap.size, 4, none⟩ (Value.slice m1 Z.gs.length k1)).setCell ⟨w.heap.size, 5, none⟩ (Value.slice m2 Z.os.length k2)).setCell ⟨w.heap.size, 6, none⟩ (Value.slice m3 Z.gold.length k3)).setCell ⟨w.heap.size, 7, none⟩ (Value.slice m4 Z.us.length k4)).setCell ⟨w.heap.size, 8, none⟩ (Value.slice m5 Z.qs.length k5)) w.heap.size (.int .i64 Z.turn) (.int .i64 Z.next) (.int .i64 Z.wide) (.int .i64 Z.high) (Value.slice m1 Z.gs.length k1) (Value.slice m2 Z.os.length k2) (Value.slice m3 Z.gold.length k3) (Value.slice m4 Z.us.length k4) (Value.slice m5 Z.qs.length k5)) := T8.out.x.put (.int .i64 Z.turn) (.int .i64 Z.next) (.int .i64 Z.wide) (.int .i64 Z.high) (Value.slice m1 Z.gs.length k1) (Value.slice m2 Z.os.length k2) (Value.slice m3 Z.gold.length k3) (Value.slice m4 Z.us.length k4) (Value.slice m5 Z.qs.length k5)
  go_upto_region 14 with fail
  clear x0 x1 x2 x3 x4 x5 x6 x7 x8 z0 z1 z2 z3 z4 z5 z6 z7 z8 t0 t1 t2 t3 t4 t5 t6 t7 t8
  generalize (((((((((w8.setCell ⟨w.heap.size, 0, none⟩ (.int .i64 Z.turn)).setCell ⟨w.heap.size, 1, none⟩ (.int .i64 Z.next)).setCell ⟨w.heap.size, 2, none⟩ (.int .i64 Z.wide)).setCell ⟨w.heap.size, 3, none⟩ (.int .i64 Z.high)).setCell ⟨w.heap.size, 4, none⟩ (Value.slice m1 Z.gs.length k1)).setCell ⟨w.heap.size, 5, none⟩ (Value.slice m2 Z.os.length k2)).setCell ⟨w.heap.size, 6, none⟩ (Value.slice m3 Z.gold.length k3)).setCell ⟨w.heap.size, 7, none⟩ (Value.slice m4 Z.us.length k4)).setCell ⟨w.heap.size, 8, none⟩ (Value.slice m5 Z.qs.length k5)) = w9 at *
  have T9 : Hid (StS Z [] w.heap.size (w.heap.size + 2) be w5 (Value.slice m1 Z.gs.length k1) (Value.slice m2 Z.os.length k2) (Value.slice m3 Z.gold.length k3) (Value.slice m4 Z.us.length k4) (Value.slice m5 Z.qs.length k5) (.slice none 0 0) w9) := T8.out.puts KZ.out XZ.out O8.out.1 O8.out.2.1 O8.out.2.2.1 O8.out.2.2.2.1 O8.out.2.2.2.2
  go_wp2
  go_round
  case rel => exact ⟨n + 1, by omega, by go_num, Z, PN.out, _, _, _, _, _, T9.out⟩
  case measure => simp [intOf]; omega
end Go.Proofs.YtkejdkajfnaieaaGreatDoor

namespace Go.Proofs.YtkejdkajfnaieaaGreatDoor
open Wy
set_option linter.unusedVariables false

theorem near_uniq {l : List Int} {n : Nat} {p : Int → Bool} {c F c' F' : Int} (h : NearSays l n p c F) (h' : NearSays l n p c' F') : c = c' ∧ F = F' := by
  have no : ∀ {m k : Nat} {c : Int}, (rch l m n)[k]? = some c → p c = true → (rch l m n).any p = false → False := fun hk hp ha => by
    rw [List.any_eq_false] at ha
    exact ha _ (List.mem_of_getElem? hk) hp
  rcases h with ⟨e1, e2, h⟩ | ⟨e1, m, k, hm, hk, hp, ht, hj⟩
  · rcases h' with ⟨f1, f2, h'⟩ | ⟨f1, m', k', hm', hk', hp', ht', hj'⟩
    · exact ⟨by rw [e2, f2], by rw [e1, f1]⟩
    · exact (no hk' hp' (h m' hm')).elim
  · rcases h' with ⟨f1, f2, h'⟩ | ⟨f1, m', k', hm', hk', hp', ht', hj'⟩
    · exact (no hk hp (h' m hm)).elim
    · have em : m = m' := by
        rcases Nat.lt_trichotomy m m' with hl | hl | hl
        · exact (no hk hp (hj' m hl)).elim
        · exact hl
        · exact (no hk' hp' (hj m' hl)).elim
      subst em
      have ek : k = k' := by
        rcases Nat.lt_trichotomy k k' with hl | hl | hl
        · rw [List.any_eq_false] at ht'
          exact (ht' c (List.mem_of_getElem? (i := k) (by rw [List.getElem?_take, if_pos hl]; exact hk)) hp).elim
        · exact hl
        · rw [List.any_eq_false] at ht
          exact (ht c' (List.mem_of_getElem? (i := k') (by rw [List.getElem?_take, if_pos hl]; exact hk')) hp').elim
      subst ek
      rw [hk] at hk'
      injection hk' with e
      exact ⟨e, by rw [e1, f1]⟩
theorem fstu_nat {p : UnV → Bool} {us : List UnV} {i : Nat} (h : FstU p us (i : Nat)) : ∃ x, us[i]? = some x ∧ p x = true ∧ (us.take i).any p = false := by
  rcases h with ⟨e, -⟩ | ⟨k, x, e, h1, h2, h3⟩
  · omega
  · obtain rfl : i = k := by omega
    exact ⟨x, h1, h2, h3⟩
theorem fstu_uniq {p : UnV → Bool} {us : List UnV} {i j : Nat} (h : FstU p us (i : Nat)) (k : FstU p us (j : Nat)) : i = j := by
  obtain ⟨x, x1, x2, x3⟩ := fstu_nat h
  obtain ⟨y, y1, y2, y3⟩ := fstu_nat k
  rcases Nat.lt_trichotomy i j with hl | hl | hl
  · rw [List.any_eq_false] at y3
    exact (y3 x (List.mem_of_getElem? (i := i) (by rw [List.getElem?_take, if_pos hl]; exact x1)) x2).elim
  · exact hl
  · rw [List.any_eq_false] at x3
    exact (x3 y (List.mem_of_getElem? (i := j) (by rw [List.getElem?_take, if_pos hl]; exact y1)) y2).elim
theorem spot_uniq {ks : List KV} {X : WV} {unit kind c F c' F' : Int} (h : SpotSays ks X unit kind c F) (h' : SpotSays ks X unit kind c' F') : c = c' ∧ F = F' := by
  have last : ∀ {c F : Int}, (∃ (i kn Wn Hn an : Nat) (u : UnV) (k : KV) (l : List Int), FstU (fun u => u.id == unit) X.us (i : Nat) ∧ X.us[i]? = some u ∧ kind = (kn : Nat) ∧ ks[kn]? = some k ∧ X.wide = (Wn : Nat) ∧ X.high = (Hn : Nat) ∧ Fd.Good Wn Hn X.gs X.os ∧ u.at_ = (an : Nat) ∧ an < Wn * Hn
      ∧ Wy.IsFar (Fd.near Wn Hn) (fun i _ => (X.gs.map fun g => Fd.onto g k.f).getD i 0) an (Wn * Hn) l ∧ NearSays l (Wn * Hn) (freeAt X.us) c F) → X.us.any (fun u => u.id == unit) = true ∧ (0 ≤ kind ∧ kind < (ks.length : Int)) := by
    rintro c F ⟨i, kn, Wn, Hn, an, u, k, l, h1, h2, h3, h4, -⟩
    obtain ⟨x, x1, x2, -⟩ := fstu_nat h1
    refine ⟨List.any_eq_true.2 ⟨x, List.mem_of_getElem? x1, x2⟩, by omega, ?_⟩
    have := (List.getElem?_eq_some_iff.1 h4).1
    omega
  rcases h with ⟨a1, a2, a3⟩ | ⟨a1, a2, a3, a4⟩ | ⟨a1, a2, a3, a4, a5⟩ | ⟨a1, a⟩
  · rcases h' with ⟨b1, b2, b3⟩ | ⟨b1, -⟩ | ⟨b1, -⟩ | ⟨b1, -⟩
    · exact ⟨by rw [a3, b3], by rw [a2, b2]⟩
    all_goals exact absurd b1 a1
  · rcases h' with ⟨b1, b2, b3⟩ | ⟨b1, b2, b3, b4⟩ | ⟨b1, b2, b3, b4, b5⟩ | ⟨b1, b⟩
    · exact absurd a1 b1
    · exact ⟨by rw [a4, b4], by rw [a3, b3]⟩
    · rw [a2] at b2; cases b2
    · have := (last b).1; rw [a2] at this; cases this
  · rcases h' with ⟨b1, b2, b3⟩ | ⟨b1, b2, b3, b4⟩ | ⟨b1, b2, b3, b4, b5⟩ | ⟨b1, b⟩
    · exact absurd a1 b1
    · rw [a2] at b2; cases b2
    · exact ⟨by rw [a5, b5], by rw [a4, b4]⟩
    · exact absurd (last b).2 a3
  · rcases h' with ⟨b1, b2, b3⟩ | ⟨b1, b2, b3, b4⟩ | ⟨b1, b2, b3, b4, b5⟩ | ⟨b1, b⟩
    · exact absurd a1 b1
    · have := (last a).1; rw [b2] at this; cases this
    · exact absurd (last a).2 b3
    · obtain ⟨i, kn, Wn, Hn, an, u, k, l, h1, h2, h3, h4, h5, h6, -, h8, -, h10, h11⟩ := a
      obtain ⟨i', kn', Wn', Hn', an', u', k', l', g1, g2, g3, g4, g5, g6, -, g8, -, g10, g11⟩ := b
      obtain rfl := fstu_uniq h1 g1
      rw [h2] at g2
      injection g2 with e
      subst e
      obtain rfl : kn = kn' := by omega
      rw [h4] at g4
      injection g4 with e
      subst e
      obtain rfl : Wn = Wn' := by omega
      obtain rfl : Hn = Hn' := by omega
      obtain rfl : an = an' := by omega
      obtain rfl := Wy.IsFar.uniq h10 g10
      exact near_uniq h11 g11
theorem comes_one {ks : List KV} {Y : WV} {j : JbV} {c c' : Int} (h : Comes ks Y j c) (h' : Comes ks Y j c') : c = c' := (spot_uniq h.1 h'.1).1
theorem comes_not {ks : List KV} {Y : WV} {j : JbV} {c : Int} (h : Comes ks Y j c) (h' : NoCome ks Y j) : False := by
  obtain ⟨c', F, h1, h2⟩ := h'
  obtain ⟨rfl, rfl⟩ := spot_uniq h.1 h1
  rcases h2 with h2 | h2
  · exact h2 rfl
  · exact h2 h.2
theorem tr_uniq {ks : List KV} {X : WV} {q : Nat} {Y : WV} {es : List EvV} {qs : List JbV} (t : Tr ks X q Y es qs) : ∀ {Y' : WV} {es' : List EvV} {qs' : List JbV}, Tr ks X q Y' es' qs' → Y = Y' ∧ es = es' ∧ qs = qs' := by
  induction t with
  | zero => intro Y' es' qs' t'; cases t'; exact ⟨rfl, rfl, rfl⟩
  | @wait q Y es qs j t0 ho hl ih =>
    intro Y' es' qs' t'
    cases t' with
    | wait t1 ho1 hl1 =>
      rw [ho] at ho1; injection ho1 with e; subst e
      obtain ⟨rfl, rfl, rfl⟩ := ih t1
      exact ⟨rfl, rfl, rfl⟩
    | come t1 ho1 hl1 _ => rw [ho] at ho1; injection ho1 with e; subst e; exact absurd hl1 hl
    | stay t1 ho1 hl1 _ => rw [ho] at ho1; injection ho1 with e; subst e; exact absurd hl1 hl
  | @come q Y es qs j c t0 ho hl hc ih =>
    intro Y' es' qs' t'
    cases t' with
    | wait t1 ho1 hl1 => rw [ho] at ho1; injection ho1 with e; subst e; exact absurd hl hl1
    | come t1 ho1 hl1 hc1 =>
      rw [ho] at ho1; injection ho1 with e; subst e
      obtain ⟨rfl, rfl, rfl⟩ := ih t1
      obtain rfl := comes_one hc hc1
      exact ⟨rfl, rfl, rfl⟩
    | stay t1 ho1 hl1 hn =>
      rw [ho] at ho1; injection ho1 with e; subst e
      obtain ⟨rfl, rfl, rfl⟩ := ih t1
      exact (comes_not hc hn).elim
  | @stay q Y es qs j t0 ho hl hn ih =>
    intro Y' es' qs' t'
    cases t' with
    | wait t1 ho1 hl1 => rw [ho] at ho1; injection ho1 with e; subst e; exact absurd hl hl1
    | come t1 ho1 hl1 hc1 =>
      rw [ho] at ho1; injection ho1 with e; subst e
      obtain ⟨rfl, rfl, rfl⟩ := ih t1
      exact (comes_not hc1 hn).elim
    | stay t1 ho1 hl1 _ =>
      rw [ho] at ho1; injection ho1 with e; subst e
      obtain ⟨rfl, rfl, rfl⟩ := ih t1
      exact ⟨rfl, rfl, rfl⟩
end Go.Proofs.YtkejdkajfnaieaaGreatDoor

namespace Go.Proofs.YtkejdkajfnaieaaGreatDoor
open Go.RowKit Wy
set_option linter.unusedVariables false

theorem goes_cases {ks : List KV} {X : WV} {Wn Hn : Nat} {k : KV} {i : Nat} {us us' : List UnV} {left : Int} {cells : List Int} (h : Goes ks X Wn Hn k i us left cells us') : ∃ (u : UnV) (c : Nat) (gg : Int), us[i]? = some u ∧ WishSays ks { X with us := us } Wn Hn u k c ∧ X.gs[c]? = some gg ∧
    (((left < Fd.onto gg k.f ∨ us.any (fun o => o.at_ == (c : Int)) = true) ∧ cells = [] ∧ us' = us) ∨ (¬ left < Fd.onto gg k.f ∧ us.any (fun o => o.at_ == (c : Int)) = false ∧ ∃ cells', cells = (c : Int) :: cells' ∧ Goes ks X Wn Hn k i (us.set i { u with at_ := (c : Nat) }) (left - Fd.onto gg k.f) cells' us')) := by
  cases h with
  | stop hu hw hg h => exact ⟨_, _, _, hu, hw, hg, .inl ⟨h, rfl, rfl⟩⟩
  | step hu hw hg h1 h2 h3 => exact ⟨_, _, _, hu, hw, hg, .inr ⟨h1, h2, _, rfl, h3⟩⟩
theorem moves_cases {ks : List KV} {X : WV} {Wn Hn n : Nat} {us us' : List UnV} {evs : List EvV} (h : Moves ks X Wn Hn n us evs us') : (n = us.length ∧ evs = [] ∧ us' = us) ∨ ∃ (u u1 : UnV) (k : KV) (cells : List Int) (us1 : List UnV) (evs' : List EvV), us[n]? = some u ∧ ks[u.kind.toNat]? = some k ∧ Goes ks X Wn Hn k n us k.n4 cells us1 ∧ us1[n]? = some u1 ∧ Moves ks X Wn Hn (n + 1) (us1.set n (ends u1)) evs' us' ∧ evs = cells.map (fun c => (⟨1, u.id, c⟩ : EvV)) ++ evs' := by
  cases h with
  | done h => exact .inl ⟨h, rfl, rfl⟩
  | unit hu hk hg h1 hm => exact .inr ⟨_, _, _, _, _, _, hu, hk, hg, h1, hm, rfl⟩
end Go.Proofs.YtkejdkajfnaieaaGreatDoor

namespace Go.Proofs.YtkejdkajfnaieaaGreatDoor
open Go.RowKit Wy
set_option linter.unusedVariables false

theorem aim_uniq {ks : List KV} {X : WV} {Wn Hn : Nat} {u : UnV} {k : KV} {c c' : Int} (h : AimSays ks X Wn Hn u k c) (h' : AimSays ks X Wn Hn u k c') : c = c' := by
  rcases h with ⟨h1, h2⟩ | ⟨h1, h2, h3⟩ | ⟨h1, h2, l, h3, h4⟩
  · rcases h' with ⟨g1, g2⟩ | ⟨g1, -⟩ | ⟨g1, -⟩
    · rw [h2, g2]
    · exact absurd h1 g1
    · omega
  · rcases h' with ⟨g1, g2⟩ | ⟨g1, g2, g3⟩ | ⟨g1, g2, -⟩
    · exact absurd g1 h1
    · rw [h3, g3]
    · exact absurd ⟨g1, g2⟩ h2
  · rcases h' with ⟨g1, g2⟩ | ⟨g1, g2, g3⟩ | ⟨g1, g2, l', g3, g4⟩
    · omega
    · exact absurd ⟨h1, h2⟩ g2
    · have : l = l' := h3.1.uniq g3.1
      subst this
      rw [h4, g4]
theorem wish_uniq {ks : List KV} {X : WV} {Wn Hn : Nat} {u : UnV} {k : KV} {c c' : Nat} (h : WishSays ks X Wn Hn u k c) (h' : WishSays ks X Wn Hn u k c') : c = c' := by
  obtain ⟨an, bn, l, h1, h2, -, h3, h4⟩ := h
  obtain ⟨an', bn', l', g1, g2, -, g3, g4⟩ := h'
  obtain rfl : an = an' := by omega
  obtain rfl : bn = bn' := by have := aim_uniq h2 g2; omega
  have : l = l' := h3.1.uniq g3.1
  subst this
  rcases h4 with ⟨h4, h5⟩ | ⟨h4, h5⟩
  · rcases g4 with ⟨g4, g5⟩ | ⟨g4, -⟩
    · rw [h5, g5]
    · omega
  · rcases g4 with ⟨g4, -⟩ | ⟨-, g5⟩
    · omega
    · exact h5.uniq g5
theorem goes_uniq {ks : List KV} {X : WV} {Wn Hn : Nat} {k : KV} {i : Nat} {us us' : List UnV} {left : Int} {cells : List Int} (h : Goes ks X Wn Hn k i us left cells us') : ∀ {cells2 : List Int} {us2 : List UnV}, Goes ks X Wn Hn k i us left cells2 us2 → cells = cells2 ∧ us' = us2 := by
  induction h with
  | stop hu hw hg h =>
    intro cells2 us2 h'
    obtain ⟨u', c', gg', hu', hw', hg', hh⟩ := goes_cases h'
    rw [hu] at hu'
    injection hu' with hu'
    subst hu'
    obtain rfl := wish_uniq hw hw'
    rw [hg] at hg'
    injection hg' with hg'
    subst hg'
    rcases hh with ⟨-, h1, h2⟩ | ⟨h1, h2, -⟩
    · exact ⟨h1.symm, h2.symm⟩
    · rcases h with h | h
      · exact absurd h h1
      · rw [h] at h2; cases h2
  | step hu hw hg h1 h2 h3 ih =>
    intro cells2 us2 h'
    obtain ⟨u', c', gg', hu', hw', hg', hh⟩ := goes_cases h'
    rw [hu] at hu'
    injection hu' with hu'
    subst hu'
    obtain rfl := wish_uniq hw hw'
    rw [hg] at hg'
    injection hg' with hg'
    subst hg'
    rcases hh with ⟨g1, -⟩ | ⟨-, -, cells', g1, g2⟩
    · rcases g1 with g1 | g1
      · exact absurd g1 h1
      · rw [h2] at g1; cases g1
    · obtain ⟨e1, e2⟩ := ih g2
      exact ⟨by rw [g1, e1], e2⟩
theorem moves_uniq {ks : List KV} {X : WV} {Wn Hn n : Nat} {us us' : List UnV} {evs : List EvV} (h : Moves ks X Wn Hn n us evs us') : ∀ {evs2 : List EvV} {us2 : List UnV}, Moves ks X Wn Hn n us evs2 us2 → evs = evs2 ∧ us' = us2 := by
  induction h with
  | done h =>
    intro evs2 us2 h'
    rcases moves_cases h' with ⟨-, h1, h2⟩ | ⟨u, u1, k, cells, us1, evs', hu, -⟩
    · exact ⟨h1.symm, h2.symm⟩
    · have := (List.getElem?_eq_some_iff.1 hu).1
      omega
  | unit hu hk hg h1 hm ih =>
    intro evs2 us2 h'
    rcases moves_cases h' with ⟨h2, -⟩ | ⟨u', u1', k', cells', us1', evs', hu', hk', hg', h1', hm', he⟩
    · have := (List.getElem?_eq_some_iff.1 hu).1
      omega
    · rw [hu] at hu'
      injection hu' with hu'
      subst hu'
      rw [hk] at hk'
      injection hk' with hk'
      subst hk'
      obtain ⟨e1, e2⟩ := goes_uniq hg hg'
      subst e1
      subst e2
      rw [h1] at h1'
      injection h1' with h1'
      subst h1'
      obtain ⟨e3, e4⟩ := ih hm'
      exact ⟨by rw [he, e3], e4⟩
end Go.Proofs.YtkejdkajfnaieaaGreatDoor

namespace Go.Proofs.YtkejdkajfnaieaaGreatDoor
open Go.RowKit Go.Proofs.YtkejdkajfnaieaaGreatDoor.So
set_option linter.unusedVariables false

theorem ph_uniq {ks : List KV} {Wn Hn : Nat} {A : WV} {n : Nat} {Y : WV} {es : List EvV} (p : Ph ks Wn Hn A n Y es) : ∀ {Y' : WV} {es' : List EvV}, Ph ks Wn Hn A n Y' es' → Y = Y' ∧ es = es' := by
  induction p with
  | zero => intro Y' es' q; cases q; exact ⟨rfl, rfl⟩
  | one t =>
    intro Y' es' q
    cases q with
    | one t' => obtain ⟨rfl, rfl, rfl⟩ := tr_uniq t t'; exact ⟨rfl, rfl⟩
  | two p0 m ih =>
    intro Y' es' q
    cases q with
    | two q0 m' =>
      obtain ⟨rfl, rfl⟩ := ih q0
      obtain ⟨rfl, rfl⟩ := moves_uniq m m'
      exact ⟨rfl, rfl⟩
  | three p0 ih =>
    intro Y' es' q
    cases q with
    | three q0 => obtain ⟨rfl, rfl⟩ := ih q0; exact ⟨rfl, rfl⟩
  | four p0 ih =>
    intro Y' es' q
    cases q with
    | four q0 => obtain ⟨rfl, rfl⟩ := ih q0; exact ⟨rfl, rfl⟩
theorem step_uniq {ks : List KV} {X : WV} {l : List OrV} {Y Y' : WV} {es es' : List EvV} (h : StepR ks X l Y es) (h' : StepR ks X l Y' es') : Y = Y' ∧ es = es' := by
  obtain ⟨out, Wn, Hn, Z, a1, a2, a3, a4, rfl⟩ := h
  obtain ⟨out', Wn', Hn', Z', b1, b2, b3, b4, rfl⟩ := h'
  obtain rfl := a1.one b1
  obtain rfl : Wn = Wn' := by omega
  obtain rfl : Hn = Hn' := by omega
  obtain ⟨rfl, rfl⟩ := ph_uniq a4 b4
  exact ⟨rfl, rfl⟩
theorem play_uniq {ks : List KV} {X : WV} {ls : List (List OrV)} {n : Nat} {Y : WV} (h : PlayR ks X ls n Y) : ∀ {Y' : WV}, PlayR ks X ls n Y' → Y = Y' := by
  induction h with
  | zero => intro Y' k; cases k; rfl
  | turn p hl hf hs ih =>
    intro Y' k
    cases k with
    | turn p' hl' hf' hs' =>
      obtain rfl := ih p'
      rw [hl] at hl'
      injection hl' with e
      subst e
      exact (step_uniq hs hs').1
/-- what n turns come to, where more turns are listed, or fewer. -/
theorem play_like {ks : List KV} {X : WV} {ls ms : List (List OrV)} {n : Nat} {Y : WV} (h : PlayR ks X ls n Y) : (∀ i, i < n → ls[i]? = ms[i]?) → PlayR ks X ms n Y := by
  induction h with
  | zero => intro _; exact .zero
  | @turn n Y Z l es p hl hf hs ih => intro e; exact .turn (ih (fun i hi => e i (by omega))) (by rw [← e n (by omega)]; exact hl) hf hs
/-- turns behind turns. -/
theorem play_join {ks : List KV} {X A : WV} {ls : List (List OrV)} {c m : Nat} {B : WV} (h : PlayR ks X ls c A) (k : PlayR ks A (ls.drop c) m B) : PlayR ks X ls (c + m) B := by
  induction k with
  | zero => exact h
  | @turn n Y Z l es p hl hf hs ih => exact .turn ih (by rw [List.getElem?_drop] at hl; exact hl) hf hs
theorem play_back {ks : List KV} {X : WV} {ls : List (List OrV)} {n : Nat} {Y : WV} (h : PlayR ks X ls n Y) : ∀ m, m ≤ n → ∃ Z, PlayR ks X ls m Z ∧ (m < n → ∃ l, ls[m]? = some l ∧ stepFault ks Z l = 0) := by
  induction h with
  | zero => intro m hm; obtain rfl : m = 0 := by omega
            exact ⟨X, .zero, fun h => absurd h (Nat.lt_irrefl _)⟩
  | @turn n Y Z l es p hl hf hs ih =>
    intro m hm
    by_cases e : m = n + 1
    · subst e
      exact ⟨Z, .turn p hl hf hs, fun h => absurd h (Nat.lt_irrefl _)⟩
    · by_cases e2 : m = n
      · subst e2
        exact ⟨Y, p, fun _ => ⟨l, hl, hf⟩⟩
      · obtain ⟨W, h1, h2⟩ := ih m (by omega)
        exact ⟨W, h1, fun _ => h2 (by omega)⟩
/-- behind a turn a world is right, one turn further. -/
theorem step_right {ks : List KV} {X : WV} {l : List OrV} {Y : WV} {es : List EvV} (hf : stepFault ks X l = 0) (h : StepR ks X l Y es) : Wd.wfault ks Y = 0 ∧ Y.turn = X.turn + 1 := by
  have hw : Wd.wfault ks X = 0 := by
    by_cases e : Wd.wfault ks X = 0
    · exact e
    · rw [step_w e] at hf; exact absurd hf e
  have ht : ¬ 1000000 ≤ X.turn := fun e => by rw [step_t hw e] at hf; cases hf
  have ho : Od.faults l = 0 := by rw [step_o hw ht] at hf; exact hf
  have R := wright_of hw
  obtain ⟨out, Wn, Hn, Z, a1, a2, a3, a4, rfl⟩ := h
  obtain ⟨g1, g2, g3⟩ := gv_same (ks := ks) (Y := X) (out := out) out.length
  have AR := gv_right R (out := out) (fun o h => (Od.faults_ok ho).2 o (a1.mem h)) out.length
  obtain ⟨r, -, -, t, -⟩ := a4.keep AR (by rw [g2, a2]) (by rw [g3, a3])
  have tx : Z.turn = X.turn := t.trans g1
  refine ⟨?_, by show Z.turn + 1 = _; rw [tx]⟩
  obtain ⟨W', H', e1, e2, G⟩ := r.good
  refine Wd.wfault_zero r.kinds (by show Fd.fault Z.wide Z.high Z.gs Z.os = 0; rw [e1, e2]; exact Fd.fault_good G) ?_ r.ul (fun i u hu => ?_) r.ql (fun j hj => r.job hj)
  · have hn := r.nums
    unfold Wd.numsBad at hn ⊢
    simp only [Bool.or_eq_false_iff] at hn ⊢
    refine ⟨?_, hn.2⟩
    have h1 := hn.1
    unfold Wd.off at h1 ⊢
    simp at h1 ⊢
    omega
  · obtain ⟨k, F⟩ := r.fine hu
    exact ⟨k, F.id1, F.id2, F.up, F.p, F.k0, F.kk, F.life, F.load, F.task, F.at_, F.goal, F.opn, F.rest⟩
theorem play_right {ks : List KV} {X : WV} {ls : List (List OrV)} {n : Nat} {Y : WV} (hw : Wd.wfault ks X = 0) (h : PlayR ks X ls n Y) : Wd.wfault ks Y = 0 ∧ Y.turn = X.turn + (n : Int) := by
  induction h with
  | zero => exact ⟨hw, by simp⟩
  | turn p hl hf hs ih =>
    obtain ⟨s1, s2⟩ := step_right hf hs
    exact ⟨s1, by rw [s2, ih.2]; omega⟩
/-- without orders a turn of a right world comes. -/
theorem rest_fault {ks : List KV} {X : WV} (hw : Wd.wfault ks X = 0) (ht : X.turn < 1000000) : stepFault ks X [] = 0 := by
  rw [step_o hw (by omega)]
  rfl
/-- where all turns come, those in front come, too, and those behind. -/
theorem parts_front {ks : List KV} {X : WV} {ls : List (List OrV)} {Y : WV} (h : PlayR ks X ls ls.length Y) {c : Nat} (hc : c ≤ ls.length) {n : Nat} {Z : WV} {l : List OrV} (p : PlayR ks X (ls.take c) n Z) (hl : (ls.take c)[n]? = some l) : stepFault ks Z l = 0 := by
  have hn : n < c := by
    have := (List.getElem?_eq_some_iff.1 hl).1
    rw [List.length_take] at this
    omega
  obtain ⟨W, w1, w2⟩ := play_back h n (by omega)
  have p' : PlayR ks X ls n Z := play_like p (fun i hi => by rw [List.getElem?_take, if_pos (by omega)])
  obtain rfl := play_uniq w1 p'
  obtain ⟨l', e, f⟩ := w2 (by omega)
  rw [List.getElem?_take, if_pos hn, e] at hl
  injection hl with hl
  subst hl
  exact f
theorem parts_back {ks : List KV} {X A : WV} {ls : List (List OrV)} {Y : WV} (h : PlayR ks X ls ls.length Y) {c : Nat} (hc : c ≤ ls.length) (ha : PlayR ks X ls c A) {n : Nat} {Z : WV} {l : List OrV} (p : PlayR ks A (ls.drop c) n Z) (hl : (ls.drop c)[n]? = some l) : stepFault ks Z l = 0 := by
  have hn : c + n < ls.length := by
    have := (List.getElem?_eq_some_iff.1 hl).1
    rw [List.length_drop] at this
    omega
  obtain ⟨W, w1, w2⟩ := play_back h (c + n) (by omega)
  obtain rfl := play_uniq w1 (play_join ha p)
  obtain ⟨l', e, f⟩ := w2 hn
  rw [List.getElem?_drop, e] at hl
  injection hl with hl
  subst hl
  exact f
end Go.Proofs.YtkejdkajfnaieaaGreatDoor

namespace Go.Proofs.YtkejdkajfnaieaaGreatDoor.Wy

theorem onto_air {g : Int} {fl : Bool} (h : 0 < Fd.onto g fl) : 0 < Fd.onto g true ∧ Fd.onto g true ≤ Fd.onto g fl := by
  unfold Fd.onto at *
  by_cases h1 : g = 1
  · simp [h1] at h
  · by_cases h2 : g = 2
    · cases fl
      · simp [h2] at h
      · simp [h2]
    · by_cases h3 : g = 3
      · cases fl
        · simp [h3]
        · simp [h3]
      · simp [h1, h2, h3]
theorem ss_air {gs : List Int} {fl : Bool} {j : Nat} (h : 0 < (gs.map fun g => Fd.onto g fl).getD j 0) : 0 < (gs.map fun g => Fd.onto g true).getD j 0 ∧ (gs.map fun g => Fd.onto g true).getD j 0 ≤ (gs.map fun g => Fd.onto g fl).getD j 0 := by
  rw [List.getD_eq_getElem?_getD, List.getElem?_map] at *
  rw [List.getD_eq_getElem?_getD, List.getElem?_map]
  cases hg : gs[j]? with
  | none => rw [hg] at h; simp at h
  | some g => rw [hg] at h; exact onto_air h
theorem way_air {nb : Nat → List Int} {gs : List Int} {fl : Bool} {t i : Nat} {d : Int} (h : Way nb (fun _ j => (gs.map fun g => Fd.onto g fl).getD j 0) t i d) : ∃ d', d' ≤ d ∧ Way nb (fun _ j => (gs.map fun g => Fd.onto g true).getD j 0) t i d' := by
  induction h with
  | here => exact ⟨0, by omega, .here⟩
  | @step i j d h1 h2 h3 ih =>
    obtain ⟨d', hd, hw⟩ := ih
    have k := ss_air h2
    exact ⟨_, by omega, .step h1 k.1 hw⟩
theorem least_get {nb : Nat → List Int} {st : Nat → Nat → Int} {t n i : Nat} {l : List Int} (h : IsFar nb st t n l) (hi : i < n) : Least nb st t i (l.getD i 0) := by
  have e : l[i]? = some (l.getD i 0) := by rw [List.getD_eq_getElem?_getD, List.getElem?_eq_getElem (by rw [h.1]; exact hi)]; rfl
  exact h.2 i _ e
theorem far_air {nb : Nat → List Int} {gs : List Int} {fl : Bool} {t n i : Nat} {l l' : List Int} (h : IsFar nb (fun _ j => (gs.map fun g => Fd.onto g fl).getD j 0) t n l) (h' : IsFar nb (fun _ j => (gs.map fun g => Fd.onto g true).getD j 0) t n l') (hi : i < n) (h0 : 0 ≤ l.getD i 0) : 0 ≤ l'.getD i 0 ∧ l'.getD i 0 ≤ l.getD i 0 := by
  rcases least_get h hi with ⟨e, _⟩ | ⟨hw, _⟩
  · omega
  · obtain ⟨d', hd, hw'⟩ := way_air hw
    rcases least_get h' hi with ⟨_, k⟩ | ⟨k1, k2⟩
    · exact absurd hw' (k _)
    · have := k2 _ hw'
      have := k1.nonneg
      omega

/-- two cells of a way, one behind the other. -/
theorem Pth.two {nb : Nat → List Int} {ss l : List Int} {t i : Nat} {p : List Int} (h : Pth nb ss l t i p) : ∀ k, k + 1 < p.length → ∃ x y : Nat, p[k]? = some (x : Int) ∧ p[k + 1]? = some (y : Int) ∧ Nx nb ss l x y := by
  induction h with
  | here => intro k hk; simp at hk
  | @step i j p h1 h2 h3 ih =>
    intro k hk
    cases k with
    | zero => exact ⟨i, j, rfl, by simpa using h3.head, h2⟩
    | succ k =>
      obtain ⟨x, y, a1, a2, a3⟩ := ih k (by simpa using hk)
      exact ⟨x, y, by simpa using a1, by simpa using a2, a3⟩
theorem Pth.pos {nb : Nat → List Int} {ss l : List Int} {t i : Nat} {p : List Int} (h : Pth nb ss l t i p) : 0 < p.length := by
  cases h <;> simp
/-- all cells of a way are cells. -/
theorem Pth.cells {nb : Nat → List Int} {ss l : List Int} {t i n : Nat} {p : List Int} (hn : ∀ (i j : Nat), i < n → (j : Int) ∈ nb i → j < n) (h : Pth nb ss l t i p) (hi : i < n) : ∀ (k : Nat) (x : Int), p[k]? = some x → ∃ y : Nat, x = y ∧ y < n := by
  induction h with
  | here =>
    intro k x hx
    cases k with
    | zero => simp at hx; exact ⟨t, hx.symm, hi⟩
    | succ k => simp at hx
  | @step i j p h1 h2 h3 ih =>
    intro k x hx
    cases k with
    | zero => simp at hx; exact ⟨i, hx.symm, hi⟩
    | succ k => exact ih (hn i j hi h2.is.1) k x (by simpa using hx)

/-! two small fields. -/
/-- Shut, asked of a list. -/
def chk (nb : Nat → List Int) (st : Nat → Nat → Int) (l : List Int) (n : Nat) : Bool := (List.range n).all fun i => (nb i).all fun x => decide (¬ (0 < st i x.toNat ∧ 0 ≤ l.getD x.toNat 0) ∨ (0 ≤ l.getD i 0 ∧ l.getD i 0 ≤ st i x.toNat + l.getD x.toNat 0))
theorem chk_shut {nb : Nat → List Int} {st : Nat → Nat → Int} {l : List Int} {n : Nat} (h : chk nb st l n = true) : ∀ i, i < n → Shut nb st l i := by
  intro i hi j x y hx hy hj h0 y0
  unfold chk at h
  rw [List.all_eq_true] at h
  have h1 := h i (List.mem_range.2 hi)
  rw [List.all_eq_true] at h1
  have h2 := of_decide_eq_true (h1 j hj)
  rw [Int.toNat_natCast, getD_of hx, getD_of hy] at h2
  rcases h2 with h2 | h2
  · exact absurd ⟨h0, y0⟩ h2
  · exact h2

def s6 : Nat → Nat → Int := fun _ j => (([0, 1, 0, 0, 3, 0] : List Int).map fun g => Fd.onto g false).getD j 0
theorem six : IsFar (Fd.near 3 2) s6 2 6 [5, 1, 0, 4, 2, 1] := by
  have w2 : Way (Fd.near 3 2) s6 2 2 0 := .here
  have w5 : Way (Fd.near 3 2) s6 2 5 1 := Way.step (nb := Fd.near 3 2) (st := s6) (i := 5) (j := 2) (by decide) (by decide) w2
  have w1 : Way (Fd.near 3 2) s6 2 1 1 := Way.step (nb := Fd.near 3 2) (st := s6) (i := 1) (j := 2) (by decide) (by decide) w2
  have w4 : Way (Fd.near 3 2) s6 2 4 2 := Way.step (nb := Fd.near 3 2) (st := s6) (i := 4) (j := 5) (by decide) (by decide) w5
  have w3 : Way (Fd.near 3 2) s6 2 3 4 := Way.step (nb := Fd.near 3 2) (st := s6) (i := 3) (j := 4) (by decide) (by decide) w4
  have w0 : Way (Fd.near 3 2) s6 2 0 5 := Way.step (nb := Fd.near 3 2) (st := s6) (i := 0) (j := 3) (by decide) (by decide) w3
  refine far_of rfl ?_ rfl ?_ (chk_shut (by decide))
  · intro i j hi hj
    obtain ⟨t, h1, h2, -⟩ := Fd.near_cell (W := 3) (H := 2) (by decide) hi hj
    omega
  · intro i x hx
    match i, hx with
    | 0, hx => simp at hx; subst hx; exact .inr w0
    | 1, hx => simp at hx; subst hx; exact .inr w1
    | 2, hx => simp at hx; subst hx; exact .inr w2
    | 3, hx => simp at hx; subst hx; exact .inr w3
    | 4, hx => simp at hx; subst hx; exact .inr w4
    | 5, hx => simp at hx; subst hx; exact .inr w5
    | i + 6, hx => simp at hx
def s3 : Nat → Nat → Int := fun i _ => (([0, 3, 0] : List Int).map fun g => Fd.onto g false).getD i 0
theorem three : IsFar (Fd.near 3 1) s3 0 3 [0, 2, 3] := by
  have w0 : Way (Fd.near 3 1) s3 0 0 0 := .here
  have w1 : Way (Fd.near 3 1) s3 0 1 2 := Way.step (nb := Fd.near 3 1) (st := s3) (i := 1) (j := 0) (by decide) (by decide) w0
  have w2 : Way (Fd.near 3 1) s3 0 2 3 := Way.step (nb := Fd.near 3 1) (st := s3) (i := 2) (j := 1) (by decide) (by decide) w1
  refine far_of rfl ?_ rfl ?_ (chk_shut (by decide))
  · intro i j hi hj
    obtain ⟨t, h1, h2, -⟩ := Fd.near_cell (W := 3) (H := 1) (by decide) hi hj
    omega
  · intro i x hx
    match i, hx with
    | 0, hx => simp at hx; subst hx; exact .inr w0
    | 1, hx => simp at hx; subst hx; exact .inr w1
    | 2, hx => simp at hx; subst hx; exact .inr w2
    | i + 3, hx => simp at hx
end Go.Proofs.YtkejdkajfnaieaaGreatDoor.Wy

namespace Go.Proofs.YtkejdkajfnaieaaGreatDoor
open Go.RowKit
set_option linter.unusedVariables false

namespace Wd
def bare (wd hg : Int) (gs os : List Int) : WV := ⟨0, 1, wd, hg, gs, os, [], [], []⟩
/-- what is told where a world is to begin. -/
def newFault (ks : List KV) (wd hg : Int) (gs os : List Int) (pls gold : Int) : Int := if ground ks (bare wd hg gs os) = 0 then (if (1 ≤ pls ∧ pls ≤ 4) ∧ 0 ≤ gold ∧ gold ≤ 1000000 then 0 else 1) else ground ks (bare wd hg gs os)
/-- the world that begins. -/
def begun (ks : List KV) (wd hg : Int) (gs os : List Int) (pls gold : Int) : WV := if newFault ks wd hg gs os pls gold = 0 then ⟨0, 1, wd, hg, gs, os, List.replicate pls.toNat gold, [], []⟩ else WV.zero
end Wd
theorem begun_bad {ks : List KV} {wd hg : Int} {gs os : List Int} {pls gold : Int} (h : Wd.newFault ks wd hg gs os pls gold ≠ 0) : Wd.begun ks wd hg gs os pls gold = WV.zero := by unfold Wd.begun; rw [if_neg h]
theorem begun_ok {ks : List KV} {wd hg : Int} {gs os : List Int} {pls gold : Int} (h : Wd.newFault ks wd hg gs os pls gold = 0) : Wd.begun ks wd hg gs os pls gold = ⟨0, 1, wd, hg, gs, os, List.replicate pls.toNat gold, [], []⟩ := by unfold Wd.begun; rw [if_pos h]
/-- a field in a box. -/
structure Bx (w : World) (z : Nat) (wd hg : Int) (u1 u2 : Value) : Prop where
  c0 : w.cell? ⟨z, 0, none⟩ = some (.int .i64 wd)
  c1 : w.cell? ⟨z, 1, none⟩ = some (.int .i64 hg)
  c2 : w.cell? ⟨z, 2, none⟩ = some u1
  c3 : w.cell? ⟨z, 3, none⟩ = some u2
theorem Bx.lt {w : World} {z : Nat} {wd hg : Int} {u1 u2 : Value} (h : Bx w z wd hg u1 u2) : z < w.heap.size := cell_lt h.c0
theorem Bx.below {w w' : World} {z n : Nat} {wd hg : Int} {u1 u2 : Value} (h : Bx w z wd hg u1 u2) (hb : Below n w w') (hn : z < n) : Bx w' z wd hg u1 u2 :=
  ⟨by rw [hb.cell (p := ⟨z, 0, none⟩) hn]; exact h.c0, by rw [hb.cell (p := ⟨z, 1, none⟩) hn]; exact h.c1, by rw [hb.cell (p := ⟨z, 2, none⟩) hn]; exact h.c2, by rw [hb.cell (p := ⟨z, 3, none⟩) hn]; exact h.c3⟩
theorem Bx.mk' {w : World} {z : Nat} (wd hg : Int) (u1 u2 : Value) (hz : w.heap.size = z) : Bx (w.alloc (.cells #[.int .i64 wd, .int .i64 hg, u1, u2] 25)) z wd hg u1 u2 := by
  subst hz
  constructor <;> simp
set_option maxRecDepth 100000 in
set_option maxHeartbeats 8000000 in
theorem new_any (vk vf : Value) (ks : List KV) (wd hg : Int) (gs os : List Int) (pls gold : Int) (w : World) (hk : Kl w vk ks) (hb : ∀ k ∈ ks, k.b.size ≤ 9223372036854775807) (hf : Fl w vf wd hg gs os) :
    Calls Tryz.prog 45 #[vk, vf, .int .i64 pls, .int .i64 gold] w fun e w' => ∃ u r, e = .returned (.tuple #[u, r]) ∧ Er r (Wd.newFault ks wd hg gs os pls gold) ∧ Wo w' w.heap.size u (Wd.begun ks wd hg gs os pls gold) ∧ Below w.heap.size w w' := by
  have K : Hid (Kl w vk ks ∧ ∀ k ∈ ks, k.b.size ≤ 9223372036854775807) := ⟨hk, hb⟩
  have F : Hid (Fl w vf wd hg gs os) := hf
  obtain ⟨u1, u2, rfl, r1, r2⟩ := hf
  obtain ⟨p1, q1, rfl, -⟩ := r1
  obtain ⟨p2, q2, rfl, -⟩ := r2
  clear hb hk
  go_enter Tryz.func45, Tryz.ntmps45
  go_upto_region 1 with fail
  have B0 : Hid (Below w.heap.size w ((w.alloc (.cells #[.int .i64 wd, .int .i64 hg, .slice p1 gs.length q1, .slice p2 os.length q2] 25)).alloc (.cells #[.int .i64 0, .int .i64 0, .int .i64 0, .int .i64 0, .slice none 0 0, .slice none 0 0, .slice none 0 0, .slice none 0 0, .slice none 0 0] 29))) := ((Below.refl _ _).alloc (Nat.le_refl _) _).alloc (by simp) _
  have X0 : Hid (Bx ((w.alloc (.cells #[.int .i64 wd, .int .i64 hg, .slice p1 gs.length q1, .slice p2 os.length q2] 25)).alloc (.cells #[.int .i64 0, .int .i64 0, .int .i64 0, .int .i64 0, .slice none 0 0, .slice none 0 0, .slice none 0 0, .slice none 0 0, .slice none 0 0] 29)) w.heap.size wd hg (.slice p1 gs.length q1) (.slice p2 os.length q2)) := (Bx.mk' (w := w) _ _ _ _ rfl).below ((Below.refl _ _).alloc (Nat.le_refl _) _) (by simp)
  have Z0 : Hid (Wx ((w.alloc (.cells #[.int .i64 wd, .int .i64 hg, .slice p1 gs.length q1, .slice p2 os.length q2] 25)).alloc (.cells #[.int .i64 0, .int .i64 0, .int .i64 0, .int .i64 0, .slice none 0 0, .slice none 0 0, .slice none 0 0, .slice none 0 0, .slice none 0 0] 29)) (w.heap.size + 1) (.int .i64 0) (.int .i64 0) (.int .i64 0) (.int .i64 0) (.slice none 0 0) (.slice none 0 0) (.slice none 0 0) (.slice none 0 0) (.slice none 0 0)) := Wx.new _ _ _ _ _ _ _ _ _ (by simp)
  have S0 : Hid (w.heap.size + 2 ≤ ((w.alloc (.cells #[.int .i64 wd, .int .i64 hg, .slice p1 gs.length q1, .slice p2 os.length q2] 25)).alloc (.cells #[.int .i64 0, .int .i64 0, .int .i64 0, .int .i64 0, .slice none 0 0, .slice none 0 0, .slice none 0 0, .slice none 0 0, .slice none 0 0] 29)).heap.size) := by unfold Hid; simp
  generalize ((w.alloc (.cells #[.int .i64 wd, .int .i64 hg, .slice p1 gs.length q1, .slice p2 os.length q2] 25)).alloc (.cells #[.int .i64 0, .int .i64 0, .int .i64 0, .int .i64 0, .slice none 0 0, .slice none 0 0, .slice none 0 0, .slice none 0 0, .slice none 0 0] 29)) = w0 at *
  obtain ⟨x0, x1, x2, x3⟩ := X0.out
  go_wp2_with fail
  refine (ground_any _ _ ks (Wd.bare wd hg gs os) w0 (K.out.1.below B0.out) K.out.2 (F.out.below B0.out)).mono ?_
  rintro e w1 ⟨r, rfl, hr, hb1⟩
  clear x0 x1 x2 x3
  have B1 : Hid (Below w.heap.size w w1) := B0.out.trans (hb1.mono B0.out.size)
  have X1 : Hid (Bx w1 w.heap.size wd hg (.slice p1 gs.length q1) (.slice p2 os.length q2)) := X0.out.below hb1 X0.out.lt
  have Z1 : Hid (Wx w1 (w.heap.size + 1) (.int .i64 0) (.int .i64 0) (.int .i64 0) (.int .i64 0) (.slice none 0 0) (.slice none 0 0) (.slice none 0 0) (.slice none 0 0) (.slice none 0 0)) := Z0.out.below hb1 Z0.out.lt
  have S1 : Hid (w.heap.size + 2 ≤ w1.heap.size) := Nat.le_trans S0.out hb1.size
  clear hb1 B0 X0 Z0 S0
  rcases hr with ⟨hf, rfl⟩ | ⟨hf, rfl⟩
  case inr =>
    obtain ⟨fe, hfe⟩ : ∃ f, Wd.ground ks (Wd.bare wd hg gs os) = f := ⟨_, rfl⟩
    have HFE : Hid (fe ≠ 0) := by rw [← hfe]; exact hf
    have FE : Hid (Wd.newFault ks wd hg gs os pls gold = fe) := by unfold Hid Wd.newFault; rw [if_neg hf]; exact hfe
    rw [hfe]
    clear hf hfe
    obtain ⟨z0, z1, z2, z3, z4, z5, z6, z7, z8⟩ := Z1.out.cells
    obtain ⟨t0, t1, t2, t3, t4, t5, t6, t7, t8⟩ := Z1.out.thaws
    have KZ : Hid (Kp (w.heap.size + 1) w1 (((((((((w1.setCell ⟨w.heap.size + 1, 0, none⟩ (.int .i64 0)).setCell ⟨w.heap.size + 1, 1, none⟩ (.int .i64 0)).setCell ⟨w.heap.size + 1, 2, none⟩ (.int .i64 0)).setCell ⟨w.heap.size + 1, 3, none⟩ (.int .i64 0)).setCell ⟨w.heap.size + 1, 4, none⟩ (.slice none 0 0)).setCell ⟨w.heap.size + 1, 5, none⟩ (.slice none 0 0)).setCell ⟨w.heap.size + 1, 6, none⟩ (.slice none 0 0)).setCell ⟨w.heap.size + 1, 7, none⟩ (.slice none 0 0)).setCell ⟨w.heap.size + 1, 8, none⟩ (.slice none 0 0))) := put_kp _ _ _ _ _ _ _ _ _ _ _
    obtain ⟨y0, y1, y2, y3, y4, y5, y6, y7, y8⟩ := (Z1.out.put (.int .i64 0) (.int .i64 0) (.int .i64 0) (.int .i64 0) (.slice none 0 0) (.slice none 0 0) (.slice none 0 0) (.slice none 0 0) (.slice none 0 0)).cells
    go_wp2
    clear z0 z1 z2 z3 z4 z5 z6 z7 z8 t0 t1 t2 t3 t4 t5 t6 t7 t8
    generalize (((((((((w1.setCell ⟨w.heap.size + 1, 0, none⟩ (.int .i64 0)).setCell ⟨w.heap.size + 1, 1, none⟩ (.int .i64 0)).setCell ⟨w.heap.size + 1, 2, none⟩ (.int .i64 0)).setCell ⟨w.heap.size + 1, 3, none⟩ (.int .i64 0)).setCell ⟨w.heap.size + 1, 4, none⟩ (.slice none 0 0)).setCell ⟨w.heap.size + 1, 5, none⟩ (.slice none 0 0)).setCell ⟨w.heap.size + 1, 6, none⟩ (.slice none 0 0)).setCell ⟨w.heap.size + 1, 7, none⟩ (.slice none 0 0)).setCell ⟨w.heap.size + 1, 8, none⟩ (.slice none 0 0)) = w9 at *
    refine bodyPost_ret (v := .tuple #[.agg #[.int .i64 0, .int .i64 0, .int .i64 0, .int .i64 0, .slice none 0 0, .slice none 0 0, .slice none 0 0, .slice none 0 0, .slice none 0 0], .iface 97 (.int .i64 fe)]) (by simp [results, Tryz.results45, go_sem, y0, y1, y2, y3, y4, y5, y6, y7, y8]) rfl ⟨_, _, rfl, by rw [FE.out]; exact Er.no HFE.out, by rw [begun_bad (by rw [FE.out]; exact HFE.out)]; exact zero_wo _ _, KZ.out.below B1.out B1.out.size (by omega)⟩
  have HF : Hid (Wd.ground ks (Wd.bare wd hg gs os) = 0) := hf
  have NF : Hid (Wd.newFault ks wd hg gs os pls gold = if (1 ≤ pls ∧ pls ≤ 4) ∧ 0 ≤ gold ∧ gold ≤ 1000000 then 0 else 1) := by unfold Hid Wd.newFault; rw [if_pos hf]
  have GL : Hid (gs.length ≤ 144 ∧ os.length ≤ 144) := by
    unfold Wd.ground at hf
    split at hf
    · obtain ⟨Wn, Hn, -, -, G⟩ := Fd.fault_zero hf
      have h1 := G.pos
      have h2 := G.gl
      have h3 := G.ol
      unfold Wd.bare at h2 h3
      exact ⟨by simp only at h2; omega, by simp only at h3; omega⟩
    · rename_i h0
      exact absurd hf h0
  clear hf
  by_cases hp : 1 ≤ pls ∧ pls ≤ 4
  case neg =>
    have t : decide (1 ≤ pls ∧ pls ≤ 4) = false := decide_eq_false hp
    have HFE : Hid ((1 : Int) ≠ 0) := by unfold Hid; decide
    have FE : Hid (Wd.newFault ks wd hg gs os pls gold = 1) := by unfold Hid; rw [NF.out, if_neg (fun h => hp h.1)]
    clear hp
    go_wp2_with fail
    refine (wwithin_any pls 1 4 w1).mono ?_
    rintro e w2 ⟨rfl, hww⟩
    obtain rfl := hww.symm
    rw [t]
    clear t
    obtain ⟨z0, z1, z2, z3, z4, z5, z6, z7, z8⟩ := Z1.out.cells
    obtain ⟨t0, t1, t2, t3, t4, t5, t6, t7, t8⟩ := Z1.out.thaws
    have KZ : Hid (Kp (w.heap.size + 1) w1 (((((((((w1.setCell ⟨w.heap.size + 1, 0, none⟩ (.int .i64 0)).setCell ⟨w.heap.size + 1, 1, none⟩ (.int .i64 0)).setCell ⟨w.heap.size + 1, 2, none⟩ (.int .i64 0)).setCell ⟨w.heap.size + 1, 3, none⟩ (.int .i64 0)).setCell ⟨w.heap.size + 1, 4, none⟩ (.slice none 0 0)).setCell ⟨w.heap.size + 1, 5, none⟩ (.slice none 0 0)).setCell ⟨w.heap.size + 1, 6, none⟩ (.slice none 0 0)).setCell ⟨w.heap.size + 1, 7, none⟩ (.slice none 0 0)).setCell ⟨w.heap.size + 1, 8, none⟩ (.slice none 0 0))) := put_kp _ _ _ _ _ _ _ _ _ _ _
    obtain ⟨y0, y1, y2, y3, y4, y5, y6, y7, y8⟩ := (Z1.out.put (.int .i64 0) (.int .i64 0) (.int .i64 0) (.int .i64 0) (.slice none 0 0) (.slice none 0 0) (.slice none 0 0) (.slice none 0 0) (.slice none 0 0)).cells
    go_wp2
    clear z0 z1 z2 z3 z4 z5 z6 z7 z8 t0 t1 t2 t3 t4 t5 t6 t7 t8
    generalize (((((((((w1.setCell ⟨w.heap.size + 1, 0, none⟩ (.int .i64 0)).setCell ⟨w.heap.size + 1, 1, none⟩ (.int .i64 0)).setCell ⟨w.heap.size + 1, 2, none⟩ (.int .i64 0)).setCell ⟨w.heap.size + 1, 3, none⟩ (.int .i64 0)).setCell ⟨w.heap.size + 1, 4, none⟩ (.slice none 0 0)).setCell ⟨w.heap.size + 1, 5, none⟩ (.slice none 0 0)).setCell ⟨w.heap.size + 1, 6, none⟩ (.slice none 0 0)).setCell ⟨w.heap.size + 1, 7, none⟩ (.slice none 0 0)).setCell ⟨w.heap.size + 1, 8, none⟩ (.slice none 0 0)) = w9 at *
    refine bodyPost_ret (v := .tuple #[.agg #[.int .i64 0, .int .i64 0, .int .i64 0, .int .i64 0, .slice none 0 0, .slice none 0 0, .slice none 0 0, .slice none 0 0, .slice none 0 0], .iface 97 (.int .i64 1)]) (by simp [results, Tryz.results45, go_sem, y0, y1, y2, y3, y4, y5, y6, y7, y8]) rfl ⟨_, _, rfl, by rw [FE.out]; exact Er.no HFE.out, by rw [begun_bad (by rw [FE.out]; exact HFE.out)]; exact zero_wo _ _, KZ.out.below B1.out B1.out.size (by omega)⟩
  have t : decide (1 ≤ pls ∧ pls ≤ 4) = true := decide_eq_true hp
  go_wp2_with fail
  refine (wwithin_any pls 1 4 w1).mono ?_
  rintro e w2 ⟨rfl, hww⟩
  obtain rfl := hww.symm
  rw [t]
  clear t
  by_cases hgd : 0 ≤ gold ∧ gold ≤ 1000000
  case neg =>
    have t : decide (0 ≤ gold ∧ gold ≤ 1000000) = false := decide_eq_false hgd
    have HFE : Hid ((1 : Int) ≠ 0) := by unfold Hid; decide
    have FE : Hid (Wd.newFault ks wd hg gs os pls gold = 1) := by unfold Hid; rw [NF.out, if_neg (fun h => hgd h.2)]
    clear hgd hp
    go_wp2_with fail
    refine (wwithin_any gold 0 1000000 w1).mono ?_
    rintro e w2 ⟨rfl, hww⟩
    obtain rfl := hww.symm
    rw [t]
    clear t
    obtain ⟨z0, z1, z2, z3, z4, z5, z6, z7, z8⟩ := Z1.out.cells
    obtain ⟨t0, t1, t2, t3, t4, t5, t6, t7, t8⟩ := Z1.out.thaws
    have KZ : Hid (Kp (w.heap.size + 1) w1 (((((((((w1.setCell ⟨w.heap.size + 1, 0, none⟩ (.int .i64 0)).setCell ⟨w.heap.size + 1, 1, none⟩ (.int .i64 0)).setCell ⟨w.heap.size + 1, 2, none⟩ (.int .i64 0)).setCell ⟨w.heap.size + 1, 3, none⟩ (.int .i64 0)).setCell ⟨w.heap.size + 1, 4, none⟩ (.slice none 0 0)).setCell ⟨w.heap.size + 1, 5, none⟩ (.slice none 0 0)).setCell ⟨w.heap.size + 1, 6, none⟩ (.slice none 0 0)).setCell ⟨w.heap.size + 1, 7, none⟩ (.slice none 0 0)).setCell ⟨w.heap.size + 1, 8, none⟩ (.slice none 0 0))) := put_kp _ _ _ _ _ _ _ _ _ _ _
    obtain ⟨y0, y1, y2, y3, y4, y5, y6, y7, y8⟩ := (Z1.out.put (.int .i64 0) (.int .i64 0) (.int .i64 0) (.int .i64 0) (.slice none 0 0) (.slice none 0 0) (.slice none 0 0) (.slice none 0 0) (.slice none 0 0)).cells
    go_wp2
    clear z0 z1 z2 z3 z4 z5 z6 z7 z8 t0 t1 t2 t3 t4 t5 t6 t7 t8
    generalize (((((((((w1.setCell ⟨w.heap.size + 1, 0, none⟩ (.int .i64 0)).setCell ⟨w.heap.size + 1, 1, none⟩ (.int .i64 0)).setCell ⟨w.heap.size + 1, 2, none⟩ (.int .i64 0)).setCell ⟨w.heap.size + 1, 3, none⟩ (.int .i64 0)).setCell ⟨w.heap.size + 1, 4, none⟩ (.slice none 0 0)).setCell ⟨w.heap.size + 1, 5, none⟩ (.slice none 0 0)).setCell ⟨w.heap.size + 1, 6, none⟩ (.slice none 0 0)).setCell ⟨w.heap.size + 1, 7, none⟩ (.slice none 0 0)).setCell ⟨w.heap.size + 1, 8, none⟩ (.slice none 0 0)) = w9 at *
    refine bodyPost_ret (v := .tuple #[.agg #[.int .i64 0, .int .i64 0, .int .i64 0, .int .i64 0, .slice none 0 0, .slice none 0 0, .slice none 0 0, .slice none 0 0, .slice none 0 0], .iface 97 (.int .i64 1)]) (by simp [results, Tryz.results45, go_sem, y0, y1, y2, y3, y4, y5, y6, y7, y8]) rfl ⟨_, _, rfl, by rw [FE.out]; exact Er.no HFE.out, by rw [begun_bad (by rw [FE.out]; exact HFE.out)]; exact zero_wo _ _, KZ.out.below B1.out B1.out.size (by omega)⟩
  have t : decide (0 ≤ gold ∧ gold ≤ 1000000) = true := decide_eq_true hgd
  have F0 : Hid (Wd.newFault ks wd hg gs os pls gold = 0) := by unfold Hid; rw [NF.out, if_pos ⟨hp, hgd⟩]
  go_wp2_with fail
  refine (wwithin_any gold 0 1000000 w1).mono ?_
  rintro e w2 ⟨rfl, hww⟩
  obtain rfl := hww.symm
  rw [t]
  clear t
  obtain ⟨n, rfl⟩ : ∃ n : Nat, pls = n := ⟨pls.toNat, by omega⟩
  have hn : 0 < n ∧ n ≤ 4 := by omega
  have HN : Hid (0 < n ∧ n ≤ 4) := hn
  clear hp hgd hn
  go_wp2_with fail
  have BA : Hid (Below w1.heap.size w1 (w1.alloc (Obj.cells #[.int .i64 gold] 3))) := (Below.refl _ _).alloc (Nat.le_refl _) _
  have RA : Hid (Ro (w1.alloc (Obj.cells #[.int .i64 gold] 3)) (.slice (some ⟨w1.heap.size, 0, none⟩) 1 1) [gold]) := Ro.lit1 gold rfl
  generalize (w1.alloc (Obj.cells #[.int .i64 gold] 3)) = wa at *
  refine (repeat_ok gold _ n wa RA.out (HN.out.1) (by have := HN.out.2; omega)).mono ?_
  rintro e w2 ⟨b, rfl, -, hbk, hb2⟩
  have BW : Hid (Below w1.heap.size w1 w2) := BA.out.trans (hb2.mono BA.out.size)
  have B2 : Hid (Below w.heap.size w w2) := B1.out.trans (BW.out.mono B1.out.size)
  have X2 : Hid (Bx w2 w.heap.size wd hg (.slice p1 gs.length q1) (.slice p2 os.length q2)) := X1.out.below BW.out X1.out.lt
  have Z2 : Hid (Wx w2 (w.heap.size + 1) (.int .i64 0) (.int .i64 0) (.int .i64 0) (.int .i64 0) (.slice none 0 0) (.slice none 0 0) (.slice none 0 0) (.slice none 0 0) (.slice none 0 0)) := Z1.out.below BW.out Z1.out.lt
  have S2 : Hid (w.heap.size + 2 ≤ w2.heap.size) := Nat.le_trans S1.out BW.out.size
  have G2 : Hid (Ro w2 (.slice (some ⟨b, 0, none⟩) n n) (List.replicate n gold)) := by
    unfold Hid
    have := hbk.ro (c := n) (by simp) (by have := HN.out.2; omega)
    simpa using this
  clear hb2 hbk B1 X1 Z1 S1 BA RA BW
  obtain ⟨x0, x1, x2, x3⟩ := X2.out
  go_wp2_with fail
  have F2 := F.out.below B2.out
  obtain ⟨v1, v2, he, f1, f2⟩ := F2
  injection he with he
  simp only [Array.mk.injEq, List.cons.injEq, and_true, true_and] at he
  obtain ⟨rfl, rfl⟩ := he
  refine (copy_any _ ⟨0, 1, wd, hg, gs, os, List.replicate n gold, [], []⟩ w2 ⟨_, _, _, _, _, rfl, f1, f2, G2.out, ⟨none, 0, rfl, Nat.le_refl _, by omega, fun h => absurd rfl h⟩, ⟨none, 0, rfl, Nat.le_refl _, by omega, fun h => absurd rfl h⟩⟩ ⟨by have := GL.out.1; simp only; omega, by have := GL.out.2; simp only; omega, by have := HN.out.2; simp only [List.length_replicate]; omega, by simp, by simp⟩).mono ?_
  rintro e w3 ⟨u, rfl, ho, hb3⟩
  clear f1 f2 x0 x1 x2 x3
  have B3 : Hid (Below w.heap.size w w3) := B2.out.trans (hb3.mono B2.out.size)
  have Z3 : Hid (Wx w3 (w.heap.size + 1) (.int .i64 0) (.int .i64 0) (.int .i64 0) (.int .i64 0) (.slice none 0 0) (.slice none 0 0) (.slice none 0 0) (.slice none 0 0) (.slice none 0 0)) := Z2.out.below hb3 Z2.out.lt
  obtain ⟨v1, v2, v3, v4, v5, rfl, o1, o2, o3, o4, o5⟩ := ho.wo.mono S2.out
  have O3 : Hid (Ow w3 (w.heap.size + 2) v1 gs ∧ Ow w3 (w.heap.size + 2) v2 os ∧ Ow w3 (w.heap.size + 2) v3 (List.replicate n gold) ∧ Uno w3 (w.heap.size + 2) v4 [] ∧ Jbo w3 (w.heap.size + 2) v5 []) := ⟨o1, o2, o3, o4, o5⟩
  obtain ⟨a1, b1, rfl⟩ := o1.len
  obtain ⟨a2, b2, rfl⟩ := o2.len
  obtain ⟨a3, b3, rfl⟩ := o3.len
  obtain ⟨a4, b4, rfl⟩ := o4.len
  obtain ⟨a5, b5, rfl⟩ := o5.len
  simp only [List.length_replicate, List.length_nil] at O3 ⊢
  clear ho hb3 o1 o2 o3 o4 o5 B2 X2 Z2 S2 G2
  obtain ⟨z0, z1, z2, z3, z4, z5, z6, z7, z8⟩ := Z3.out.cells
  obtain ⟨t0, t1, t2, t3, t4, t5, t6, t7, t8⟩ := Z3.out.thaws
  have KZ : Hid (Kp (w.heap.size + 1) w3 (((((((((w3.setCell ⟨w.heap.size + 1, 0, none⟩ (.int .i64 0)).setCell ⟨w.heap.size + 1, 1, none⟩ (.int .i64 1)).setCell ⟨w.heap.size + 1, 2, none⟩ (.int .i64 wd)).setCell ⟨w.heap.size + 1, 3, none⟩ (.int .i64 hg)).setCell ⟨w.heap.size + 1, 4, none⟩ (.slice a1 gs.length b1)).setCell ⟨w.heap.size + 1, 5, none⟩ (.slice a2 os.length b2)).setCell ⟨w.heap.size + 1, 6, none⟩ (.slice a3 n b3)).setCell ⟨w.heap.size + 1, 7, none⟩ (.slice a4 0 b4)).setCell ⟨w.heap.size + 1, 8, none⟩ (.slice a5 0 b5))) := put_kp _ _ _ _ _ _ _ _ _ _ _
  obtain ⟨y0, y1, y2, y3, y4, y5, y6, y7, y8⟩ := (Z3.out.put (.int .i64 0) (.int .i64 1) (.int .i64 wd) (.int .i64 hg) (.slice a1 gs.length b1) (.slice a2 os.length b2) (.slice a3 n b3) (.slice a4 0 b4) (.slice a5 0 b5)).cells
  go_wp2
  clear z0 z1 z2 z3 z4 z5 z6 z7 z8 t0 t1 t2 t3 t4 t5 t6 t7 t8
  generalize (((((((((w3.setCell ⟨w.heap.size + 1, 0, none⟩ (.int .i64 0)).setCell ⟨w.heap.size + 1, 1, none⟩ (.int .i64 1)).setCell ⟨w.heap.size + 1, 2, none⟩ (.int .i64 wd)).setCell ⟨w.heap.size + 1, 3, none⟩ (.int .i64 hg)).setCell ⟨w.heap.size + 1, 4, none⟩ (.slice a1 gs.length b1)).setCell ⟨w.heap.size + 1, 5, none⟩ (.slice a2 os.length b2)).setCell ⟨w.heap.size + 1, 6, none⟩ (.slice a3 n b3)).setCell ⟨w.heap.size + 1, 7, none⟩ (.slice a4 0 b4)).setCell ⟨w.heap.size + 1, 8, none⟩ (.slice a5 0 b5)) = w9 at *
  refine bodyPost_ret (v := .tuple #[.agg #[.int .i64 0, .int .i64 1, .int .i64 wd, .int .i64 hg, .slice a1 gs.length b1, .slice a2 os.length b2, .slice a3 n b3, .slice a4 0 b4, .slice a5 0 b5], .nilIface]) (by simp [results, Tryz.results45, go_sem, y0, y1, y2, y3, y4, y5, y6, y7, y8]) rfl ⟨_, _, rfl, by rw [F0.out]; exact Er.nil, ?_, KZ.out.below B3.out B3.out.size (by omega)⟩
  rw [begun_ok F0.out, Int.toNat_natCast]
  exact ⟨_, _, _, _, _, rfl, (O3.out.1.kp KZ.out (by omega)).mono (by omega), (O3.out.2.1.kp KZ.out (by omega)).mono (by omega), (O3.out.2.2.1.kp KZ.out (by omega)).mono (by omega), (O3.out.2.2.2.1.kp KZ.out (by omega)).mono (by omega), (O3.out.2.2.2.2.kp KZ.out (by omega)).mono (by omega)⟩
end Go.Proofs.YtkejdkajfnaieaaGreatDoor

namespace Go.Proofs.YtkejdkajfnaieaaGreatDoor.Fd

/-- the sign of a ground. -/
def gsign (g : Int) : UInt8 := if g = 0 then 46 else if g = 1 then 35 else if g = 2 then 126 else 94
/-- the sign of a cell. -/
def sgn (g o : Int) : UInt8 := if o = 0 then gsign g else if o % 10 = 0 ∧ o ≤ 90 then (48 + (o / 10).toNat).toUInt8 else 43
def cellsTo (W : Nat) (gs os : List Int) (r c : Nat) : List UInt8 := (List.range c).map fun j => sgn (gs.getD (r * W + j) 0) (os.getD (r * W + j) 0)
def rowsTo (W : Nat) (gs os : List Int) : Nat → List UInt8
  | 0 => []
  | r + 1 => rowsTo W gs os r ++ (cellsTo W gs os r W ++ [10])
/-- a field as text. -/
def prt (W H : Nat) (gs os : List Int) : List UInt8 := rowsTo W gs os H

theorem cellsTo_succ (W : Nat) (gs os : List Int) (r c : Nat) : cellsTo W gs os r (c + 1) = cellsTo W gs os r c ++ [sgn (gs.getD (r * W + c) 0) (os.getD (r * W + c) 0)] := by
  unfold cellsTo
  rw [List.range_succ, List.map_append]
  rfl
theorem cellsTo_len (W : Nat) (gs os : List Int) (r c : Nat) : (cellsTo W gs os r c).length = c := by
  unfold cellsTo
  simp
theorem rowsTo_len (W : Nat) (gs os : List Int) (r : Nat) : (rowsTo W gs os r).length = r * (W + 1) := by
  induction r with
  | zero => simp [rowsTo]
  | succ r ih =>
    simp only [rowsTo, List.length_append, ih, cellsTo_len, List.length_cons, List.length_nil]
    rw [Nat.add_mul]
    omega

/-- a field as far as its text is read. -/
structure St where
  c : Nat
  W : Nat
  H : Nat
  gs : List Int
  os : List Int
def st0 : St := ⟨0, 0, 0, [], []⟩
/-- what a sign stands for. -/
def meant (b : UInt8) : Option (Int × Int) :=
  if 49 ≤ b.toNat ∧ b.toNat ≤ 57 then some (0, ((b.toNat : Int) - 48) * 10) else if b = 46 then some (0, 0) else if b = 35 then some (1, 0) else if b = 126 then some (2, 0) else if b = 94 then some (3, 0) else none
/-- one byte more. -/
def step (s : St) (b : UInt8) : Int ⊕ St :=
  if b = 10 then (if s.c = 0 ∨ (0 < s.H ∧ s.c ≠ s.W) then .inl 2 else .inr ⟨0, s.c, s.H + 1, s.gs, s.os⟩)
  else match meant b with
    | none => .inl 2
    | some (g, o) => if 0 < s.H ∧ s.c = s.W then .inl 2 else if s.c = 12 ∨ s.H = 12 then .inl 4 else .inr ⟨s.c + 1, s.W, s.H, s.gs ++ [g], s.os ++ [o]⟩
def run : St → Nat → List UInt8 → (Nat × Int) ⊕ St
  | s, _, [] => .inr s
  | s, i, b :: bs => match step s b with
    | .inl e => .inl (i, e)
    | .inr s' => run s' (i + 1) bs
/-- what is wrong, and where; else the field. -/
def parse (l : List UInt8) : (Nat × Int) ⊕ St :=
  match run st0 0 l with
  | .inl x => .inl x
  | .inr s => if 0 < s.c ∨ s.H = 0 then .inl (l.length, 2) else .inr s

theorem run_cons (s : St) (i : Nat) (b : UInt8) (bs : List UInt8) : run s i (b :: bs) = match step s b with | .inl e => .inl (i, e) | .inr s' => run s' (i + 1) bs := rfl
theorem run_append (s : St) (i : Nat) (l m : List UInt8) : run s i (l ++ m) = match run s i l with | .inl x => .inl x | .inr s' => run s' (i + l.length) m := by
  induction l generalizing s i with
  | nil => simp [run]
  | cons b bs ih =>
    rw [List.cons_append, run_cons, run_cons]
    cases step s b with
    | inl e => rfl
    | inr s' =>
      simp only
      rw [ih, List.length_cons, show i + 1 + bs.length = i + (bs.length + 1) by omega]

/-- what may be read. -/
def Tens (g o : Int) : Prop := 0 ≤ g ∧ g ≤ 3 ∧ 0 ≤ o ∧ o ≤ 90 ∧ o % 10 = 0 ∧ (0 < o → g = 0)
theorem meant_sgn {b : UInt8} {g o : Int} (h : meant b = some (g, o)) : sgn g o = b ∧ Tens g o := by
  unfold meant at h
  split at h
  · rename_i hb
    simp only [Option.some.injEq, Prod.mk.injEq] at h
    obtain ⟨rfl, rfl⟩ := h
    have e1 : (((b.toNat : Int) - 48) * 10) / 10 = (b.toNat : Int) - 48 := by omega
    refine ⟨?_, by unfold Tens; omega⟩
    unfold sgn
    rw [if_neg (by omega), if_pos (by omega), e1, show 48 + ((b.toNat : Int) - 48).toNat = b.toNat by omega]
    exact UInt8.ofNat_toNat
  · split at h
    · rename_i hb
      simp only [Option.some.injEq, Prod.mk.injEq] at h
      obtain ⟨rfl, rfl⟩ := h
      exact ⟨by rw [hb]; rfl, by unfold Tens; omega⟩
    · split at h
      · rename_i hb
        simp only [Option.some.injEq, Prod.mk.injEq] at h
        obtain ⟨rfl, rfl⟩ := h
        exact ⟨by rw [hb]; rfl, by unfold Tens; omega⟩
      · split at h
        · rename_i hb
          simp only [Option.some.injEq, Prod.mk.injEq] at h
          obtain ⟨rfl, rfl⟩ := h
          exact ⟨by rw [hb]; rfl, by unfold Tens; omega⟩
        · split at h
          · rename_i hb
            simp only [Option.some.injEq, Prod.mk.injEq] at h
            obtain ⟨rfl, rfl⟩ := h
            exact ⟨by rw [hb]; rfl, by unfold Tens; omega⟩
          · cases h
theorem sgn_meant {g o : Int} (h : Tens g o) : meant (sgn g o) = some (g, o) ∧ sgn g o ≠ 10 := by
  obtain ⟨h1, h2, h3, h4, h5, h6⟩ := h
  by_cases h0 : o = 0
  · subst h0
    have hg : g = 0 ∨ g = 1 ∨ g = 2 ∨ g = 3 := by omega
    rcases hg with rfl | rfl | rfl | rfl
    all_goals exact ⟨by decide, by decide⟩
  · obtain rfl := h6 (by omega)
    have ho : o = 10 ∨ o = 20 ∨ o = 30 ∨ o = 40 ∨ o = 50 ∨ o = 60 ∨ o = 70 ∨ o = 80 ∨ o = 90 := by omega
    rcases ho with rfl | rfl | rfl | rfl | rfl | rfl | rfl | rfl | rfl
    all_goals exact ⟨by decide, by decide⟩

theorem getD_snoc_lt {l : List Int} {x : Int} {i : Nat} (h : i < l.length) : (l ++ [x]).getD i 0 = l.getD i 0 := by
  rw [List.getD_eq_getElem?_getD, List.getD_eq_getElem?_getD, List.getElem?_append_left h]
theorem getD_snoc_len {l : List Int} {x : Int} {i : Nat} (h : i = l.length) : (l ++ [x]).getD i 0 = x := by
  subst h
  rw [List.getD_eq_getElem?_getD, List.getElem?_append_right (Nat.le_refl _)]
  simp
theorem cellsTo_snoc {W : Nat} {gs os : List Int} {g o : Int} {r c : Nat} (h1 : r * W + c ≤ gs.length) (h2 : r * W + c ≤ os.length) : cellsTo W (gs ++ [g]) (os ++ [o]) r c = cellsTo W gs os r c := by
  induction c with
  | zero => rfl
  | succ c ih =>
    rw [cellsTo_succ, cellsTo_succ, ih (by omega) (by omega), getD_snoc_lt (by omega), getD_snoc_lt (by omega)]
theorem rowsTo_snoc {W : Nat} {gs os : List Int} {g o : Int} {r : Nat} (h1 : r * W ≤ gs.length) (h2 : r * W ≤ os.length) : rowsTo W (gs ++ [g]) (os ++ [o]) r = rowsTo W gs os r := by
  induction r with
  | zero => rfl
  | succ r ih =>
    rw [Nat.add_mul] at h1 h2
    simp only [rowsTo]
    rw [ih (by omega) (by omega), cellsTo_snoc (by omega) (by omega)]
theorem cellsTo_row0 (W V : Nat) (gs os : List Int) (c : Nat) : cellsTo W gs os 0 c = cellsTo V gs os 0 c := by
  unfold cellsTo
  simp

/-- what holds of a field as far as its text l is read. -/
structure Inv (s : St) (l : List UInt8) : Prop where
  w0 : s.H = 0 → s.W = 0
  wp : 0 < s.H → 0 < s.W
  cw : 0 < s.H → s.c ≤ s.W
  c12 : s.c ≤ 12
  w12 : s.W ≤ 12
  h12 : s.H ≤ 12
  top : s.H = 12 → s.c = 0
  gl : s.gs.length = s.H * s.W + s.c
  ol : s.os.length = s.H * s.W + s.c
  tens : ∀ (i : Nat) g o, s.gs[i]? = some g → s.os[i]? = some o → Tens g o
  text : l = rowsTo s.W s.gs s.os s.H ++ cellsTo s.W s.gs s.os s.H s.c
theorem inv0 : Inv st0 [] := ⟨fun _ => rfl, fun h => by simp [st0] at h, fun h => by simp [st0] at h, by simp [st0], by simp [st0], by simp [st0], fun h => by simp [st0] at h, rfl, rfl, fun i g o h => by simp [st0] at h, rfl⟩

theorem snoc_get {l : List Int} {x y : Int} {i : Nat} (h : (l ++ [x])[i]? = some y) : (i < l.length ∧ l[i]? = some y) ∨ (i = l.length ∧ y = x) := by
  rcases Nat.lt_or_ge i l.length with h1 | h1
  · left; rw [List.getElem?_append_left h1] at h; exact ⟨h1, h⟩
  · right
    rw [List.getElem?_append_right h1] at h
    have h2 : i - l.length = 0 := by
      rcases Nat.eq_zero_or_pos (i - l.length) with h2 | h2
      · exact h2
      · rw [List.getElem?_eq_none (by simp; omega)] at h; cases h
    rw [h2] at h
    simp at h
    exact ⟨by omega, h.symm⟩

theorem Inv.step {s s' : St} {l : List UInt8} {b : UInt8} (h : Inv s l) (hs : step s b = .inr s') : Inv s' (l ++ [b]) := by
  unfold Fd.step at hs
  split at hs
  · rename_i hb
    subst hb
    split at hs
    · cases hs
    · rename_i hc
      injection hs with hs
      subst hs
      have hc0 : 0 < s.c := by omega
      have hcw : 0 < s.H → s.c = s.W := by omega
      have hh : s.H ≠ 12 := fun e => by have := h.top e; omega
      have h12 := h.h12; have c12 := h.c12
      have el : s.H * s.W + s.c = (s.H + 1) * s.c := by
        rcases Nat.eq_zero_or_pos s.H with e | e
        · rw [e]; simp
        · rw [← hcw e, Nat.add_mul, Nat.one_mul]
      refine ⟨by simp, by simp; exact hc0, by simp, by simp, c12, by show s.H + 1 ≤ 12; omega, by simp, ?_, ?_, h.tens, ?_⟩
      · show s.gs.length = (s.H + 1) * s.c + 0; rw [h.gl, el]; rfl
      · show s.os.length = (s.H + 1) * s.c + 0; rw [h.ol, el]; rfl
      · show l ++ [10] = rowsTo s.c s.gs s.os (s.H + 1) ++ cellsTo s.c s.gs s.os (s.H + 1) 0
        rw [h.text]
        simp only [rowsTo]
        rcases Nat.eq_zero_or_pos s.H with e | e
        · rw [e, cellsTo_row0 s.W s.c]
          simp [rowsTo, cellsTo]
        · rw [← hcw e]
          simp [cellsTo]
  · split at hs
    · cases hs
    · rename_i g o hm
      split at hs
      · cases hs
      · split at hs
        · cases hs
        · rename_i h1 h2
          injection hs with hs
          subst hs
          obtain ⟨e1, e2⟩ := meant_sgn hm
          have cw := h.cw; have c12 := h.c12; have h12 := h.h12
          refine ⟨h.w0, h.wp, fun hp => ?_, ?_, h.w12, h.h12, fun e => ?_, ?_, ?_, ?_, ?_⟩
          · show s.c + 1 ≤ s.W; have := cw hp; have : 0 < s.H := hp; omega
          · show s.c + 1 ≤ 12; omega
          · exfalso; have : s.H = 12 := e; omega
          · show (s.gs ++ [g]).length = s.H * s.W + (s.c + 1); rw [List.length_append, h.gl]; rfl
          · show (s.os ++ [o]).length = s.H * s.W + (s.c + 1); rw [List.length_append, h.ol]; rfl
          · intro i g' o' hg ho
            rcases snoc_get hg with ⟨l1, q1⟩ | ⟨l1, q1⟩
            · rcases snoc_get ho with ⟨l2, q2⟩ | ⟨l2, q2⟩
              · exact h.tens i g' o' q1 q2
              · have := h.gl; have := h.ol; omega
            · rcases snoc_get ho with ⟨l2, q2⟩ | ⟨l2, q2⟩
              · have := h.gl; have := h.ol; omega
              · rw [q1, q2]; exact e2
          · show l ++ [b] = rowsTo s.W (s.gs ++ [g]) (s.os ++ [o]) s.H ++ cellsTo s.W (s.gs ++ [g]) (s.os ++ [o]) s.H (s.c + 1)
            have := h.gl; have := h.ol
            rw [rowsTo_snoc (by omega) (by omega), cellsTo_succ, cellsTo_snoc (by omega) (by omega), getD_snoc_len (by omega), getD_snoc_len (by omega), e1, h.text, List.append_assoc]
theorem Inv.run {s s' : St} {l m : List UInt8} {i : Nat} (h : Inv s l) (hs : run s i m = .inr s') : Inv s' (l ++ m) := by
  induction m generalizing s l i with
  | nil =>
    simp only [Fd.run] at hs
    injection hs with hs
    subst hs
    simpa using h
  | cons b bs ih =>
    rw [run_cons] at hs
    cases hb : Fd.step s b with
    | inl e => rw [hb] at hs; cases hs
    | inr s1 =>
      rw [hb] at hs
      have := ih (h.step hb) hs
      rwa [List.append_assoc] at this

/-- what is read is printed as it was. -/
theorem parse_back {l : List UInt8} {s : St} (h : parse l = .inr s) : Good s.W s.H s.gs s.os ∧ prt s.W s.H s.gs s.os = l ∧ s.c = 0 := by
  unfold parse at h
  cases hr : run st0 0 l with
  | inl x => rw [hr] at h; cases h
  | inr s1 =>
    rw [hr] at h
    simp only at h
    split at h
    · cases h
    · rename_i hc
      injection h with h
      subst h
      have hi := inv0.run hr
      have hc0 : s1.c = 0 := by omega
      have hH : 0 < s1.H := by omega
      have t := hi.text
      have gl := hi.gl; have ol := hi.ol
      rw [hc0] at t gl ol
      refine ⟨⟨hi.wp hH, hi.w12, hH, hi.h12, by rw [gl, Nat.mul_comm]; rfl, by rw [ol, Nat.mul_comm]; rfl, fun i g o h1 h2 => ?_⟩, ?_, hc0⟩
      · obtain ⟨t1, t2, t3, t4, t5, t6⟩ := hi.tens i g o h1 h2
        exact ⟨t1, t2, t3, by omega, t6⟩
      · unfold prt
        simpa [cellsTo] using t.symm

theorem step_sign {s : St} {b : UInt8} {g o : Int} (hb : b ≠ 10) (hm : meant b = some (g, o)) (h1 : ¬ (0 < s.H ∧ s.c = s.W)) (h2 : s.c ≠ 12) (h3 : s.H ≠ 12) : step s b = .inr ⟨s.c + 1, s.W, s.H, s.gs ++ [g], s.os ++ [o]⟩ := by
  unfold step
  rw [if_neg hb, hm]
  simp only
  rw [if_neg h1, if_neg (by omega)]
theorem step_end {s : St} (h1 : s.c ≠ 0) (h2 : 0 < s.H → s.c = s.W) : step s 10 = .inr ⟨0, s.c, s.H + 1, s.gs, s.os⟩ := by
  unfold step
  rw [if_pos rfl, if_neg (by omega)]
theorem take_snoc {l : List Int} {k : Nat} (h : k < l.length) : l.take (k + 1) = l.take k ++ [l.getD k 0] := by
  rw [List.take_succ_eq_append_getElem h, List.getD_eq_getElem?_getD, List.getElem?_eq_getElem h]
  rfl

section
variable {W H : Nat} {gs os : List Int} (G : Good W H gs os) (ht : ∀ o ∈ os, o ≤ 90 ∧ o % 10 = 0)
include G ht
theorem run_cells (r c i : Nat) (hr : r < H) (hc : c ≤ W) :
    run ⟨0, if r = 0 then 0 else W, r, gs.take (r * W), os.take (r * W)⟩ i (cellsTo W gs os r c) = .inr ⟨c, if r = 0 then 0 else W, r, gs.take (r * W + c), os.take (r * W + c)⟩ := by
  induction c with
  | zero => simp [cellsTo, run]
  | succ c ih =>
    have hl : r * W + c < W * H := by
      have := Nat.mul_le_mul_right W (show r + 1 ≤ H by omega)
      rw [Nat.add_mul, Nat.mul_comm H W] at this
      omega
    have hg : r * W + c < gs.length := by rw [G.gl]; exact hl
    have ho : r * W + c < os.length := by rw [G.ol]; exact hl
    have eg : gs[r * W + c]? = some (gs.getD (r * W + c) 0) := by rw [List.getD_eq_getElem?_getD, List.getElem?_eq_getElem hg]; rfl
    have eo : os[r * W + c]? = some (os.getD (r * W + c) 0) := by rw [List.getD_eq_getElem?_getD, List.getElem?_eq_getElem ho]; rfl
    obtain ⟨t1, t2, t3, t4, t5⟩ := G.cell _ _ _ eg eo
    obtain ⟨u1, u2⟩ := ht _ (List.mem_of_getElem? eo)
    obtain ⟨m1, m2⟩ := sgn_meant ⟨t1, t2, t3, u1, u2, t5⟩
    have w2 := G.w2; have h2 := G.h2
    rw [cellsTo_succ, run_append, ih (by omega)]
    simp only
    rw [run_cons, step_sign m2 m1 (by simp only; rintro ⟨q1, q2⟩; rw [if_neg (by omega)] at q2; omega) (by simp only; omega) (by simp only; omega)]
    simp only [run]
    rw [show r * W + (c + 1) = (r * W + c) + 1 by omega, take_snoc hg, take_snoc ho]
theorem run_rows (r i : Nat) (hr : r ≤ H) :
    run st0 i (rowsTo W gs os r) = .inr ⟨0, if r = 0 then 0 else W, r, gs.take (r * W), os.take (r * W)⟩ := by
  induction r with
  | zero => simp [rowsTo, run, st0]
  | succ r ih =>
    have w1 := G.w1
    simp only [rowsTo]
    rw [run_append, ih (by omega)]
    simp only
    rw [run_append, run_cells G ht r W _ (by omega) (Nat.le_refl _)]
    simp only
    rw [run_cons, step_end (by simp only; omega) (by simp only; intro q; rw [if_neg (by omega)])]
    simp only [run]
    rw [if_neg (by omega), Nat.add_mul, Nat.one_mul]
/-- what is printed is read as it was. -/
theorem parse_prt : parse (prt W H gs os) = .inr ⟨0, W, H, gs, os⟩ := by
  have h1 := G.h1
  unfold parse prt
  rw [run_rows G ht H 0 (Nat.le_refl _)]
  simp only
  rw [if_neg (by omega), if_neg (by omega), Nat.mul_comm H W, ← G.gl, List.take_length, G.gl, ← G.ol, List.take_length]
end
end Go.Proofs.YtkejdkajfnaieaaGreatDoor.Fd

namespace Go.Proofs.YtkejdkajfnaieaaGreatDoor
set_option linter.unusedVariables false

/-- a fact's kinds. -/
def SK : List KV := [⟨⟨#[98, 97, 115, 101]⟩, 50, 0, 0, 4, 0, 50, 5, 0, false, true⟩, ⟨⟨#[100, 105, 103, 103, 101, 114]⟩, 10, 0, 0, 3, 2, 10, 2, 20, false, false⟩, ⟨⟨#[102, 105, 103, 104, 116, 101, 114]⟩, 20, 4, 1, 4, 2, 20, 3, 0, false, false⟩]
def SG : List Int := [0, 0, 0, 0, 0, 0, 0, 0]
def SO : List Int := [0, 0, 0, 0, 0, 0, 30, 0]
/-- the small world, with none, one, two and three units. -/
def S0 : WV := ⟨0, 1, 4, 2, SG, SO, [100, 100], [], []⟩
def S1 : WV := ⟨0, 2, 4, 2, SG, SO, [100, 100], [⟨1, 0, 0, 0, 50, 0, 0, 0⟩], []⟩
def S2 : WV := ⟨0, 3, 4, 2, SG, SO, [100, 100], [⟨1, 0, 0, 0, 50, 0, 0, 0⟩, ⟨2, 0, 1, 1, 10, 0, 0, 0⟩], []⟩
def S3 : WV := ⟨0, 4, 4, 2, SG, SO, [100, 100], [⟨1, 0, 0, 0, 50, 0, 0, 0⟩, ⟨2, 0, 1, 1, 10, 0, 0, 0⟩, ⟨3, 1, 2, 3, 20, 0, 0, 0⟩], []⟩
theorem sm_parse : Fd.parse [46, 46, 46, 46, 10, 46, 46, 51, 46, 10] = .inr ⟨0, 4, 2, SG, SO⟩ := by rfl
theorem sm_f0 : Wd.newFault SK 4 2 SG SO 2 100 = 0 := by decide +kernel
theorem sm_f1 : Wd.putFault SK S0 0 0 0 = 0 := by decide +kernel
theorem sm_f2 : Wd.putFault SK S1 0 1 1 = 0 := by decide +kernel
theorem sm_f3 : Wd.putFault SK S2 1 2 3 = 0 := by decide +kernel
theorem sm_0 : Wd.begun SK 4 2 SG SO 2 100 = S0 := begun_ok sm_f0
theorem sm_1 : Wd.placed SK S0 0 0 0 = S1 := (placed_ok sm_f1).trans rfl
theorem sm_2 : Wd.placed SK S1 0 1 1 = S2 := (placed_ok sm_f2).trans rfl
theorem sm_3 : Wd.placed SK S2 1 2 3 = S3 := (placed_ok sm_f3).trans rfl
theorem sm_names : ∀ k ∈ SK, k.b.size ≤ 9223372036854775807 := by
  intro k hk
  unfold SK at hk
  rcases List.mem_cons.1 hk with rfl | hk
  · decide
  rcases List.mem_cons.1 hk with rfl | hk
  · decide
  rcases List.mem_cons.1 hk with rfl | hk
  · decide
  · cases hk
end Go.Proofs.YtkejdkajfnaieaaGreatDoor

namespace Go.Proofs.YtkejdkajfnaieaaGreatDoor
namespace So
set_option linter.unusedVariables false
def isTr (o : OrV) : Bool := decide (o.what = 3)
theorem kp_trains {l : List OrV} : ∀ (q : Nat), q ≤ l.length → ((kp l q).map Prod.fst).countP isTr = (l.take q).countP isTr
  | 0, _ => by simp [kp]
  | q + 1, h => by
    have hq : q < l.length := by omega
    have ih := kp_trains (l := l) q (by omega)
    obtain ⟨o, ho⟩ : ∃ o, l[q]? = some o := ⟨_, List.getElem?_eq_getElem hq⟩
    rw [List.take_succ_eq_append_getElem hq, List.countP_append, ← ih]
    have e : l[q] = o := by have := List.getElem?_eq_getElem hq; rw [ho] at this; exact (Option.some.inj this).symm
    rw [e]
    by_cases hc : o.what = 3 ∨ lf l l.length o.player o.unit = (q : Nat)
    · rw [kp_yes ho hc, List.map_append, List.countP_append]
      rfl
    · rw [kp_no ho hc]
      have h3 : isTr o = false := by unfold isTr; exact decide_eq_false (fun h => hc (.inl h))
      simp [h3]
theorem LastSays.trains {l out : List OrV} (h : LastSays l out) : out.countP isTr = l.countP isTr := by
  obtain ⟨S, p, r, rfl⟩ := h
  have h1 := kp_trains (l := l) l.length (Nat.le_refl _)
  rw [List.take_length] at h1
  rw [← h1]
  exact (p.map Prod.fst).countP_eq isTr
theorem LastSays.has {l out : List OrV} (h : LastSays l out) {i : Nat} {o : OrV} (ho : l[i]? = some o) (h3 : ¬ o.what = 3) (hn : ∀ (k : Nat) x, i < k → k < l.length → l[k]? = some x → x.what = 3 ∨ x.player ≠ o.player ∨ x.unit ≠ o.unit) : o ∈ out := by
  obtain ⟨S, p, r, rfl⟩ := h
  have hi : i < l.length := (List.getElem?_eq_some_iff.1 ho).1
  exact List.mem_map.2 ⟨(o, i), p.mem_iff.2 (kp_in ho (.inr (lf_last ho h3 hi hn)) hi), rfl⟩
theorem LastSays.once {l out : List OrV} (h : LastSays l out) {i k : Nat} {x y : OrV} (hki : k < i) (hx : out[k]? = some x) (hy : out[i]? = some y) (h3 : ¬ x.what = 3) (h4 : ¬ y.what = 3) (hp : x.player = y.player) : ¬ x.unit = y.unit := by
  intro hu
  obtain ⟨S, p, r, rfl⟩ := h
  rw [List.getElem?_map] at hx hy
  obtain ⟨a, ha, rfl⟩ := Option.map_eq_some_iff.1 hx
  obtain ⟨b, hb, rfl⟩ := Option.map_eq_some_iff.1 hy
  obtain ⟨-, -, ka⟩ := kp_mem (p.mem_iff.1 (List.mem_of_getElem? ha))
  obtain ⟨-, -, kb⟩ := kp_mem (p.mem_iff.1 (List.mem_of_getElem? hb))
  have e1 := ka.resolve_left h3
  have e2 := kb.resolve_left h4
  rw [hp, hu, e2] at e1
  have tg : S.Pairwise (fun x y => x.2 ≠ y.2) := (p.symm.pairwise_iff (fun {a b} (h : a.2 ≠ b.2) => h.symm)).1 ((kp_tags (l := l) l.length).imp (fun h => by omega))
  obtain ⟨la, ea⟩ := List.getElem?_eq_some_iff.1 ha
  obtain ⟨lb, eb⟩ := List.getElem?_eq_some_iff.1 hb
  have := List.pairwise_iff_getElem.1 tg k i la lb hki
  rw [ea, eb] at this
  omega
theorem tr_next {l : List OrV} {q : Nat} {o : OrV} (h : l[q]? = some o) : (l.take (q + 1)).countP isTr = (l.take q).countP isTr + (if o.what = 3 then 1 else 0) := by
  have hq : q < l.length := (List.getElem?_eq_some_iff.1 h).1
  have e : l[q] = o := (List.getElem?_eq_some_iff.1 h).2
  rw [List.take_succ_eq_append_getElem hq, List.countP_append, e]
  by_cases h3 : o.what = 3 <;> simp [isTr, h3]
theorem tr_le (l : List OrV) (q : Nat) : (l.take q).countP isTr ≤ q := Nat.le_trans List.countP_le_length (by rw [List.length_take]; omega)
theorem tr_most (l : List OrV) (q : Nat) : (l.take q).countP isTr ≤ l.countP isTr := (List.take_sublist q l).countP_le
def l0 : List OrV := [⟨0, 2, 1, 5⟩, ⟨0, 1, 0, 0⟩, ⟨0, 2, 1, 6⟩]
theorem l0_last : LastSays l0 [⟨0, 1, 0, 0⟩, ⟨0, 2, 1, 6⟩] := by
  refine ⟨[(⟨0, 1, 0, 0⟩, 1), (⟨0, 2, 1, 6⟩, 2)], ?_, ?_, rfl⟩
  · have e : kp l0 l0.length = [(⟨0, 1, 0, 0⟩, 1), (⟨0, 2, 1, 6⟩, 2)] := by
      show kp l0 3 = _
      simp [kp, lf, updAt, l0]
    rw [e]
  · simp [lt, klt]
end So
end Go.Proofs.YtkejdkajfnaieaaGreatDoor

namespace Go.Proofs.YtkejdkajfnaieaaGreatDoor
namespace So
set_option linter.unusedVariables false
/-- x may stand ahead of y. -/
def Ro2 (x y : OrV) : Prop := ¬ klt y x ∧ (¬ x.what = 3 → ¬ y.what = 3 → x.player = y.player → ¬ x.unit = y.unit)
theorem LastSays.lo {l out : List OrV} (h : LastSays l out) : out.Pairwise Ro2 := by
  rw [List.pairwise_iff_getElem]
  intro k i hk hi hki
  refine ⟨?_, fun h3 h4 hp => h.once hki (List.getElem?_eq_getElem hk) (List.getElem?_eq_getElem hi) h3 h4 hp⟩
  obtain ⟨S, p, r, rfl⟩ := h
  simp only [List.length_map] at hk hi
  have := List.pairwise_iff_getElem.1 r k i hk hi hki
  simp only [List.getElem_map]
  rcases this with h | h
  · exact klt_asym h
  · exact h.1
theorem kp_all {out : List OrV} (h : out.Pairwise Ro2) : ∀ q, q ≤ out.length → (kp out q).map Prod.fst = out.take q
  | 0, _ => by simp [kp]
  | q + 1, hq => by
    have hl : q < out.length := by omega
    obtain ⟨o, ho⟩ : ∃ o, out[q]? = some o := ⟨_, List.getElem?_eq_getElem hl⟩
    have ih := kp_all h q (by omega)
    have hc : o.what = 3 ∨ lf out out.length o.player o.unit = (q : Nat) := by
      by_cases h3 : o.what = 3
      · exact .inl h3
      · refine .inr (lf_last ho h3 hl fun k x h1 h2 hx => ?_)
        by_cases hx3 : x.what = 3
        · exact .inl hx3
        · refine .inr ?_
          have := (List.pairwise_iff_getElem.1 h q k hl h2 h1).2
          have e1 : out[q] = o := by have := List.getElem?_eq_getElem hl; rw [ho] at this; exact (Option.some.inj this).symm
          have e2 : out[k] = x := by have := List.getElem?_eq_getElem h2; rw [hx] at this; exact (Option.some.inj this).symm
          rw [e1, e2] at this
          by_cases hp : x.player = o.player
          · exact .inr (fun hu => this h3 hx3 hp.symm hu.symm)
          · exact .inl hp
    have e1 : out[q] = o := by have := List.getElem?_eq_getElem hl; rw [ho] at this; exact (Option.some.inj this).symm
    rw [kp_yes ho hc, List.map_append, ih, List.take_succ_eq_append_getElem hl, e1]
    rfl
theorem lo_last {out : List OrV} (h : out.Pairwise Ro2) : LastSays out out := by
  have e := kp_all h out.length (Nat.le_refl _)
  rw [List.take_length] at e
  refine ⟨kp out out.length, List.Perm.refl _, ?_, e.symm⟩
  have h1 := kp_tags (l := out) out.length
  have h2 : ((kp out out.length).map Prod.fst).Pairwise Ro2 := by rw [e]; exact h
  rw [List.pairwise_map] at h2
  exact (h1.and h2).imp fun ⟨a, b⟩ => .inr ⟨b.1, a⟩
theorem LastSays.again {l out : List OrV} (h : LastSays l out) : LastSays out out := lo_last h.lo
theorem LastSays.fault {l out : List OrV} (h : LastSays l out) (hf : Od.faults l = 0) : Od.faults out = 0 := by
  obtain ⟨h1, h2⟩ := Od.faults_ok hf
  exact Od.faults_of (Nat.le_trans h.len h1) fun o ho => h2 o (h.mem ho)
def l1 : List OrV := [⟨1, 7, 1, 5⟩, ⟨1, 7, 0, 0⟩]
theorem l1_last : LastSays l1 [⟨1, 7, 0, 0⟩] := by
  refine ⟨[(⟨1, 7, 0, 0⟩, 1)], ?_, by simp, rfl⟩
  have e : kp l1 l1.length = [(⟨1, 7, 0, 0⟩, 1)] := by
    show kp l1 2 = _
    simp [kp, lf, updAt, l1]
  rw [e]
theorem l1_fault : Od.faults l1 = 0 := Od.faults_of (by decide) (by intro o ho; simp [l1] at ho; rcases ho with rfl | rfl <;> (unfold Od.bad; simp only; omega))
end So
end Go.Proofs.YtkejdkajfnaieaaGreatDoor

namespace Go.Proofs.YtkejdkajfnaieaaGreatDoor
open Go.RowKit Go.Proofs.YtkejdkajfnaieaaGreatDoor.So
set_option linter.unusedVariables false

namespace Wy
/-- each is t, or has one beside it that is nearer by just the step onto it. -/
def snd (nb : Nat → List Int) (st : Nat → Nat → Int) (t : Nat) (l : List Int) (n : Nat) : Bool := (List.range n).all fun i => (decide (i = t) && decide (l.getD i 0 = 0)) || (nb i).any fun x => decide (0 ≤ x) && decide (0 < st i x.toNat) && decide (0 ≤ l.getD x.toNat (-1)) && decide (l.getD i 0 = st i x.toNat + l.getD x.toNat (-1))
theorem snd_sound {nb : Nat → List Int} {st : Nat → Nat → Int} {t : Nat} {l : List Int} {n : Nat} (hn : l.length = n) (h : snd nb st t l n = true) : Sound nb st t l := by
  have key : ∀ (m i : Nat) (x : Int), l[i]? = some x → x ≤ (m : Int) → Way nb st t i x := by
    intro m
    induction m using Nat.strongRecOn with
    | ind m ih =>
      intro i x hx hm
      have hi : i < n := by rw [← hn]; exact (List.getElem?_eq_some_iff.1 hx).1
      unfold snd at h
      rw [List.all_eq_true] at h
      have h1 := h i (List.mem_range.2 hi)
      have hg : l.getD i 0 = x := by rw [List.getD_eq_getElem?_getD, hx]; rfl
      rw [Bool.or_eq_true] at h1
      rcases h1 with h1 | h1
      · rw [Bool.and_eq_true, decide_eq_true_eq, decide_eq_true_eq, hg] at h1
        obtain ⟨rfl, rfl⟩ := h1
        exact .here
      · rw [List.any_eq_true] at h1
        obtain ⟨y, hy, h2⟩ := h1
        simp only [Bool.and_eq_true, decide_eq_true_eq, hg] at h2
        obtain ⟨⟨⟨h3, h4⟩, h5⟩, h6⟩ := h2
        have hyl : ∃ z, l[y.toNat]? = some z ∧ l.getD y.toNat (-1) = z := by
          rw [List.getD_eq_getElem?_getD] at h5 ⊢
          cases e : l[y.toNat]? with
          | none => rw [e] at h5; simp at h5
          | some z => exact ⟨z, rfl, rfl⟩
        obtain ⟨z, hz, ez⟩ := hyl
        rw [ez] at h5 h6
        have hz0 : z < (m : Int) := by omega
        have hw := ih z.toNat (by omega) y.toNat z hz (by omega)
        rw [h6]
        exact .step (by rw [Int.toNat_of_nonneg h3]; exact hy) h4 hw
  intro i x hx
  by_cases h0 : 0 ≤ x
  · exact .inr (key x.toNat i x hx (by omega))
  · exact .inr (key 0 i x hx (by omega))
theorem far_dec {W H : Nat} {st : Nat → Nat → Int} {t : Nat} {l : List Int} (hW : 0 < W) (h1 : l.length = W * H) (h2 : l[t]? = some 0) (h3 : snd (Fd.near W H) st t l (W * H) = true) (h4 : chk (Fd.near W H) st l (W * H) = true) : IsFar (Fd.near W H) st t (W * H) l := by
  refine far_of h1 ?_ h2 (snd_sound h1 h3) (chk_shut h4)
  intro i j hi hj
  obtain ⟨t, h1, h2, -⟩ := Fd.near_cell (W := W) (H := H) hW hi hj
  omega
theorem flat_dec {l : List Int} (h : l.all (fun x => decide (x < 0 ∨ x + 2 ≤ 2 * told l)) = true) : Flat l := by
  intro i x hx
  rw [List.all_eq_true] at h
  have := h x (List.mem_of_getElem? hx)
  simpa using this
theorem nx_dec {nb : Nat → List Int} {ss l : List Int} {i j : Nat} (k : Nat) (h1 : (nb i)[k]? = some (j : Int)) (h2 : pn ss l i j = true) (h3 : ((nb i).take k).any (pn ss l i) = false) : Nx nb ss l i j := ⟨k, h1, h2, h3⟩
end Wy
open Wy

/-- the fact's kinds of package marchtop. -/
def OB : KV := ⟨⟨#[98, 97, 115, 101]⟩, 50, 0, 0, 0, 0, 0, 0, 0, false, true⟩
def OD : KV := ⟨⟨#[100, 105, 103, 103, 101, 114]⟩, 10, 0, 0, 0, 2, 0, 0, 20, false, false⟩
def OK : List KV := [OB, OD]
def OSS : List Int := SG.map fun g => Fd.onto g false
def ob : UnV := ⟨1, 0, 0, 0, 50, 0, 0, 0⟩
def od (a ld tk g : Int) : UnV := ⟨2, 0, 1, a, 10, ld, tk, g⟩
def OW (tn : Int) (ore : Int) (gold : Int) (d : UnV) : WV := ⟨tn, 3, 4, 2, SG, [0, 0, 0, 0, 0, 0, ore, 0], [gold], [ob, d], []⟩
def l0 : List Int := [0, 1, 2, 3, 1, 2, 3, 4]
def l6 : List Int := [3, 2, 1, 2, 2, 1, 0, 1]
def l2 : List Int := [2, 1, 0, 1, 3, 2, 1, 2]
def l1 : List Int := [1, 0, 1, 2, 2, 1, 2, 3]
theorem far0 : IsFar (Fd.near 4 2) (fun _ j => OSS.getD j 0) 0 8 l0 := far_dec (W := 4) (H := 2) (by decide) rfl rfl (by decide +kernel) (by decide +kernel)
theorem far6 : IsFar (Fd.near 4 2) (fun _ j => OSS.getD j 0) 6 8 l6 := far_dec (W := 4) (H := 2) (by decide) rfl rfl (by decide +kernel) (by decide +kernel)
theorem from6 : IsFar (Fd.near 4 2) (fun i _ => OSS.getD i 0) 6 8 l6 := far_dec (W := 4) (H := 2) (by decide) rfl rfl (by decide +kernel) (by decide +kernel)
theorem from2 : IsFar (Fd.near 4 2) (fun i _ => OSS.getD i 0) 2 8 l2 := far_dec (W := 4) (H := 2) (by decide) rfl rfl (by decide +kernel) (by decide +kernel)
theorem from1 : IsFar (Fd.near 4 2) (fun i _ => OSS.getD i 0) 1 8 l1 := far_dec (W := 4) (H := 2) (by decide) rfl rfl (by decide +kernel) (by decide +kernel)
/-- where the base wishes. -/
theorem wish_b (tn ore gold : Int) (d : UnV) : WishSays OK (OW tn ore gold d) 4 2 ob OB 0 := ⟨0, 0, l0, rfl, .inl ⟨rfl, rfl⟩, by decide, ⟨far0, flat_dec (by decide +kernel)⟩, .inr ⟨by decide, .inl ⟨rfl, rfl⟩⟩⟩
theorem goes_b (tn ore gold : Int) (d : UnV) : Goes OK (OW tn ore gold d) 4 2 OB 0 [ob, d] OB.n4 [] [ob, d] :=
  .stop (u := ob) (c := 0) (gg := 0) rfl (wish_b tn ore gold d) rfl (.inl (by decide))
/-- where the digger wishes while it digs. -/
theorem wish_d (tn ore gold : Int) {a c : Nat} {ld : Int} (h1 : (ld == 20 || ore == 0) = false) (h2 : Nxt (Fd.near 4 2) OSS l6 6 a c) (h3 : 0 ≤ l6.getD a 0) : WishSays OK (OW tn ore gold (od a ld 2 6)) 4 2 (od a ld 2 6) OD c :=
  ⟨a, 6, l6, rfl, .inr (.inl ⟨by simp [od], fun h => by
    have h9 : doneU (OW tn ore gold (od a ld 2 6)).os (od a ld 2 6) OD = (ld == 20 || ore == 0) := rfl
    rw [h9, h1] at h
    exact Bool.noConfusion h.2, rfl⟩), by decide, ⟨far6, flat_dec (by decide +kernel)⟩, .inr ⟨h3, h2⟩⟩
/-- where it wishes when it has all it can carry. -/
theorem wish_h (tn ore gold : Int) {a c : Nat} {l : List Int} (hl : IsFar (Fd.near 4 2) (fun i _ => OSS.getD i 0) a 8 l) (hf : Flat l) (hh : homeAt OK [ob, od a 20 2 6] l (od a 20 2 6) = 0) (h2 : Nxt (Fd.near 4 2) OSS l0 0 a c) (h3 : 0 ≤ l0.getD a 0) : WishSays OK (OW tn ore gold (od a 20 2 6)) 4 2 (od a 20 2 6) OD c :=
  ⟨a, 0, l0, rfl, .inr (.inr ⟨rfl, rfl, l, ⟨hl, hf⟩, hh.symm⟩), by decide, ⟨far0, flat_dec (by decide +kernel)⟩, .inr ⟨h3, h2⟩⟩
theorem moves1 : ∃ evs, Moves OK (OW 0 30 0 (od 1 0 2 6)) 4 2 0 [ob, od 1 0 2 6] evs [ob, od 6 0 2 6] := by
  have g3 : Goes OK (OW 0 30 0 (od 1 0 2 6)) 4 2 OD 1 [ob, od 6 0 2 6] 0 [] [ob, od 6 0 2 6] := .stop (u := od 6 0 2 6) (c := 6) (gg := 0) rfl (wish_d 0 30 0 (a := 6) (by decide) (.inl ⟨rfl, rfl⟩) (by decide)) rfl (.inl (by decide))
  have g2 : Goes OK (OW 0 30 0 (od 1 0 2 6)) 4 2 OD 1 [ob, od 2 0 2 6] 1 [6] [ob, od 6 0 2 6] := .step (u := od 2 0 2 6) (c := 6) (gg := 0) rfl (wish_d 0 30 0 (a := 2) (by decide) (.inr ⟨by decide, nx_dec 2 (by decide +kernel) (by decide +kernel) (by decide +kernel)⟩) (by decide)) rfl (by decide) (by decide) g3
  have g1 : Goes OK (OW 0 30 0 (od 1 0 2 6)) 4 2 OD 1 [ob, od 1 0 2 6] OD.n4 [2, 6] [ob, od 6 0 2 6] := .step (u := od 1 0 2 6) (c := 2) (gg := 0) rfl (wish_d 0 30 0 (a := 1) (by decide) (.inr ⟨by decide, nx_dec 1 (by decide +kernel) (by decide +kernel) (by decide +kernel)⟩) (by decide)) rfl (by decide) (by decide) g2
  exact ⟨_, .unit (u := ob) (k := OB) (u1 := ob) rfl rfl (goes_b _ _ _ _) rfl (.unit (u := od 1 0 2 6) (k := OD) (u1 := od 6 0 2 6) rfl rfl g1 rfl (.done rfl))⟩
end Go.Proofs.YtkejdkajfnaieaaGreatDoor

namespace Go.Proofs.YtkejdkajfnaieaaGreatDoor
open Go.RowKit Go.Proofs.YtkejdkajfnaieaaGreatDoor.So Wy
set_option linter.unusedVariables false

namespace To
def kb : KV := ⟨⟨#[98, 97, 115, 101]⟩, 50, 0, 0, 4, 0, 50, 5, 0, false, true⟩
def kd : KV := ⟨⟨#[100, 105, 103, 103, 101, 114]⟩, 10, 0, 0, 3, 2, 10, 2, 20, false, false⟩
def kf : KV := ⟨⟨#[102, 105, 103, 104, 116, 101, 114]⟩, 20, 4, 1, 4, 2, 20, 3, 0, false, false⟩
theorem sk : SK = [kb, kd, kf] := rfl
def fu : UnV := ⟨3, 1, 2, 3, 20, 0, 0, 0⟩
def TW (tn ore : Int) (d : UnV) : WV := ⟨tn, 4, 4, 2, SG, [0, 0, 0, 0, 0, 0, ore, 0], [100, 100], [ob, d, fu], []⟩
theorem s3 : S3 = TW 0 30 (od 1 0 0 0) := rfl
def l3 : List Int := [3, 2, 1, 0, 4, 3, 2, 1]
theorem far3 : IsFar (Fd.near 4 2) (fun _ j => OSS.getD j 0) 3 8 l3 := far_dec (W := 4) (H := 2) (by decide) rfl rfl (by decide +kernel) (by decide +kernel)
theorem wish_b (tn ore : Int) (d : UnV) : WishSays SK (TW tn ore d) 4 2 ob kb 0 := ⟨0, 0, l0, rfl, .inl ⟨rfl, rfl⟩, by decide, ⟨far0, flat_dec (by decide +kernel)⟩, .inr ⟨by decide, .inl ⟨rfl, rfl⟩⟩⟩
theorem wish_f (tn ore : Int) (d : UnV) : WishSays SK (TW tn ore d) 4 2 fu kf 3 := ⟨3, 3, l3, rfl, .inl ⟨rfl, rfl⟩, by decide, ⟨far3, flat_dec (by decide +kernel)⟩, .inr ⟨by decide, .inl ⟨rfl, rfl⟩⟩⟩
theorem goes_b (tn ore : Int) (d : UnV) : Goes SK (TW tn ore d) 4 2 kb 0 [ob, d, fu] kb.n4 [] [ob, d, fu] := .stop (u := ob) (c := 0) (gg := 0) rfl (wish_b tn ore d) rfl (.inl (by decide))
theorem wish_d (tn ore : Int) {a c : Nat} {ld : Int} (h1 : (ld == 20 || ore == 0) = false) (h2 : Nxt (Fd.near 4 2) OSS l6 6 a c) (h3 : 0 ≤ l6.getD a 0) : WishSays SK (TW tn ore (od a ld 2 6)) 4 2 (od a ld 2 6) kd c :=
  ⟨a, 6, l6, rfl, .inr (.inl ⟨by simp [od], fun h => by
    have h9 : doneU (TW tn ore (od a ld 2 6)).os (od a ld 2 6) kd = (ld == 20 || ore == 0) := rfl
    rw [h9, h1] at h
    exact Bool.noConfusion h.2, rfl⟩), by decide, ⟨far6, flat_dec (by decide +kernel)⟩, .inr ⟨h3, h2⟩⟩
theorem moves : Moves SK (TW 0 30 (od 1 0 2 6)) 4 2 0 [ob, od 1 0 2 6, fu] [⟨1, 2, 2⟩, ⟨1, 2, 6⟩] [ob, od 6 0 2 6, fu] := by
  have g3 : Goes SK (TW 0 30 (od 1 0 2 6)) 4 2 kd 1 [ob, od 6 0 2 6, fu] 0 [] [ob, od 6 0 2 6, fu] := .stop (u := od 6 0 2 6) (c := 6) (gg := 0) rfl (wish_d 0 30 (a := 6) (by decide) (.inl ⟨rfl, rfl⟩) (by decide)) rfl (.inl (by decide))
  have g2 : Goes SK (TW 0 30 (od 1 0 2 6)) 4 2 kd 1 [ob, od 2 0 2 6, fu] 1 [6] [ob, od 6 0 2 6, fu] := .step (u := od 2 0 2 6) (c := 6) (gg := 0) rfl (wish_d 0 30 (a := 2) (by decide) (.inr ⟨by decide, nx_dec 2 (by decide +kernel) (by decide +kernel) (by decide +kernel)⟩) (by decide)) rfl (by decide) (by decide) g3
  have g1 : Goes SK (TW 0 30 (od 1 0 2 6)) 4 2 kd 1 [ob, od 1 0 2 6, fu] kd.n4 [2, 6] [ob, od 6 0 2 6, fu] := .step (u := od 1 0 2 6) (c := 2) (gg := 0) rfl (wish_d 0 30 (a := 1) (by decide) (.inr ⟨by decide, nx_dec 1 (by decide +kernel) (by decide +kernel) (by decide +kernel)⟩) (by decide)) rfl (by decide) (by decide) g2
  have gf : Goes SK (TW 0 30 (od 1 0 2 6)) 4 2 kf 2 [ob, od 6 0 2 6, fu] kf.n4 [] [ob, od 6 0 2 6, fu] := .stop (u := fu) (c := 3) (gg := 0) rfl (wish_f 0 30 (od 6 0 2 6)) rfl (.inr (by decide))
  exact .unit (u := ob) (k := kb) (u1 := ob) (cells := []) rfl rfl (goes_b _ _ _) rfl (.unit (u := od 1 0 2 6) (k := kd) (u1 := od 6 0 2 6) (cells := [2, 6]) rfl rfl g1 rfl (.unit (u := fu) (k := kf) (u1 := fu) (cells := []) rfl rfl gf rfl (.done rfl)))
def o1 : OrV := ⟨0, 2, 2, 6⟩
def o2 : OrV := ⟨1, 3, 3, 1⟩
theorem last : LastSays [o1, o2] [o1, o2] := lo_last (by simp [Ro2, klt, o1, o2])
theorem gvn : (gv SK S3 [o1, o2] 2).1 = TW 0 30 (od 1 0 2 6) := by rfl
theorem dugn : dug SK 4 2 (TW 0 30 (od 6 0 2 6)) = TW 0 20 (od 6 10 2 6) := by rfl
theorem dugev : (dugEv SK 4 2 (TW 0 30 (od 6 0 2 6))).length = 1 := by rfl
theorem fault : stepFault SK S3 [o1, o2] = 0 := by decide +kernel
def hit : UnV := ⟨2, 0, 1, 6, 6, 10, 2, 6⟩
theorem fgt : fought SK 4 (TW 0 20 (od 6 10 2 6)) = TW 0 20 hit := by rfl
theorem step : ∃ es, StepR SK S3 [o1, o2] (TW 1 20 hit) es ∧ 3 ≤ es.length := by
  have t : Tr SK (TW 0 30 (od 1 0 2 6)) 0 (TW 0 30 (od 1 0 2 6)) [] [] := .zero
  have p1 : Ph SK 4 2 (TW 0 30 (od 1 0 2 6)) 1 (TW 0 30 (od 1 0 2 6)) [] := .one t
  have p2 : Ph SK 4 2 (TW 0 30 (od 1 0 2 6)) 2 (TW 0 30 (od 6 0 2 6)) ([] ++ [⟨1, 2, 2⟩, ⟨1, 2, 6⟩]) := Ph.two p1 moves
  have p3 := Ph.three p2
  rw [dugn] at p3
  have p4 := Ph.four p3
  rw [fgt] at p4
  have hl : 3 ≤ (([] ++ [⟨1, 2, 2⟩, ⟨1, 2, 6⟩] : List EvV) ++ dugEv SK 4 2 (TW 0 30 (od 6 0 2 6)) ++ fevents SK 4 (TW 0 20 (od 6 10 2 6))).length := by
    rw [List.length_append, List.length_append, dugev]
    simp only [List.nil_append, List.length_cons, List.length_nil]
    omega
  exact ⟨_, ⟨[o1, o2], 4, 2, TW 0 20 hit, last, rfl, rfl, by rw [show [o1, o2].length = 2 from rfl, gvn]; exact p4, rfl⟩, hl⟩
theorem at1 : ((TW 1 20 hit).us.getD 1 ob).at_ = 6 := by rfl
end To
end Go.Proofs.YtkejdkajfnaieaaGreatDoor

namespace Go.Proofs.YtkejdkajfnaieaaGreatDoor
open Go.Proofs.YtkejdkajfnaieaaGreatDoor.So
set_option linter.unusedVariables false

/-- those of the first q that are not refused. -/
def gk (ks : List KV) (Y : WV) (out : List OrV) : Nat → List OrV
  | 0 => []
  | q + 1 => match out[q]? with
    | none => gk ks Y out q
    | some o => match given1 ks (gv ks Y out q).1 o with
      | some _ => gk ks Y out q ++ [o]
      | none => gk ks Y out q
theorem gk_yes {ks : List KV} {Y Z : WV} {out : List OrV} {q : Nat} {o : OrV} (ho : out[q]? = some o) (h : given1 ks (gv ks Y out q).1 o = some Z) : gk ks Y out (q + 1) = gk ks Y out q ++ [o] := by
  rw [gk]; simp only [ho, h]
theorem gk_no {ks : List KV} {Y : WV} {out : List OrV} {q : Nat} {o : OrV} (ho : out[q]? = some o) (h : given1 ks (gv ks Y out q).1 o = none) : gk ks Y out (q + 1) = gk ks Y out q := by
  rw [gk]; simp only [ho, h]
/-- some of the first q. -/
theorem gk_sub {ks : List KV} {Y : WV} {out : List OrV} : ∀ q, q ≤ out.length → (gk ks Y out q).Sublist (out.take q)
  | 0, _ => by simp [gk]
  | q + 1, hq => by
    have hl : q < out.length := by omega
    have ih := gk_sub (ks := ks) (Y := Y) (out := out) q (by omega)
    have ho := List.getElem?_eq_getElem hl
    rw [List.take_succ_eq_append_getElem hl]
    cases h : given1 ks (gv ks Y out q).1 out[q] with
    | none => rw [gk_no ho h]; exact ih.trans (List.sublist_append_left _ _)
    | some Z => rw [gk_yes ho h]; exact ih.append (List.Sublist.refl _)
theorem gv_front {ks : List KV} {Y : WV} {a b : List OrV} : ∀ q, q ≤ a.length → gv ks Y (a ++ b) q = gv ks Y a q
  | 0, _ => rfl
  | q + 1, hq => by
    have e : (a ++ b)[q]? = a[q]? := List.getElem?_append_left (by omega)
    rw [gv, gv, e, gv_front q (by omega)]
/-- they bring the same, and none of them is refused. -/
theorem gk_same {ks : List KV} {Y : WV} {out : List OrV} : ∀ q, q ≤ out.length → gv ks Y (gk ks Y out q) (gk ks Y out q).length = ((gv ks Y out q).1, [])
  | 0, _ => by simp [gk, gv]
  | q + 1, hq => by
    have hl : q < out.length := by omega
    have ih := gk_same (ks := ks) (Y := Y) (out := out) q (by omega)
    have ho := List.getElem?_eq_getElem hl
    cases h : given1 ks (gv ks Y out q).1 out[q] with
    | none => rw [gk_no ho h, gv_no ho h, ih]
    | some Z =>
      rw [gk_yes ho h, gv_yes ho h, List.length_append, List.length_singleton]
      have e1 : gv ks Y (gk ks Y out q ++ [out[q]]) (gk ks Y out q).length = ((gv ks Y out q).1, []) := by rw [gv_front _ (Nat.le_refl _), ih]
      have e2 : (gk ks Y out q ++ [out[q]])[(gk ks Y out q).length]? = some out[q] := by simp
      rw [gv_yes e2 (Z := Z) (by rw [e1]; exact h), e1]
theorem gk_lo {ks : List KV} {Y : WV} {l out : List OrV} (h : LastSays l out) : LastSays (gk ks Y out out.length) (gk ks Y out out.length) := by
  refine lo_last (h.lo.sublist ?_)
  have := gk_sub (ks := ks) (Y := Y) (out := out) out.length (Nat.le_refl _)
  rwa [List.take_length] at this
theorem gk_fault {ks : List KV} {Y : WV} {l out : List OrV} (h : LastSays l out) (hf : Od.faults l = 0) : Od.faults (gk ks Y out out.length) = 0 := by
  have hs := gk_sub (ks := ks) (Y := Y) (out := out) out.length (Nat.le_refl _)
  rw [List.take_length] at hs
  obtain ⟨h1, h2⟩ := Od.faults_ok (h.fault hf)
  exact Od.faults_of (Nat.le_trans hs.length_le h1) fun o ho => h2 o (hs.subset ho)
/-- the numbers of the refused rise; where the next one stands. -/
theorem gv_bound {ks : List KV} {Y : WV} {out : List OrV} : ∀ q, ∀ r ∈ (gv ks Y out q).2, 0 ≤ r ∧ r < (q : Int)
  | 0, r, hr => by simp [gv] at hr
  | q + 1, r, hr => by
    have ih := gv_bound (ks := ks) (Y := Y) (out := out) q
    cases ho : out[q]? with
    | none => rw [gv] at hr; simp only [ho] at hr; have := ih r hr; omega
    | some o =>
      cases h : given1 ks (gv ks Y out q).1 o with
      | none =>
        rw [gv_no ho h] at hr
        rcases List.mem_append.1 hr with hr | hr
        · have := ih r hr; omega
        · simp at hr; omega
      | some Z => rw [gv_yes ho h] at hr; have := ih r hr; omega
theorem gv_grow {ks : List KV} {Y : WV} {out : List OrV} {q : Nat} : ∀ d, ∃ t, (gv ks Y out (q + d)).2 = (gv ks Y out q).2 ++ t ∧ ∀ r ∈ t, (q : Int) ≤ r
  | 0 => ⟨[], by simp, by simp⟩
  | d + 1 => by
    obtain ⟨t, e, ht⟩ := gv_grow (ks := ks) (Y := Y) (out := out) (q := q) d
    rw [show q + (d + 1) = (q + d) + 1 from rfl]
    cases ho : out[q + d]? with
    | none => exact ⟨t, by rw [gv]; simp only [ho]; exact e, ht⟩
    | some o =>
      cases h : given1 ks (gv ks Y out (q + d)).1 o with
      | some Z => rw [gv_yes ho h]; exact ⟨t, e, ht⟩
      | none =>
        rw [gv_no ho h]
        refine ⟨t ++ [((q + d : Nat) : Int)], by rw [e, List.append_assoc], fun r hr => ?_⟩
        rcases List.mem_append.1 hr with hr | hr
        · exact ht r hr
        · simp at hr; omega
/-- is the next that was refused this one? -/
theorem next_no {ks : List KV} {Y : WV} {out : List OrV} {q : Nat} {o : OrV} (hq : q < out.length) (ho : out[q]? = some o) (h : given1 ks (gv ks Y out q).1 o = none) : (gv ks Y out out.length).2[(gv ks Y out q).2.length]? = some (q : Int) := by
  obtain ⟨d, hd⟩ : ∃ d, out.length = (q + 1) + d := ⟨out.length - (q + 1), by omega⟩
  obtain ⟨t, e, ht⟩ := gv_grow (ks := ks) (Y := Y) (out := out) (q := q + 1) d
  rw [hd, e, gv_no ho h]
  simp
theorem next_yes {ks : List KV} {Y Z : WV} {out : List OrV} {q : Nat} {o : OrV} (hq : q < out.length) (ho : out[q]? = some o) (h : given1 ks (gv ks Y out q).1 o = some Z) (r : Int) (hr : (gv ks Y out out.length).2[(gv ks Y out q).2.length]? = some r) : r ≠ (q : Int) := by
  obtain ⟨d, hd⟩ : ∃ d, out.length = (q + 1) + d := ⟨out.length - (q + 1), by omega⟩
  obtain ⟨t, e, ht⟩ := gv_grow (ks := ks) (Y := Y) (out := out) (q := q + 1) d
  have e2 : (gv ks Y out (q + 1)).2 = (gv ks Y out q).2 := by rw [gv_yes ho h]
  rw [hd, e, e2, List.getElem?_append_right (Nat.le_refl _)] at hr
  have := ht r (List.mem_of_getElem? hr)
  omega
theorem gv_len {ks : List KV} {Y : WV} {out : List OrV} {q : Nat} (hq : q ≤ out.length) : (gv ks Y out q).2.length ≤ (gv ks Y out out.length).2.length := by
  obtain ⟨d, hd⟩ : ∃ d, out.length = q + d := ⟨out.length - q, by omega⟩
  obtain ⟨t, e, ht⟩ := gv_grow (ks := ks) (Y := Y) (out := out) (q := q) d
  have : (gv ks Y out out.length).2 = (gv ks Y out q).2 ++ t := by rw [hd]; exact e
  rw [this, List.length_append]
  omega
theorem gv_short {ks : List KV} {Y : WV} {out : List OrV} : ∀ q, (gv ks Y out q).2.length ≤ q
  | 0 => by simp [gv]
  | q + 1 => by
    have ih := gv_short (ks := ks) (Y := Y) (out := out) q
    cases ho : out[q]? with
    | none => rw [gv]; simp only [ho]; omega
    | some o =>
      cases h : given1 ks (gv ks Y out q).1 o with
      | none => rw [gv_no ho h]; simp; omega
      | some Z => rw [gv_yes ho h]; simp; omega
/-- nobody is anywhere else. -/
def Still (Y Z : WV) : Prop := Z.us.length = Y.us.length ∧ ∀ (i : Nat) a b, Y.us[i]? = some a → Z.us[i]? = some b → b.at_ = a.at_ ∧ b.life = a.life
theorem Still.refl (Y : WV) : Still Y Y := ⟨rfl, fun i a b h1 h2 => by rw [h1] at h2; cases h2; exact ⟨rfl, rfl⟩⟩
theorem Still.trans {A B C : WV} (h : Still A B) (k : Still B C) : Still A C := by
  refine ⟨k.1.trans h.1, fun i a c h1 h2 => ?_⟩
  have hi := (List.getElem?_eq_some_iff.1 h1).1
  have hb := List.getElem?_eq_getElem (l := B.us) (i := i) (by rw [h.1]; exact hi)
  obtain ⟨x1, x2⟩ := h.2 i a _ h1 hb
  obtain ⟨y1, y2⟩ := k.2 i _ c hb h2
  exact ⟨y1.trans x1, y2.trans x2⟩
theorem given_still {ks : List KV} {Y Z : WV} {o : OrV} (h : given1 ks Y o = some Z) : Still Y Z := by
  unfold given1 at h
  split at h
  · cases h
  · split at h
    · cases h
    · rename_i i hf u hu
      split at h
      · cases h
      · split at h
        · injection h with h
          subst h
          split
          · exact Still.refl Y
          · refine ⟨by simp [sentW], fun j a b h1 h2 => ?_⟩
            unfold sentW at h2
            simp only at h2
            rw [List.getElem?_set] at h2
            split at h2
            · rename_i e
              subst e
              rw [hu] at h1
              injection h1 with h1
              subst h1
              split at h2
              · injection h2 with h2
                subst h2
                exact ⟨rfl, rfl⟩
              · cases h2
            · rw [h1] at h2
              injection h2 with h2
              subst h2
              exact ⟨rfl, rfl⟩
        · cases h
theorem gv_still {ks : List KV} {Y : WV} {out : List OrV} : ∀ q, Still Y (gv ks Y out q).1
  | 0 => Still.refl Y
  | q + 1 => by
    have ih := gv_still (ks := ks) (Y := Y) (out := out) q
    cases ho : out[q]? with
    | none => rw [gv]; simp only [ho]; exact ih
    | some o =>
      cases h : given1 ks (gv ks Y out q).1 o with
      | none => rw [gv_no ho h]; exact ih
      | some Z => rw [gv_yes ho h]; exact ih.trans (given_still h)
end Go.Proofs.YtkejdkajfnaieaaGreatDoor

namespace Go.Proofs.YtkejdkajfnaieaaGreatDoor
open Go.Proofs.YtkejdkajfnaieaaGreatDoor.So
set_option linter.unusedVariables false

namespace To
/-- a unit's orders: those to train, or the others. -/
def ck (p u : Int) (t : Bool) (o : OrV) : Bool := decide (o.player = p ∧ o.unit = u) && (decide (o.what = 3) == t)
theorem ck_iff {p u : Int} {t : Bool} {o : OrV} : ck p u t o = true ↔ (o.player = p ∧ o.unit = u) ∧ decide (o.what = 3) = t := by
  unfold ck
  rw [Bool.and_eq_true, decide_eq_true_iff, beq_iff_eq]
theorem lf_ge {l : List OrV} {k : Nat} {x : OrV} (hx : l[k]? = some x) (h3 : ¬ x.what = 3) : ∀ {n : Nat}, k < n → (k : Int) ≤ lf l n x.player x.unit
  | 0, h => by omega
  | n + 1, h => by
    by_cases e : k = n
    · subst e
      rw [lf_other hx h3]
      unfold updAt
      rw [if_pos ⟨rfl, rfl⟩]
      exact Int.le_refl _
    · have ih := lf_ge hx h3 (n := n) (by omega)
      rw [lf]
      cases hq : l[n]? with
      | none => exact ih
      | some y =>
        simp only
        split
        · exact ih
        · unfold updAt
          split
          · omega
          · exact ih
theorem kp_train {l : List OrV} {p u : Int} : ∀ (q : Nat), q ≤ l.length → ((kp l q).map Prod.fst).filter (ck p u true) = (l.take q).filter (ck p u true)
  | 0, _ => by simp [kp]
  | q + 1, h => by
    have hq : q < l.length := by omega
    have ih := kp_train (l := l) (p := p) (u := u) q (by omega)
    have ho := List.getElem?_eq_getElem hq
    rw [List.take_succ_eq_append_getElem hq, List.filter_append, ← ih]
    by_cases hc : l[q].what = 3 ∨ lf l l.length l[q].player l[q].unit = (q : Nat)
    · rw [kp_yes ho hc, List.map_append, List.filter_append]
      rfl
    · rw [kp_no ho hc]
      have : ck p u true l[q] = false := by
        cases hk : ck p u true l[q] with
        | false => rfl
        | true => exact absurd (.inl (of_decide_eq_true (ck_iff.1 hk).2)) hc
      simp [this]
theorem kp_other {l : List OrV} {p u : Int} : ∀ (q : Nat), q ≤ l.length → ((kp l q).map Prod.fst).filter (ck p u false) = if (l.drop q).any (ck p u false) then [] else ((l.take q).filter (ck p u false)).getLast?.toList
  | 0, _ => by simp [kp]
  | q + 1, h => by
    have hq : q < l.length := by omega
    have ih := kp_other (l := l) (p := p) (u := u) q (by omega)
    have ho := List.getElem?_eq_getElem hq
    have hd : l.drop q = l[q] :: l.drop (q + 1) := List.drop_eq_getElem_cons hq
    rw [hd, List.any_cons] at ih
    rw [List.take_succ_eq_append_getElem hq, List.filter_append]
    cases hk : ck p u false l[q] with
    | false =>
      rw [hk, Bool.false_or] at ih
      have e : ((kp l (q + 1)).map Prod.fst).filter (ck p u false) = ((kp l q).map Prod.fst).filter (ck p u false) := by
        by_cases hc : l[q].what = 3 ∨ lf l l.length l[q].player l[q].unit = (q : Nat)
        · rw [kp_yes ho hc, List.map_append, List.filter_append]
          simp [hk]
        · rw [kp_no ho hc]
      rw [e, ih]
      simp [hk]
    | true =>
      rw [hk, Bool.true_or, if_pos rfl] at ih
      obtain ⟨⟨e1, e2⟩, e3⟩ := ck_iff.1 hk
      have h3 : ¬ l[q].what = 3 := of_decide_eq_false e3
      cases hy : (l.drop (q + 1)).any (ck p u false) with
      | true =>
        rw [if_pos rfl]
        obtain ⟨x, hx, hxk⟩ := List.any_eq_true.1 hy
        obtain ⟨i, hi⟩ := List.mem_iff_getElem?.1 hx
        rw [List.getElem?_drop] at hi
        obtain ⟨⟨f1, f2⟩, f3⟩ := ck_iff.1 hxk
        have hl : q + 1 + i < l.length := (List.getElem?_eq_some_iff.1 hi).1
        have g := lf_ge hi (of_decide_eq_false f3) hl
        rw [f1, f2, ← e1, ← e2] at g
        have hc : ¬ (l[q].what = 3 ∨ lf l l.length l[q].player l[q].unit = (q : Nat)) := by
          rintro (h | h)
          · exact h3 h
          · rw [h] at g
            omega
        rw [kp_no ho hc, ih]
      | false =>
        rw [if_neg (by simp)]
        have hc : l[q].what = 3 ∨ lf l l.length l[q].player l[q].unit = (q : Nat) := by
          refine .inr (lf_last ho h3 hq fun k x h1 h2 hx => ?_)
          by_cases hx3 : x.what = 3
          · exact .inl hx3
          · refine .inr ?_
            have hm : x ∈ l.drop (q + 1) := by
              refine List.mem_iff_getElem?.2 ⟨k - (q + 1), ?_⟩
              rw [List.getElem?_drop, show q + 1 + (k - (q + 1)) = k from by omega]
              exact hx
            have hf : ck p u false x = false := by
              cases hb : ck p u false x with
              | false => rfl
              | true => rw [List.any_eq_true.2 ⟨x, hm, hb⟩] at hy; cases hy
            by_cases hp : x.player = l[q].player
            · refine .inr fun hu => ?_
              rw [ck_iff.2 ⟨⟨hp.trans e1, hu.trans e2⟩, decide_eq_false hx3⟩] at hf
              cases hf
            · exact .inl hp
        rw [kp_yes ho hc, List.map_append, List.filter_append, ih]
        simp [hk]
theorem last_class {l out : List OrV} (h : LastSays l out) (p u : Int) (t : Bool) : out.filter (ck p u t) = ((kp l l.length).map Prod.fst).filter (ck p u t) := by
  obtain ⟨S, pm, r, rfl⟩ := h
  rw [List.filter_map, List.filter_map]
  congr 1
  refine rise_unique (pm.filter _) (r.filter _) ?_
  have h1 := (kp_tags (l := l) l.length).filter (ck p u t ∘ Prod.fst)
  refine h1.imp_of_mem fun {a b} ha hb hab => .inr ⟨?_, hab⟩
  obtain ⟨⟨a1, a2⟩, a3⟩ := ck_iff.1 (List.mem_filter.1 ha).2
  obtain ⟨⟨b1, b2⟩, b3⟩ := ck_iff.1 (List.mem_filter.1 hb).2
  unfold klt rnk
  rw [a1, a2, b1, b2]
  have e : a.1.what = 3 ↔ b.1.what = 3 := by rw [← decide_eq_decide, a3, b3]
  by_cases h3 : a.1.what = 3
  · rw [if_pos h3, if_pos (e.1 h3)]; omega
  · rw [if_neg h3, if_neg (fun h => h3 (e.2 h))]; omega
theorem last_of {l out : List OrV} (h : LastSays l out) (p u : Int) : out.filter (ck p u true) = l.filter (ck p u true) ∧ out.filter (ck p u false) = (l.filter (ck p u false)).getLast?.toList := by
  refine ⟨?_, ?_⟩
  · rw [last_class h, kp_train _ (Nat.le_refl _), List.take_length]
  · rw [last_class h, kp_other _ (Nat.le_refl _), List.drop_length, List.take_length]
    simp
theorem ck_self (o : OrV) : ck o.player o.unit (decide (o.what = 3)) o = true := ck_iff.2 ⟨⟨rfl, rfl⟩, rfl⟩
/-- two lists in order whose units have the same orders are one. -/
theorem sorted_one : ∀ {a b : List OrV}, a.Pairwise (fun x y => ¬ klt y x) → b.Pairwise (fun x y => ¬ klt y x) → (∀ p u t, a.filter (ck p u t) = b.filter (ck p u t)) → a = b
  | [], [], _, _, _ => rfl
  | [], y :: b, _, _, h => by
    have := h y.player y.unit (decide (y.what = 3))
    rw [List.filter_cons_of_pos (ck_self y)] at this
    cases this
  | x :: a, [], _, _, h => by
    have := h x.player x.unit (decide (x.what = 3))
    rw [List.filter_cons_of_pos (ck_self x)] at this
    cases this
  | x :: a, y :: b, ha, hb, h => by
    have hm : ∀ o, o ∈ x :: a ↔ o ∈ y :: b := fun o => by
      have e := h o.player o.unit (decide (o.what = 3))
      constructor
      · intro ho
        have := List.mem_filter.2 ⟨ho, ck_self o⟩
        rw [e] at this
        exact (List.mem_filter.1 this).1
      · intro ho
        have := List.mem_filter.2 ⟨ho, ck_self o⟩
        rw [← e] at this
        exact (List.mem_filter.1 this).1
    have h1 : ¬ klt y x := by
      rcases List.mem_cons.1 ((hm y).2 List.mem_cons_self) with e | e
      · rw [e]; exact klt_irr _
      · exact (List.pairwise_cons.1 ha).1 y e
    have h2 : ¬ klt x y := by
      rcases List.mem_cons.1 ((hm x).1 List.mem_cons_self) with e | e
      · rw [e]; exact klt_irr _
      · exact (List.pairwise_cons.1 hb).1 x e
    have hk : ck x.player x.unit (decide (x.what = 3)) y = true := by
      refine ck_iff.2 ?_
      unfold klt rnk at h1 h2
      by_cases c1 : x.what = 3 <;> by_cases c2 : y.what = 3
      all_goals
        simp only [c1, c2, if_true, if_false] at h1 h2
      · exact ⟨⟨by omega, by omega⟩, by simp [c1, c2]⟩
      · omega
      · omega
      · exact ⟨⟨by omega, by omega⟩, by simp [c1, c2]⟩
    have e := h x.player x.unit (decide (x.what = 3))
    rw [List.filter_cons_of_pos (ck_self x), List.filter_cons_of_pos hk] at e
    injection e with e1 e2
    subst e1
    rw [sorted_one (List.pairwise_cons.1 ha).2 (List.pairwise_cons.1 hb).2 fun p u t => by
      have := h p u t
      rw [List.filter_cons, List.filter_cons] at this
      split at this
      · injection this
      · exact this]
theorem two_filters {m : List OrV} {Q : Int → Int → Bool} {p u : Int} {t : Bool} : (m.filter (fun o => Q o.player o.unit)).filter (ck p u t) = if Q p u then m.filter (ck p u t) else [] := by
  rw [List.filter_filter]
  split
  · rename_i hq
    refine List.filter_congr fun o _ => ?_
    cases hk : ck p u t o with
    | false => rfl
    | true =>
      obtain ⟨⟨e1, e2⟩, -⟩ := ck_iff.1 hk
      rw [e1, e2, hq]
      rfl
  · rename_i hq
    refine List.filter_eq_nil_iff.2 fun o _ ho => ?_
    rw [Bool.and_eq_true] at ho
    obtain ⟨⟨e1, e2⟩, -⟩ := ck_iff.1 ho.1
    rw [e1, e2] at ho
    exact hq ho.2
/-- orders of some units only, in whatever order: those that count are the same. -/
theorem last_some {l l' out out' : List OrV} {Q : Int → Int → Bool} (h : LastSays l out) (h' : LastSays l' out') (hc : ∀ p u t, l'.filter (ck p u t) = if Q p u then l.filter (ck p u t) else []) : out' = out.filter (fun o => Q o.player o.unit) := by
  refine sorted_one (h'.lo.imp fun h => h.1) ((h.lo.imp fun h => h.1).filter _) fun p u t => ?_
  rw [two_filters]
  obtain ⟨a1, a2⟩ := last_of h p u
  obtain ⟨b1, b2⟩ := last_of h' p u
  cases t with
  | true => rw [b1, hc, a1]
  | false =>
    rw [b2, hc, a2]
    split <;> rfl
/-- a unit's orders, whoever it is. -/
def kq (d : Int × Int) (o : OrV) : Bool := decide (o.player = d.1 ∧ o.unit = d.2)
def trn (ds : List (Int × Int)) (l : List OrV) : List OrV := ds.flatMap fun d => l.filter (kq d)
theorem kq_ck {l : List OrV} {d : Int × Int} {p u : Int} {t : Bool} : (l.filter (kq d)).filter (ck p u t) = if d = (p, u) then l.filter (ck p u t) else [] := by
  rw [List.filter_filter]
  split
  · rename_i e
    subst e
    refine List.filter_congr fun o _ => ?_
    cases hk : ck p u t o with
    | false => rfl
    | true => rw [show kq (p, u) o = true from decide_eq_true (ck_iff.1 hk).1]; rfl
  · rename_i hn
    refine List.filter_eq_nil_iff.2 fun o _ ho => ?_
    rw [Bool.and_eq_true] at ho
    obtain ⟨⟨e1, e2⟩, -⟩ := ck_iff.1 ho.1
    have := of_decide_eq_true ho.2
    exact hn (Prod.ext (this.1.symm.trans e1) (this.2.symm.trans e2))
theorem trn_class {l : List OrV} {p u : Int} {t : Bool} : ∀ {ds : List (Int × Int)}, ds.Nodup → (trn ds l).filter (ck p u t) = if decide ((p, u) ∈ ds) then l.filter (ck p u t) else []
  | [], _ => by simp [trn]
  | d :: ds, hn => by
    obtain ⟨h1, h2⟩ := List.nodup_cons.1 hn
    have ih := trn_class (l := l) (p := p) (u := u) (t := t) h2
    unfold trn at ih ⊢
    rw [List.flatMap_cons, List.filter_append, kq_ck, ih]
    by_cases e : d = (p, u)
    · subst e
      rw [if_pos rfl, if_neg (by simpa using h1), if_pos (by simp), List.append_nil]
    · rw [if_neg e, List.nil_append]
      have : ((p, u) ∈ d :: ds) = ((p, u) ∈ ds) := by
        rw [List.mem_cons]
        exact propext ⟨fun h => h.resolve_left (fun h => e h.symm), .inr⟩
      simp only [this]
theorem len_two (q : OrV → Bool) : ∀ l : List OrV, (l.filter q).length + (l.filter (fun o => !q o)).length = l.length
  | [] => rfl
  | o :: l => by
    have ih := len_two q l
    rw [List.filter_cons, List.filter_cons]
    cases q o <;> simp <;> omega
theorem trn_len : ∀ {ds : List (Int × Int)} {l : List OrV}, ds.Nodup → (trn ds l).length ≤ l.length
  | [], l, _ => by simp [trn]
  | d :: ds, l, hn => by
    obtain ⟨h1, h2⟩ := List.nodup_cons.1 hn
    have ih := trn_len (ds := ds) (l := l.filter (fun o => !kq d o)) h2
    have e : trn ds (l.filter (fun o => !kq d o)) = trn ds l := by
      unfold trn
      rw [List.flatMap_def, List.flatMap_def]
      congr 1
      refine List.map_congr_left fun c hc => ?_
      rw [List.filter_filter]
      refine List.filter_congr fun o _ => ?_
      cases hk : kq c o with
      | false => rfl
      | true =>
        have := of_decide_eq_true hk
        have hf : kq d o = false := by
          cases hd : kq d o with
          | false => rfl
          | true =>
            have h9 := of_decide_eq_true hd
            exact absurd (show d ∈ ds from by rw [show d = c from Prod.ext (h9.1.symm.trans this.1) (h9.2.symm.trans this.2)]; exact hc) h1
        rw [hf]
        rfl
    rw [e] at ih
    have hl := len_two (kq d) l
    unfold trn at ih ⊢
    rw [List.flatMap_cons, List.length_append]
    omega
theorem trn_mem {ds : List (Int × Int)} {l : List OrV} {o : OrV} (h : o ∈ trn ds l) : o ∈ l := by
  obtain ⟨d, -, h⟩ := List.mem_flatMap.1 h
  exact (List.mem_filter.1 h).1
theorem trn_fault {ds : List (Int × Int)} {l : List OrV} (hn : ds.Nodup) (h : Od.faults l = 0) : Od.faults (trn ds l) = 0 := by
  obtain ⟨h1, h2⟩ := Od.faults_ok h
  exact Od.faults_of (Nat.le_trans (trn_len hn) h1) fun o ho => h2 o (trn_mem ho)
theorem given_ids {ks : List KV} {Y Z : WV} {o : OrV} (hg : given1 ks Y o = some Z) : Z.us.map UnV.id = Y.us.map UnV.id := by
  unfold given1 at hg
  split at hg
  · cases hg
  · split at hg
    · cases hg
    · split at hg
      · cases hg
      · split at hg
        · injection hg with hg
          subst hg
          split
          · rfl
          · rename_i i _ _ u hu _ _ _ _ _
            show (Y.us.set i (sentU o u)).map UnV.id = _
            rw [List.map_set, show (sentU o u).id = u.id from rfl]
            obtain ⟨hi, e⟩ := List.getElem?_eq_some_iff.1 hu
            refine List.ext_getElem? fun n => ?_
            rw [List.getElem?_set]
            split
            · rename_i en
              subst en
              rw [List.length_map, if_pos hi, List.getElem?_map, hu]
              rfl
            · rfl
        · cases hg
theorem gv_ids {ks : List KV} {Y : WV} {out : List OrV} : ∀ q, (gv ks Y out q).1.us.map UnV.id = Y.us.map UnV.id
  | 0 => rfl
  | q + 1 => by
    have ih := gv_ids (ks := ks) (Y := Y) (out := out) q
    cases hq : out[q]? with
    | none => rw [gv]; simp only [hq]; exact ih
    | some o =>
      cases hg : given1 ks (gv ks Y out q).1 o with
      | some Z => rw [gv_yes hq hg]; exact (given_ids hg).trans ih
      | none => rw [gv_no hq hg]; exact ih
theorem given_none {ks : List KV} {Y : WV} {o : OrV} (h : ¬ o.unit ∈ Y.us.map UnV.id) : given1 ks Y o = none := by
  unfold given1
  rw [ask_none]
  rw [List.any_eq_false]
  intro u hu
  simp only [askU, decide_eq_true_eq]
  rintro ⟨e, -⟩
  exact h (e ▸ List.mem_map_of_mem hu)
/-- orders to units that aren't there change nothing. -/
theorem gv_some {ks : List KV} {Y : WV} {out : List OrV} {P : OrV → Bool} (hP : ∀ o ∈ out, P o = false → ¬ o.unit ∈ Y.us.map UnV.id) : ∀ q, q ≤ out.length → (gv ks Y ((out.take q).filter P) ((out.take q).filter P).length).1 = (gv ks Y out q).1
  | 0, _ => by simp [gv]
  | q + 1, hq => by
    have hl : q < out.length := by omega
    have ih := gv_some (ks := ks) hP q (by omega)
    have ho := List.getElem?_eq_getElem hl
    rw [List.take_succ_eq_append_getElem hl, List.filter_append]
    cases hp : P out[q] with
    | false =>
      rw [List.filter_cons_of_neg (by simp [hp]), List.filter_nil, List.append_nil, ih]
      rw [gv_no ho (given_none (by rw [gv_ids]; exact hP _ (List.getElem_mem hl) hp))]
    | true =>
      rw [List.filter_cons_of_pos hp, List.filter_nil, List.length_append, List.length_singleton]
      generalize hm : (out.take q).filter P = m at ih ⊢
      have e1 : gv ks Y (m ++ [out[q]]) m.length = gv ks Y m m.length := gv_front _ (Nat.le_refl _)
      have e2 : (m ++ [out[q]])[m.length]? = some out[q] := by simp
      cases hg : given1 ks (gv ks Y out q).1 out[q] with
      | none => rw [gv_no ho hg, gv_no e2 (by rw [e1, ih]; exact hg), e1, ih]
      | some Z => rw [gv_yes ho hg, gv_yes e2 (Z := Z) (by rw [e1, ih]; exact hg)]
/-- the players and units, turned round. -/
def keys (us : List UnV) : List (Int × Int) := [3, 2, 1, 0].flatMap fun p => us.reverse.map fun v => ((p : Int), v.id)
theorem keys_nodup {us : List UnV} (h : (us.map UnV.id).Nodup) : (keys us).Nodup := by
  have hr : ∀ p : Int, (us.reverse.map fun v => (p, v.id)).Nodup := fun p => by
    have : (us.reverse.map fun v => (p, v.id)) = (us.reverse.map UnV.id).map (Prod.mk p) := by rw [List.map_map]; rfl
    rw [this, List.map_reverse]
    exact List.Pairwise.map _ (fun a b (hab : a ≠ b) he => hab (Prod.mk.inj he).2) (List.pairwise_reverse.2 (List.Pairwise.imp (fun hab => Ne.symm hab) h))
  have hd : ∀ p q : Int, p ≠ q → ∀ x ∈ (us.reverse.map fun v => (p, v.id)), ∀ y ∈ (us.reverse.map fun v => (q, v.id)), x ≠ y := by
    intro p q hpq x hx y hy e
    obtain ⟨a, -, rfl⟩ := List.mem_map.1 hx
    obtain ⟨b, -, rfl⟩ := List.mem_map.1 hy
    exact hpq (Prod.mk.inj e).1
  unfold keys
  simp only [List.flatMap_cons, List.flatMap_nil, List.append_nil]
  refine List.nodup_append.2 ⟨hr 3, List.nodup_append.2 ⟨hr 2, List.nodup_append.2 ⟨hr 1, hr 0, hd 1 0 (by decide)⟩, ?_⟩, ?_⟩
  · intro x hx y hy
    rcases List.mem_append.1 hy with hy | hy
    · exact hd 2 1 (by decide) x hx y hy
    · exact hd 2 0 (by decide) x hx y hy
  · intro x hx y hy
    rcases List.mem_append.1 hy with hy | hy
    · exact hd 3 2 (by decide) x hx y hy
    · rcases List.mem_append.1 hy with hy | hy
      · exact hd 3 1 (by decide) x hx y hy
      · exact hd 3 0 (by decide) x hx y hy
theorem keys_mem {us : List UnV} {p u : Int} (h0 : 0 ≤ p) (h3 : p ≤ 3) (hu : u ∈ us.map UnV.id) : (p, u) ∈ keys us := by
  obtain ⟨v, hv, rfl⟩ := List.mem_map.1 hu
  refine List.mem_flatMap.2 ⟨p, ?_, List.mem_map.2 ⟨v, List.mem_reverse.2 hv, rfl⟩⟩
  have : p = 3 ∨ p = 2 ∨ p = 1 ∨ p = 0 := by omega
  rcases this with rfl | rfl | rfl | rfl <;> simp
/-- what TurnOrder says. -/
theorem turned_same {ks : List KV} {X Y Y' : WV} {l : List OrV} {es es' : List EvV} (hn : (X.us.map UnV.id).Nodup) (hf : Od.faults l = 0) (h : StepR ks X l Y es) (h' : StepR ks X (trn (keys X.us) l) Y' es') : Y = Y' := by
  obtain ⟨out, Wn, Hn, Z, a1, a2, a3, a4, rfl⟩ := h
  obtain ⟨out', Wn', Hn', Z', b1, b2, b3, b4, rfl⟩ := h'
  obtain rfl : Wn = Wn' := by omega
  obtain rfl : Hn = Hn' := by omega
  have e := last_some (Q := fun p u => decide ((p, u) ∈ keys X.us)) a1 b1 fun p u t => trn_class (keys_nodup hn)
  have hg := gv_some (ks := ks) (Y := X) (out := out) (P := fun o => decide ((o.player, o.unit) ∈ keys X.us)) (fun o ho hp hu => by
    have hb := (Od.faults_ok hf).2 o (a1.mem ho)
    unfold Od.bad at hb
    exact of_decide_eq_false hp (keys_mem (by omega) (by omega) hu)) out.length (Nat.le_refl _)
  rw [List.take_length] at hg
  rw [e, hg] at b4
  obtain ⟨rfl, rfl⟩ := ph_uniq a4 b4
  rfl
end To
end Go.Proofs.YtkejdkajfnaieaaGreatDoor

namespace Go.Proofs.YtkejdkajfnaieaaGreatDoor
open Go.Proofs.YtkejdkajfnaieaaGreatDoor.So
set_option linter.unusedVariables false

namespace To
theorem ids_nodup {ks : List KV} {X : WV} (h : WRight ks X) : (X.us.map UnV.id).Nodup := by
  refine List.pairwise_map.2 (List.pairwise_iff_getElem.2 fun i j hi hj hij => ?_)
  have := ids_rise h (j - i - 1) i X.us[i] X.us[j] (List.getElem?_eq_getElem hi) (by rw [show i + (j - i - 1) + 1 = j from by omega]; exact List.getElem?_eq_getElem hj)
  omega
theorem keys_len (us : List UnV) : (keys us).length = 4 * us.length := by
  unfold keys
  simp only [List.flatMap_cons, List.flatMap_nil, List.append_nil, List.length_append, List.length_map, List.length_reverse]
  omega
theorem keys_at {us : List UnV} {m k : Nat} {v : UnV} (hm : m < 4) (hk : k < us.length) (hv : us[us.length - 1 - k]? = some v) : (keys us)[m * us.length + k]? = some (3 - (m : Int), v.id) := by
  have r : ∀ p : Int, (us.reverse.map fun v => (p, v.id))[k]? = some (p, v.id) := fun p => by
    rw [List.getElem?_map, List.getElem?_reverse hk, hv]
    rfl
  have ln : ∀ p : Int, (us.reverse.map fun v => (p, v.id)).length = us.length := fun p => by rw [List.length_map, List.length_reverse]
  unfold keys
  simp only [List.flatMap_cons, List.flatMap_nil, List.append_nil]
  match m, hm with
  | 0, _ =>
    rw [List.getElem?_append_left (by rw [ln]; omega), show 0 * us.length + k = k from by omega, r]
    rfl
  | 1, _ =>
    rw [List.getElem?_append_right (by rw [ln]; omega), ln, show 1 * us.length + k - us.length = k from by omega, List.getElem?_append_left (by rw [ln]; omega), r]
    rfl
  | 2, _ =>
    rw [List.getElem?_append_right (by rw [ln]; omega), ln, List.getElem?_append_right (by rw [ln]; omega), ln, show 2 * us.length + k - us.length - us.length = k from by omega, List.getElem?_append_left (by rw [ln]; omega), r]
    rfl
  | 3, _ =>
    rw [List.getElem?_append_right (by rw [ln]; omega), ln, List.getElem?_append_right (by rw [ln]; omega), ln, List.getElem?_append_right (by rw [ln]; omega), ln, show 3 * us.length + k - us.length - us.length - us.length = k from by omega, r]
    rfl
theorem trn_next {ds : List (Int × Int)} {l : List OrV} {j : Nat} {d : Int × Int} (h : ds[j]? = some d) : trn (ds.take (j + 1)) l = trn (ds.take j) l ++ l.filter (kq d) := by
  obtain ⟨hj, e⟩ := List.getElem?_eq_some_iff.1 h
  unfold trn
  rw [List.take_succ_eq_append_getElem hj, List.flatMap_append, e]
  simp
theorem fil_next {l : List OrV} {q : OrV → Bool} {n : Nat} {o : OrV} (h : l[n]? = some o) : (l.take (n + 1)).filter q = (l.take n).filter q ++ if q o then [o] else [] := by
  obtain ⟨hj, e⟩ := List.getElem?_eq_some_iff.1 h
  rw [List.take_succ_eq_append_getElem hj, List.filter_append, e, List.filter_cons, List.filter_nil]
/-- what is turned round when m players are done, k units of the next one, and n orders of the next unit. -/
def tw (us : List UnV) (l : List OrV) (m k n : Nat) : List OrV := trn ((keys us).take (m * us.length + k)) l ++ match us[us.length - 1 - k]? with
  | some v => (l.take n).filter (kq (3 - (m : Int), v.id))
  | none => []
theorem tw_zero (us : List UnV) (l : List OrV) : tw us l 0 0 0 = [] := by
  unfold tw
  cases us[us.length - 1 - 0]? <;> simp [trn]
theorem tw_no {us : List UnV} {l : List OrV} {m k n : Nat} {v : UnV} {o : OrV} (hv : us[us.length - 1 - k]? = some v) (ho : l[n]? = some o) (h : ¬ (o.player = 3 - (m : Int) ∧ o.unit = v.id)) : tw us l m k (n + 1) = tw us l m k n := by
  unfold tw
  simp only [hv]
  rw [fil_next ho, if_neg (by simpa [kq] using h), List.append_nil]
theorem tw_yes {us : List UnV} {l : List OrV} {m k n : Nat} {v : UnV} {o : OrV} (hv : us[us.length - 1 - k]? = some v) (ho : l[n]? = some o) (h : o.player = 3 - (m : Int) ∧ o.unit = v.id) : tw us l m k (n + 1) = tw us l m k n ++ [o] := by
  unfold tw
  simp only [hv]
  rw [fil_next ho, if_pos (show kq (3 - (m : Int), v.id) o = true from decide_eq_true h), List.append_assoc]
theorem tw_start (us : List UnV) (l : List OrV) (m k : Nat) : tw us l m k 0 = trn ((keys us).take (m * us.length + k)) l := by
  unfold tw
  cases us[us.length - 1 - k]? <;> simp
theorem tw_unit {us : List UnV} {l : List OrV} {m k : Nat} {v : UnV} (hm : m < 4) (hk : k < us.length) (hv : us[us.length - 1 - k]? = some v) : tw us l m k l.length = tw us l m (k + 1) 0 := by
  rw [tw_start]
  unfold tw
  simp only [hv]
  rw [List.take_length, ← Nat.add_assoc, trn_next (keys_at hm hk hv)]
theorem tw_player (us : List UnV) (l : List OrV) (m : Nat) : tw us l m us.length 0 = tw us l (m + 1) 0 0 := by
  rw [tw_start, tw_start, Nat.succ_mul, Nat.add_zero]
theorem tw_all (us : List UnV) (l : List OrV) : tw us l 4 0 0 = trn (keys us) l := by
  rw [tw_start, Nat.add_zero, ← keys_len, List.take_length]
theorem tw_len {us : List UnV} {l : List OrV} {m k n : Nat} (hn : (us.map UnV.id).Nodup) : (tw us l m k n).length ≤ 2 * l.length := by
  unfold tw
  rw [List.length_append]
  have h1 := trn_len (l := l) ((keys_nodup hn).sublist (List.take_sublist (m * us.length + k) _))
  have h2 : ∀ q : OrV → Bool, ((l.take n).filter q).length ≤ l.length := fun q => by
    have a := List.length_filter_le q (l.take n)
    rw [List.length_take] at a
    omega
  cases us[us.length - 1 - k]? with
  | none => simp; omega
  | some v => have := h2 (kq (3 - (m : Int), v.id)); simp only; omega
end To
end Go.Proofs.YtkejdkajfnaieaaGreatDoor

namespace Go.Proofs.YtkejdkajfnaieaaGreatDoor
open Go.RowKit Go.Proofs.YtkejdkajfnaieaaGreatDoor.So
set_option linter.unusedVariables false

/-- in block z there is the world Q. -/
def Wb (V : World) (z : Nat) (Q : WV) : Prop := ∃ g1 l1 g2 l2 g3 l3 g4 l4 g5 l5, Bw V z Q (.slice g1 Q.gs.length l1) (.slice g2 Q.os.length l2) (.slice g3 Q.gold.length l3) (.slice g4 Q.us.length l4) (.slice g5 Q.qs.length l5) ∧ Wl V (.agg #[.int .i64 Q.turn, .int .i64 Q.next, .int .i64 Q.wide, .int .i64 Q.high, .slice g1 Q.gs.length l1, .slice g2 Q.os.length l2, .slice g3 Q.gold.length l3, .slice g4 Q.us.length l4, .slice g5 Q.qs.length l5]) Q
theorem Wb.below {W V : World} {z : Nat} {Q : WV} (h : Wb W z Q) (hb : Below W.heap.size W V) : Wb V z Q := by
  obtain ⟨g1, l1, g2, l2, g3, l3, g4, l4, g5, l5, h1, h2⟩ := h
  exact ⟨g1, l1, g2, l2, g3, l3, g4, l4, g5, l5, h1.below hb h1.lt, h2.below hb⟩
theorem Wb.lt {W : World} {z : Nat} {Q : WV} (h : Wb W z Q) : z < W.heap.size := by
  obtain ⟨g1, l1, g2, l2, g3, l3, g4, l4, g5, l5, h1, h2⟩ := h
  exact h1.lt
theorem er_nil0 {r : Value} (h : Er r 0) : r = .nilIface := by
  rcases h with ⟨-, h⟩ | ⟨h, -⟩
  · exact h
  · exact absurd rfl h
end Go.Proofs.YtkejdkajfnaieaaGreatDoor

namespace Go.Proofs.YtkejdkajfnaieaaGreatDoor
open Go.RowKit Go.Proofs.YtkejdkajfnaieaaGreatDoor.So
set_option linter.unusedVariables false

namespace To
theorem to_fact {w w' : World} {v ev r : Value} (hs : StepSays SK S3 [o1, o2] w w' v ev) (he : Er r (stepFault SK S3 [o1, o2])) : r = .nilIface ∧ ∃ es, 3 ≤ es.length ∧ Wo w' w.heap.size v (TW 1 20 hit) ∧ Evo w' w.heap.size ev es := by
  rw [fault] at he
  obtain ⟨es, h1, h2⟩ := step
  rcases hs with ⟨hn, -⟩ | ⟨-, A, es', h3, h4, h5⟩
  · exact absurd fault hn
  · obtain ⟨rfl, rfl⟩ := step_uniq h1 h3
    exact ⟨er_nil0 he, es, h2, h4, h5⟩
theorem to_first {ks : List KV} {X : WV} {l : List OrV} {w w' : World} {v ev r : Value} (hs : StepSays ks X l w w' v ev) (he : Er r (stepFault ks X l)) : (∃ F : Int, r = .iface 97 (.int .i64 F)) ∨ (r = .nilIface ∧ stepFault ks X l = 0 ∧ ∃ Y es, StepR ks X l Y es ∧ Wd.wfault ks Y = 0 ∧ Y.turn = X.turn + 1 ∧ Wo w' w.heap.size v Y) := by
  rcases hs with ⟨hn, -⟩ | ⟨h0, A, es, h3, h4, h5⟩
  · rcases he with ⟨h, -⟩ | ⟨-, h⟩
    · exact absurd h hn
    · exact .inl ⟨_, h⟩
  · rw [h0] at he
    obtain ⟨a, b⟩ := step_right h0 h3
    exact .inr ⟨er_nil0 he, h0, A, es, h3, a, b, h4⟩
theorem fault_turned {ks : List KV} {X : WV} {l : List OrV} (h : stepFault ks X l = 0) : Wd.wfault ks X = 0 ∧ Od.faults l = 0 ∧ stepFault ks X (trn (keys X.us) l) = 0 := by
  unfold stepFault at h ⊢
  by_cases h1 : Wd.wfault ks X = 0
  · rw [if_neg (fun h => h h1)] at h ⊢
    by_cases h2 : 1000000 ≤ X.turn
    · rw [if_pos h2] at h; cases h
    · rw [if_neg h2] at h ⊢
      exact ⟨h1, h, trn_fault (keys_nodup (ids_nodup (wright_of h1))) h⟩
  · rw [if_pos h1] at h; exact absurd h h1
theorem to_second {ks : List KV} {X Y : WV} {l : List OrV} {es : List EvV} (h0 : stepFault ks X l = 0) (h : StepR ks X l Y es) {w w' : World} {v ev r : Value} (hs : StepSays ks X (trn (keys X.us) l) w w' v ev) (he : Er r (stepFault ks X (trn (keys X.us) l))) : r = .nilIface ∧ Wo w' w.heap.size v Y := by
  obtain ⟨a, b, c⟩ := fault_turned h0
  rcases hs with ⟨hn, -⟩ | ⟨-, A, es', h3, h4, h5⟩
  · exact absurd c hn
  · rw [c] at he
    obtain rfl := turned_same (ids_nodup (wright_of a)) b h h3
    exact ⟨er_nil0 he, h4⟩
end To
end Go.Proofs.YtkejdkajfnaieaaGreatDoor

namespace Go.Proofs.YtkejdkajfnaieaaGreatDoor
open Go.RowKit

set_option maxHeartbeats 400000 in
theorem ints_any (u v : Value) (xs ys : List Int) (w : World) (hu : Ro w u xs) (hv : Ro w v ys) :
    Calls Tryz.prog 40 #[u, v] w fun e w' => e = .returned (.bool (decide (xs = ys))) ∧ ∃ n, w' = w.drewN n := by
  obtain ⟨a, c, rfl, hc1, hc2, ha⟩ := hu
  obtain ⟨b, d, rfl, hd1, hd2, hb⟩ := hv
  have Ha : Hid (Cells w a xs) := ha
  have Hb : Hid (Cells w b ys) := hb
  clear ha hb
  by_cases hl : xs.length = ys.length
  · have Hl : Hid (xs.length = ys.length) := hl
    rw [← hl] at hd1 ⊢
    clear hl
    go_enter Tryz.func40, Tryz.ntmps40
    go_wp2_with fail
    go_loopw [5] (fun i W => ∃ (k q : Nat), k ≤ xs.length ∧ i = .int .i64 (k : Nat) ∧ xs.take k = ys.take k ∧ W = w.drewN q) (fun i _ => xs.length - (intOf i).toNat)
    case atStart => exact ⟨0, 0, Nat.zero_le _, rfl, by simp, rfl⟩
    case round =>
      obtain ⟨k, q, hk, rfl, ht, rfl⟩ := hrel
      have Ht : Hid (xs.take k = ys.take k) := ht
      clear ht
      by_cases h0 : k = xs.length
      · subst h0
        go_wp2
        go_ret
        refine ⟨?_, q, rfl⟩
        have e := Ht.out
        rw [List.take_of_length_le (Nat.le_refl _), Hl.out, List.take_of_length_le (Nat.le_refl _)] at e
        simp [e]
      · have hkx : k < xs.length := by omega
        have hky : k < ys.length := by rw [← Hl.out]; exact hkx
        obtain ⟨x, rfl, -, hx⟩ := Ha.out (by intro h; rw [h] at hkx; simp at hkx)
        obtain ⟨y, rfl, -, hy⟩ := Hb.out (by intro h; rw [h] at hky; simp at hky)
        have cx := hx k xs[k] (List.getElem?_eq_getElem hkx)
        have cy := hy k ys[k] (List.getElem?_eq_getElem hky)
        have Te : Hid (xs.take (k + 1) = ys.take (k + 1) ↔ xs[k] = ys[k]) := by
          unfold Hid
          rw [List.take_succ_eq_append_getElem hkx, List.take_succ_eq_append_getElem hky, Ht.out]
          exact ⟨fun h => (List.cons.inj (List.append_cancel_left h)).1, fun h => by rw [h]⟩
        generalize xs[k] = p at *
        generalize ys[k] = r at *
        clear hx hy
        by_cases hpr : p = r
        · subst hpr
          go_wp2
          go_quiet (fail)
          go_wp2
          go_round
          case rel => exact ⟨k + 1, q + nq, by omega, by go_num, by first | exact Te.out.2 rfl | exact Te.out.2 trivial, rfl⟩
          case measure => simp [intOf]; omega
        · go_wp2
          go_quiet (fail)
          go_wp2
          go_ret
          refine ⟨?_, q + nq, by rw [World.drewN_drewN]⟩
          have : xs ≠ ys := fun h => hpr (Te.out.1 (by rw [h]))
          simp [this]
  · go_enter Tryz.func40, Tryz.ntmps40
    go_wp2
    go_ret
    refine ⟨?_, 0, rfl⟩
    have : xs ≠ ys := fun h => hl (by rw [h])
    simp [this]
end Go.Proofs.YtkejdkajfnaieaaGreatDoor

namespace Go.Proofs.YtkejdkajfnaieaaGreatDoor
open Go.RowKit
set_option linter.unusedVariables false

set_option maxHeartbeats 1000000 in
theorem same_field (u v : Value) (W H : Int) (gs os : List Int) (w : World) (hu : Fl w u W H gs os) (hv : Fl w v W H gs os) :
    Calls Tryz.prog 51 #[u, v] w fun e w' => e = .returned (.bool true) ∧ Below w.heap.size w w' := by
  obtain ⟨a1, a2, rfl, ha1, ha2⟩ := hu
  obtain ⟨b1, b2, rfl, hb1, hb2⟩ := hv
  have A1 : Hid (Ro w a1 gs) := ha1
  have A2 : Hid (Ro w a2 os) := ha2
  have B1 : Hid (Ro w b1 gs) := hb1
  have B2 : Hid (Ro w b2 os) := hb2
  clear ha1 ha2 hb1 hb2
  go_enter Tryz.func51, Tryz.ntmps51
  go_wp2_with fail
  have K0 : Below w.heap.size w ((w.alloc (Obj.cells #[.int .i64 W, .int .i64 H, a1, a2] 25)).alloc (Obj.cells #[.int .i64 W, .int .i64 H, b1, b2] 25)) := ((Below.refl _ _).alloc (Nat.le_refl _) _).alloc (by simp) _
  have X0 := (Bf.mk' (w := w) W H a1 a2 rfl).below ((Below.refl _ _).alloc (Nat.le_refl _) (Obj.cells #[.int .i64 W, .int .i64 H, b1, b2] 25)) (by simp)
  have Y0 := Bf.mk' (w := w.alloc (Obj.cells #[.int .i64 W, .int .i64 H, a1, a2] 25)) (z := w.heap.size + 1) W H b1 b2 (by simp)
  generalize (w.alloc (Obj.cells #[.int .i64 W, .int .i64 H, a1, a2] 25)).alloc (Obj.cells #[.int .i64 W, .int .i64 H, b1, b2] 25) = w0 at *
  refine (ints_any _ _ gs gs _ (A1.out.below K0) (B1.out.below K0)).mono ?_
  rintro e w1 ⟨rfl, q1, hq1⟩
  rw [decide_eq_true rfl]
  have k1 : Below w0.heap.size w0 w1 := by rw [hq1]; exact _root_.Go.below_drewN (Below.refl _ _) _
  have K1 : Below w.heap.size w w1 := K0.trans (k1.mono K0.size)
  have X1 : Hid (Bf w1 w.heap.size W H a1 a2) := X0.below k1 X0.lt
  have Y1 : Hid (Bf w1 (w.heap.size + 1) W H b1 b2) := Y0.below k1 Y0.lt
  clear hq1 k1 X0 Y0 K0
  obtain ⟨x0, x1, x2, x3⟩ := X1.out
  obtain ⟨y0, y1, y2, y3⟩ := Y1.out
  have K1' : Hid (Below w.heap.size w w1) := K1
  clear K1
  go_wp2_with fail
  refine (ints_any _ _ os os _ (A2.out.below K1'.out) (B2.out.below K1'.out)).mono ?_
  rintro e w2 ⟨rfl, q2, hq2⟩
  rw [decide_eq_true rfl]
  have k2 : Below w1.heap.size w1 w2 := by rw [hq2]; exact _root_.Go.below_drewN (Below.refl _ _) _
  have K2 : Hid (Below w.heap.size w w2) := K1'.out.trans (k2.mono K1'.out.size)
  have X2 : Hid (Bf w2 w.heap.size W H a1 a2) := X1.out.below k2 X1.out.lt
  have Y2 : Hid (Bf w2 (w.heap.size + 1) W H b1 b2) := Y1.out.below k2 Y1.out.lt
  clear hq2 k2 x0 x1 x2 x3 y0 y1 y2 y3 X1 Y1 K1'
  obtain ⟨x0, x1, x2, x3⟩ := X2.out
  obtain ⟨y0, y1, y2, y3⟩ := Y2.out
  go_wp2
  go_ret
  exact ⟨rfl, K2⟩
end Go.Proofs.YtkejdkajfnaieaaGreatDoor

namespace Go.Proofs.YtkejdkajfnaieaaGreatDoor
open Go.RowKit
set_option linter.unusedVariables false

theorem ints_like (u v : Value) (xs : List Int) (w : World) (hu : Ro w u xs) (hv : Ro w v xs) :
    Calls Tryz.prog 40 #[u, v] w fun e w' => e = .returned (.bool true) ∧ Below w.heap.size w w' :=
  (ints_any u v xs xs w hu hv).mono fun e w' ⟨h1, q, h2⟩ => ⟨by rw [h1, decide_eq_true rfl], by rw [h2]; exact _root_.Go.below_drewN (Below.refl _ _) _⟩
set_option maxRecDepth 100000 in
set_option maxHeartbeats 4000000 in
theorem worlds_like (u v : Value) (W : WV) (w : World) (hu : Wl w u W) (hv : Wl w v W) :
    Calls Tryz.prog 13 #[u, v] w fun e w' => e = .returned (.bool true) ∧ Below w.heap.size w w' := by
  obtain ⟨u1, u2, u3, u4, u5, rfl, g1, g2, g3, g4, g5⟩ := hu
  obtain ⟨v1, v2, v3, v4, v5, rfl, k1, k2, k3, k4, k5⟩ := hv
  obtain ⟨a4, c4, rfl, gl4, gc4, ga4⟩ := g4
  obtain ⟨b4, d4, rfl, kl4, kc4, ka4⟩ := k4
  obtain ⟨a5, c5, rfl, gl5, gc5, ga5⟩ := g5
  obtain ⟨b5, d5, rfl, kl5, kc5, ka5⟩ := k5
  have R : Hid (Ro w u1 W.gs ∧ Ro w u2 W.os ∧ Ro w u3 W.gold ∧ Ro w v1 W.gs ∧ Ro w v2 W.os ∧ Ro w v3 W.gold) := ⟨g1, g2, g3, k1, k2, k3⟩
  have GU : Hid (W.us ≠ [] → ∃ x, a4 = some x ∧ x.block < w.heap.size ∧ ∀ (i : Nat) k, W.us[i]? = some k → Unc w (x.add (i * 8)) k) := ga4
  have KU : Hid (W.us ≠ [] → ∃ x, b4 = some x ∧ x.block < w.heap.size ∧ ∀ (i : Nat) k, W.us[i]? = some k → Unc w (x.add (i * 8)) k) := ka4
  have GJ : Hid (W.qs ≠ [] → ∃ x, a5 = some x ∧ x.block < w.heap.size ∧ ∀ (i : Nat) k, W.qs[i]? = some k → Jbc w (x.add (i * 4)) k) := ga5
  have KJ : Hid (W.qs ≠ [] → ∃ x, b5 = some x ∧ x.block < w.heap.size ∧ ∀ (i : Nat) k, W.qs[i]? = some k → Jbc w (x.add (i * 4)) k) := ka5
  have hul : W.us.length ≤ 9223372036854775807 := by omega
  have hql : W.qs.length ≤ 9223372036854775807 := by omega
  clear g1 g2 g3 k1 k2 k3 ga4 ka4 ga5 ka5 gl4 gc4 kl4 kc4 gl5 gc5 kl5 kc5
  go_enter Tryz.func13, Tryz.ntmps13
  go_wp2_with fail
  have K0 : Below w.heap.size w ((w.alloc (Obj.cells #[.int .i64 W.turn, .int .i64 W.next, .int .i64 W.wide, .int .i64 W.high, u1, u2, u3, .slice a4 W.us.length c4, .slice a5 W.qs.length c5] 29)).alloc (Obj.cells #[.int .i64 W.turn, .int .i64 W.next, .int .i64 W.wide, .int .i64 W.high, v1, v2, v3, .slice b4 W.us.length d4, .slice b5 W.qs.length d5] 29)) := ((Below.refl _ _).alloc (Nat.le_refl _) _).alloc (by simp) _
  have X0 := (Bw.mk' (w := w) W u1 u2 u3 (.slice a4 W.us.length c4) (.slice a5 W.qs.length c5) rfl).below ((Below.refl _ _).alloc (Nat.le_refl _) (Obj.cells #[.int .i64 W.turn, .int .i64 W.next, .int .i64 W.wide, .int .i64 W.high, v1, v2, v3, .slice b4 W.us.length d4, .slice b5 W.qs.length d5] 29)) (by simp)
  have Y0 := Bw.mk' (w := w.alloc (Obj.cells #[.int .i64 W.turn, .int .i64 W.next, .int .i64 W.wide, .int .i64 W.high, u1, u2, u3, .slice a4 W.us.length c4, .slice a5 W.qs.length c5] 29)) (z := w.heap.size + 1) W v1 v2 v3 (.slice b4 W.us.length d4) (.slice b5 W.qs.length d5) (by simp)
  generalize ((w.alloc (Obj.cells #[.int .i64 W.turn, .int .i64 W.next, .int .i64 W.wide, .int .i64 W.high, u1, u2, u3, .slice a4 W.us.length c4, .slice a5 W.qs.length c5] 29)).alloc (Obj.cells #[.int .i64 W.turn, .int .i64 W.next, .int .i64 W.wide, .int .i64 W.high, v1, v2, v3, .slice b4 W.us.length d4, .slice b5 W.qs.length d5] 29)) = w0 at *
  refine (same_field _ _ W.wide W.high W.gs W.os w0 ⟨_, _, rfl, R.out.1.below K0, R.out.2.1.below K0⟩ ⟨_, _, rfl, R.out.2.2.2.1.below K0, R.out.2.2.2.2.1.below K0⟩).mono ?_
  rintro e w1 ⟨rfl, hb1⟩
  have K1 : Hid (Below w.heap.size w w1) := K0.trans (hb1.mono K0.size)
  have X1 : Hid (Bw w1 w.heap.size W u1 u2 u3 (.slice a4 W.us.length c4) (.slice a5 W.qs.length c5)) := X0.below hb1 X0.lt
  have Y1 : Hid (Bw w1 (w.heap.size + 1) W v1 v2 v3 (.slice b4 W.us.length d4) (.slice b5 W.qs.length d5)) := Y0.below hb1 Y0.lt
  clear K0 X0 Y0 hb1
  obtain ⟨x0, x1, x2, x3, x4, x5, x6, x7, x8⟩ := X1.out
  obtain ⟨y0, y1, y2, y3, y4, y5, y6, y7, y8⟩ := Y1.out
  go_wp2_with fail
  refine (ints_like _ _ W.gold w1 (R.out.2.2.1.below K1.out) (R.out.2.2.2.2.2.below K1.out)).mono ?_
  rintro e w2 ⟨rfl, hb2⟩
  have K2' : Hid (Below w.heap.size w w2) := K1.out.trans (hb2.mono K1.out.size)
  have X2 : Hid (Bw w2 w.heap.size W u1 u2 u3 (.slice a4 W.us.length c4) (.slice a5 W.qs.length c5)) := X1.out.below hb2 X1.out.lt
  have Y2 : Hid (Bw w2 (w.heap.size + 1) W v1 v2 v3 (.slice b4 W.us.length d4) (.slice b5 W.qs.length d5)) := Y1.out.below hb2 Y1.out.lt
  clear hb2 x0 x1 x2 x3 x4 x5 x6 x7 x8 y0 y1 y2 y3 y4 y5 y6 y7 y8 X1 Y1 K1
  obtain ⟨x0, x1, x2, x3, x4, x5, x6, x7, x8⟩ := X2.out
  obtain ⟨y0, y1, y2, y3, y4, y5, y6, y7, y8⟩ := Y2.out
  go_wp2
  clear x0 x1 x2 x3 x4 x5 x6 x7 x8 y0 y1 y2 y3 y4 y5 y6 y7 y8
  go_loopw [7] (fun i W' => ∃ k : Nat, k ≤ W.us.length ∧ i = .int .i64 (k : Nat) ∧ Bw W' w.heap.size W u1 u2 u3 (.slice a4 W.us.length c4) (.slice a5 W.qs.length c5) ∧ Bw W' (w.heap.size + 1) W v1 v2 v3 (.slice b4 W.us.length d4) (.slice b5 W.qs.length d5) ∧ Below w.heap.size w W') (fun i _ => W.us.length - (intOf i).toNat)
  case atStart => exact ⟨0, Nat.zero_le _, rfl, X2.out, Y2.out, K2'.out⟩
  case round =>
    obtain ⟨k, hk, rfl, hX, hY, hB⟩ := hrel
    have XB : Hid (Bw wr w.heap.size W u1 u2 u3 (.slice a4 W.us.length c4) (.slice a5 W.qs.length c5)) := hX
    have YB : Hid (Bw wr (w.heap.size + 1) W v1 v2 v3 (.slice b4 W.us.length d4) (.slice b5 W.qs.length d5)) := hY
    have B : Hid (Below w.heap.size w wr) := hB
    clear hX hY hB X2 Y2 K2'
    by_cases h0 : k = W.us.length
    · subst h0
      have x7 := XB.out.c7
      clear hk
      go_wp2
      clear x7
      go_loopw [8] (fun i W' => ∃ k : Nat, k ≤ W.qs.length ∧ i = .int .i64 (k : Nat) ∧ Bw W' w.heap.size W u1 u2 u3 (.slice a4 W.us.length c4) (.slice a5 W.qs.length c5) ∧ Bw W' (w.heap.size + 1) W v1 v2 v3 (.slice b4 W.us.length d4) (.slice b5 W.qs.length d5) ∧ Below w.heap.size w W') (fun i _ => W.qs.length - (intOf i).toNat)
      case atStart => exact ⟨0, Nat.zero_le _, rfl, XB.out, YB.out, B.out⟩
      case round =>
        obtain ⟨k, hk, rfl, hX, hY, hB⟩ := hrel
        have XB : Hid (Bw wr w.heap.size W u1 u2 u3 (.slice a4 W.us.length c4) (.slice a5 W.qs.length c5)) := hX
        have YB : Hid (Bw wr (w.heap.size + 1) W v1 v2 v3 (.slice b4 W.us.length d4) (.slice b5 W.qs.length d5)) := hY
        have B : Hid (Below w.heap.size w wr) := hB
        clear hX hY hB
        by_cases h0 : k = W.qs.length
        · subst h0
          have x8 := XB.out.c8
          clear hk
          go_wp2
          go_ret
          exact ⟨rfl, B.out⟩
        · have hlt : k < W.qs.length := by omega
          have hlti : ((k : Nat) : Int) < (W.qs.length : Nat) := by omega
          obtain ⟨o, ho⟩ : ∃ o, W.qs[k]? = some o := ⟨_, List.getElem?_eq_getElem hlt⟩
          have hne : W.qs ≠ [] := by intro e; rw [e] at hlt; simp at hlt
          obtain ⟨x, rfl, hx, hxc⟩ := GJ.out hne
          obtain ⟨y, rfl, hy, hyc⟩ := KJ.out hne
          obtain ⟨q0, q1, q2, q3⟩ := (hxc k o ho).below B.out (by rw [add_block]; exact hx)
          obtain ⟨r0, r1, r2, r3⟩ := (hyc k o ho).below B.out (by rw [add_block]; exact hy)
          have x8 := XB.out.c8
          have y8 := YB.out.c8
          clear hxc hyc hne ho hx hy
          go_wp2
          go_quiet (fail)
          go_wp2
          go_round
          case rel => exact ⟨k + 1, by omega, by go_num, XB.out.below (_root_.Go.below_drewN (Below.refl _ _) _) XB.out.lt, YB.out.below (_root_.Go.below_drewN (Below.refl _ _) _) YB.out.lt, _root_.Go.below_drewN B.out _⟩
          case measure => simp [intOf]; omega
    · have hlt : k < W.us.length := by omega
      have hlti : ((k : Nat) : Int) < (W.us.length : Nat) := by omega
      obtain ⟨o, ho⟩ : ∃ o, W.us[k]? = some o := ⟨_, List.getElem?_eq_getElem hlt⟩
      have hne : W.us ≠ [] := by intro e; rw [e] at hlt; simp at hlt
      obtain ⟨x, rfl, hx, hxc⟩ := GU.out hne
      obtain ⟨y, rfl, hy, hyc⟩ := KU.out hne
      obtain ⟨q0, q1, q2, q3, q4, q5, q6, q7⟩ := (hxc k o ho).below B.out (by rw [add_block]; exact hx)
      obtain ⟨r0, r1, r2, r3, r4, r5, r6, r7⟩ := (hyc k o ho).below B.out (by rw [add_block]; exact hy)
      have x7 := XB.out.c7
      have y7 := YB.out.c7
      clear hxc hyc hne ho hx hy
      go_wp2
      go_quiet (fail)
      go_wp2
      go_round
      case rel => exact ⟨k + 1, by omega, by go_num, XB.out.below (_root_.Go.below_drewN (Below.refl _ _) _) XB.out.lt, YB.out.below (_root_.Go.below_drewN (Below.refl _ _) _) YB.out.lt, _root_.Go.below_drewN B.out _⟩
      case measure => simp [intOf]; omega
end Go.Proofs.YtkejdkajfnaieaaGreatDoor

namespace Go.Proofs.YtkejdkajfnaieaaGreatDoor
open Go.RowKit
set_option linter.unusedVariables false

set_option maxRecDepth 100000 in
set_option maxHeartbeats 1000000 in
theorem lite_any (s : ByteArray) (c : Int) (w : World) :
    Calls Tryz.prog 216 #[.string s, .int .u8 c] w fun e w' => e = .returned (.int .i64 (Lib.indexByte s.data.toList c.toNat.toUInt8)) ∧ w' = w := by
  have hx := run_callFunc_extern (w := w) (args := #[.string s, .int .u8 c]) Tryz.func233 (by kernel_rfl) (by kernel_rfl) (by kernel_rfl) (e := Extern.BytealgIndexByte.indexByte) (by kernel_rfl)
  go_enter Tryz.func216, Tryz.ntmps216
  go_wp2
  rw [Lib.run_indexByteString]
  simp only [Result.andThen]
  rw [Oper.upon_value]
  go_wp2
  go_ret
  exact ⟨rfl, rfl⟩

set_option maxHeartbeats 1000000 in
theorem idx_byte (s : ByteArray) (c : Int) (w : World) :
    Calls Tryz.prog 180 #[.string s, .int .u8 c] w fun e w' => e = .returned (.int .i64 (Lib.indexByte s.data.toList c.toNat.toUInt8)) ∧ w' = w := by
  have K : Hid (Calls Tryz.prog 216 #[.string s, .int .u8 c] w fun e w' => e = .returned (.int .i64 (Lib.indexByte s.data.toList c.toNat.toUInt8)) ∧ w' = w) := lite_any s c w
  go_enter Tryz.func180, Tryz.ntmps180
  go_wp2_with fail
  refine Calls.mono K.out ?_
  rintro e w' ⟨rfl, rfl⟩
  go_wp2
  go_ret
  exact ⟨rfl, rfl⟩

namespace Fd
/-- the number of a sign's ground; -1: there is none. -/
def gnum (b : UInt8) : Int := if b = 46 then 0 else if b = 35 then 1 else if b = 126 then 2 else if b = 94 then 3 else -1
theorem gnum_meant (b : UInt8) (h : ¬ (49 ≤ b.toNat ∧ b.toNat ≤ 57)) : meant b = if 0 ≤ gnum b then some (gnum b, 0) else none := by
  unfold meant gnum
  rw [if_neg h]
  split
  · rfl
  · split
    · rfl
    · split
      · rfl
      · split
        · rfl
        · rfl
end Fd

theorem idx_sign (b : UInt8) : Lib.indexByte [46, 35, 126, 94] b = Fd.gnum b := by
  unfold Fd.gnum
  by_cases h1 : b = 46
  · subst h1; decide
  · by_cases h2 : b = 35
    · subst h2; decide
    · by_cases h3 : b = 126
      · subst h3; decide
      · by_cases h4 : b = 94
        · subst h4; decide
        · have g1 : ¬ 46 = b := fun h => h1 h.symm
          have g2 : ¬ 35 = b := fun h => h2 h.symm
          have g3 : ¬ 126 = b := fun h => h3 h.symm
          have g4 : ¬ 94 = b := fun h => h4 h.symm
          simp [Lib.indexByte, h1, h2, h3, h4, g1, g2, g3, g4]

set_option maxHeartbeats 1000000 in
theorem meant_any (b : UInt8) (w : World) :
    Calls Tryz.prog 145 #[.int .u8 (b.toNat : Nat)] w fun e w' => (∃ g o, Fd.meant b = some (g, o) ∧ e = .returned (.tuple #[.int .i64 g, .int .i64 o, .bool true]) ∧ w' = w) ∨ (Fd.meant b = none ∧ e = .returned (.tuple #[.int .i64 (-1), .int .i64 0, .bool false]) ∧ w' = w) := by
  have hb := b.toNat_lt
  by_cases h : 49 ≤ b.toNat ∧ b.toNat ≤ 57
  · have e : Fd.meant b = some (0, ((b.toNat : Int) - 48) * 10) := by unfold Fd.meant; rw [if_pos h]
    have E : Hid _ := e
    obtain ⟨h1, h2⟩ := h
    clear e
    generalize b.toNat = n at *
    have w1 : IntKind.u8.wrap ((n : Int) - 48) = (n : Int) - 48 := by rw [IntKind.wrap_u8]; omega
    go_enter Tryz.func145, Tryz.ntmps145
    go_wp2
    go_ret3
    exact .inl ⟨_, _, E.out, rfl, rfl⟩
  · have e := Fd.gnum_meant b h
    have I : Hid (Calls Tryz.prog 180 #[.string ⟨#[46, 35, 126, 94]⟩, .int .u8 (b.toNat : Nat)] w fun e w' => e = .returned (.int .i64 (Fd.gnum b)) ∧ w' = w) := by
      refine (idx_byte ⟨#[46, 35, 126, 94]⟩ (b.toNat : Nat) w).mono ?_
      rintro e w' ⟨rfl, rfl⟩
      refine ⟨?_, rfl⟩
      have e2 : ((b.toNat : Nat) : Int).toNat.toUInt8 = b := by rw [Int.toNat_natCast]; exact UInt8.ofNat_toNat
      rw [e2]
      rw [← idx_sign b]
    have gl : -1 ≤ Fd.gnum b := by unfold Fd.gnum; split <;> (try split) <;> (try split) <;> (try split) <;> omega
    generalize Fd.gnum b = g at *
    by_cases hg : 0 ≤ g
    · have E : Hid (Fd.meant b = some (g, 0)) := by unfold Hid; rw [e, if_pos hg]
      clear e
      by_cases h1 : 49 ≤ b.toNat
      · have h2 : ¬ b.toNat ≤ 57 := by omega
        clear h
        go_enter Tryz.func145, Tryz.ntmps145
        go_wp2_with fail
        refine Calls.mono I.out ?_
        rintro e w' ⟨rfl, rfl⟩
        go_wp2
        go_ret3
        exact .inl ⟨_, _, E.out, rfl, rfl⟩
      · clear h
        go_enter Tryz.func145, Tryz.ntmps145
        go_wp2_with fail
        refine Calls.mono I.out ?_
        rintro e w' ⟨rfl, rfl⟩
        go_wp2
        go_ret3
        exact .inl ⟨_, _, E.out, rfl, rfl⟩
    · obtain rfl : g = -1 := by omega
      have E : Hid (Fd.meant b = none) := by unfold Hid; rw [e, if_neg hg]
      clear e gl hg
      by_cases h1 : 49 ≤ b.toNat
      · have h2 : ¬ b.toNat ≤ 57 := by omega
        clear h
        go_enter Tryz.func145, Tryz.ntmps145
        go_wp2_with fail
        refine Calls.mono I.out ?_
        rintro e w' ⟨rfl, rfl⟩
        go_wp2
        go_ret3
        exact .inr ⟨E.out, rfl, rfl⟩
      · clear h
        go_enter Tryz.func145, Tryz.ntmps145
        go_wp2_with fail
        refine Calls.mono I.out ?_
        rintro e w' ⟨rfl, rfl⟩
        go_wp2
        go_ret3
        exact .inr ⟨E.out, rfl, rfl⟩
end Go.Proofs.YtkejdkajfnaieaaGreatDoor

namespace Go.Proofs.YtkejdkajfnaieaaGreatDoor
open Go.RowKit
set_option linter.unusedVariables false

/-- two lists in blocks of their own, which are two. -/
structure Two (w : World) (base : Nat) (u1 u2 : Value) (gs os : List Int) : Prop where
  o1 : Ow w base u1 gs
  o2 : Ow w base u2 os
  ne : ∀ k, u1.ownBlock = some k → u2.ownBlock ≠ some k
theorem Two.below {w w' : World} {base n : Nat} {u1 u2 : Value} {gs os : List Int} (h : Two w base u1 u2 gs os) (hb : Below n w w') (hn : w.heap.size ≤ n) : Two w' base u1 u2 gs os :=
  ⟨h.o1.below (hb.mono hn), h.o2.below (hb.mono hn), h.ne⟩
/-- what stays where one block below the base turns. -/
theorem Two.kp {w w' : World} {base z : Nat} {u1 u2 : Value} {gs os : List Int} (h : Two w base u1 u2 gs os) (hk : Kp z w w') (hz : z < base) : Two w' base u1 u2 gs os := by
  have hg : w.grownBy w' (some z) := ⟨hk.os, hk.tape, hk.output, hk.size, fun k hk' hne => hk.block k hk' (fun e => hne (by rw [e]))⟩
  refine ⟨h.o1.kept hg ?_, h.o2.kept hg ?_, h.ne⟩
  · right; intro e; have := (h.o1.block z e).1; omega
  · right; intro e; have := (h.o2.block z e).1; omega

/-- the block of a draft. -/
def Dt (w : World) (z : Nat) (u1 u2 : Value) (s : Fd.St) : Prop := w.heap[z]? = some (.cells #[.int .i64 (s.W : Nat), .int .i64 (s.H : Nat), u1, u2, .int .i64 (s.c : Nat)] 150 (0, 0))
/-- a draft. -/
def Dr (w : World) (z : Nat) (s : Fd.St) : Prop := ∃ u1 u2, Dt w z u1 u2 s ∧ Two w (z + 1) u1 u2 s.gs s.os

section
variable {w : World} {z : Nat} {u1 u2 : Value} {s : Fd.St}
theorem Dt.c0 (h : Dt w z u1 u2 s) : w.cell? ⟨z, 0, none⟩ = some (.int .i64 (s.W : Nat)) := by unfold Dt at h; simp [World.cell?, h]
theorem Dt.c1 (h : Dt w z u1 u2 s) : w.cell? ⟨z, 1, none⟩ = some (.int .i64 (s.H : Nat)) := by unfold Dt at h; simp [World.cell?, h]
theorem Dt.c2 (h : Dt w z u1 u2 s) : w.cell? ⟨z, 2, none⟩ = some u1 := by unfold Dt at h; simp [World.cell?, h]
theorem Dt.c3 (h : Dt w z u1 u2 s) : w.cell? ⟨z, 3, none⟩ = some u2 := by unfold Dt at h; simp [World.cell?, h]
theorem Dt.c4 (h : Dt w z u1 u2 s) : w.cell? ⟨z, 4, none⟩ = some (.int .i64 (s.c : Nat)) := by unfold Dt at h; simp [World.cell?, h]
theorem Dt.fz (h : Dt w z u1 u2 s) (i : Nat) : w.frozen? ⟨z, i, none⟩ = false := by unfold Dt at h; simp [World.frozen?, h]
theorem Dt.lt (h : Dt w z u1 u2 s) : z < w.heap.size := lt_of_block h
theorem Dt.below {w' : World} {n : Nat} (h : Dt w z u1 u2 s) (hb : Below n w w') (hz : z < n) : Dt w' z u1 u2 s := (hb.block z hz).trans h
end

set_option maxHeartbeats 1000000 in
theorem end_bad (z : Nat) (u1 u2 : Value) (s : Fd.St) (w : World) (h : Dt w z u1 u2 s) (hc : s.c ≤ 12) (hw : s.W ≤ 12) (hb : s.c = 0 ∨ s.c < s.W) :
    Calls Tryz.prog 144 #[.pointer (some ⟨z, 0, none⟩)] w fun e w' => e = .returned (.iface 97 (.int .i64 2)) ∧ ∃ n, w' = w.drewN n := by
  have c0 := h.c0
  have c4 := h.c4
  obtain ⟨c, W, H, gs, os⟩ := s
  simp only at hc hw hb c0 c4
  clear h
  by_cases q : c = 0
  · subst q
    go_enter Tryz.func144, Tryz.ntmps144
    go_wp2_with fail
    go_quiet (fail)
    go_wp2
    go_ret
    exact ⟨rfl, _, rfl⟩
  · have q2 : c < W := by omega
    have q' : ((c : Int) == 0) = false := by rw [beq_eq_false_iff_ne]; omega
    clear hb
    go_enter Tryz.func144, Tryz.ntmps144
    go_wp2_with fail
    go_quiet (fail)
    go_wp2
    go_ret
    exact ⟨rfl, _, rfl⟩

set_option maxHeartbeats 1000000 in
theorem end_ok (z : Nat) (u1 u2 : Value) (s : Fd.St) (w : World) (h : Dt w z u1 u2 s) (hc : s.c ≤ 12) (hw : s.W ≤ 12) (hh : s.H ≤ 12) (h0 : s.c ≠ 0) (h1 : ¬ s.c < s.W) :
    Calls Tryz.prog 144 #[.pointer (some ⟨z, 0, none⟩)] w fun e w' => e = .returned .nilIface ∧ Dt w' z u1 u2 ⟨0, s.c, s.H + 1, s.gs, s.os⟩ ∧ Kp z w w' := by
  have D : Hid (Dt w z u1 u2 s) := h
  have c0 := h.c0
  have c1 := h.c1
  have c4 := h.c4
  have f0 := h.fz 0
  have f1 := h.fz 1
  have f4 := h.fz 4
  obtain ⟨c, W, H, gs, os⟩ := s
  simp only at hc hw hh h0 h1 c0 c1 c4
  have q' : ((c : Int) == 0) = false := by rw [beq_eq_false_iff_ne]; omega
  clear h
  go_enter Tryz.func144, Tryz.ntmps144
  go_wp2_with fail
  go_quiet (fail)
  have Dq : Hid (Dt (w.drewN nq) z u1 u2 ⟨c, W, H, gs, os⟩) := D.out
  have Kq : Hid (Kp z w (w.drewN nq)) := (Kp.refl z w).drewN nq
  have c0 : (w.drewN nq).cell? ⟨z, 0, none⟩ = some (.int .i64 (W : Nat)) := Dq.out.c0
  have c1 : (w.drewN nq).cell? ⟨z, 1, none⟩ = some (.int .i64 (H : Nat)) := Dq.out.c1
  have c4 : (w.drewN nq).cell? ⟨z, 4, none⟩ = some (.int .i64 (c : Nat)) := Dq.out.c4
  have f0 := Dq.out.fz 0
  have f1 := Dq.out.fz 1
  have f4 := Dq.out.fz 4
  generalize w.drewN nq = w1 at *
  go_wp2
  go_ret
  refine ⟨rfl, ?_, ?_⟩
  · unfold Dt
    rw [heap_setCell_same _ z 4 _ _ _ (heap_setCell_same _ z 1 _ _ _ (heap_setCell_same w1 z 0 _ _ _ Dq.out))]
    simp
  · exact ((Kq.out.trans (Kp.set _ _ _)).trans (Kp.set _ _ _)).trans (Kp.set _ _ _)
end Go.Proofs.YtkejdkajfnaieaaGreatDoor

namespace Go.Proofs.YtkejdkajfnaieaaGreatDoor
open Go.RowKit
set_option linter.unusedVariables false

/-- what holds of every draft. -/
structure Okay (s : Fd.St) : Prop where
  w0 : s.H = 0 → s.W = 0
  cw : 0 < s.H → s.c ≤ s.W
  c12 : s.c ≤ 12
  w12 : s.W ≤ 12
  h12 : s.H ≤ 12
  gl : s.gs.length ≤ 156
  ol : s.os.length ≤ 156
theorem Okay.of {s : Fd.St} {l : List UInt8} (h : Fd.Inv s l) : Okay s := by
  have e : s.H * s.W ≤ 144 := Nat.mul_le_mul h.h12 h.w12
  have := h.c12
  exact ⟨h.w0, h.cw, h.c12, h.w12, h.h12, by rw [h.gl]; omega, by rw [h.ol]; omega⟩

theorem step_ten {s : Fd.St} (h : Okay s) : Fd.step s 10 = if s.c = 0 ∨ s.c < s.W then .inl 2 else .inr ⟨0, s.c, s.H + 1, s.gs, s.os⟩ := by
  unfold Fd.step
  rw [if_pos rfl]
  have := h.w0; have := h.cw
  by_cases q : s.c = 0 ∨ (0 < s.H ∧ s.c ≠ s.W)
  · rw [if_pos q, if_pos (by omega)]
  · rw [if_neg q, if_neg (by omega)]
theorem step_none {s : Fd.St} {b : UInt8} (hb : b ≠ 10) (hm : Fd.meant b = none) : Fd.step s b = .inl 2 := by
  unfold Fd.step
  rw [if_neg hb, hm]
theorem step_some {s : Fd.St} {b : UInt8} {g o : Int} (hb : b ≠ 10) (hm : Fd.meant b = some (g, o)) : Fd.step s b = if 0 < s.H ∧ s.c = s.W then .inl 2 else if s.c = 12 ∨ s.H = 12 then .inl 4 else .inr ⟨s.c + 1, s.W, s.H, s.gs ++ [g], s.os ++ [o]⟩ := by
  unfold Fd.step
  rw [if_neg hb, hm]

set_option maxHeartbeats 1000000 in
theorem read_ten (z : Nat) (s : Fd.St) (w : World) (h : Dr w z s) (ok : Okay s) :
    Calls Tryz.prog 103 #[.pointer (some ⟨z, 0, none⟩), .int .u8 10] w fun e w' => (∃ f, Fd.step s 10 = .inl f ∧ e = .returned (.iface 97 (.int .i64 f)) ∧ f ≠ 0 ∧ Below z w w') ∨ (∃ s', Fd.step s 10 = .inr s' ∧ e = .returned .nilIface ∧ Dr w' z s' ∧ Below z w w') := by
  obtain ⟨u1, u2, hd, ht⟩ := h
  have S := step_ten ok
  have HS : Hid _ := S
  clear S
  by_cases q : s.c = 0 ∨ s.c < s.W
  · have K : Hid (Calls Tryz.prog 144 #[.pointer (some ⟨z, 0, none⟩)] w fun e w' => e = .returned (.iface 97 (.int .i64 2)) ∧ ∃ n, w' = w.drewN n) := end_bad z u1 u2 s w hd ok.c12 ok.w12 q
    have Q : Hid (s.c = 0 ∨ s.c < s.W) := q
    clear q hd ht ok
    go_enter Tryz.func103, Tryz.ntmps103
    go_wp2_with fail
    refine Calls.mono K.out ?_
    rintro e w1 ⟨rfl, n, rfl⟩
    go_wp2
    go_ret
    exact .inl ⟨2, by rw [HS.out, if_pos Q.out], rfl, by decide, _root_.Go.below_drewN (Below.refl _ _) _⟩
  · have K : Hid (Calls Tryz.prog 144 #[.pointer (some ⟨z, 0, none⟩)] w fun e w' => e = .returned .nilIface ∧ Dt w' z u1 u2 ⟨0, s.c, s.H + 1, s.gs, s.os⟩ ∧ Kp z w w') := end_ok z u1 u2 s w hd ok.c12 ok.w12 ok.h12 (fun e => q (.inl e)) (fun e => q (.inr e))
    have Q : Hid (¬ (s.c = 0 ∨ s.c < s.W)) := q
    have T : Hid (Two w (z + 1) u1 u2 s.gs s.os) := ht
    have L : Hid (z < w.heap.size) := hd.lt
    clear q hd ht ok
    go_enter Tryz.func103, Tryz.ntmps103
    go_wp2_with fail
    refine Calls.mono K.out ?_
    rintro e w1 ⟨rfl, hd1, hk1⟩
    have D1 : Hid (Dt w1 z u1 u2 ⟨0, s.c, s.H + 1, s.gs, s.os⟩) := hd1
    have K1 : Hid (Kp z w w1) := hk1
    clear hd1 hk1
    go_wp2
    go_ret
    refine .inr ⟨_, by rw [HS.out, if_neg Q.out], rfl, ⟨u1, u2, D1.out, T.out.kp K1.out (Nat.lt_succ_self _)⟩, Kp.below (Below.refl _ _) K1.out (Nat.le_of_lt L.out) (Nat.le_refl _)⟩

set_option maxRecDepth 100000 in
set_option maxHeartbeats 4000000 in
theorem read_sign (z : Nat) (s : Fd.St) (b : UInt8) (w : World) (h : Dr w z s) (ok : Okay s) (hb : b ≠ 10) :
    Calls Tryz.prog 103 #[.pointer (some ⟨z, 0, none⟩), .int .u8 (b.toNat : Nat)] w fun e w' => (∃ f, Fd.step s b = .inl f ∧ e = .returned (.iface 97 (.int .i64 f)) ∧ f ≠ 0 ∧ Below z w w') ∨ (∃ s', Fd.step s b = .inr s' ∧ e = .returned .nilIface ∧ Dr w' z s' ∧ Below z w w') := by
  obtain ⟨u1, u2, hd, ht⟩ := h
  have hb2 := b.toNat_lt
  have hb3 : ¬ ((b.toNat : Nat) : Int) = 10 := by
    intro e
    have e2 : b.toNat = 10 := by omega
    exact hb (UInt8.toNat_inj.1 e2)
  have M : Hid (∀ w, Calls Tryz.prog 145 #[.int .u8 (b.toNat : Nat)] w fun e w' => (∃ g o, Fd.meant b = some (g, o) ∧ e = .returned (.tuple #[.int .i64 g, .int .i64 o, .bool true]) ∧ w' = w) ∨ (Fd.meant b = none ∧ e = .returned (.tuple #[.int .i64 (-1), .int .i64 0, .bool false]) ∧ w' = w)) := meant_any b
  have HB : Hid (b ≠ 10) := hb
  have D : Hid (Dt w z u1 u2 s) := hd
  have T : Hid (Two w (z + 1) u1 u2 s.gs s.os) := ht
  have K : Hid (Okay s) := ok
  clear hb hd ht ok
  generalize b.toNat = n at *
  go_enter Tryz.func103, Tryz.ntmps103
  go_wp2_with fail
  refine (M.out _).mono ?_
  rintro e w1 hm
  rcases hm with ⟨g, o, hm, rfl, rfl⟩ | ⟨hm, rfl, rfl⟩
  · have HS : Hid _ := step_some (s := s) HB.out hm
    have c0 := D.out.c0
    have c1 := D.out.c1
    have c2 := D.out.c2
    have c3 := D.out.c3
    have c4 := D.out.c4
    obtain ⟨c, W, H, gs, os⟩ := s
    simp only at c0 c1 c4
    have k12 := K.out.c12
    have w12 := K.out.w12
    have h12 := K.out.h12
    simp only at k12 w12 h12
    clear hm M
    by_cases q1 : 0 < H ∧ c = W
    · obtain ⟨q1a, q1b⟩ := q1
      have HS' : Hid (Fd.step ⟨c, W, H, gs, os⟩ b = .inl 2) := by unfold Hid; rw [HS.out, if_pos ⟨q1a, q1b⟩]
      subst q1b
      go_wp2_with fail
      go_quiet (fail)
      go_wp2
      go_ret
      exact .inl ⟨2, HS'.out, rfl, by decide, _root_.Go.below_drewN (Below.refl _ _) _⟩
    · have HS1 : Hid (Fd.step ⟨c, W, H, gs, os⟩ b = if c = 12 ∨ H = 12 then .inl 4 else .inr ⟨c + 1, W, H, gs ++ [g], os ++ [o]⟩) := by unfold Hid; rw [HS.out, if_neg q1]
      clear HS
      go_wp2_with fail
      go_cut [39] (fun v W' => v = .bool false ∧ ∃ n, W' = w1.drewN n)
      case first =>
        by_cases q2 : H = 0
        · subst q2
          go_quiet (fail)
          go_wp2_with fail
          go_meet
          case rel => exact ⟨rfl, _, rfl⟩
        · have q3 : 0 < H := by omega
          have q4 : ¬ c = W := fun e => q1 ⟨q3, e⟩
          have q4b : ((c : Int) == (W : Int)) = false := by rw [beq_eq_false_iff_ne]; omega
          clear q1
          go_quiet (fail)
          go_wp2_with fail
          go_meet
          case rel => exact ⟨rfl, _, rfl⟩
      case rest =>
        obtain ⟨rfl, nn, hn⟩ := hcut
        have kb : Below w1.heap.size w1 wc := by rw [hn]; exact _root_.Go.below_drewN (Below.refl _ _) _
        have D2 : Hid (Dt wc z u1 u2 ⟨c, W, H, gs, os⟩) := D.out.below kb D.out.lt
        have T2 : Hid (Two wc (z + 1) u1 u2 gs os) := T.out.below kb (Nat.le_refl _)
        have B2 : Hid (Below z w1 wc) := kb.mono (Nat.le_of_lt D.out.lt)
        clear kb hn c0 c1 c2 c3 c4 q1 D T
        have c0 := D2.out.c0
        have c1 := D2.out.c1
        have c2 := D2.out.c2
        have c3 := D2.out.c3
        have c4 := D2.out.c4
        simp only at c0 c1 c4
        by_cases q5 : c = 12
        · subst q5
          have HS' : Hid (Fd.step ⟨12, W, H, gs, os⟩ b = .inl 4) := by unfold Hid; rw [HS1.out, if_pos (.inl rfl)]
          go_wp2
          go_ret
          exact .inl ⟨4, HS'.out, rfl, by decide, B2.out⟩
        · have q5b : ((c : Int) == 12) = false := by rw [beq_eq_false_iff_ne]; omega
          by_cases q6 : H = 12
          · subst q6
            have HS' : Hid (Fd.step ⟨c, W, 12, gs, os⟩ b = .inl 4) := by unfold Hid; rw [HS1.out, if_pos (.inr rfl)]
            go_wp2
            go_ret
            exact .inl ⟨4, HS'.out, rfl, by decide, B2.out⟩
          · have q6b : ((H : Int) == 12) = false := by rw [beq_eq_false_iff_ne]; omega
            have HS' : Hid (Fd.step ⟨c, W, H, gs, os⟩ b = .inr ⟨c + 1, W, H, gs ++ [g], os ++ [o]⟩) := by unfold Hid; rw [HS1.out, if_neg (by omega)]
            have gl := K.out.gl
            have ol := K.out.ol
            simp only at gl ol
            have L2 : Hid (z < wc.heap.size) := D2.out.lt
            clear HS1
            go_wp2_with (at_builtin; refine app_int _ rfl _ _ rfl (z + 1) _ gs rfl (T2.out.o1.alloc _) ⟨wc.heap.size, 0, none⟩ g rfl (by simp) (by omega) (by have := L2.out; simp; omega) ?_)
            intro g1 cap1 w3 o3 g3 a3 l3
            have hob : ∀ k, u1.ownBlock = some k → z + 1 ≤ k := fun k hk => (T2.out.o1.block k hk).1
            have b3 : Below (z + 1) wc w3 := ((Below.refl _ _).alloc L2.out _).grown g3 (by have := L2.out; simp; omega) hob
            have D3 : Dt w3 z u1 u2 ⟨c, W, H, gs, os⟩ := D2.out.below b3 (Nat.lt_succ_self _)
            have O3 : Ow w3 (z + 1) u2 os := (T2.out.o2.alloc _).kept g3 (by
              cases hq : u2.ownBlock with
              | none => exact .inl rfl
              | some k => exact .inr (fun e => T2.out.ne k e.symm hq))
            have N3 : Hid (∀ k, u2.ownBlock = some k → k ≠ g1) := by
              intro k hk e
              subst e
              rcases a3 with a3 | a3
              · exact T2.out.ne _ a3 hk
              · have := (T2.out.o2.block _ hk).2
                try simp at a3
                omega
            have K3 : Kp z w3 (w3.setCell ⟨z, 2, none⟩ (.slice (some ⟨g1, 0, none⟩) (gs.length + 1) cap1)) := Kp.set _ _ _
            have T3 : Hid (Two (w3.setCell ⟨z, 2, none⟩ (.slice (some ⟨g1, 0, none⟩) (gs.length + 1) cap1)) (z + 1) (.slice (some ⟨g1, 0, none⟩) (gs.length + 1) cap1) u2 (gs ++ [g]) os) :=
              (show Two w3 (z + 1) (.slice (some ⟨g1, 0, none⟩) (gs.length + 1) cap1) u2 (gs ++ [g]) os from ⟨o3, O3, fun k hk e => N3.out k e (Option.some.inj hk).symm⟩).kp K3 (Nat.lt_succ_self _)
            have D4 : Hid (Dt (w3.setCell ⟨z, 2, none⟩ (.slice (some ⟨g1, 0, none⟩) (gs.length + 1) cap1)) z (.slice (some ⟨g1, 0, none⟩) (gs.length + 1) cap1) u2 ⟨c, W, H, gs ++ [g], os⟩) := by
              unfold Hid Dt
              rw [heap_setCell_same w3 z 2 _ _ _ D3]
              simp
            have B4 : Hid (Below z w1 (w3.setCell ⟨z, 2, none⟩ (.slice (some ⟨g1, 0, none⟩) (gs.length + 1) cap1))) := (B2.out.trans (b3.mono (Nat.le_succ _))).setCell (Nat.le_refl _) _
            have e2 := D3.c2
            have e3 := D3.c3
            have f2 := D3.fz 2
            have z3 : Hid (z < w3.heap.size) := D3.lt
            clear o3 g3 a3 l3 hob b3 D3 O3 K3 c0 c1 c2 c3 c4
            go_wp2_with (at_builtin; refine app_int _ rfl _ _ rfl (z + 1) _ os rfl (T3.out.o2.alloc _) ⟨w3.heap.size, 0, none⟩ o rfl (by rw [World.cell?_alloc_at _ _ _ _ (by simp)]; rfl) (by omega) (by have := z3.out; simp; omega) ?_)
            intro g2 cap2 w5 o5 g5 a5 l5
            have hob : ∀ k, u2.ownBlock = some k → z + 1 ≤ k := fun k hk => (T3.out.o2.block k hk).1
            have b5 : Below (z + 1) (w3.setCell ⟨z, 2, none⟩ (Value.slice (some ⟨g1, 0, none⟩) (gs.length + 1) cap1)) w5 := ((Below.refl _ _).alloc (by have := z3.out; simp; omega) _).grown g5 (by have := z3.out; simp; omega) hob
            have D5 : Dt w5 z (Value.slice (some ⟨g1, 0, none⟩) (gs.length + 1) cap1) u2 ⟨c, W, H, gs ++ [g], os⟩ := D4.out.below b5 (Nat.lt_succ_self _)
            have O5 : Ow w5 (z + 1) (Value.slice (some ⟨g1, 0, none⟩) (gs.length + 1) cap1) (gs ++ [g]) := (T3.out.o1.alloc _).kept g5 (by
              cases hq : (Value.slice (some ⟨g1, 0, none⟩) (gs.length + 1) cap1).ownBlock with
              | none => exact .inl rfl
              | some k => exact .inr (fun e => T3.out.ne k hq e.symm))
            have N5 : Hid (∀ k, (Value.slice (some ⟨g1, 0, none⟩) (gs.length + 1) cap1).ownBlock = some k → k ≠ g2) := by
              intro k hk e
              subst e
              rcases a5 with a5 | a5
              · exact T3.out.ne _ hk a5
              · have := (T3.out.o1.block _ hk).2
                simp at this
                try simp at a5
                omega
            have K5 : Kp z w5 (w5.setCell ⟨z, 3, none⟩ (.slice (some ⟨g2, 0, none⟩) (os.length + 1) cap2)) := Kp.set _ _ _
            have T5 : Hid (Two (w5.setCell ⟨z, 3, none⟩ (.slice (some ⟨g2, 0, none⟩) (os.length + 1) cap2)) (z + 1) (Value.slice (some ⟨g1, 0, none⟩) (gs.length + 1) cap1) (.slice (some ⟨g2, 0, none⟩) (os.length + 1) cap2) (gs ++ [g]) (os ++ [o])) :=
              (show Two w5 (z + 1) (Value.slice (some ⟨g1, 0, none⟩) (gs.length + 1) cap1) (.slice (some ⟨g2, 0, none⟩) (os.length + 1) cap2) (gs ++ [g]) (os ++ [o]) from ⟨O5, o5, fun k hk e => N5.out k hk (Option.some.inj e).symm⟩).kp K5 (Nat.lt_succ_self _)
            have D6 : Hid (Dt (w5.setCell ⟨z, 3, none⟩ (.slice (some ⟨g2, 0, none⟩) (os.length + 1) cap2)) z (Value.slice (some ⟨g1, 0, none⟩) (gs.length + 1) cap1) (.slice (some ⟨g2, 0, none⟩) (os.length + 1) cap2) ⟨c, W, H, gs ++ [g], os ++ [o]⟩) := by
              unfold Hid Dt
              rw [heap_setCell_same w5 z 3 _ _ _ D5]
              simp
            have B6 : Hid (Below z w1 (w5.setCell ⟨z, 3, none⟩ (.slice (some ⟨g2, 0, none⟩) (os.length + 1) cap2))) := (B4.out.trans (b5.mono (Nat.le_succ _))).setCell (Nat.le_refl _) _
            have e4 : w5.cell? ⟨z, 3, none⟩ = some u2 := D5.c3
            have e5 : w5.cell? ⟨z, 4, none⟩ = some (.int .i64 (c : Nat)) := D5.c4
            have f3 := D5.fz 3
            have f4 := D5.fz 4
            clear o5 g5 a5 l5 hob b5 D5 O5 K5 e2 e3 f2
            go_wp2
            go_ret
            refine .inr ⟨_, HS'.out, rfl, ⟨(Value.slice (some ⟨g1, 0, none⟩) (gs.length + 1) cap1), (Value.slice (some ⟨g2, 0, none⟩) (os.length + 1) cap2), ?_, T5.out.kp (Kp.set _ _ _) (Nat.lt_succ_self _)⟩, B6.out.setCell (Nat.le_refl _) _⟩
            unfold Dt
            rw [heap_setCell_same _ z 4 _ _ _ D6.out]
            simp
  · have HS : Hid (Fd.step s b = .inl 2) := step_none HB.out hm
    go_wp2_with fail
    go_quiet (fail)
    go_wp2
    go_ret
    exact .inl ⟨2, HS.out, rfl, by decide, _root_.Go.below_drewN (Below.refl _ _) _⟩
end Go.Proofs.YtkejdkajfnaieaaGreatDoor

