/- world.fresh, world.Copy. · world.checkPlace. · world.Place. · Worlds with which nothing is wrong, unit by unit and job by job; a unit that is put keeps one right. Plain mathematics. · Kinds that are right: their numbers. · A unit that is put keeps a world right, and its cell is taken then. Plain mathematics. · Fight: who is struck is near. Plain mathematics. · fight.target and fight.Target: whom a unit strikes. · fight.Target. · A block of integers that may be written. · slices.Repeat, of a list of one. -/
import Derived.Test.YtplnhgllbhdfjaaZFightNear1
import Derived.Test.YtplnhgllbhdfjaaZFightNear2
import Derived.Deep.DeepCutAuto
import Derived.Test.YtplnhgllbhdfjaaZFightNear5
import Derived.Test.YtplnhgllbhdfjaaZFightNear3
import Derived.OwnWalk
import Derived.Laws.CopyRow
namespace Go.Proofs.Ytplnhgllbhdfjaa
open Go.RowKit
set_option linter.unusedVariables false

set_option maxHeartbeats 1000000 in
theorem fresh_ints (v : Value) (xs : List Int) (w : World) (h : Ro w v xs) (hl : xs.length ≤ 100000000) :
    Calls Try.prog 50 #[v] w fun e w' => ∃ u, e = .returned u ∧ Ow w' w.heap.size u xs ∧ Below w.heap.size w w' := by
  have H : Hid (Ro w v xs) := h
  clear h
  go_enter Try.func50, Try.ntmps50
  go_wp2_with (at_builtin; refine app_row _ rfl _ _ rfl w.heap.size _ [] rfl (Ow.nil _ _) _ xs rfl H.out (by simpa using Nat.le_trans hl (by decide)) (Nat.le_refl _) ?_)
  intro u w1 o1 g1 _
  have F : Hid (Ow w1 w.heap.size u xs ∧ Below w.heap.size w w1) := ⟨o1, (Below.refl _ _).grown g1 (Nat.le_refl _) (fun k hk => by cases hk)⟩
  clear o1 g1
  go_wp2
  go_ret
  exact ⟨_, rfl, F.out.1, F.out.2⟩
set_option maxHeartbeats 1000000 in
theorem fresh_uns (v : Value) (xs : List UnV) (w : World) (h : Unl w v xs) (hl : xs.length ≤ 100000000) :
    Calls Try.prog 51 #[v] w fun e w' => ∃ u, e = .returned u ∧ Uno w' w.heap.size u xs ∧ Below w.heap.size w w' := by
  have H : Hid (Unl w v xs) := h
  clear h
  go_enter Try.func51, Try.ntmps51
  go_wp2_with (at_builtin; refine app_uns _ rfl _ _ rfl w.heap.size _ [] rfl (Uno.nil _ _) _ xs rfl H.out (by simpa using Nat.le_trans hl (by decide)) (Nat.le_refl _) ?_)
  intro u w1 o1 g1 _
  have F : Hid (Uno w1 w.heap.size u xs ∧ Below w.heap.size w w1) := ⟨o1, (Below.refl _ _).grown g1 (Nat.le_refl _) (fun k hk => by cases hk)⟩
  clear o1 g1
  go_wp2
  go_ret
  exact ⟨_, rfl, F.out.1, F.out.2⟩
set_option maxHeartbeats 1000000 in
theorem fresh_jbs (v : Value) (xs : List JbV) (w : World) (h : Jbl w v xs) (hl : xs.length ≤ 100000000) :
    Calls Try.prog 52 #[v] w fun e w' => ∃ u, e = .returned u ∧ Jbo w' w.heap.size u xs ∧ Below w.heap.size w w' := by
  have H : Hid (Jbl w v xs) := h
  clear h
  go_enter Try.func52, Try.ntmps52
  go_wp2_with (at_builtin; refine app_jbs _ rfl _ _ rfl w.heap.size _ [] rfl (Jbo.nil _ _) _ xs rfl H.out (by simpa using Nat.le_trans hl (by decide)) (Nat.le_refl _) ?_)
  intro u w1 o1 g1 _
  have F : Hid (Jbo w1 w.heap.size u xs ∧ Below w.heap.size w w1) := ⟨o1, (Below.refl _ _).grown g1 (Nat.le_refl _) (fun k hk => by cases hk)⟩
  clear o1 g1
  go_wp2
  go_ret
  exact ⟨_, rfl, F.out.1, F.out.2⟩
/-- lists that may be copied. -/
structure WLen (W : WV) : Prop where
  g : W.gs.length ≤ 100000000
  o : W.os.length ≤ 100000000
  p : W.gold.length ≤ 100000000
  u : W.us.length ≤ 100000000
  q : W.qs.length ≤ 100000000
set_option maxRecDepth 100000 in
set_option maxHeartbeats 4000000 in
theorem copy_any (v : Value) (W : WV) (w : World) (h : Wl w v W) (hl : WLen W) :
    Calls Try.prog 23 #[v] w fun e w' => ∃ u, e = .returned u ∧ Wi w' w.heap.size u W ∧ Below w.heap.size w w' := by
  have H : Hid (Wl w v W) := h
  have L : Hid (WLen W) := hl
  obtain ⟨u1, u2, u3, u4, u5, rfl, -, -, -, -, -⟩ := h
  clear hl
  go_enter Try.func23, Try.ntmps23
  go_upto_region 1 with fail
  have B0 : Hid (Below w.heap.size w ((w.alloc (.cells #[.int .i64 W.turn, .int .i64 W.next, .int .i64 W.wide, .int .i64 W.high, u1, u2, u3, u4, u5] 29)).alloc (.cells #[.int .i64 0, .int .i64 0, .int .i64 0, .int .i64 0, .slice none 0 0, .slice none 0 0, .slice none 0 0, .slice none 0 0, .slice none 0 0] 29))) := ((Below.refl _ _).alloc (Nat.le_refl _) _).alloc (by simp) _
  have X0 : Hid (Wx ((w.alloc (.cells #[.int .i64 W.turn, .int .i64 W.next, .int .i64 W.wide, .int .i64 W.high, u1, u2, u3, u4, u5] 29)).alloc (.cells #[.int .i64 0, .int .i64 0, .int .i64 0, .int .i64 0, .slice none 0 0, .slice none 0 0, .slice none 0 0, .slice none 0 0, .slice none 0 0] 29)) w.heap.size (.int .i64 W.turn) (.int .i64 W.next) (.int .i64 W.wide) (.int .i64 W.high) u1 u2 u3 u4 u5) := (Wx.new (w := w) _ _ _ _ _ _ _ _ _ rfl).below ((Below.refl _ _).alloc (Nat.le_refl _) _) (by simp)
  have Z0 : Hid (Wx ((w.alloc (.cells #[.int .i64 W.turn, .int .i64 W.next, .int .i64 W.wide, .int .i64 W.high, u1, u2, u3, u4, u5] 29)).alloc (.cells #[.int .i64 0, .int .i64 0, .int .i64 0, .int .i64 0, .slice none 0 0, .slice none 0 0, .slice none 0 0, .slice none 0 0, .slice none 0 0] 29)) (w.heap.size + 1) (.int .i64 0) (.int .i64 0) (.int .i64 0) (.int .i64 0) (.slice none 0 0) (.slice none 0 0) (.slice none 0 0) (.slice none 0 0) (.slice none 0 0)) := Wx.new _ _ _ _ _ _ _ _ _ (by simp)
  have S0 : Hid (w.heap.size + 2 ≤ ((w.alloc (.cells #[.int .i64 W.turn, .int .i64 W.next, .int .i64 W.wide, .int .i64 W.high, u1, u2, u3, u4, u5] 29)).alloc (.cells #[.int .i64 0, .int .i64 0, .int .i64 0, .int .i64 0, .slice none 0 0, .slice none 0 0, .slice none 0 0, .slice none 0 0, .slice none 0 0] 29)).heap.size) := by unfold Hid; simp
  generalize ((w.alloc (.cells #[.int .i64 W.turn, .int .i64 W.next, .int .i64 W.wide, .int .i64 W.high, u1, u2, u3, u4, u5] 29)).alloc (.cells #[.int .i64 0, .int .i64 0, .int .i64 0, .int .i64 0, .slice none 0 0, .slice none 0 0, .slice none 0 0, .slice none 0 0, .slice none 0 0] 29)) = w0 at *
  obtain ⟨x0, x1, x2, x3, x4, x5, x6, x7, x8⟩ := X0.out.cells
  go_wp2_with fail
  refine (fresh_ints _ W.gs w0 ((H.out.below B0.out).slices.1) L.out.g).mono ?_
  rintro e a1 ⟨v1, rfl, ho, hb⟩
  clear x0 x1 x2 x3 x4 x5 x6 x7 x8
  have BA : Hid (Below w.heap.size w a1) := B0.out.trans (hb.mono B0.out.size)
  have SA : Hid (w.heap.size + 2 ≤ a1.heap.size) := Nat.le_trans S0.out hb.size
  have XA : Hid (Wx a1 w.heap.size (.int .i64 W.turn) (.int .i64 W.next) (.int .i64 W.wide) (.int .i64 W.high) u1 u2 u3 u4 u5) := X0.out.below hb X0.out.lt
  have ZA : Hid (Wx a1 (w.heap.size + 1) (.int .i64 0) (.int .i64 0) (.int .i64 0) (.int .i64 0) (.slice none 0 0) (.slice none 0 0) (.slice none 0 0) (.slice none 0 0) (.slice none 0 0)) := Z0.out.below hb Z0.out.lt
  have OA : Hid (Ow a1 (w.heap.size + 2) v1 W.gs) := ho.mono S0.out
  obtain ⟨p1, q1, rfl⟩ := ho.len
  have t := XA.out.thaw 4
  obtain ⟨-, -, -, -, x, -, -, -, -⟩ := XA.out.cells
  clear hb ho 
  go_upto_region 2 with fail
  have KW : Hid (Kp w.heap.size a1 (a1.setCell ⟨w.heap.size, 4, none⟩ (.slice p1 W.gs.length q1))) := Kp.set _ _ _
  have X1 : Hid (Wx (a1.setCell ⟨w.heap.size, 4, none⟩ (.slice p1 W.gs.length q1)) w.heap.size (.int .i64 W.turn) (.int .i64 W.next) (.int .i64 W.wide) (.int .i64 W.high) (.slice p1 W.gs.length q1) u2 u3 u4 u5) := XA.out.set4 _
  clear t x XA X0 Z0
  generalize (a1.setCell ⟨w.heap.size, 4, none⟩ (.slice p1 W.gs.length q1)) = w1 at *
  have B1 : Hid (Below w.heap.size w w1) := KW.out.below BA.out BA.out.size (Nat.le_refl _)
  have S1 : Hid (w.heap.size + 2 ≤ w1.heap.size) := Nat.le_trans SA.out KW.out.size
  have Z1 : Hid (Wx w1 (w.heap.size + 1) (.int .i64 0) (.int .i64 0) (.int .i64 0) (.int .i64 0) (.slice none 0 0) (.slice none 0 0) (.slice none 0 0) (.slice none 0 0) (.slice none 0 0)) := ZA.out.kp KW.out (by omega)
  have P1_1 : Hid (Ow w1 (w.heap.size + 2) (.slice p1 W.gs.length q1) W.gs) := OA.out.kp KW.out (by omega)
  clear BA SA ZA OA KW 
  obtain ⟨x0, x1, x2, x3, x4, x5, x6, x7, x8⟩ := X1.out.cells
  go_wp2_with fail
  refine (fresh_ints _ W.os w1 ((H.out.below B1.out).slices.2.1) L.out.o).mono ?_
  rintro e a2 ⟨v2, rfl, ho, hb⟩
  clear x0 x1 x2 x3 x4 x5 x6 x7 x8
  have BA : Hid (Below w.heap.size w a2) := B1.out.trans (hb.mono B1.out.size)
  have SA : Hid (w.heap.size + 2 ≤ a2.heap.size) := Nat.le_trans S1.out hb.size
  have XA : Hid (Wx a2 w.heap.size (.int .i64 W.turn) (.int .i64 W.next) (.int .i64 W.wide) (.int .i64 W.high) (.slice p1 W.gs.length q1) u2 u3 u4 u5) := X1.out.below hb X1.out.lt
  have ZA : Hid (Wx a2 (w.heap.size + 1) (.int .i64 0) (.int .i64 0) (.int .i64 0) (.int .i64 0) (.slice none 0 0) (.slice none 0 0) (.slice none 0 0) (.slice none 0 0) (.slice none 0 0)) := Z1.out.below hb Z1.out.lt
  have OA : Hid (Ow a2 (w.heap.size + 2) v2 W.os) := ho.mono S1.out
  have PA1 : Hid (Ow a2 (w.heap.size + 2) (.slice p1 W.gs.length q1) W.gs) := P1_1.out.below hb
  have D1_2 : Hid (Dif (.slice p1 W.gs.length q1) v2) := Dif.of (fun k hk => (P1_1.out.block k hk).2) (fun k hk => (ho.block k hk).1)
  obtain ⟨p2, q2, rfl⟩ := ho.len
  have t := XA.out.thaw 5
  obtain ⟨-, -, -, -, -, x, -, -, -⟩ := XA.out.cells
  clear hb ho P1_1
  go_upto_region 3 with fail
  have KW : Hid (Kp w.heap.size a2 (a2.setCell ⟨w.heap.size, 5, none⟩ (.slice p2 W.os.length q2))) := Kp.set _ _ _
  have X2 : Hid (Wx (a2.setCell ⟨w.heap.size, 5, none⟩ (.slice p2 W.os.length q2)) w.heap.size (.int .i64 W.turn) (.int .i64 W.next) (.int .i64 W.wide) (.int .i64 W.high) (.slice p1 W.gs.length q1) (.slice p2 W.os.length q2) u3 u4 u5) := XA.out.set5 _
  clear t x XA X1 Z1
  generalize (a2.setCell ⟨w.heap.size, 5, none⟩ (.slice p2 W.os.length q2)) = w2 at *
  have B2 : Hid (Below w.heap.size w w2) := KW.out.below BA.out BA.out.size (Nat.le_refl _)
  have S2 : Hid (w.heap.size + 2 ≤ w2.heap.size) := Nat.le_trans SA.out KW.out.size
  have Z2 : Hid (Wx w2 (w.heap.size + 1) (.int .i64 0) (.int .i64 0) (.int .i64 0) (.int .i64 0) (.slice none 0 0) (.slice none 0 0) (.slice none 0 0) (.slice none 0 0) (.slice none 0 0)) := ZA.out.kp KW.out (by omega)
  have P2_2 : Hid (Ow w2 (w.heap.size + 2) (.slice p2 W.os.length q2) W.os) := OA.out.kp KW.out (by omega)
  have P1_2 : Hid (Ow w2 (w.heap.size + 2) (.slice p1 W.gs.length q1) W.gs) := PA1.out.kp KW.out (by omega)
  clear BA SA ZA OA KW PA1
  obtain ⟨x0, x1, x2, x3, x4, x5, x6, x7, x8⟩ := X2.out.cells
  go_wp2_with fail
  refine (fresh_ints _ W.gold w2 ((H.out.below B2.out).slices.2.2.1) L.out.p).mono ?_
  rintro e a3 ⟨v3, rfl, ho, hb⟩
  clear x0 x1 x2 x3 x4 x5 x6 x7 x8
  have BA : Hid (Below w.heap.size w a3) := B2.out.trans (hb.mono B2.out.size)
  have SA : Hid (w.heap.size + 2 ≤ a3.heap.size) := Nat.le_trans S2.out hb.size
  have XA : Hid (Wx a3 w.heap.size (.int .i64 W.turn) (.int .i64 W.next) (.int .i64 W.wide) (.int .i64 W.high) (.slice p1 W.gs.length q1) (.slice p2 W.os.length q2) u3 u4 u5) := X2.out.below hb X2.out.lt
  have ZA : Hid (Wx a3 (w.heap.size + 1) (.int .i64 0) (.int .i64 0) (.int .i64 0) (.int .i64 0) (.slice none 0 0) (.slice none 0 0) (.slice none 0 0) (.slice none 0 0) (.slice none 0 0)) := Z2.out.below hb Z2.out.lt
  have OA : Hid (Ow a3 (w.heap.size + 2) v3 W.gold) := ho.mono S2.out
  have PA1 : Hid (Ow a3 (w.heap.size + 2) (.slice p1 W.gs.length q1) W.gs) := P1_2.out.below hb
  have PA2 : Hid (Ow a3 (w.heap.size + 2) (.slice p2 W.os.length q2) W.os) := P2_2.out.below hb
  have D1_3 : Hid (Dif (.slice p1 W.gs.length q1) v3) := Dif.of (fun k hk => (P1_2.out.block k hk).2) (fun k hk => (ho.block k hk).1)
  have D2_3 : Hid (Dif (.slice p2 W.os.length q2) v3) := Dif.of (fun k hk => (P2_2.out.block k hk).2) (fun k hk => (ho.block k hk).1)
  obtain ⟨p3, q3, rfl⟩ := ho.len
  have t := XA.out.thaw 6
  obtain ⟨-, -, -, -, -, -, x, -, -⟩ := XA.out.cells
  clear hb ho P1_2 P2_2
  go_upto_region 4 with fail
  have KW : Hid (Kp w.heap.size a3 (a3.setCell ⟨w.heap.size, 6, none⟩ (.slice p3 W.gold.length q3))) := Kp.set _ _ _
  have X3 : Hid (Wx (a3.setCell ⟨w.heap.size, 6, none⟩ (.slice p3 W.gold.length q3)) w.heap.size (.int .i64 W.turn) (.int .i64 W.next) (.int .i64 W.wide) (.int .i64 W.high) (.slice p1 W.gs.length q1) (.slice p2 W.os.length q2) (.slice p3 W.gold.length q3) u4 u5) := XA.out.set6 _
  clear t x XA X2 Z2
  generalize (a3.setCell ⟨w.heap.size, 6, none⟩ (.slice p3 W.gold.length q3)) = w3 at *
  have B3 : Hid (Below w.heap.size w w3) := KW.out.below BA.out BA.out.size (Nat.le_refl _)
  have S3 : Hid (w.heap.size + 2 ≤ w3.heap.size) := Nat.le_trans SA.out KW.out.size
  have Z3 : Hid (Wx w3 (w.heap.size + 1) (.int .i64 0) (.int .i64 0) (.int .i64 0) (.int .i64 0) (.slice none 0 0) (.slice none 0 0) (.slice none 0 0) (.slice none 0 0) (.slice none 0 0)) := ZA.out.kp KW.out (by omega)
  have P3_3 : Hid (Ow w3 (w.heap.size + 2) (.slice p3 W.gold.length q3) W.gold) := OA.out.kp KW.out (by omega)
  have P1_3 : Hid (Ow w3 (w.heap.size + 2) (.slice p1 W.gs.length q1) W.gs) := PA1.out.kp KW.out (by omega)
  have P2_3 : Hid (Ow w3 (w.heap.size + 2) (.slice p2 W.os.length q2) W.os) := PA2.out.kp KW.out (by omega)
  clear BA SA ZA OA KW PA1 PA2
  obtain ⟨x0, x1, x2, x3, x4, x5, x6, x7, x8⟩ := X3.out.cells
  go_wp2_with fail
  refine (fresh_uns _ W.us w3 ((H.out.below B3.out).slices.2.2.2.1) L.out.u).mono ?_
  rintro e a4 ⟨v4, rfl, ho, hb⟩
  clear x0 x1 x2 x3 x4 x5 x6 x7 x8
  have BA : Hid (Below w.heap.size w a4) := B3.out.trans (hb.mono B3.out.size)
  have SA : Hid (w.heap.size + 2 ≤ a4.heap.size) := Nat.le_trans S3.out hb.size
  have XA : Hid (Wx a4 w.heap.size (.int .i64 W.turn) (.int .i64 W.next) (.int .i64 W.wide) (.int .i64 W.high) (.slice p1 W.gs.length q1) (.slice p2 W.os.length q2) (.slice p3 W.gold.length q3) u4 u5) := X3.out.below hb X3.out.lt
  have ZA : Hid (Wx a4 (w.heap.size + 1) (.int .i64 0) (.int .i64 0) (.int .i64 0) (.int .i64 0) (.slice none 0 0) (.slice none 0 0) (.slice none 0 0) (.slice none 0 0) (.slice none 0 0)) := Z3.out.below hb Z3.out.lt
  have OA : Hid (Uno a4 (w.heap.size + 2) v4 W.us) := ho.mono S3.out
  have PA1 : Hid (Ow a4 (w.heap.size + 2) (.slice p1 W.gs.length q1) W.gs) := P1_3.out.below hb
  have PA2 : Hid (Ow a4 (w.heap.size + 2) (.slice p2 W.os.length q2) W.os) := P2_3.out.below hb
  have PA3 : Hid (Ow a4 (w.heap.size + 2) (.slice p3 W.gold.length q3) W.gold) := P3_3.out.below hb
  have D1_4 : Hid (Dif (.slice p1 W.gs.length q1) v4) := Dif.of (fun k hk => (P1_3.out.block k hk).2) (fun k hk => (ho.block k hk).1)
  have D2_4 : Hid (Dif (.slice p2 W.os.length q2) v4) := Dif.of (fun k hk => (P2_3.out.block k hk).2) (fun k hk => (ho.block k hk).1)
  have D3_4 : Hid (Dif (.slice p3 W.gold.length q3) v4) := Dif.of (fun k hk => (P3_3.out.block k hk).2) (fun k hk => (ho.block k hk).1)
  obtain ⟨p4, q4, rfl⟩ := ho.len
  have t := XA.out.thaw 7
  obtain ⟨-, -, -, -, -, -, -, x, -⟩ := XA.out.cells
  clear hb ho P1_3 P2_3 P3_3
  go_upto_region 5 with fail
  have KW : Hid (Kp w.heap.size a4 (a4.setCell ⟨w.heap.size, 7, none⟩ (.slice p4 W.us.length q4))) := Kp.set _ _ _
  have X4 : Hid (Wx (a4.setCell ⟨w.heap.size, 7, none⟩ (.slice p4 W.us.length q4)) w.heap.size (.int .i64 W.turn) (.int .i64 W.next) (.int .i64 W.wide) (.int .i64 W.high) (.slice p1 W.gs.length q1) (.slice p2 W.os.length q2) (.slice p3 W.gold.length q3) (.slice p4 W.us.length q4) u5) := XA.out.set7 _
  clear t x XA X3 Z3
  generalize (a4.setCell ⟨w.heap.size, 7, none⟩ (.slice p4 W.us.length q4)) = w4 at *
  have B4 : Hid (Below w.heap.size w w4) := KW.out.below BA.out BA.out.size (Nat.le_refl _)
  have S4 : Hid (w.heap.size + 2 ≤ w4.heap.size) := Nat.le_trans SA.out KW.out.size
  have Z4 : Hid (Wx w4 (w.heap.size + 1) (.int .i64 0) (.int .i64 0) (.int .i64 0) (.int .i64 0) (.slice none 0 0) (.slice none 0 0) (.slice none 0 0) (.slice none 0 0) (.slice none 0 0)) := ZA.out.kp KW.out (by omega)
  have P4_4 : Hid (Uno w4 (w.heap.size + 2) (.slice p4 W.us.length q4) W.us) := OA.out.kp KW.out (by omega)
  have P1_4 : Hid (Ow w4 (w.heap.size + 2) (.slice p1 W.gs.length q1) W.gs) := PA1.out.kp KW.out (by omega)
  have P2_4 : Hid (Ow w4 (w.heap.size + 2) (.slice p2 W.os.length q2) W.os) := PA2.out.kp KW.out (by omega)
  have P3_4 : Hid (Ow w4 (w.heap.size + 2) (.slice p3 W.gold.length q3) W.gold) := PA3.out.kp KW.out (by omega)
  clear BA SA ZA OA KW PA1 PA2 PA3
  obtain ⟨x0, x1, x2, x3, x4, x5, x6, x7, x8⟩ := X4.out.cells
  go_wp2_with fail
  refine (fresh_jbs _ W.qs w4 ((H.out.below B4.out).slices.2.2.2.2) L.out.q).mono ?_
  rintro e a5 ⟨v5, rfl, ho, hb⟩
  clear x0 x1 x2 x3 x4 x5 x6 x7 x8
  have BA : Hid (Below w.heap.size w a5) := B4.out.trans (hb.mono B4.out.size)
  have SA : Hid (w.heap.size + 2 ≤ a5.heap.size) := Nat.le_trans S4.out hb.size
  have XA : Hid (Wx a5 w.heap.size (.int .i64 W.turn) (.int .i64 W.next) (.int .i64 W.wide) (.int .i64 W.high) (.slice p1 W.gs.length q1) (.slice p2 W.os.length q2) (.slice p3 W.gold.length q3) (.slice p4 W.us.length q4) u5) := X4.out.below hb X4.out.lt
  have ZA : Hid (Wx a5 (w.heap.size + 1) (.int .i64 0) (.int .i64 0) (.int .i64 0) (.int .i64 0) (.slice none 0 0) (.slice none 0 0) (.slice none 0 0) (.slice none 0 0) (.slice none 0 0)) := Z4.out.below hb Z4.out.lt
  have OA : Hid (Jbo a5 (w.heap.size + 2) v5 W.qs) := ho.mono S4.out
  have PA1 : Hid (Ow a5 (w.heap.size + 2) (.slice p1 W.gs.length q1) W.gs) := P1_4.out.below hb
  have PA2 : Hid (Ow a5 (w.heap.size + 2) (.slice p2 W.os.length q2) W.os) := P2_4.out.below hb
  have PA3 : Hid (Ow a5 (w.heap.size + 2) (.slice p3 W.gold.length q3) W.gold) := P3_4.out.below hb
  have PA4 : Hid (Uno a5 (w.heap.size + 2) (.slice p4 W.us.length q4) W.us) := P4_4.out.below hb
  have D1_5 : Hid (Dif (.slice p1 W.gs.length q1) v5) := Dif.of (fun k hk => (P1_4.out.block k hk).2) (fun k hk => (ho.block k hk).1)
  have D2_5 : Hid (Dif (.slice p2 W.os.length q2) v5) := Dif.of (fun k hk => (P2_4.out.block k hk).2) (fun k hk => (ho.block k hk).1)
  have D3_5 : Hid (Dif (.slice p3 W.gold.length q3) v5) := Dif.of (fun k hk => (P3_4.out.block k hk).2) (fun k hk => (ho.block k hk).1)
  have D4_5 : Hid (Dif (.slice p4 W.us.length q4) v5) := Dif.of (fun k hk => (P4_4.out.block k hk).2) (fun k hk => (ho.block k hk).1)
  obtain ⟨p5, q5, rfl⟩ := ho.len
  have t := XA.out.thaw 8
  obtain ⟨-, -, -, -, -, -, -, -, x⟩ := XA.out.cells
  clear hb ho P1_4 P2_4 P3_4 P4_4
  go_upto_region 6 with fail
  have KW : Hid (Kp w.heap.size a5 (a5.setCell ⟨w.heap.size, 8, none⟩ (.slice p5 W.qs.length q5))) := Kp.set _ _ _
  have X5 : Hid (Wx (a5.setCell ⟨w.heap.size, 8, none⟩ (.slice p5 W.qs.length q5)) w.heap.size (.int .i64 W.turn) (.int .i64 W.next) (.int .i64 W.wide) (.int .i64 W.high) (.slice p1 W.gs.length q1) (.slice p2 W.os.length q2) (.slice p3 W.gold.length q3) (.slice p4 W.us.length q4) (.slice p5 W.qs.length q5)) := XA.out.set8 _
  clear t x XA X4 Z4
  generalize (a5.setCell ⟨w.heap.size, 8, none⟩ (.slice p5 W.qs.length q5)) = w5 at *
  have B5 : Hid (Below w.heap.size w w5) := KW.out.below BA.out BA.out.size (Nat.le_refl _)
  have S5 : Hid (w.heap.size + 2 ≤ w5.heap.size) := Nat.le_trans SA.out KW.out.size
  have Z5 : Hid (Wx w5 (w.heap.size + 1) (.int .i64 0) (.int .i64 0) (.int .i64 0) (.int .i64 0) (.slice none 0 0) (.slice none 0 0) (.slice none 0 0) (.slice none 0 0) (.slice none 0 0)) := ZA.out.kp KW.out (by omega)
  have P5_5 : Hid (Jbo w5 (w.heap.size + 2) (.slice p5 W.qs.length q5) W.qs) := OA.out.kp KW.out (by omega)
  have P1_5 : Hid (Ow w5 (w.heap.size + 2) (.slice p1 W.gs.length q1) W.gs) := PA1.out.kp KW.out (by omega)
  have P2_5 : Hid (Ow w5 (w.heap.size + 2) (.slice p2 W.os.length q2) W.os) := PA2.out.kp KW.out (by omega)
  have P3_5 : Hid (Ow w5 (w.heap.size + 2) (.slice p3 W.gold.length q3) W.gold) := PA3.out.kp KW.out (by omega)
  have P4_5 : Hid (Uno w5 (w.heap.size + 2) (.slice p4 W.us.length q4) W.us) := PA4.out.kp KW.out (by omega)
  clear BA SA ZA OA KW PA1 PA2 PA3 PA4
  obtain ⟨x0, x1, x2, x3, x4, x5, x6, x7, x8⟩ := X5.out.cells
  obtain ⟨z0, z1, z2, z3, z4, z5, z6, z7, z8⟩ := Z5.out.cells
  obtain ⟨t0, t1, t2, t3, t4, t5, t6, t7, t8⟩ := Z5.out.thaws
  have KZ : Hid (Kp (w.heap.size + 1) w5 (((((((((w5.setCell ⟨w.heap.size + 1, 0, none⟩ (.int .i64 W.turn)).setCell ⟨w.heap.size + 1, 1, none⟩ (.int .i64 W.next)).setCell ⟨w.heap.size + 1, 2, none⟩ (.int .i64 W.wide)).setCell ⟨w.heap.size + 1, 3, none⟩ (.int .i64 W.high)).setCell ⟨w.heap.size + 1, 4, none⟩ (.slice p1 W.gs.length q1)).setCell ⟨w.heap.size + 1, 5, none⟩ (.slice p2 W.os.length q2)).setCell ⟨w.heap.size + 1, 6, none⟩ (.slice p3 W.gold.length q3)).setCell ⟨w.heap.size + 1, 7, none⟩ (.slice p4 W.us.length q4)).setCell ⟨w.heap.size + 1, 8, none⟩ (.slice p5 W.qs.length q5))) := put_kp _ _ _ _ _ _ _ _ _ _ _
  obtain ⟨y0, y1, y2, y3, y4, y5, y6, y7, y8⟩ := (Z5.out.put (.int .i64 W.turn) (.int .i64 W.next) (.int .i64 W.wide) (.int .i64 W.high) (.slice p1 W.gs.length q1) (.slice p2 W.os.length q2) (.slice p3 W.gold.length q3) (.slice p4 W.us.length q4) (.slice p5 W.qs.length q5)).cells
  go_wp2
  clear x0 x1 x2 x3 x4 x5 x6 x7 x8 z0 z1 z2 z3 z4 z5 z6 z7 z8 t0 t1 t2 t3 t4 t5 t6 t7 t8
  have s0 := S5.out
  generalize (((((((((w5.setCell ⟨w.heap.size + 1, 0, none⟩ (.int .i64 W.turn)).setCell ⟨w.heap.size + 1, 1, none⟩ (.int .i64 W.next)).setCell ⟨w.heap.size + 1, 2, none⟩ (.int .i64 W.wide)).setCell ⟨w.heap.size + 1, 3, none⟩ (.int .i64 W.high)).setCell ⟨w.heap.size + 1, 4, none⟩ (.slice p1 W.gs.length q1)).setCell ⟨w.heap.size + 1, 5, none⟩ (.slice p2 W.os.length q2)).setCell ⟨w.heap.size + 1, 6, none⟩ (.slice p3 W.gold.length q3)).setCell ⟨w.heap.size + 1, 7, none⟩ (.slice p4 W.us.length q4)).setCell ⟨w.heap.size + 1, 8, none⟩ (.slice p5 W.qs.length q5)) = w9 at *
  refine bodyPost_ret (v := .agg #[.int .i64 W.turn, .int .i64 W.next, .int .i64 W.wide, .int .i64 W.high, .slice p1 W.gs.length q1, .slice p2 W.os.length q2, .slice p3 W.gold.length q3, .slice p4 W.us.length q4, .slice p5 W.qs.length q5]) (by simp [results, Try.results23, go_sem, y0, y1, y2, y3, y4, y5, y6, y7, y8]) rfl ⟨_, rfl, ⟨_, _, _, _, _, rfl, ⟨(P1_5.out.kp KZ.out (by omega)).mono (by omega), (P2_5.out.kp KZ.out (by omega)).mono (by omega), (P3_5.out.kp KZ.out (by omega)).mono (by omega), (P4_5.out.kp KZ.out (by omega)).mono (by omega), (P5_5.out.kp KZ.out (by omega)).mono (by omega)⟩, D1_2.out, D1_3.out, D1_4.out, D1_5.out, D2_3.out, D2_4.out, D2_5.out, D3_4.out, D3_5.out, D4_5.out⟩, KZ.out.below B5.out B5.out.size (by omega)⟩
end Go.Proofs.Ytplnhgllbhdfjaa

namespace Go.Proofs.Ytplnhgllbhdfjaa
open Go.RowKit
set_option linter.unusedVariables false

namespace Wd
/-- what is wrong with a unit that is to be put. -/
def placeFault (ks : List KV) (W : WV) (pl kd at_ : Int) : Int :=
  if 40 ≤ (W.us.length : Int) ∨ 1000000 ≤ W.next then 4
  else if ¬ (0 ≤ pl ∧ pl < (W.gold.length : Int)) ∨ ¬ (0 ≤ kd ∧ kd < (ks.length : Int)) then 1
  else if ¬ (0 ≤ at_ ∧ at_ < (W.gs.length : Int)) then 6
  else match ks[kd.toNat]? with
    | some k => if open_ W.gs W.us at_ k.f = false then 7 else 0
    | none => 1
theorem pf4 {ks : List KV} {W : WV} {pl kd at_ : Int} (h : 40 ≤ (W.us.length : Int) ∨ 1000000 ≤ W.next) : placeFault ks W pl kd at_ = 4 := by unfold placeFault; rw [if_pos h]
theorem pf1 {ks : List KV} {W : WV} {pl kd at_ : Int} (h : ¬ (40 ≤ (W.us.length : Int) ∨ 1000000 ≤ W.next)) (h1 : ¬ (0 ≤ pl ∧ pl < (W.gold.length : Int)) ∨ ¬ (0 ≤ kd ∧ kd < (ks.length : Int))) : placeFault ks W pl kd at_ = 1 := by unfold placeFault; rw [if_neg h, if_pos h1]
theorem pf6 {ks : List KV} {W : WV} {pl kd at_ : Int} (h : ¬ (40 ≤ (W.us.length : Int) ∨ 1000000 ≤ W.next)) (h1 : 0 ≤ pl ∧ pl < (W.gold.length : Int)) (h2 : 0 ≤ kd ∧ kd < (ks.length : Int)) (h3 : ¬ (0 ≤ at_ ∧ at_ < (W.gs.length : Int))) : placeFault ks W pl kd at_ = 6 := by unfold placeFault; rw [if_neg h, if_neg (by omega), if_pos h3]
theorem pfk {ks : List KV} {W : WV} {pl kd at_ : Int} {k : KV} (h : ¬ (40 ≤ (W.us.length : Int) ∨ 1000000 ≤ W.next)) (h1 : 0 ≤ pl ∧ pl < (W.gold.length : Int)) (h2 : 0 ≤ kd ∧ kd < (ks.length : Int)) (h3 : 0 ≤ at_ ∧ at_ < (W.gs.length : Int)) (hk : ks[kd.toNat]? = some k) : placeFault ks W pl kd at_ = if open_ W.gs W.us at_ k.f = false then 7 else 0 := by unfold placeFault; rw [if_neg h, if_neg (by omega), if_neg (by omega), hk]
end Wd
structure WRight (ks : List KV) (W : WV) : Prop where
  kinds : Kd.kindsFault (ks.map KV.k) = 0
  good : ∃ Wn Hn : Nat, W.wide = Wn ∧ W.high = Hn ∧ Fd.Good Wn Hn W.gs W.os
  nums : Wd.numsBad W = false
  ul : W.us.length ≤ 40
  units : Wd.unitsGo ks W 0 W.us = 0
  ql : W.qs.length ≤ 12
  jobs : Wd.jobsGo ks W W.qs = 0
theorem wright_of {ks : List KV} {W : WV} (h : Wd.wfault ks W = 0) : WRight ks W := by
  unfold Wd.wfault at h
  by_cases h0 : Wd.ground ks W = 0
  · rw [if_neg (by rw [h0]; simp)] at h
    cases h1 : Wd.numsBad W with
    | true => rw [h1, if_pos rfl] at h; cases h
    | false =>
      rw [h1, if_neg (by simp)] at h
      by_cases h2 : 40 < W.us.length
      · rw [if_pos h2] at h; cases h
      · rw [if_neg h2] at h
        by_cases h3 : Wd.unitsGo ks W 0 W.us = 0
        · rw [if_neg (by rw [h3]; simp)] at h
          by_cases h4 : 12 < W.qs.length
          · rw [if_pos h4] at h; cases h
          · rw [if_neg h4] at h
            unfold Wd.ground at h0
            by_cases h5 : Kd.kindsFault (ks.map KV.k) = 0
            · rw [if_pos h5] at h0
              exact ⟨h5, Fd.fault_zero h0, h1, by omega, h3, by omega, h⟩
            · rw [if_neg h5] at h0; exact absurd h0 h5
        · rw [if_pos h3] at h; exact absurd h h3
  · rw [if_pos h0] at h; exact absurd h h0
theorem WRight.len {ks : List KV} {W : WV} (h : WRight ks W) : WLen W := by
  obtain ⟨Wn, Hn, -, -, G⟩ := h.good
  have h1 := G.pos
  have h2 := G.gl
  have h3 := G.ol
  have h4 := (nums_ok h.nums).2
  have h5 := h.ul
  have h6 := h.ql
  exact ⟨by omega, by omega, by omega, by omega, by omega⟩
set_option maxRecDepth 100000 in
set_option maxHeartbeats 4000000 in
theorem cplace_any (vk vw : Value) (ks : List KV) (W : WV) (pl kd at_ : Int) (w : World) (hk : Kl w vk ks) (hw : Wl w vw W) (hr : WRight ks W) :
    Calls Try.prog 39 #[vk, vw, .int .i64 pl, .int .i64 kd, .int .i64 at_] w fun e w' => ∃ r, e = .returned r ∧ Er r (Wd.placeFault ks W pl kd at_) ∧ Below w.heap.size w w' := by
  have K : Hid (Kl w vk ks) := hk
  have H : Hid (Wl w vw W) := hw
  have R : Hid (WRight ks W) := hr
  obtain ⟨u1, u2, u3, u4, u5, rfl, r1, r2, r3, r4, r5⟩ := hw
  obtain ⟨p1, q1, rfl, -⟩ := r1
  obtain ⟨p2, q2, rfl, -⟩ := r2
  obtain ⟨p3, q3, rfl, -⟩ := r3
  obtain ⟨p4, q4, rfl, -⟩ := r4
  obtain ⟨p5, q5, rfl, -⟩ := r5
  obtain ⟨pk, qk, rfl, -, -, kc⟩ := hk
  have KC : Hid (ks ≠ [] → ∃ x, pk = some x ∧ x.block < w.heap.size ∧ ∀ (i : Nat) k, ks[i]? = some k → Kc w (x.add (i * 11)) k) := kc
  have lk : ks.length ≤ 8 := kinds_len hr.kinds
  have lg : W.gold.length ≤ 4 := (nums_ok hr.nums).2
  have lu : W.us.length ≤ 40 := hr.ul
  have lc : W.gs.length ≤ 144 := by
    obtain ⟨Wn, Hn, -, -, G⟩ := hr.good
    have h1 := G.pos
    have h2 := G.gl
    omega
  clear hr kc
  go_enter Try.func39, Try.ntmps39
  go_upto_region 1 with fail
  have B0 : Hid (Below w.heap.size w (w.alloc (Obj.cells #[.int .i64 W.turn, .int .i64 W.next, .int .i64 W.wide, .int .i64 W.high, .slice p1 W.gs.length q1, .slice p2 W.os.length q2, .slice p3 W.gold.length q3, .slice p4 W.us.length q4, .slice p5 W.qs.length q5] 29))) := (Below.refl _ _).alloc (Nat.le_refl _) _
  have X0 : Hid (Bw (w.alloc (Obj.cells #[.int .i64 W.turn, .int .i64 W.next, .int .i64 W.wide, .int .i64 W.high, .slice p1 W.gs.length q1, .slice p2 W.os.length q2, .slice p3 W.gold.length q3, .slice p4 W.us.length q4, .slice p5 W.qs.length q5] 29)) w.heap.size W (.slice p1 W.gs.length q1) (.slice p2 W.os.length q2) (.slice p3 W.gold.length q3) (.slice p4 W.us.length q4) (.slice p5 W.qs.length q5)) := Bw.mk' W _ _ _ _ _ rfl
  generalize (w.alloc (Obj.cells #[.int .i64 W.turn, .int .i64 W.next, .int .i64 W.wide, .int .i64 W.high, .slice p1 W.gs.length q1, .slice p2 W.os.length q2, .slice p3 W.gold.length q3, .slice p4 W.us.length q4, .slice p5 W.qs.length q5] 29)) = w0 at *
  obtain ⟨x0, x1, x2, x3, x4, x5, x6, x7, x8⟩ := X0.out
  by_cases h40 : (40 : Int) ≤ (W.us.length : Int)
  · go_wp2
    go_ret
    exact ⟨_, rfl, by rw [Wd.pf4 (.inl h40)]; exact Er.no (by decide), B0.out⟩
  by_cases hnx : (1000000 : Int) ≤ W.next
  · go_wp2
    go_ret
    exact ⟨_, rfl, by rw [Wd.pf4 (.inr hnx)]; exact Er.no (by decide), B0.out⟩
  have HF : Hid (¬ (40 ≤ (W.us.length : Int) ∨ 1000000 ≤ W.next)) := fun h => h.elim h40 hnx
  by_cases h1 : 0 ≤ pl ∧ pl < (W.gold.length : Int)
  case neg =>
    have t1 : decide (0 ≤ pl ∧ pl < (W.gold.length : Int)) = false := decide_eq_false h1
    have F : Hid (Wd.placeFault ks W pl kd at_ = 1) := Wd.pf1 HF.out (.inl h1)
    clear h1
    go_wp2_with fail
    refine (isone_ints _ _ _ _ _ (by omega)).mono ?_
    rintro e w1 ⟨rfl, hww⟩
    obtain rfl := hww.symm
    rw [t1]
    clear t1
    go_wp2
    go_ret
    exact ⟨_, rfl, by rw [F.out]; exact Er.no (by decide), B0.out⟩
  have t1 : decide (0 ≤ pl ∧ pl < (W.gold.length : Int)) = true := decide_eq_true h1
  have H1 : Hid (0 ≤ pl ∧ pl < (W.gold.length : Int)) := h1
  clear h1
  go_wp2_with fail
  refine (isone_ints _ _ _ _ _ (by omega)).mono ?_
  rintro e w1 ⟨rfl, hww⟩
  obtain rfl := hww.symm
  rw [t1]
  clear t1
  by_cases h2 : 0 ≤ kd ∧ kd < (ks.length : Int)
  case neg =>
    have t1 : decide (0 ≤ kd ∧ kd < (ks.length : Int)) = false := decide_eq_false h2
    have F : Hid (Wd.placeFault ks W pl kd at_ = 1) := Wd.pf1 HF.out (.inr h2)
    clear h2
    go_wp2_with fail
    refine (isone_kinds _ _ _ _ _ (by omega)).mono ?_
    rintro e w1 ⟨rfl, hww⟩
    obtain rfl := hww.symm
    rw [t1]
    clear t1
    go_wp2
    go_ret
    exact ⟨_, rfl, by rw [F.out]; exact Er.no (by decide), B0.out⟩
  have t1 : decide (0 ≤ kd ∧ kd < (ks.length : Int)) = true := decide_eq_true h2
  have H2 : Hid (0 ≤ kd ∧ kd < (ks.length : Int)) := h2
  clear h2
  go_wp2_with fail
  refine (isone_kinds _ _ _ _ _ (by omega)).mono ?_
  rintro e w1 ⟨rfl, hww⟩
  obtain rfl := hww.symm
  rw [t1]
  clear t1
  by_cases h3 : 0 ≤ at_ ∧ at_ < (W.gs.length : Int)
  case neg =>
    have t1 : decide (0 ≤ at_ ∧ at_ < (W.gs.length : Int)) = false := decide_eq_false h3
    have F : Hid (Wd.placeFault ks W pl kd at_ = 6) := Wd.pf6 HF.out H1.out H2.out h3
    clear h3
    go_wp2_with fail
    refine (isone_ints _ _ _ _ _ (by omega)).mono ?_
    rintro e w1 ⟨rfl, hww⟩
    obtain rfl := hww.symm
    rw [t1]
    clear t1
    go_wp2
    go_ret
    exact ⟨_, rfl, by rw [F.out]; exact Er.no (by decide), B0.out⟩
  have t1 : decide (0 ≤ at_ ∧ at_ < (W.gs.length : Int)) = true := decide_eq_true h3
  have H3 : Hid (0 ≤ at_ ∧ at_ < (W.gs.length : Int)) := h3
  go_wp2_with fail
  refine (isone_ints _ _ _ _ _ (by omega)).mono ?_
  rintro e w1 ⟨rfl, hww⟩
  obtain rfl := hww.symm
  rw [t1]
  clear t1
  obtain ⟨an, ea⟩ : ∃ an : Nat, at_ = an := ⟨at_.toNat, by omega⟩
  obtain ⟨kn, ek⟩ : ∃ kn : Nat, kd = kn := ⟨kd.toNat, by have := H2.out; omega⟩
  subst ea
  subst ek
  have hkl : kn < ks.length := by have := H2.out; omega
  have hki : (kn : Int) < (ks.length : Int) := by omega
  obtain ⟨k, hk⟩ : ∃ k, ks[kn]? = some k := ⟨_, List.getElem?_eq_getElem hkl⟩
  obtain ⟨g, hg0⟩ : ∃ g, W.gs[an]? = some g := ⟨_, List.getElem?_eq_getElem (by omega)⟩
  have FK : Hid (Wd.placeFault ks W pl (kn : Nat) (an : Nat) = if Wd.open_ W.gs W.us (an : Nat) k.f = false then 7 else 0) := Wd.pfk HF.out H1.out H2.out H3.out (by simpa using hk)
  have hgan : Hid (W.gs[an]? = some g) := hg0
  obtain ⟨xk, rfl, hxl, hxc⟩ := KC.out (by intro e; rw [e] at hkl; simp at hkl)
  have hkc : Hid (Kc w0 (xk.add (kn * 11)) k) := (hxc kn k hk).below B0.out (by rw [add_block]; exact hxl)
  have FC : Hid (∀ V, Below w0.heap.size w0 V → V.cell? ⟨w.heap.size, 2, none⟩ = some (.int .i64 W.wide) ∧ V.cell? ⟨w.heap.size, 3, none⟩ = some (.int .i64 W.high) ∧ V.cell? ⟨w.heap.size, 4, none⟩ = some (.slice p1 W.gs.length q1) ∧ V.cell? ⟨w.heap.size, 5, none⟩ = some (.slice p2 W.os.length q2) ∧ V.cell? ⟨w.heap.size, 7, none⟩ = some (.slice p4 W.us.length q4) ∧ V.cell? ⟨(xk.add (kn * 11)).block, (xk.add (kn * 11)).off + 9, none⟩ = some (.bool k.f)) := fun V hV => by
    obtain ⟨-, -, z2, z3, z4, z5, -, z7, -⟩ := X0.out.below hV X0.out.lt
    obtain ⟨-, -, -, -, -, -, -, -, -, m9, -⟩ := hkc.out.below hV hkc.out.lt
    exact ⟨z2, z3, z4, z5, z7, m9⟩
  have OPN : Hid (∀ V, Below w0.heap.size w0 V → Calls Try.prog 67 #[.agg #[.int .i64 W.wide, .int .i64 W.high, .slice p1 W.gs.length q1, .slice p2 W.os.length q2], .slice p4 W.us.length q4, .int .i64 (an : Nat), .bool k.f] V fun e w' => e = .returned (.bool (Wd.open_ W.gs W.us (an : Nat) k.f)) ∧ Below w0.heap.size w0 w') := fun V hV => by
    have BV : Below w.heap.size w V := B0.out.trans (hV.mono B0.out.size)
    obtain ⟨r1, r2, -, r4, -⟩ := (H.out.below BV).slices
    obtain ⟨Wn, Hn, hWn, hHn, hGood⟩ := R.out.good
    rw [hWn, hHn]
    exact (isopen_any _ _ Wn Hn W.gs W.os W.us an g k.f V ⟨_, _, rfl, r1, r2⟩ hGood r4 (by have := hGood.gl; omega) hgan.out).mono fun e w' ⟨h1, h2⟩ => ⟨h1, hV.trans (h2.mono hV.size)⟩
  have eo : ∀ args w, (callFunc 67 args).run Try.prog w = .ok (.enter 67 args) w := by intro args w; go_simp
  clear hxc hk hg0 h3 x0 x1 x2 x3 x4 x5 x6 x7 x8
  go_upto_region 9 with fail
  refine wp_region_class 11 (fun V => Below w0.heap.size w0 V) (by kernel_rfl) (by kernel_rfl) (Below.refl _ _).drew ?_
  simp only [List.take_succ_cons, List.take_zero, List.drop_succ_cons, List.drop_zero]
  refine head_step (.pointer (some ⟨w.heap.size, 2, none⟩)) (by go_simp) (fun V hV => by go_simp) ?_
  go_simp
  refine head_step (.agg #[.int .i64 W.wide, .int .i64 W.high, .slice p1 W.gs.length q1, .slice p2 W.os.length q2]) (by go_simp) (fun V hV => by obtain ⟨f2, f3, f4, f5, -⟩ := FC.out V hV; go_simp) ?_
  go_simp
  refine head_step (.pointer (some ⟨w.heap.size, 7, none⟩)) (by go_simp) (fun V hV => by go_simp) ?_
  go_simp
  refine head_step (.slice p4 W.us.length q4) (by go_simp) (fun V hV => by obtain ⟨-, -, -, -, f7, -⟩ := FC.out V hV; go_simp) ?_
  go_simp
  refine head_step (.int .i64 (an : Nat)) (by go_simp) (fun V hV => by go_simp) ?_
  go_simp
  refine head_step (.slice (some xk) ks.length qk) (by go_simp) (fun V hV => by go_simp) ?_
  go_simp
  refine head_step (.int .i64 (kn : Nat)) (by go_simp) (fun V hV => by go_simp) ?_
  go_simp
  refine head_step (.pointer (some (xk.add (kn * 11)))) (by go_simp) (fun V hV => by go_simp) ?_
  go_simp
  refine head_step (.pointer (some ⟨(xk.add (kn * 11)).block, (xk.add (kn * 11)).off + 9, none⟩)) (by go_simp) (fun V hV => by go_simp) ?_
  go_simp
  refine head_step (.bool k.f) (by go_simp) (fun V hV => by obtain ⟨-, -, -, -, -, f10⟩ := FC.out V hV; go_simp) ?_
  go_simp
  refine head_call (.bool (Wd.open_ W.gs W.us (an : Nat) k.f)) 67 #[.agg #[.int .i64 W.wide, .int .i64 W.high, .slice p1 W.gs.length q1, .slice p2 W.os.length q2], .slice p4 W.us.length q4, .int .i64 (an : Nat), .bool k.f] (by go_simp) (fun V hV => by go_simp) (fun V hV => OPN.out V hV) ?_
  go_simp
  intro V hV
  have BV : Hid (Below w.heap.size w V) := B0.out.trans (hV.mono B0.out.size)
  obtain ⟨b9, hb9⟩ : ∃ b, Wd.open_ W.gs W.us (an : Nat) k.f = b := ⟨_, rfl⟩
  rw [hb9] at FK ⊢
  clear hV FC OPN hb9
  cases b9 with
  | false =>
    go_wp2
    go_ret
    exact ⟨_, rfl, by rw [FK.out]; exact Er.no (by decide), BV.out⟩
  | true =>
    go_wp2
    go_ret
    exact ⟨_, rfl, by rw [FK.out]; exact Er.nil, BV.out⟩
end Go.Proofs.Ytplnhgllbhdfjaa

namespace Go.Proofs.Ytplnhgllbhdfjaa
open Go.RowKit
set_option linter.unusedVariables false

namespace Wd
/-- what is told where a unit is put. -/
def putFault (ks : List KV) (W : WV) (pl kd at_ : Int) : Int := if wfault ks W = 0 then placeFault ks W pl kd at_ else wfault ks W
def newUnit (ks : List KV) (W : WV) (pl kd at_ : Int) : UnV := ⟨W.next, pl, kd, at_, (match ks[kd.toNat]? with | some k => k.n0 | none => 0), 0, 0, 0⟩
/-- the world behind it. -/
def put (ks : List KV) (W : WV) (pl kd at_ : Int) : WV := { W with next := W.next + 1, us := W.us ++ [newUnit ks W pl kd at_] }
def placed (ks : List KV) (W : WV) (pl kd at_ : Int) : WV := if putFault ks W pl kd at_ = 0 then put ks W pl kd at_ else WV.zero
end Wd
theorem placed_bad {ks : List KV} {W : WV} {pl kd at_ : Int} (h : Wd.putFault ks W pl kd at_ ≠ 0) : Wd.placed ks W pl kd at_ = WV.zero := by unfold Wd.placed; rw [if_neg h]
theorem placed_ok {ks : List KV} {W : WV} {pl kd at_ : Int} (h : Wd.putFault ks W pl kd at_ = 0) : Wd.placed ks W pl kd at_ = Wd.put ks W pl kd at_ := by unfold Wd.placed; rw [if_pos h]
theorem zero_wo (w : World) (base : Nat) : Wo w base (.agg #[.int .i64 0, .int .i64 0, .int .i64 0, .int .i64 0, .slice none 0 0, .slice none 0 0, .slice none 0 0, .slice none 0 0, .slice none 0 0]) WV.zero := ⟨_, _, _, _, _, rfl, Ow.nil _ _, Ow.nil _ _, Ow.nil _ _, Uno.nil _ _, Jbo.nil _ _⟩
theorem pf_zero {ks : List KV} {W : WV} {pl kd at_ : Int} (h : Wd.placeFault ks W pl kd at_ = 0) : ¬ (40 ≤ (W.us.length : Int) ∨ 1000000 ≤ W.next) ∧ (0 ≤ pl ∧ pl < (W.gold.length : Int)) ∧ (0 ≤ at_ ∧ at_ < (W.gs.length : Int)) ∧ ∃ kn k, kd = ((kn : Nat) : Int) ∧ kn < ks.length ∧ ks[kn]? = some k ∧ Wd.open_ W.gs W.us at_ k.f = true := by
  unfold Wd.placeFault at h
  split at h
  · cases h
  · rename_i h1
    split at h
    · cases h
    · rename_i h2
      split at h
      · cases h
      · rename_i h3
        split at h
        · rename_i k hk
          split at h
          · cases h
          · rename_i h4
            have hl := (List.getElem?_eq_some_iff.1 hk).1
            exact ⟨h1, by omega, by omega, kd.toNat, k, by omega, hl, hk, by simpa using h4⟩
        · cases h
set_option maxRecDepth 100000 in
set_option maxHeartbeats 8000000 in
theorem place_any (vk vw : Value) (ks : List KV) (W : WV) (pl kd at_ : Int) (w : World) (hk : Kl w vk ks) (hb : ∀ k ∈ ks, k.b.size ≤ 9223372036854775807) (hw : Wl w vw W) :
    Calls Try.prog 18 #[vk, vw, .int .i64 pl, .int .i64 kd, .int .i64 at_] w fun e w' => ∃ u r, e = .returned (.tuple #[u, r]) ∧ Er r (Wd.putFault ks W pl kd at_) ∧ Wo w' w.heap.size u (Wd.placed ks W pl kd at_) ∧ Below w.heap.size w w' := by
  have K : Hid (Kl w vk ks ∧ ∀ k ∈ ks, k.b.size ≤ 9223372036854775807) := ⟨hk, hb⟩
  have H : Hid (Wl w vw W) := hw
  obtain ⟨u1, u2, u3, u4, u5, rfl, r1, r2, r3, r4, r5⟩ := hw
  obtain ⟨p1, q1, rfl, -⟩ := r1
  obtain ⟨p2, q2, rfl, -⟩ := r2
  obtain ⟨p3, q3, rfl, -⟩ := r3
  obtain ⟨p4, q4, rfl, -⟩ := r4
  obtain ⟨p5, q5, rfl, -⟩ := r5
  obtain ⟨pk, qk, rfl, -, -, kc⟩ := hk
  have KC : Hid (ks ≠ [] → ∃ x, pk = some x ∧ x.block < w.heap.size ∧ ∀ (i : Nat) k, ks[i]? = some k → Kc w (x.add (i * 11)) k) := kc
  clear hb kc
  go_enter Try.func18, Try.ntmps18
  go_upto_region 1 with fail
  have B0 : Hid (Below w.heap.size w ((w.alloc (.cells #[.int .i64 W.turn, .int .i64 W.next, .int .i64 W.wide, .int .i64 W.high, .slice p1 W.gs.length q1, .slice p2 W.os.length q2, .slice p3 W.gold.length q3, .slice p4 W.us.length q4, .slice p5 W.qs.length q5] 29)).alloc (.cells #[.int .i64 0, .int .i64 0, .int .i64 0, .int .i64 0, .slice none 0 0, .slice none 0 0, .slice none 0 0, .slice none 0 0, .slice none 0 0] 29))) := ((Below.refl _ _).alloc (Nat.le_refl _) _).alloc (by simp) _
  have X0 : Hid (Wx ((w.alloc (.cells #[.int .i64 W.turn, .int .i64 W.next, .int .i64 W.wide, .int .i64 W.high, .slice p1 W.gs.length q1, .slice p2 W.os.length q2, .slice p3 W.gold.length q3, .slice p4 W.us.length q4, .slice p5 W.qs.length q5] 29)).alloc (.cells #[.int .i64 0, .int .i64 0, .int .i64 0, .int .i64 0, .slice none 0 0, .slice none 0 0, .slice none 0 0, .slice none 0 0, .slice none 0 0] 29)) w.heap.size (.int .i64 W.turn) (.int .i64 W.next) (.int .i64 W.wide) (.int .i64 W.high) (.slice p1 W.gs.length q1) (.slice p2 W.os.length q2) (.slice p3 W.gold.length q3) (.slice p4 W.us.length q4) (.slice p5 W.qs.length q5)) := (Wx.new (w := w) _ _ _ _ _ _ _ _ _ rfl).below ((Below.refl _ _).alloc (Nat.le_refl _) _) (by simp)
  have Z0 : Hid (Wx ((w.alloc (.cells #[.int .i64 W.turn, .int .i64 W.next, .int .i64 W.wide, .int .i64 W.high, .slice p1 W.gs.length q1, .slice p2 W.os.length q2, .slice p3 W.gold.length q3, .slice p4 W.us.length q4, .slice p5 W.qs.length q5] 29)).alloc (.cells #[.int .i64 0, .int .i64 0, .int .i64 0, .int .i64 0, .slice none 0 0, .slice none 0 0, .slice none 0 0, .slice none 0 0, .slice none 0 0] 29)) (w.heap.size + 1) (.int .i64 0) (.int .i64 0) (.int .i64 0) (.int .i64 0) (.slice none 0 0) (.slice none 0 0) (.slice none 0 0) (.slice none 0 0) (.slice none 0 0)) := Wx.new _ _ _ _ _ _ _ _ _ (by simp)
  have S0 : Hid (w.heap.size + 2 ≤ ((w.alloc (.cells #[.int .i64 W.turn, .int .i64 W.next, .int .i64 W.wide, .int .i64 W.high, .slice p1 W.gs.length q1, .slice p2 W.os.length q2, .slice p3 W.gold.length q3, .slice p4 W.us.length q4, .slice p5 W.qs.length q5] 29)).alloc (.cells #[.int .i64 0, .int .i64 0, .int .i64 0, .int .i64 0, .slice none 0 0, .slice none 0 0, .slice none 0 0, .slice none 0 0, .slice none 0 0] 29)).heap.size) := by unfold Hid; simp
  generalize ((w.alloc (.cells #[.int .i64 W.turn, .int .i64 W.next, .int .i64 W.wide, .int .i64 W.high, .slice p1 W.gs.length q1, .slice p2 W.os.length q2, .slice p3 W.gold.length q3, .slice p4 W.us.length q4, .slice p5 W.qs.length q5] 29)).alloc (.cells #[.int .i64 0, .int .i64 0, .int .i64 0, .int .i64 0, .slice none 0 0, .slice none 0 0, .slice none 0 0, .slice none 0 0, .slice none 0 0] 29)) = w0 at *
  obtain ⟨x0, x1, x2, x3, x4, x5, x6, x7, x8⟩ := X0.out.cells
  go_wp2_with fail
  refine (wcheck_any _ _ ks W w0 (K.out.1.below B0.out) K.out.2 (H.out.below B0.out)).mono ?_
  rintro e w1 ⟨r, rfl, hr, hb1⟩
  clear x0 x1 x2 x3 x4 x5 x6 x7 x8
  have B1 : Hid (Below w.heap.size w w1) := B0.out.trans (hb1.mono B0.out.size)
  have X1 : Hid (Wx w1 w.heap.size (.int .i64 W.turn) (.int .i64 W.next) (.int .i64 W.wide) (.int .i64 W.high) (.slice p1 W.gs.length q1) (.slice p2 W.os.length q2) (.slice p3 W.gold.length q3) (.slice p4 W.us.length q4) (.slice p5 W.qs.length q5)) := X0.out.below hb1 X0.out.lt
  have Z1 : Hid (Wx w1 (w.heap.size + 1) (.int .i64 0) (.int .i64 0) (.int .i64 0) (.int .i64 0) (.slice none 0 0) (.slice none 0 0) (.slice none 0 0) (.slice none 0 0) (.slice none 0 0)) := Z0.out.below hb1 Z0.out.lt
  have S1 : Hid (w.heap.size + 2 ≤ w1.heap.size) := Nat.le_trans S0.out hb1.size
  clear hb1 B0 X0 Z0 S0
  rcases hr with ⟨hf, rfl⟩ | ⟨hf, rfl⟩
  case inr =>
    obtain ⟨fe, hfe⟩ : ∃ f, Wd.wfault ks W = f := ⟨_, rfl⟩
    have HFE : Hid (fe ≠ 0) := by rw [← hfe]; exact hf
    have FE : Hid (Wd.putFault ks W pl kd at_ = fe) := by unfold Hid Wd.putFault; rw [if_neg hf]; exact hfe
    rw [hfe]
    clear hf hfe
    obtain ⟨z0, z1, z2, z3, z4, z5, z6, z7, z8⟩ := Z1.out.cells
    obtain ⟨t0, t1, t2, t3, t4, t5, t6, t7, t8⟩ := Z1.out.thaws
    have KZ : Hid (Kp (w.heap.size + 1) w1 (((((((((w1.setCell ⟨w.heap.size + 1, 0, none⟩ (.int .i64 0)).setCell ⟨w.heap.size + 1, 1, none⟩ (.int .i64 0)).setCell ⟨w.heap.size + 1, 2, none⟩ (.int .i64 0)).setCell ⟨w.heap.size + 1, 3, none⟩ (.int .i64 0)).setCell ⟨w.heap.size + 1, 4, none⟩ (.slice none 0 0)).setCell ⟨w.heap.size + 1, 5, none⟩ (.slice none 0 0)).setCell ⟨w.heap.size + 1, 6, none⟩ (.slice none 0 0)).setCell ⟨w.heap.size + 1, 7, none⟩ (.slice none 0 0)).setCell ⟨w.heap.size + 1, 8, none⟩ (.slice none 0 0))) := put_kp _ _ _ _ _ _ _ _ _ _ _
    obtain ⟨y0, y1, y2, y3, y4, y5, y6, y7, y8⟩ := (Z1.out.put (.int .i64 0) (.int .i64 0) (.int .i64 0) (.int .i64 0) (.slice none 0 0) (.slice none 0 0) (.slice none 0 0) (.slice none 0 0) (.slice none 0 0)).cells
    go_wp2
    clear z0 z1 z2 z3 z4 z5 z6 z7 z8 t0 t1 t2 t3 t4 t5 t6 t7 t8
    generalize (((((((((w1.setCell ⟨w.heap.size + 1, 0, none⟩ (.int .i64 0)).setCell ⟨w.heap.size + 1, 1, none⟩ (.int .i64 0)).setCell ⟨w.heap.size + 1, 2, none⟩ (.int .i64 0)).setCell ⟨w.heap.size + 1, 3, none⟩ (.int .i64 0)).setCell ⟨w.heap.size + 1, 4, none⟩ (.slice none 0 0)).setCell ⟨w.heap.size + 1, 5, none⟩ (.slice none 0 0)).setCell ⟨w.heap.size + 1, 6, none⟩ (.slice none 0 0)).setCell ⟨w.heap.size + 1, 7, none⟩ (.slice none 0 0)).setCell ⟨w.heap.size + 1, 8, none⟩ (.slice none 0 0)) = w9 at *
    refine bodyPost_ret (v := .tuple #[.agg #[.int .i64 0, .int .i64 0, .int .i64 0, .int .i64 0, .slice none 0 0, .slice none 0 0, .slice none 0 0, .slice none 0 0, .slice none 0 0], .iface 62 (.int .i64 fe)]) (by simp [results, Try.results18, go_sem, y0, y1, y2, y3, y4, y5, y6, y7, y8]) rfl ⟨_, _, rfl, by rw [FE.out]; exact Er.no HFE.out, by rw [placed_bad (by rw [FE.out]; exact HFE.out)]; exact zero_wo _ _, KZ.out.below B1.out B1.out.size (by omega)⟩
  have HF : Hid (Wd.wfault ks W = 0) := hf
  have PF : Hid (Wd.putFault ks W pl kd at_ = Wd.placeFault ks W pl kd at_) := by unfold Hid Wd.putFault; rw [if_pos hf]
  have RT : Hid (WRight ks W) := wright_of hf
  clear hf
  obtain ⟨x0, x1, x2, x3, x4, x5, x6, x7, x8⟩ := X1.out.cells
  go_wp2_with fail
  refine (cplace_any _ _ ks W pl kd at_ w1 (K.out.1.below B1.out) (H.out.below B1.out) RT.out).mono ?_
  rintro e w2 ⟨r, rfl, hr, hb2⟩
  clear x0 x1 x2 x3 x4 x5 x6 x7 x8
  have B2 : Hid (Below w.heap.size w w2) := B1.out.trans (hb2.mono B1.out.size)
  have X2 : Hid (Wx w2 w.heap.size (.int .i64 W.turn) (.int .i64 W.next) (.int .i64 W.wide) (.int .i64 W.high) (.slice p1 W.gs.length q1) (.slice p2 W.os.length q2) (.slice p3 W.gold.length q3) (.slice p4 W.us.length q4) (.slice p5 W.qs.length q5)) := X1.out.below hb2 X1.out.lt
  have Z2 : Hid (Wx w2 (w.heap.size + 1) (.int .i64 0) (.int .i64 0) (.int .i64 0) (.int .i64 0) (.slice none 0 0) (.slice none 0 0) (.slice none 0 0) (.slice none 0 0) (.slice none 0 0)) := Z1.out.below hb2 Z1.out.lt
  have S2 : Hid (w.heap.size + 2 ≤ w2.heap.size) := Nat.le_trans S1.out hb2.size
  clear hb2 B1 X1 Z1 S1
  rcases hr with ⟨hf, rfl⟩ | ⟨hf, rfl⟩
  case inr =>
    obtain ⟨fe, hfe⟩ : ∃ f, Wd.placeFault ks W pl kd at_ = f := ⟨_, rfl⟩
    have HFE : Hid (fe ≠ 0) := by rw [← hfe]; exact hf
    have FE : Hid (Wd.putFault ks W pl kd at_ = fe) := by unfold Hid; rw [PF.out]; exact hfe
    rw [hfe]
    clear hf hfe
    obtain ⟨z0, z1, z2, z3, z4, z5, z6, z7, z8⟩ := Z2.out.cells
    obtain ⟨t0, t1, t2, t3, t4, t5, t6, t7, t8⟩ := Z2.out.thaws
    have KZ : Hid (Kp (w.heap.size + 1) w2 (((((((((w2.setCell ⟨w.heap.size + 1, 0, none⟩ (.int .i64 0)).setCell ⟨w.heap.size + 1, 1, none⟩ (.int .i64 0)).setCell ⟨w.heap.size + 1, 2, none⟩ (.int .i64 0)).setCell ⟨w.heap.size + 1, 3, none⟩ (.int .i64 0)).setCell ⟨w.heap.size + 1, 4, none⟩ (.slice none 0 0)).setCell ⟨w.heap.size + 1, 5, none⟩ (.slice none 0 0)).setCell ⟨w.heap.size + 1, 6, none⟩ (.slice none 0 0)).setCell ⟨w.heap.size + 1, 7, none⟩ (.slice none 0 0)).setCell ⟨w.heap.size + 1, 8, none⟩ (.slice none 0 0))) := put_kp _ _ _ _ _ _ _ _ _ _ _
    obtain ⟨y0, y1, y2, y3, y4, y5, y6, y7, y8⟩ := (Z2.out.put (.int .i64 0) (.int .i64 0) (.int .i64 0) (.int .i64 0) (.slice none 0 0) (.slice none 0 0) (.slice none 0 0) (.slice none 0 0) (.slice none 0 0)).cells
    go_wp2
    clear z0 z1 z2 z3 z4 z5 z6 z7 z8 t0 t1 t2 t3 t4 t5 t6 t7 t8
    generalize (((((((((w2.setCell ⟨w.heap.size + 1, 0, none⟩ (.int .i64 0)).setCell ⟨w.heap.size + 1, 1, none⟩ (.int .i64 0)).setCell ⟨w.heap.size + 1, 2, none⟩ (.int .i64 0)).setCell ⟨w.heap.size + 1, 3, none⟩ (.int .i64 0)).setCell ⟨w.heap.size + 1, 4, none⟩ (.slice none 0 0)).setCell ⟨w.heap.size + 1, 5, none⟩ (.slice none 0 0)).setCell ⟨w.heap.size + 1, 6, none⟩ (.slice none 0 0)).setCell ⟨w.heap.size + 1, 7, none⟩ (.slice none 0 0)).setCell ⟨w.heap.size + 1, 8, none⟩ (.slice none 0 0)) = w9 at *
    refine bodyPost_ret (v := .tuple #[.agg #[.int .i64 0, .int .i64 0, .int .i64 0, .int .i64 0, .slice none 0 0, .slice none 0 0, .slice none 0 0, .slice none 0 0, .slice none 0 0], .iface 62 (.int .i64 fe)]) (by simp [results, Try.results18, go_sem, y0, y1, y2, y3, y4, y5, y6, y7, y8]) rfl ⟨_, _, rfl, by rw [FE.out]; exact Er.no HFE.out, by rw [placed_bad (by rw [FE.out]; exact HFE.out)]; exact zero_wo _ _, KZ.out.below B2.out B2.out.size (by omega)⟩
  obtain ⟨h40, hpl, hat, kn, k, rfl, hkn, hkk, hop⟩ := pf_zero hf
  have P0 : Hid (Wd.putFault ks W pl (kn : Nat) at_ = 0) := by unfold Hid; rw [PF.out]; exact hf
  have NU : Hid (Wd.newUnit ks W pl (kn : Nat) at_ = ⟨W.next, pl, (kn : Nat), at_, k.n0, 0, 0, 0⟩) := by unfold Hid Wd.newUnit; rw [Int.toNat_natCast, hkk]
  have L40 : Hid (W.us.length < 40) := by unfold Hid; omega
  have hnx : W.next < 1000000 := by omega
  have hn1 : 1 ≤ W.next := by
    have := (nums_ok RT.out.nums).1
    unfold Wd.off at this
    simp at this
    omega
  obtain ⟨xk, rfl, hxl, hxc⟩ := KC.out (by intro e; rw [e] at hkn; simp at hkn)
  have HK : Hid (Kc w (xk.add (kn * 11)) k ∧ (xk.add (kn * 11)).block < w.heap.size) := ⟨hxc kn k hkk, by rw [add_block]; exact hxl⟩
  have hki : (kn : Int) < (ks.length : Int) := by omega
  clear hf h40 hpl hat hkn hkk hop hxc hxl
  obtain ⟨x0, x1, x2, x3, x4, x5, x6, x7, x8⟩ := X2.out.cells
  go_wp2_with fail
  refine (copy_any _ W w2 (H.out.below B2.out) RT.out.len).mono ?_
  rintro e w3 ⟨u, rfl, ho, hb3⟩
  clear x0 x1 x2 x3 x4 x5 x6 x7 x8
  have B3 : Hid (Below w.heap.size w w3) := B2.out.trans (hb3.mono B2.out.size)
  have X3 : Hid (Wx w3 w.heap.size (.int .i64 W.turn) (.int .i64 W.next) (.int .i64 W.wide) (.int .i64 W.high) (.slice p1 W.gs.length q1) (.slice p2 W.os.length q2) (.slice p3 W.gold.length q3) (.slice p4 W.us.length q4) (.slice p5 W.qs.length q5)) := X2.out.below hb3 X2.out.lt
  have Z3 : Hid (Wx w3 (w.heap.size + 1) (.int .i64 0) (.int .i64 0) (.int .i64 0) (.int .i64 0) (.slice none 0 0) (.slice none 0 0) (.slice none 0 0) (.slice none 0 0) (.slice none 0 0)) := Z2.out.below hb3 Z2.out.lt
  have S3 : Hid (w.heap.size + 2 ≤ w3.heap.size) := Nat.le_trans S2.out hb3.size
  obtain ⟨v1, v2, v3, v4, v5, rfl, ⟨o1, o2, o3, o4, o5⟩, -, -, d14, -, -, d24, -, d34, -, d45⟩ := ho.mono S2.out
  have O1 : Hid (Ow w3 (w.heap.size + 2) v1 W.gs ∧ Ow w3 (w.heap.size + 2) v2 W.os ∧ Ow w3 (w.heap.size + 2) v3 W.gold ∧ Uno w3 (w.heap.size + 2) v4 W.us ∧ Jbo w3 (w.heap.size + 2) v5 W.qs) := ⟨o1, o2, o3, o4, o5⟩
  have DD : Hid (Dif v1 v4 ∧ Dif v2 v4 ∧ Dif v3 v4 ∧ Dif v5 v4) := ⟨d14, d24, d34, d45.symm⟩
  clear d14 d24 d34 d45
  obtain ⟨a1, b1, rfl⟩ := o1.len
  obtain ⟨a2, b2, rfl⟩ := o2.len
  obtain ⟨a3, b3, rfl⟩ := o3.len
  obtain ⟨a4, b4, rfl⟩ := o4.len
  obtain ⟨a5, b5, rfl⟩ := o5.len
  clear ho hb3 B2 X2 Z2 S2 o1 o2 o3 o4 o5
  obtain ⟨x0, x1, x2, x3, x4, x5, x6, x7, x8⟩ := X3.out.cells
  obtain ⟨t0, t1, t2, t3, t4, t5, t6, t7, t8⟩ := X3.out.thaws
  have K4 : Hid (Kp w.heap.size w3 (((((((((w3.setCell ⟨w.heap.size, 0, none⟩ (.int .i64 W.turn)).setCell ⟨w.heap.size, 1, none⟩ (.int .i64 W.next)).setCell ⟨w.heap.size, 2, none⟩ (.int .i64 W.wide)).setCell ⟨w.heap.size, 3, none⟩ (.int .i64 W.high)).setCell ⟨w.heap.size, 4, none⟩ (.slice a1 W.gs.length b1)).setCell ⟨w.heap.size, 5, none⟩ (.slice a2 W.os.length b2)).setCell ⟨w.heap.size, 6, none⟩ (.slice a3 W.gold.length b3)).setCell ⟨w.heap.size, 7, none⟩ (.slice a4 W.us.length b4)).setCell ⟨w.heap.size, 8, none⟩ (.slice a5 W.qs.length b5))) := put_kp _ _ _ _ _ _ _ _ _ _ _
  have X4 : Hid (Wx (((((((((w3.setCell ⟨w.heap.size, 0, none⟩ (.int .i64 W.turn)).setCell ⟨w.heap.size, 1, none⟩ (.int .i64 W.next)).setCell ⟨w.heap.size, 2, none⟩ (.int .i64 W.wide)).setCell ⟨w.heap.size, 3, none⟩ (.int .i64 W.high)).setCell ⟨w.heap.size, 4, none⟩ (.slice a1 W.gs.length b1)).setCell ⟨w.heap.size, 5, none⟩ (.slice a2 W.os.length b2)).setCell ⟨w.heap.size, 6, none⟩ (.slice a3 W.gold.length b3)).setCell ⟨w.heap.size, 7, none⟩ (.slice a4 W.us.length b4)).setCell ⟨w.heap.size, 8, none⟩ (.slice a5 W.qs.length b5)) w.heap.size (.int .i64 W.turn) (.int .i64 W.next) (.int .i64 W.wide) (.int .i64 W.high) (.slice a1 W.gs.length b1) (.slice a2 W.os.length b2) (.slice a3 W.gold.length b3) (.slice a4 W.us.length b4) (.slice a5 W.qs.length b5)) := X3.out.put (.int .i64 W.turn) (.int .i64 W.next) (.int .i64 W.wide) (.int .i64 W.high) (.slice a1 W.gs.length b1) (.slice a2 W.os.length b2) (.slice a3 W.gold.length b3) (.slice a4 W.us.length b4) (.slice a5 W.qs.length b5)
  go_upto_region 8 with fail
  clear x0 x1 x2 x3 x4 x5 x6 x7 x8 t0 t1 t2 t3 t4 t5 t6 t7 t8
  generalize (((((((((w3.setCell ⟨w.heap.size, 0, none⟩ (.int .i64 W.turn)).setCell ⟨w.heap.size, 1, none⟩ (.int .i64 W.next)).setCell ⟨w.heap.size, 2, none⟩ (.int .i64 W.wide)).setCell ⟨w.heap.size, 3, none⟩ (.int .i64 W.high)).setCell ⟨w.heap.size, 4, none⟩ (.slice a1 W.gs.length b1)).setCell ⟨w.heap.size, 5, none⟩ (.slice a2 W.os.length b2)).setCell ⟨w.heap.size, 6, none⟩ (.slice a3 W.gold.length b3)).setCell ⟨w.heap.size, 7, none⟩ (.slice a4 W.us.length b4)).setCell ⟨w.heap.size, 8, none⟩ (.slice a5 W.qs.length b5)) = w4 at *
  have B4 : Hid (Below w.heap.size w w4) := K4.out.below B3.out B3.out.size (Nat.le_refl _)
  have Z4 : Hid (Wx w4 (w.heap.size + 1) (.int .i64 0) (.int .i64 0) (.int .i64 0) (.int .i64 0) (.slice none 0 0) (.slice none 0 0) (.slice none 0 0) (.slice none 0 0) (.slice none 0 0)) := Z3.out.kp K4.out (by omega)
  have S4 : Hid (w.heap.size + 2 ≤ w4.heap.size) := Nat.le_trans S3.out K4.out.size
  have O4 : Hid (Ow w4 (w.heap.size + 2) (.slice a1 W.gs.length b1) W.gs ∧ Ow w4 (w.heap.size + 2) (.slice a2 W.os.length b2) W.os ∧ Ow w4 (w.heap.size + 2) (.slice a3 W.gold.length b3) W.gold ∧ Uno w4 (w.heap.size + 2) (.slice a4 W.us.length b4) W.us ∧ Jbo w4 (w.heap.size + 2) (.slice a5 W.qs.length b5) W.qs) :=
    ⟨O1.out.1.kp K4.out (by omega), O1.out.2.1.kp K4.out (by omega), O1.out.2.2.1.kp K4.out (by omega), O1.out.2.2.2.1.kp K4.out (by omega), O1.out.2.2.2.2.kp K4.out (by omega)⟩
  clear K4 B3 X3 Z3 S3 O1
  -- the region that draws
  refine wp_region_two [(true, 0), (true, 1), (true, 2), (true, 3), (true, 4), (true, 5), (true, 6), (true, 7), (true, 8), (true, 9), (true, 10), (true, 11), (true, 12), (false, 13), (false, 14)] [(false, 15), (false, 16)] (fun V => V.cell? ⟨w.heap.size, 7, none⟩ = some (.slice a4 W.us.length b4) ∧ V.cell? ⟨w.heap.size, 1, none⟩ = some (.int .i64 W.next) ∧ V.cell? ⟨(xk.add (kn * 11)).block, (xk.add (kn * 11)).off + 1, none⟩ = some (.int .i64 k.n0)) (by kernel_rfl) (by kernel_rfl) (by kernel_rfl) (by kernel_rfl) (by kernel_rfl) ?_ ?_
  · obtain ⟨-, x1, -, -, -, -, -, x7, -⟩ := X4.out.cells
    exact ⟨x7, x1, (HK.out.1.below B4.out HK.out.2).c1⟩
  have X5 : Hid (Wx { w4 with drawn := w4.drawn + 1 } w.heap.size (.int .i64 W.turn) (.int .i64 W.next) (.int .i64 W.wide) (.int .i64 W.high) (.slice a1 W.gs.length b1) (.slice a2 W.os.length b2) (.slice a3 W.gold.length b3) (.slice a4 W.us.length b4) (.slice a5 W.qs.length b5)) := X4.out
  have B5 : Hid (Below w.heap.size w { w4 with drawn := w4.drawn + 1 }) := B4.out.drew
  have Z5 : Hid (Wx { w4 with drawn := w4.drawn + 1 } (w.heap.size + 1) (.int .i64 0) (.int .i64 0) (.int .i64 0) (.int .i64 0) (.slice none 0 0) (.slice none 0 0) (.slice none 0 0) (.slice none 0 0) (.slice none 0 0)) := Z4.out
  have S5 : Hid (w.heap.size + 2 ≤ ({ w4 with drawn := w4.drawn + 1 } : World).heap.size) := S4.out
  have D5 : Hid (Below w4.heap.size w4 { w4 with drawn := w4.drawn + 1 }) := (Below.refl _ _).drew
  generalize ({ w4 with drawn := w4.drawn + 1 } : World) = w5 at *
  have O5 : Hid (Ow w5 (w.heap.size + 2) (.slice a1 W.gs.length b1) W.gs ∧ Ow w5 (w.heap.size + 2) (.slice a2 W.os.length b2) W.os ∧ Ow w5 (w.heap.size + 2) (.slice a3 W.gold.length b3) W.gold ∧ Uno w5 (w.heap.size + 2) (.slice a4 W.us.length b4) W.us ∧ Jbo w5 (w.heap.size + 2) (.slice a5 W.qs.length b5) W.qs) :=
    ⟨O4.out.1.below D5.out, O4.out.2.1.below D5.out, O4.out.2.2.1.below D5.out, O4.out.2.2.2.1.below D5.out, O4.out.2.2.2.2.below D5.out⟩
  clear X4 B4 Z4 S4 O4 D5
  refine headT_read rfl (.pointer (some ⟨w.heap.size, 7, none⟩)) (by go_simp) (fun V hV => by go_simp) ?_
  go_simp
  refine headT_read rfl (.slice a4 W.us.length b4) (by go_simp) (fun V hV => by obtain ⟨f7, f1, fk⟩ := hV; go_simp) ?_
  go_simp
  refine headT_read rfl (.pointer (some ⟨w.heap.size, 1, none⟩)) (by go_simp) (fun V hV => by go_simp) ?_
  go_simp
  refine headT_read rfl (.int .i64 W.next) (by go_simp) (fun V hV => by obtain ⟨f7, f1, fk⟩ := hV; go_simp) ?_
  go_simp
  refine headT_read rfl (.int .i64 pl) (by go_simp) (fun V hV => by go_simp) ?_
  go_simp
  refine headT_read rfl (.int .i64 (kn : Nat)) (by go_simp) (fun V hV => by go_simp) ?_
  go_simp
  refine headT_read rfl (.int .i64 at_) (by go_simp) (fun V hV => by go_simp) ?_
  go_simp
  refine headT_read rfl (.slice (some xk) ks.length qk) (by go_simp) (fun V hV => by go_simp) ?_
  go_simp
  refine headT_read rfl (.int .i64 (kn : Nat)) (by go_simp) (fun V hV => by go_simp) ?_
  go_simp
  refine headT_read rfl (.pointer (some (xk.add (kn * 11)))) (by go_simp) (fun V hV => by go_simp) ?_
  go_simp
  refine headT_read rfl (.pointer (some ⟨(xk.add (kn * 11)).block, (xk.add (kn * 11)).off + 1, none⟩)) (by go_simp) (fun V hV => by go_simp) ?_
  go_simp
  refine headT_read rfl (.int .i64 k.n0) (by go_simp) (fun V hV => by obtain ⟨f7, f1, fk⟩ := hV; go_simp) ?_
  go_simp
  refine headT_read rfl (.agg #[.int .i64 W.next, .int .i64 pl, .int .i64 (kn : Nat), .int .i64 at_, .int .i64 k.n0, .int .i64 0, .int .i64 0, .int .i64 0]) (by go_simp) (fun V hV => by go_simp) ?_
  go_simp
  have CL : Hid (∀ V, Wx V w.heap.size (.int .i64 W.turn) (.int .i64 W.next) (.int .i64 W.wide) (.int .i64 W.high) (.slice a1 W.gs.length b1) (.slice a2 W.os.length b2) (.slice a3 W.gold.length b3) (.slice a4 W.us.length b4) (.slice a5 W.qs.length b5) → Below w.heap.size w V → V.cell? ⟨w.heap.size, 7, none⟩ = some (.slice a4 W.us.length b4) ∧ V.cell? ⟨w.heap.size, 1, none⟩ = some (.int .i64 W.next) ∧ V.cell? ⟨(xk.add (kn * 11)).block, (xk.add (kn * 11)).off + 1, none⟩ = some (.int .i64 k.n0)) := fun V hX hB => by
    obtain ⟨-, x1, -, -, -, -, -, x7, -⟩ := hX.cells
    exact ⟨x7, x1, (HK.out.1.below hB HK.out.2).c1⟩
  have BA : Hid (Below w5.heap.size w5 (w5.alloc (.cells #[.int .i64 W.next, .int .i64 pl, .int .i64 (kn : Nat), .int .i64 at_, .int .i64 k.n0, .int .i64 0, .int .i64 0, .int .i64 0] 38))) := (Below.refl _ _).alloc (Nat.le_refl _) _
  have SA : Hid ((w5.alloc (.cells #[.int .i64 W.next, .int .i64 pl, .int .i64 (kn : Nat), .int .i64 at_, .int .i64 k.n0, .int .i64 0, .int .i64 0, .int .i64 0] 38)).heap.size = w5.heap.size + 1) := by unfold Hid; simp
  have UA : Hid (Unc (w5.alloc (.cells #[.int .i64 W.next, .int .i64 pl, .int .i64 (kn : Nat), .int .i64 at_, .int .i64 k.n0, .int .i64 0, .int .i64 0, .int .i64 0] 38)) ⟨w5.heap.size, 0, none⟩ (⟨W.next, pl, (kn : Nat), at_, k.n0, 0, 0, 0⟩ : UnV)) := Unc.mk' (w := w5) (⟨W.next, pl, (kn : Nat), at_, k.n0, 0, 0, 0⟩ : UnV) rfl
  have OA : Hid (Uno (w5.alloc (.cells #[.int .i64 W.next, .int .i64 pl, .int .i64 (kn : Nat), .int .i64 at_, .int .i64 k.n0, .int .i64 0, .int .i64 0, .int .i64 0] 38)) (w.heap.size + 2) (.slice a4 W.us.length b4) W.us) := O5.out.2.2.2.1.alloc _
  have XA : Hid (Wx (w5.alloc (.cells #[.int .i64 W.next, .int .i64 pl, .int .i64 (kn : Nat), .int .i64 at_, .int .i64 k.n0, .int .i64 0, .int .i64 0, .int .i64 0] 38)) w.heap.size (.int .i64 W.turn) (.int .i64 W.next) (.int .i64 W.wide) (.int .i64 W.high) (.slice a1 W.gs.length b1) (.slice a2 W.os.length b2) (.slice a3 W.gold.length b3) (.slice a4 W.us.length b4) (.slice a5 W.qs.length b5)) := X5.out.below BA.out X5.out.lt
  have BB : Hid (Below w.heap.size w (w5.alloc (.cells #[.int .i64 W.next, .int .i64 pl, .int .i64 (kn : Nat), .int .i64 at_, .int .i64 k.n0, .int .i64 0, .int .i64 0, .int .i64 0] 38))) := B5.out.trans (BA.out.mono B5.out.size)
  refine headT_value rfl (.slice (some ⟨w5.heap.size, 0, none⟩) 1 1) (w5.alloc (.cells #[.int .i64 W.next, .int .i64 pl, .int .i64 (kn : Nat), .int .i64 at_, .int .i64 k.n0, .int .i64 0, .int .i64 0, .int .i64 0] 38)) (by go_simp) (by go_simp) (CL.out _ XA.out BB.out) ?_
  go_simp
  generalize (w5.alloc (.cells #[.int .i64 W.next, .int .i64 pl, .int .i64 (kn : Nat), .int .i64 at_, .int .i64 k.n0, .int .i64 0, .int .i64 0, .int .i64 0] 38)) = wa at *
  obtain ⟨i0, hi, hz0, hz1, hz2⟩ := info_parts info_un
  obtain ⟨g, cap, w6, hr, ho6, hg6, ha6, hl6⟩ := run_append_lies (P := Try.prog) wa 26 26 (w.heap.size + 2) 38 i0 _ 8 64 Try.underlying26 hi hz0 hz1 hz2 rfl (by decide) (.slice a4 W.us.length b4) W.us.length _ OA.out ⟨w5.heap.size, 0, none⟩ 1 1 (UnV.cs (⟨W.next, pl, (kn : Nat), at_, k.n0, 0, 0, 0⟩ : UnV)) rfl (fun j u hj => by
    have hd := UA.out
    have hjn : j < 8 := (List.getElem?_eq_some_iff.1 hj).1
    rw [Addr.add_lit, Nat.zero_add]
    match j, hjn, hj with
    | 0, _, hj => simp [UnV.cs] at hj; subst hj; exact hd.c0
    | 1, _, hj => simp [UnV.cs] at hj; subst hj; exact hd.c1
    | 2, _, hj => simp [UnV.cs] at hj; subst hj; exact hd.c2
    | 3, _, hj => simp [UnV.cs] at hj; subst hj; exact hd.c3
    | 4, _, hj => simp [UnV.cs] at hj; subst hj; exact hd.c4
    | 5, _, hj => simp [UnV.cs] at hj; subst hj; exact hd.c5
    | 6, _, hj => simp [UnV.cs] at hj; subst hj; exact hd.c6
    | 7, _, hj => simp [UnV.cs] at hj; subst hj; exact hd.c7) (fun u hu => by
    simp [UnV.cs] at hu
    rcases hu with rfl | rfl | rfl | rfl | rfl | rfl | rfl | rfl <;> rfl) (by decide) (by have := L40.out; unfold maxLen; omega) (by have := L40.out; omega) (by have := S5.out; have := SA.out; omega) _ rfl
  have ON : Hid (Uno w6 (w.heap.size + 2) (.slice (some ⟨g, 0, none⟩) (W.us.length + 1) cap) (W.us ++ [(⟨W.next, pl, (kn : Nat), at_, k.n0, 0, 0, 0⟩ : UnV)])) := by
    unfold Hid Uno
    rw [List.length_append, List.flatMap_append]
    simpa using ho6
  have GB : Hid (∀ b, ((.slice a4 W.us.length b4) : Value).ownBlock = some b → w.heap.size + 2 ≤ b) := fun b hb => (OA.out.block b hb).1
  have BG : Hid (Below (w.heap.size + 2) wa w6) := (Below.refl _ _).grown hg6 (by have := S5.out; have := SA.out; omega) (fun b hb => GB.out b hb)
  have X6 : Hid (Wx w6 w.heap.size (.int .i64 W.turn) (.int .i64 W.next) (.int .i64 W.wide) (.int .i64 W.high) (.slice a1 W.gs.length b1) (.slice a2 W.os.length b2) (.slice a3 W.gold.length b3) (.slice a4 W.us.length b4) (.slice a5 W.qs.length b5)) := XA.out.below BG.out (by omega)
  have Z6 : Hid (Wx w6 (w.heap.size + 1) (.int .i64 0) (.int .i64 0) (.int .i64 0) (.int .i64 0) (.slice none 0 0) (.slice none 0 0) (.slice none 0 0) (.slice none 0 0) (.slice none 0 0)) := (Z5.out.below BA.out Z5.out.lt).below BG.out (by omega)
  have B6 : Hid (Below w.heap.size w w6) := BB.out.trans (BG.out.mono (by omega))
  refine headT_value rfl (.slice (some ⟨g, 0, none⟩) (W.us.length + 1) cap) w6 (by go_simp) (exec_append _ _ _ _ rfl _ _ (by go_simp) (by go_simp) hr) (CL.out _ X6.out B6.out) ?_
  have S6 : Hid (w.heap.size + 2 ≤ w6.heap.size) := by have := S5.out; have := SA.out; have := BG.out.size; unfold Hid; omega
  have N1 : Hid (Ow w6 (w.heap.size + 2) (.slice a1 W.gs.length b1) W.gs) := ((O5.out.1).below BA.out).kept hg6 DD.out.1.ne
  have N2 : Hid (Ow w6 (w.heap.size + 2) (.slice a2 W.os.length b2) W.os) := ((O5.out.2.1).below BA.out).kept hg6 DD.out.2.1.ne
  have N3 : Hid (Ow w6 (w.heap.size + 2) (.slice a3 W.gold.length b3) W.gold) := ((O5.out.2.2.1).below BA.out).kept hg6 DD.out.2.2.1.ne
  have N5 : Hid (Jbo w6 (w.heap.size + 2) (.slice a5 W.qs.length b5) W.qs) := ((O5.out.2.2.2.2).below BA.out).kept hg6 DD.out.2.2.2.ne
  clear hr ho6 hg6 ha6 hl6 hi hz0 hz1 hz2 BG GB OA UA XA BB BA X5 Z5 S5 B5 O5 CL SA DD
  go_simp
  unfold wpHeadT
  refine sched_value rfl (.pointer (some ⟨w.heap.size, 7, none⟩)) w6 (by go_simp) (by go_simp) trivial ?_
  go_simp
  have K7 : Hid (Kp w.heap.size w6 (w6.setCell ⟨w.heap.size, 7, none⟩ (.slice (some ⟨g, 0, none⟩) (W.us.length + 1) cap))) := Kp.set _ _ _
  have X7 : Hid (Wx (w6.setCell ⟨w.heap.size, 7, none⟩ (.slice (some ⟨g, 0, none⟩) (W.us.length + 1) cap)) w.heap.size (.int .i64 W.turn) (.int .i64 W.next) (.int .i64 W.wide) (.int .i64 W.high) (.slice a1 W.gs.length b1) (.slice a2 W.os.length b2) (.slice a3 W.gold.length b3) (.slice (some ⟨g, 0, none⟩) (W.us.length + 1) cap) (.slice a5 W.qs.length b5)) := X6.out.set7 _
  have t7 := X6.out.thaw 7
  obtain ⟨-, -, -, -, -, -, -, x7, -⟩ := X6.out.cells
  refine sched_skip rfl (w6.setCell ⟨w.heap.size, 7, none⟩ (.slice (some ⟨g, 0, none⟩) (W.us.length + 1) cap)) (by go_simp) (by go_simp) trivial ?_
  go_simp
  clear t7 x7
  generalize (w6.setCell ⟨w.heap.size, 7, none⟩ (.slice (some ⟨g, 0, none⟩) (W.us.length + 1) cap)) = w7 at *
  have B7 : Hid (Below w.heap.size w w7) := K7.out.below B6.out B6.out.size (Nat.le_refl _)
  have Z7 : Hid (Wx w7 (w.heap.size + 1) (.int .i64 0) (.int .i64 0) (.int .i64 0) (.int .i64 0) (.slice none 0 0) (.slice none 0 0) (.slice none 0 0) (.slice none 0 0) (.slice none 0 0)) := Z6.out.kp K7.out (by omega)
  have S7 : Hid (w.heap.size + 2 ≤ w7.heap.size) := Nat.le_trans S6.out K7.out.size
  have M : Hid (Ow w7 (w.heap.size + 2) (.slice a1 W.gs.length b1) W.gs ∧ Ow w7 (w.heap.size + 2) (.slice a2 W.os.length b2) W.os ∧ Ow w7 (w.heap.size + 2) (.slice a3 W.gold.length b3) W.gold ∧ Uno w7 (w.heap.size + 2) (.slice (some ⟨g, 0, none⟩) (W.us.length + 1) cap) (W.us ++ [(⟨W.next, pl, (kn : Nat), at_, k.n0, 0, 0, 0⟩ : UnV)]) ∧ Jbo w7 (w.heap.size + 2) (.slice a5 W.qs.length b5) W.qs) :=
    ⟨N1.out.kp K7.out (by omega), N2.out.kp K7.out (by omega), N3.out.kp K7.out (by omega), ON.out.kp K7.out (by omega), N5.out.kp K7.out (by omega)⟩
  clear K7 B6 Z6 S6 N1 N2 N3 N5 ON X6
  unfold wpSched
  have wn : IntKind.i64.wrap (W.next + 1) = W.next + 1 := by rw [IntKind.wrap_i64]; omega
  have K8 : Hid (Kp w.heap.size w7 (w7.setCell ⟨w.heap.size, 1, none⟩ (.int .i64 (W.next + 1)))) := Kp.set _ _ _
  have X8 : Hid (Wx (w7.setCell ⟨w.heap.size, 1, none⟩ (.int .i64 (W.next + 1))) w.heap.size (.int .i64 W.turn) (.int .i64 (W.next + 1)) (.int .i64 W.wide) (.int .i64 W.high) (.slice a1 W.gs.length b1) (.slice a2 W.os.length b2) (.slice a3 W.gold.length b3) (.slice (some ⟨g, 0, none⟩) (W.us.length + 1) cap) (.slice a5 W.qs.length b5)) := X7.out.set1 _
  have t1 := X7.out.thaw 1
  obtain ⟨-, x1, -, -, -, -, -, -, -⟩ := X7.out.cells
  go_upto_region 10 with fail
  clear t1 x1 wn
  generalize (w7.setCell ⟨w.heap.size, 1, none⟩ (.int .i64 (W.next + 1))) = w8 at *
  have B8 : Hid (Below w.heap.size w w8) := K8.out.below B7.out B7.out.size (Nat.le_refl _)
  have Z8 : Hid (Wx w8 (w.heap.size + 1) (.int .i64 0) (.int .i64 0) (.int .i64 0) (.int .i64 0) (.slice none 0 0) (.slice none 0 0) (.slice none 0 0) (.slice none 0 0) (.slice none 0 0)) := Z7.out.kp K8.out (by omega)
  have S8 : Hid (w.heap.size + 2 ≤ w8.heap.size) := Nat.le_trans S7.out K8.out.size
  have M8 : Hid (Ow w8 (w.heap.size + 2) (.slice a1 W.gs.length b1) W.gs ∧ Ow w8 (w.heap.size + 2) (.slice a2 W.os.length b2) W.os ∧ Ow w8 (w.heap.size + 2) (.slice a3 W.gold.length b3) W.gold ∧ Uno w8 (w.heap.size + 2) (.slice (some ⟨g, 0, none⟩) (W.us.length + 1) cap) (W.us ++ [(⟨W.next, pl, (kn : Nat), at_, k.n0, 0, 0, 0⟩ : UnV)]) ∧ Jbo w8 (w.heap.size + 2) (.slice a5 W.qs.length b5) W.qs) :=
    ⟨M.out.1.kp K8.out (by omega), M.out.2.1.kp K8.out (by omega), M.out.2.2.1.kp K8.out (by omega), M.out.2.2.2.1.kp K8.out (by omega), M.out.2.2.2.2.kp K8.out (by omega)⟩
  clear K8 B7 Z7 S7 M X7
  obtain ⟨x0, x1, x2, x3, x4, x5, x6, x7, x8⟩ := X8.out.cells
  obtain ⟨z0, z1, z2, z3, z4, z5, z6, z7, z8⟩ := Z8.out.cells
  obtain ⟨t0, t1, t2, t3, t4, t5, t6, t7, t8⟩ := Z8.out.thaws
  have KZ : Hid (Kp (w.heap.size + 1) w8 (((((((((w8.setCell ⟨w.heap.size + 1, 0, none⟩ (.int .i64 W.turn)).setCell ⟨w.heap.size + 1, 1, none⟩ (.int .i64 (W.next + 1))).setCell ⟨w.heap.size + 1, 2, none⟩ (.int .i64 W.wide)).setCell ⟨w.heap.size + 1, 3, none⟩ (.int .i64 W.high)).setCell ⟨w.heap.size + 1, 4, none⟩ (.slice a1 W.gs.length b1)).setCell ⟨w.heap.size + 1, 5, none⟩ (.slice a2 W.os.length b2)).setCell ⟨w.heap.size + 1, 6, none⟩ (.slice a3 W.gold.length b3)).setCell ⟨w.heap.size + 1, 7, none⟩ (.slice (some ⟨g, 0, none⟩) (W.us.length + 1) cap)).setCell ⟨w.heap.size + 1, 8, none⟩ (.slice a5 W.qs.length b5))) := put_kp _ _ _ _ _ _ _ _ _ _ _
  obtain ⟨y0, y1, y2, y3, y4, y5, y6, y7, y8⟩ := (Z8.out.put (.int .i64 W.turn) (.int .i64 (W.next + 1)) (.int .i64 W.wide) (.int .i64 W.high) (.slice a1 W.gs.length b1) (.slice a2 W.os.length b2) (.slice a3 W.gold.length b3) (.slice (some ⟨g, 0, none⟩) (W.us.length + 1) cap) (.slice a5 W.qs.length b5)).cells
  go_wp2
  clear x0 x1 x2 x3 x4 x5 x6 x7 x8 z0 z1 z2 z3 z4 z5 z6 z7 z8 t0 t1 t2 t3 t4 t5 t6 t7 t8
  generalize (((((((((w8.setCell ⟨w.heap.size + 1, 0, none⟩ (.int .i64 W.turn)).setCell ⟨w.heap.size + 1, 1, none⟩ (.int .i64 (W.next + 1))).setCell ⟨w.heap.size + 1, 2, none⟩ (.int .i64 W.wide)).setCell ⟨w.heap.size + 1, 3, none⟩ (.int .i64 W.high)).setCell ⟨w.heap.size + 1, 4, none⟩ (.slice a1 W.gs.length b1)).setCell ⟨w.heap.size + 1, 5, none⟩ (.slice a2 W.os.length b2)).setCell ⟨w.heap.size + 1, 6, none⟩ (.slice a3 W.gold.length b3)).setCell ⟨w.heap.size + 1, 7, none⟩ (.slice (some ⟨g, 0, none⟩) (W.us.length + 1) cap)).setCell ⟨w.heap.size + 1, 8, none⟩ (.slice a5 W.qs.length b5)) = w9 at *
  refine bodyPost_ret (v := .tuple #[.agg #[.int .i64 W.turn, .int .i64 (W.next + 1), .int .i64 W.wide, .int .i64 W.high, .slice a1 W.gs.length b1, .slice a2 W.os.length b2, .slice a3 W.gold.length b3, .slice (some ⟨g, 0, none⟩) (W.us.length + 1) cap, .slice a5 W.qs.length b5], .nilIface]) (by simp [results, Try.results18, go_sem, y0, y1, y2, y3, y4, y5, y6, y7, y8]) rfl ⟨_, _, rfl, by rw [P0.out]; exact Er.nil, ?_, KZ.out.below B8.out B8.out.size (by omega)⟩
  rw [placed_ok P0.out]
  unfold Wd.put
  rw [NU.out]
  exact ⟨_, _, _, _, _, rfl, (M8.out.1.kp KZ.out (by omega)).mono (by omega), (M8.out.2.1.kp KZ.out (by omega)).mono (by omega), (M8.out.2.2.1.kp KZ.out (by omega)).mono (by omega), (M8.out.2.2.2.1.kp KZ.out (by omega)).mono (by omega), (M8.out.2.2.2.2.kp KZ.out (by omega)).mono (by omega)⟩
end Go.Proofs.Ytplnhgllbhdfjaa

namespace Go.Proofs.Ytplnhgllbhdfjaa
set_option linter.unusedVariables false
namespace Wd

theorem unitsGo_zero {ks : List KV} {W : WV} : ∀ (l : List UnV) (i : Nat), unitsGo ks W i l = 0 ↔ ∀ (j : Nat) (u : UnV), l[j]? = some u → unitFault ks W (i + j) u = 0
  | [], i => by
    constructor
    · intro _ j u h; simp at h
    · intro _; rfl
  | x :: l, i => by
    unfold unitsGo
    constructor
    · intro h
      split at h
      · rename_i h0
        intro j u hj
        cases j with
        | zero => simp at hj; subst hj; exact h0
        | succ j =>
          have := (unitsGo_zero l (i + 1)).1 h j u (by simpa using hj)
          rwa [show i + 1 + j = i + (j + 1) by omega] at this
      · rename_i h0; exact absurd h h0
    · intro h
      rw [if_pos (show unitFault ks W i x = 0 from h 0 x rfl)]
      refine (unitsGo_zero l (i + 1)).2 fun j u hj => ?_
      have := h (j + 1) u (by simpa using hj)
      rwa [show i + (j + 1) = i + 1 + j by omega] at this
theorem jobsGo_zero {ks : List KV} {W : WV} : ∀ (l : List JbV), jobsGo ks W l = 0 ↔ ∀ j ∈ l, jobFault ks W j = 0
  | [] => by
    constructor
    · intro _ j h; cases h
    · intro _; rfl
  | x :: l => by
    unfold jobsGo
    constructor
    · intro h
      split at h
      · rename_i h0
        intro j hj
        rcases List.mem_cons.1 hj with rfl | hj
        · exact h0
        · exact (jobsGo_zero l).1 h j hj
      · rename_i h0; exact absurd h h0
    · intro h
      rw [if_pos (h x (List.mem_cons_self ..))]
      exact (jobsGo_zero l).2 fun j hj => h j (List.mem_cons_of_mem _ hj)
theorem nor1 {a : Bool} (h : ¬ (!a) = true) : a = true := by cases a <;> simp_all
theorem nor2 {a b : Bool} (h : ¬ (!a || !b) = true) : a = true ∧ b = true := by cases a <;> cases b <;> simp_all
theorem nor3 {a b c : Bool} (h : ¬ (!a || (!b || !c)) = true) : a = true ∧ b = true ∧ c = true := by cases a <;> cases b <;> cases c <;> simp_all
theorem nor6 {a b : Bool} (h : ¬ (!a || b) = true) : a = true ∧ b = false := by cases a <;> cases b <;> simp_all
/-- nothing is wrong with a unit. -/
structure UFine (ks : List KV) (W : WV) (i : Nat) (u : UnV) (k : KV) : Prop where
  id1 : 1 ≤ u.id
  id2 : u.id ≤ W.next - 1
  up : notAbove W.us i u = false
  p : 0 ≤ u.player ∧ u.player < (W.gold.length : Int)
  k0 : 0 ≤ u.kind ∧ u.kind < (ks.length : Int)
  kk : ks[u.kind.toNat]? = some k
  life : 1 ≤ u.life ∧ u.life ≤ k.n0
  load : 0 ≤ u.load ∧ u.load ≤ k.n7
  task : 0 ≤ u.task ∧ u.task ≤ 2
  at_ : 0 ≤ u.at_ ∧ u.at_ < (W.gs.length : Int)
  goal : 0 ≤ u.goal ∧ u.goal < (W.gs.length : Int)
  opn : open_ W.gs (W.us.take i) u.at_ k.f = true
  rest : u.goal = 0 ∨ u.task ≠ 0
theorem unit_fine {ks : List KV} {W : WV} {i : Nat} {u : UnV} : unitFault ks W i u = 0 ↔ ∃ k, UFine ks W i u k := by
  constructor
  · intro h
    unfold unitFault at h
    split at h
    · cases h
    rename_i h1
    split at h
    · cases h
    rename_i h2
    split at h
    · cases h
    rename_i h3
    split at h
    · cases h
    rename_i k hk
    unfold kindPart at h
    split at h
    · cases h
    rename_i h4
    split at h
    · cases h
    rename_i h5
    split at h
    · cases h
    rename_i h6
    have g1 := of_decide_eq_true (nor1 h1)
    have g3 := nor2 h3
    have g4 := nor3 h4
    have g5 := nor2 h5
    have g6 := nor6 h6
    refine ⟨k, ⟨g1.1, g1.2, by simpa using h2, of_decide_eq_true g3.1, of_decide_eq_true g3.2, hk, of_decide_eq_true g4.1, of_decide_eq_true g4.2.1, of_decide_eq_true g4.2.2, of_decide_eq_true g5.1, of_decide_eq_true g5.2, g6.1, ?_⟩⟩
    have g7 := g6.2
    simp only [Bool.and_eq_false_iff, bne_eq_false_iff_eq, beq_eq_false_iff_ne] at g7
    exact g7
  · rintro ⟨k, h⟩
    unfold unitFault
    rw [if_neg (by simp [h.id1, h.id2]), if_neg (by simp [h.up]), if_neg (by simp [has, h.p.1, h.p.2, h.k0.1, h.k0.2]), h.kk]
    show kindPart W (W.us.take i) u k = 0
    unfold kindPart
    rw [if_neg (by simp [h.life.1, h.life.2, h.load.1, h.load.2, h.task.1, h.task.2]), if_neg (by simp [has, h.at_.1, h.at_.2, h.goal.1, h.goal.2]), if_neg]
    simp only [h.opn, Bool.not_true, Bool.false_or, Bool.and_eq_true, bne_iff_ne, beq_iff_eq, ne_eq, not_and]
    intro hg ht
    rcases h.rest with h1 | h1
    · exact hg h1
    · exact h1 ht
/-- a world with which nothing is wrong. -/
theorem wfault_zero {ks : List KV} {W : WV} (hk : Kd.kindsFault (ks.map KV.k) = 0) (hf : Fd.fault W.wide W.high W.gs W.os = 0) (hn : numsBad W = false) (hu : W.us.length ≤ 40) (hus : ∀ (i : Nat) (u : UnV), W.us[i]? = some u → ∃ k, UFine ks W i u k) (hq : W.qs.length ≤ 12) (hqs : ∀ j ∈ W.qs, jobFault ks W j = 0) : wfault ks W = 0 := by
  have h1 : ground ks W = 0 := by unfold ground; rw [if_pos hk, hf]
  have h2 : unitsGo ks W 0 W.us = 0 := (unitsGo_zero W.us 0).2 fun j u hj => by rw [Nat.zero_add]; exact unit_fine.2 (hus j u hj)
  unfold wfault
  rw [if_neg (by rw [h1]; simp), hn, if_neg (by simp), if_neg (by omega), if_neg (by rw [h2]; simp), if_neg (by omega)]
  exact (jobsGo_zero W.qs).2 hqs
end Wd
theorem WRight.fine {ks : List KV} {W : WV} (h : WRight ks W) {i : Nat} {u : UnV} (hu : W.us[i]? = some u) : ∃ k, Wd.UFine ks W i u k := by
  have := (Wd.unitsGo_zero W.us 0).1 h.units i u hu
  rw [Nat.zero_add] at this
  exact Wd.unit_fine.1 this
theorem WRight.job {ks : List KV} {W : WV} (h : WRight ks W) {j : JbV} (hj : j ∈ W.qs) : Wd.jobFault ks W j = 0 := (Wd.jobsGo_zero W.qs).1 h.jobs j hj
theorem WRight.zero {ks : List KV} {W : WV} (h : WRight ks W) : Wd.wfault ks W = 0 := by
  obtain ⟨Wn, Hn, e1, e2, G⟩ := h.good
  exact Wd.wfault_zero h.kinds (by rw [e1, e2]; exact Fd.fault_good G) h.nums h.ul (fun i u hu => h.fine hu) h.ql (fun j hj => h.job hj)
end Go.Proofs.Ytplnhgllbhdfjaa

namespace Go.Proofs.Ytplnhgllbhdfjaa
open Go.RowKit
set_option linter.unusedVariables false

theorem kgo_nums : ∀ {l acc : List Kd.K}, Kd.kindsGo acc l = 0 → ∀ k ∈ l, Kd.numsFault k.nums = 0
  | [], _, _, k, hk => by simp at hk
  | x :: l, acc, h, k, hk => by
    unfold Kd.kindsGo at h
    split at h
    · rename_i h0
      rcases List.mem_cons.1 hk with rfl | hk
      · unfold Kd.kindFault at h0
        split at h0
        · split at h0
          · omega
          · exact h0
        · omega
      · exact kgo_nums h k hk
    · rename_i h0
      exact absurd h h0
/-- kinds that are right. -/
theorem kinds_right {ks : List KV} (h : Kd.kindsFault (ks.map KV.k) = 0) : ks.length ≤ 8 ∧ ∀ k ∈ ks, 0 ≤ k.n5 ∧ k.n5 ≤ 1000 ∧ 0 < k.n0 ∧ k.n0 ≤ 1000 := by
  unfold Kd.kindsFault at h
  split at h
  · omega
  · rename_i h8
    refine ⟨by simpa using h8, fun k hk => ?_⟩
    have := kgo_nums h k.k (List.mem_map.2 ⟨k, hk, rfl⟩)
    unfold Kd.numsFault at this
    split at this
    · omega
    · rename_i h1
      rw [Bool.not_eq_true, List.any_eq_false] at h1
      have a := h1 k.n0 (by simp [KV.k])
      have b := h1 k.n5 (by simp [KV.k])
      simp only [decide_eq_true_eq] at a b
      split at this
      · omega
      · rename_i h2
        have : (k.k.nums).getD 0 0 = k.n0 := rfl
        omega

end Go.Proofs.Ytplnhgllbhdfjaa

namespace Go.Proofs.Ytplnhgllbhdfjaa
set_option linter.unusedVariables false

theorem kind_nums {ks : List KV} (h : Kd.kindsFault (ks.map KV.k) = 0) {k : KV} (hk : k ∈ ks) : 1 ≤ k.n0 ∧ 0 ≤ k.n7 ∧ 0 ≤ k.n4 ∧ k.n4 ≤ 4 ∧ 0 ≤ k.n1 ∧ k.n1 ≤ 1000 ∧ 0 ≤ k.n2 ∧ k.n2 ≤ 12 ∧ 0 ≤ k.n3 ∧ k.n3 ≤ 12 ∧ k.n0 ≤ 1000 ∧ k.n7 ≤ 1000 := by
  unfold Kd.kindsFault at h
  split at h
  · omega
  · have := kgo_nums h k.k (List.mem_map.2 ⟨k, hk, rfl⟩)
    unfold Kd.numsFault at this
    split at this
    · omega
    · rename_i h1
      rw [Bool.not_eq_true, List.any_eq_false] at h1
      have a := h1 k.n0 (by simp [KV.k])
      have b := h1 k.n7 (by simp [KV.k])
      have c := h1 k.n4 (by simp [KV.k])
      have d := h1 k.n1 (by simp [KV.k])
      have e := h1 k.n2 (by simp [KV.k])
      have f := h1 k.n3 (by simp [KV.k])
      simp only [decide_eq_true_eq] at a b c d e f
      split at this
      · omega
      · rename_i h2
        have e0 : (k.k.nums).getD 0 0 = k.n0 := rfl
        have e4 : (k.k.nums).getD 4 0 = k.n4 := rfl
        have e2 : (k.k.nums).getD 2 0 = k.n2 := rfl
        have e3 : (k.k.nums).getD 3 0 = k.n3 := rfl
        omega
theorem find_more {us : List UnV} {n : UnV} {p : UnV → Bool} {u : UnV} (h : us.find? p = some u) : (us ++ [n]).find? p = some u := by
  rw [List.find?_append, h]; rfl
theorem put_right {ks : List KV} {W : WV} {pl kd at_ : Int} (h : WRight ks W) (hp : Wd.placeFault ks W pl kd at_ = 0) : Wd.wfault ks (Wd.put ks W pl kd at_) = 0 := by
  obtain ⟨h40, hpl, hat, kn, k, rfl, hkl, hkk, hop⟩ := pf_zero hp
  have hnu : Wd.newUnit ks W pl (kn : Nat) at_ = ⟨W.next, pl, (kn : Nat), at_, k.n0, 0, 0, 0⟩ := by unfold Wd.newUnit; rw [Int.toNat_natCast, hkk]
  have hn1 : 1 ≤ W.next := by
    have := (nums_ok h.nums).1
    unfold Wd.off at this
    simp at this
    omega
  have hk := kind_nums h.kinds (List.mem_of_getElem? hkk)
  obtain ⟨Wn, Hn, e1, e2, G⟩ := h.good
  unfold Wd.put
  rw [hnu]
  refine Wd.wfault_zero h.kinds (by show Fd.fault W.wide W.high W.gs W.os = 0; rw [e1, e2]; exact Fd.fault_good G) ?_ ?_ ?_ h.ql ?_
  · have hn := h.nums
    unfold Wd.numsBad at hn ⊢
    simp only [Bool.or_eq_false_iff] at hn ⊢
    refine ⟨hn.1, ?_, hn.2.2⟩
    unfold Wd.off
    simp
    omega
  · show (W.us ++ [_]).length ≤ 40
    rw [List.length_append]
    have := h40
    simp only [List.length_cons, List.length_nil]
    omega
  · intro i u hu
    have hu' : (W.us ++ [(⟨W.next, pl, (kn : Nat), at_, k.n0, 0, 0, 0⟩ : UnV)])[i]? = some u := hu
    rcases Nat.lt_or_ge i W.us.length with hi | hi
    · rw [List.getElem?_append_left hi] at hu'
      obtain ⟨k0, f⟩ := h.fine hu'
      refine ⟨k0, ⟨f.id1, ?_, ?_, f.p, f.k0, f.kk, f.life, f.load, f.task, f.at_, f.goal, ?_, f.rest⟩⟩
      · have := f.id2
        show u.id ≤ W.next + 1 - 1
        omega
      · have := f.up
        show Wd.notAbove (W.us ++ [_]) i u = false
        unfold Wd.notAbove at this ⊢
        cases i with
        | zero => rfl
        | succ j =>
          simp only at this ⊢
          rw [List.getElem?_append_left (by omega)]
          exact this
      · show Wd.open_ W.gs ((W.us ++ [_]).take i) u.at_ k0.f = true
        rw [List.take_append_of_le_length (by omega)]
        exact f.opn
    · rw [List.getElem?_append_right hi] at hu'
      have hil : i = W.us.length := by
        rcases Nat.eq_zero_or_pos (i - W.us.length) with h0 | h0
        · omega
        · rw [List.getElem?_eq_none (by simp; omega)] at hu'; cases hu'
      subst hil
      rw [Nat.sub_self] at hu'
      injection hu' with hu'
      subst hu'
      refine ⟨k, ⟨hn1, ?_, ?_, hpl, ⟨by simp, by simp; omega⟩, by simpa using hkk, ⟨hk.1, Int.le_refl _⟩, ⟨Int.le_refl _, hk.2.1⟩, ⟨by simp, by simp⟩, hat, ⟨by simp, Int.lt_of_le_of_lt hat.1 hat.2⟩, ?_, .inl rfl⟩⟩
      · show W.next ≤ W.next + 1 - 1
        omega
      · show Wd.notAbove (W.us ++ [_]) W.us.length _ = false
        unfold Wd.notAbove
        cases hl : W.us.length with
        | zero => rfl
        | succ j =>
          simp only
          rw [List.getElem?_append_left (by omega)]
          cases hx : W.us[j]? with
          | none => rfl
          | some x =>
            obtain ⟨k0, f⟩ := h.fine hx
            have := f.id2
            simp
            omega
      · show Wd.open_ W.gs ((W.us ++ [_]).take W.us.length) at_ k.f = true
        rw [List.take_left]
        exact hop
  · intro j hj
    have := h.job hj
    unfold Wd.jobFault at this ⊢
    cases hx : W.us.find? (fun u => u.id == j.unit) with
    | none => rw [hx] at this; cases this
    | some u =>
      rw [hx] at this
      have hm := find_more (n := (⟨W.next, pl, (kn : Nat), at_, k.n0, 0, 0, 0⟩ : UnV)) hx
      simp only [hm]
      exact this
/-- whoever comes next finds the cell taken. -/
theorem put_taken {ks : List KV} {W : WV} {pl kd at_ : Int} (h : WRight ks W) (hp : Wd.placeFault ks W pl kd at_ = 0) : Wd.putFault ks (Wd.put ks W pl kd at_) pl kd at_ ≠ 0 := by
  unfold Wd.putFault
  rw [if_pos (put_right h hp)]
  intro h0
  obtain ⟨-, -, -, kn, k, hkd, -, -, hop⟩ := pf_zero h0
  unfold Wd.open_ at hop
  have : (Wd.put ks W pl kd at_).us.any (fun u => u.at_ == at_) = true := by
    refine List.any_eq_true.2 ⟨Wd.newUnit ks W pl kd at_, ?_, by simp [Wd.newUnit]⟩
    show _ ∈ W.us ++ [_]
    simp
  rw [this] at hop
  simp at hop
end Go.Proofs.Ytplnhgllbhdfjaa

namespace Go.Proofs.Ytplnhgllbhdfjaa
set_option linter.unusedVariables false

theorem ids_next {ks : List KV} {X : WV} (h : WRight ks X) {i : Nat} {a b : UnV} (ha : X.us[i]? = some a) (hb : X.us[i + 1]? = some b) : a.id < b.id := by
  obtain ⟨k, f⟩ := h.fine hb
  have := f.up
  simp only [Wd.notAbove, ha, decide_eq_false_iff_not] at this
  omega
theorem ids_rise {ks : List KV} {X : WV} (h : WRight ks X) : ∀ (d i : Nat) (a b : UnV), X.us[i]? = some a → X.us[i + d + 1]? = some b → a.id < b.id
  | 0, i, a, b, ha, hb => ids_next h ha hb
  | d + 1, i, a, b, ha, hb => by
    have hl : i + d + 1 < X.us.length := by have := (List.getElem?_eq_some_iff.1 hb).1; omega
    have h1 := ids_rise h d i a _ ha (List.getElem?_eq_getElem hl)
    have h2 := ids_next h (List.getElem?_eq_getElem hl) (show X.us[i + d + 1 + 1]? = some b from hb)
    omega
theorem id_one {ks : List KV} {X : WV} (h : WRight ks X) {i j : Nat} {a b : UnV} (ha : X.us[i]? = some a) (hb : X.us[j]? = some b) (e : a.id = b.id) : i = j := by
  rcases Nat.lt_trichotomy i j with hl | hl | hl
  · have := ids_rise h (j - i - 1) i a b ha (by rw [show i + (j - i - 1) + 1 = j by omega]; exact hb)
    omega
  · exact hl
  · have := ids_rise h (i - j - 1) j b a hb (by rw [show j + (i - j - 1) + 1 = i by omega]; exact ha)
    omega
/-- who is struck. -/
theorem tg_who {ks : List KV} {X : WV} (h : WRight ks X) {W : Nat} {u : UnV} {k : KV} {t : Int} (ht : TgSays W u k X.us t) :
    (t = -1 ∧ (k.n1 = 0 ∨ foesU W u k.n2 X.us = [])) ∨ (k.n1 ≠ 0 ∧ ∃ (tn : Nat) (x : UnV) (x0 : UnV) (tl : List UnV), t = tn ∧ X.us[tn]? = some x ∧ foesU W u k.n2 X.us = x0 :: tl ∧ x = minU (keyU W u) x0 tl) := by
  rcases ht with ⟨h1, h2⟩ | ⟨-, h1, h2⟩ | ⟨h1, x0, tl, h2, h3⟩
  · exact .inl ⟨h2, .inl h1⟩
  · exact .inl ⟨h2, .inr h1⟩
  · have hm := minU_mem (keyU W u) tl x0
    rw [← h2] at hm
    have hm' := (List.mem_filter.1 hm).1
    obtain ⟨j, hj⟩ := List.mem_iff_getElem?.1 hm'
    rcases h3 with ⟨-, h3⟩ | ⟨tn, x, rfl, hx, hid, -⟩
    · have := List.any_eq_false.1 h3 _ hm'
      simp at this
    · have hid' : x.id = (minU (keyU W u) x0 tl).id := by simpa using hid
      have := id_one h hx hj hid'
      subst this
      rw [hx] at hj
      injection hj with hj
      exact .inr ⟨h1, tn, x, x0, tl, rfl, hx, h2, hj⟩
/-- of others the least way. -/
def LeastU (W : Nat) (u : UnV) (l : List UnV) (least : Int) : Prop :=
  (least = -1 ∧ ∀ x ∈ l, x.player = u.player) ∨ (∃ x ∈ l, x.player ≠ u.player ∧ least = farU W u x ∧ ∀ y ∈ l, y.player ≠ u.player → farU W u x ≤ farU W u y)
theorem LeastU.ge {W : Nat} {u : UnV} {l : List UnV} {least : Int} (h : LeastU W u l least) : -1 ≤ least ∧ least ≤ 200 := by
  rcases h with ⟨h, -⟩ | ⟨x, -, -, h, -⟩
  · omega
  · have := farN_ge W u.at_.toNat x.at_.toNat
    unfold farU at h
    omega
theorem LeastU.own {W : Nat} {u y : UnV} {l : List UnV} {least : Int} (h : LeastU W u l least) (hy : y.player = u.player) : LeastU W u (l ++ [y]) least := by
  rcases h with ⟨h1, h2⟩ | ⟨x, hx, h1, h2, h3⟩
  · refine .inl ⟨h1, fun z hz => ?_⟩
    rcases List.mem_append.1 hz with hz | hz
    · exact h2 z hz
    · simp at hz; subst hz; exact hy
  · refine .inr ⟨x, List.mem_append_left _ hx, h1, h2, fun z hz hn => ?_⟩
    rcases List.mem_append.1 hz with hz | hz
    · exact h3 z hz hn
    · simp at hz; subst hz; exact absurd hy hn
theorem LeastU.new {W : Nat} {u y : UnV} {l : List UnV} {least : Int} (h : LeastU W u l least) (hy : y.player ≠ u.player) (hl : least < 0 ∨ farU W u y < least) : LeastU W u (l ++ [y]) (farU W u y) := by
  refine .inr ⟨y, by simp, hy, rfl, fun z hz hn => ?_⟩
  rcases List.mem_append.1 hz with hz | hz
  · rcases h with ⟨h1, h2⟩ | ⟨x, hx, h1, h2, h3⟩
    · exact absurd (h2 z hz) hn
    · have := h3 z hz hn
      have := farN_ge W u.at_.toNat x.at_.toNat
      unfold farU at *
      omega
  · simp at hz; subst hz; exact Int.le_refl _
theorem LeastU.keep {W : Nat} {u y : UnV} {l : List UnV} {least : Int} (h : LeastU W u l least) (hl : ¬ least < 0) (hf : ¬ farU W u y < least) : LeastU W u (l ++ [y]) least := by
  rcases h with ⟨h1, h2⟩ | ⟨x, hx, h1, h2, h3⟩
  · omega
  · refine .inr ⟨x, List.mem_append_left _ hx, h1, h2, fun z hz hn => ?_⟩
    rcases List.mem_append.1 hz with hz | hz
    · exact h3 z hz hn
    · simp at hz; subst hz; omega
theorem foe_iff {W : Nat} {u : UnV} {rng : Int} {us : List UnV} {x : UnV} : x ∈ foesU W u rng us ↔ x ∈ us ∧ x.player ≠ u.player ∧ farU W u x ≤ rng := by
  unfold foesU
  rw [List.mem_filter]
  unfold safeU
  simp
/-- none is struck: none is near. -/
theorem near_none {W : Nat} {u : UnV} {k : KV} {us : List UnV} {least : Int} (h : LeastU W u us least) (hn : k.n1 = 0 ∨ foesU W u k.n2 us = []) : k.n1 = 0 ∨ least < 0 ∨ k.n2 < least := by
  rcases hn with hn | hn
  · exact .inl hn
  · rcases h with ⟨h1, -⟩ | ⟨x, hx, h1, h2, -⟩
    · exact .inr (.inl (by omega))
    · refine .inr (.inr ?_)
      by_cases hc : k.n2 < least
      · exact hc
      · have : x ∈ foesU W u k.n2 us := foe_iff.2 ⟨hx, h1, by omega⟩
        rw [hn] at this; cases this
theorem near_some {W : Nat} {u : UnV} {rng : Int} {us : List UnV} {least : Int} {x0 : UnV} {tl : List UnV} (h : LeastU W u us least) (hl : ∀ x ∈ us, 0 ≤ x.life ∧ x.life ≤ 1000000) (hf : foesU W u rng us = x0 :: tl) : farU W u (minU (keyU W u) x0 tl) = least := by
  have hm := minU_mem (keyU W u) tl x0
  rw [← hf] at hm
  obtain ⟨m1, m2, m3⟩ := foe_iff.1 hm
  rcases h with ⟨-, h2⟩ | ⟨x, hx, h1, h2, h3⟩
  · exact absurd (h2 _ m1) m2
  · have a1 := h3 _ m1 m2
    have hxf : x ∈ foesU W u rng us := foe_iff.2 ⟨hx, h1, by omega⟩
    rw [hf] at hxf
    have a2 := minU_le (keyU W u) tl x0 x hxf
    have a3 := hl x hx
    have a4 := hl _ m1
    generalize minU (keyU W u) x0 tl = m at *
    unfold keyU at a2
    omega
end Go.Proofs.Ytplnhgllbhdfjaa

namespace Go.Proofs.Ytplnhgllbhdfjaa
open Go.RowKit
set_option linter.unusedVariables false

theorem kind_new {w : World} {z : Nat} (k : KV) (hz : w.heap.size = z) : Kc (w.alloc (Obj.cells #[.string k.b, .int .i64 k.n0, .int .i64 k.n1, .int .i64 k.n2, .int .i64 k.n3, .int .i64 k.n4, .int .i64 k.n5, .int .i64 k.n6, .int .i64 k.n7, .bool k.f, .bool k.t] 41)) ⟨z, 0, none⟩ k := by
  subst hz
  exact ⟨by simp, by simp, by simp, by simp, by simp, by simp, by simp, by simp, by simp, by simp, by simp⟩
theorem field_id (m : UnV) (W : World) : (Instr.field 38 (.agg #[.int .i64 m.id, .int .i64 m.player, .int .i64 m.kind, .int .i64 m.at_, .int .i64 m.life, .int .i64 m.load, .int .i64 m.task, .int .i64 m.goal]) 0).run Try.prog W = .ok (.int .i64 m.id) W := by kernel_rfl
set_option maxRecDepth 100000 in
set_option maxHeartbeats 4000000 in
theorem target_any (vk vw : Value) (ks : List KV) (X : WV) (u : UnV) (Wn : Nat) (k : KV) (w : World) (hk : Kl w vk ks) (hw : Wl w vw X) (e1 : X.wide = (Wn : Nat)) (h1 : 0 < Wn) (h2 : Wn ≤ 12) (hl : X.us.length ≤ 1000000)
    (hu : InF u) (hk0 : 0 ≤ u.kind) (hk' : ks[u.kind.toNat]? = some k) (hus : ∀ h ∈ X.us, InF h ∧ 0 ≤ h.life ∧ h.life ≤ 1000000) :
    Calls Try.prog 20 #[vk, vw, u.val] w fun e w' => ∃ t, e = .returned (.int .i64 t) ∧ TgSays Wn u k X.us t ∧ Below w.heap.size w w' := by
  obtain ⟨kn, hkn⟩ : ∃ n : Nat, u.kind = n := ⟨u.kind.toNat, by omega⟩
  have hkk : ks[kn]? = some k := by rw [hkn, Int.toNat_natCast] at hk'; exact hk'
  have hkl : kn < ks.length := (List.getElem?_eq_some_iff.1 hkk).1
  have H : Hid (Wl w vw X) := hw
  have GD : Hid (X.wide = (Wn : Nat) ∧ 0 < Wn ∧ Wn ≤ 12 ∧ InF u ∧ X.us.length ≤ 1000000 ∧ ∀ h ∈ X.us, InF h ∧ 0 ≤ h.life ∧ h.life ≤ 1000000) := ⟨e1, h1, h2, hu, hl, hus⟩
  obtain ⟨p1, q1, p2, q2, p3, q3, p4, q4, p5, q5, rfl⟩ := wl_shape9 hw
  obtain ⟨pk, qk, rfl, ck1, ck2, kc⟩ := hk
  obtain ⟨xk, rfl, hxl, hxc⟩ := kc (by intro h; subst h; simp at hkl)
  have KK : Hid (Kc w (xk.add (kn * 11)) k ∧ (xk.add (kn * 11)).block < w.heap.size) := ⟨hxc kn k hkk, by rw [add_block]; exact hxl⟩
  have HE : Hid (u.kind = (kn : Nat)) := hkn
  clear hw e1 h1 h2 hl hu hk0 hk' hus hkn kc hxc hxl hkk
  unfold UnV.val
  go_enter Try.func20, Try.ntmps20
  go_upto_region 1 with fail
  have B0 : Hid (Below w.heap.size w ((w.alloc (Obj.cells #[.int .i64 X.turn, .int .i64 X.next, .int .i64 X.wide, .int .i64 X.high, .slice p1 X.gs.length q1, .slice p2 X.os.length q2, .slice p3 X.gold.length q3, .slice p4 X.us.length q4, .slice p5 X.qs.length q5] 29)).alloc (Obj.cells #[.int .i64 u.id, .int .i64 u.player, .int .i64 u.kind, .int .i64 u.at_, .int .i64 u.life, .int .i64 u.load, .int .i64 u.task, .int .i64 u.goal] 38))) := ((Below.refl _ _).alloc (Nat.le_refl _) _).alloc (by simp) _
  have T0 : Hid (Tb ((w.alloc (Obj.cells #[.int .i64 X.turn, .int .i64 X.next, .int .i64 X.wide, .int .i64 X.high, .slice p1 X.gs.length q1, .slice p2 X.os.length q2, .slice p3 X.gold.length q3, .slice p4 X.us.length q4, .slice p5 X.qs.length q5] 29)).alloc (Obj.cells #[.int .i64 u.id, .int .i64 u.player, .int .i64 u.kind, .int .i64 u.at_, .int .i64 u.life, .int .i64 u.load, .int .i64 u.task, .int .i64 u.goal] 38)) w.heap.size (w.heap.size + 1) X (.slice p1 X.gs.length q1) (.slice p2 X.os.length q2) (.slice p3 X.gold.length q3) (.slice p4 X.us.length q4) (.slice p5 X.qs.length q5) u) := ⟨(Bw.mk' X _ _ _ _ _ rfl).below ((Below.refl _ _).alloc (Nat.le_refl _) _) (by simp), Unc.mk' u (by simp)⟩
  have Z0 : Hid (((w.alloc (Obj.cells #[.int .i64 X.turn, .int .i64 X.next, .int .i64 X.wide, .int .i64 X.high, .slice p1 X.gs.length q1, .slice p2 X.os.length q2, .slice p3 X.gold.length q3, .slice p4 X.us.length q4, .slice p5 X.qs.length q5] 29)).alloc (Obj.cells #[.int .i64 u.id, .int .i64 u.player, .int .i64 u.kind, .int .i64 u.at_, .int .i64 u.life, .int .i64 u.load, .int .i64 u.task, .int .i64 u.goal] 38)).heap.size = w.heap.size + 2) := by unfold Hid; simp
  generalize ((w.alloc (Obj.cells #[.int .i64 X.turn, .int .i64 X.next, .int .i64 X.wide, .int .i64 X.high, .slice p1 X.gs.length q1, .slice p2 X.os.length q2, .slice p3 X.gold.length q3, .slice p4 X.us.length q4, .slice p5 X.qs.length q5] 29)).alloc (Obj.cells #[.int .i64 u.id, .int .i64 u.player, .int .i64 u.kind, .int .i64 u.at_, .int .i64 u.life, .int .i64 u.load, .int .i64 u.task, .int .i64 u.goal] 38)) = w0 at *
  obtain ⟨z0, z1, z2, z3, z4, z5, z6, z7, z8, z9, z10⟩ := KK.out.1.below B0.out KK.out.2
  obtain ⟨y0, y1, y2, y3, y4, y5, y6, y7⟩ := T0.out.u
  rw [HE.out] at y2
  go_upto_region 2 with fail
  have BK : Hid (Below w0.heap.size w0 (w0.alloc (Obj.cells #[.string k.b, .int .i64 k.n0, .int .i64 k.n1, .int .i64 k.n2, .int .i64 k.n3, .int .i64 k.n4, .int .i64 k.n5, .int .i64 k.n6, .int .i64 k.n7, .bool k.f, .bool k.t] 41))) := (Below.refl _ _).alloc (Nat.le_refl _) _
  have K1 : Hid (Kc (w0.alloc (Obj.cells #[.string k.b, .int .i64 k.n0, .int .i64 k.n1, .int .i64 k.n2, .int .i64 k.n3, .int .i64 k.n4, .int .i64 k.n5, .int .i64 k.n6, .int .i64 k.n7, .bool k.f, .bool k.t] 41)) ⟨w.heap.size + 2, 0, none⟩ k) := kind_new k Z0.out
  have Z1 : Hid ((w0.alloc (Obj.cells #[.string k.b, .int .i64 k.n0, .int .i64 k.n1, .int .i64 k.n2, .int .i64 k.n3, .int .i64 k.n4, .int .i64 k.n5, .int .i64 k.n6, .int .i64 k.n7, .bool k.f, .bool k.t] 41)).heap.size = w.heap.size + 3) := by have := Z0.out; unfold Hid; simp; omega
  rw [Z0.out]
  generalize (w0.alloc (Obj.cells #[.string k.b, .int .i64 k.n0, .int .i64 k.n1, .int .i64 k.n2, .int .i64 k.n3, .int .i64 k.n4, .int .i64 k.n5, .int .i64 k.n6, .int .i64 k.n7, .bool k.f, .bool k.t] 41)) = w1 at *
  have B1 : Hid (Below w.heap.size w w1) := B0.out.trans (BK.out.mono B0.out.size)
  have T1 : Hid (Tb w1 (w.heap.size) (w.heap.size + 1) X (.slice p1 X.gs.length q1) (.slice p2 X.os.length q2) (.slice p3 X.gold.length q3) (.slice p4 X.us.length q4) (.slice p5 X.qs.length q5) u) := T0.out.below BK.out T0.out.x.lt T0.out.u.lt
  clear z0 z1 z2 z3 z4 z5 z6 z7 z8 z9 z10 y0 y1 y2 y3 y4 y5 y6 y7 B0 BK T0 Z0
  have c2 : w1.cell? ⟨w.heap.size + 2, 2, none⟩ = some (.int .i64 k.n1) := by have := K1.out.c2; rw [Nat.zero_add] at this; exact this
  by_cases h0 : k.n1 = 0
  · have N1 : Hid (k.n1 = 0) := h0
    rw [h0] at c2
    go_wp2
    go_ret
    exact ⟨-1, rfl, .inl ⟨N1.out, rfl⟩, B1.out⟩
  have N1 : Hid (k.n1 ≠ 0) := h0
  have h0' : (k.n1 == 0) = false := by rw [beq_eq_false_iff_ne]; exact h0
  clear h0
  have sf : ∀ (a : Addr) (f : Fn) (x y : Array Value) (w : World) (m : Mode), (store a (.func f x y) m).run Try.prog w = stored Try.prog w a (.func f x y) m := fun a f x y w m => run_store _ w a _ m rfl
  go_upto_region 5 with fail
  clear sf
  have BF : Hid (Below w1.heap.size w1 (w1.alloc (Obj.cells #[.func (Fn.func 43) #[] #[.pointer (some ⟨w.heap.size, 0, none⟩), .pointer (some ⟨w.heap.size + 1, 0, none⟩)]] 94))) := (Below.refl _ _).alloc (Nat.le_refl _) _
  have F2 : Hid ((w1.alloc (Obj.cells #[.func (Fn.func 43) #[] #[.pointer (some ⟨w.heap.size, 0, none⟩), .pointer (some ⟨w.heap.size + 1, 0, none⟩)]] 94)).cell? ⟨w.heap.size + 3, 0, none⟩ = some (.func (Fn.func 43) #[] #[.pointer (some ⟨w.heap.size, 0, none⟩), .pointer (some ⟨w.heap.size + 1, 0, none⟩)])) := cell_of_new Z1.out rfl
  have Z2 : Hid (w.heap.size + 3 < (w1.alloc (Obj.cells #[.func (Fn.func 43) #[] #[.pointer (some ⟨w.heap.size, 0, none⟩), .pointer (some ⟨w.heap.size + 1, 0, none⟩)]] 94)).heap.size) := by have := Z1.out; unfold Hid; simp; omega
  rw [Z1.out]
  generalize (w1.alloc (Obj.cells #[.func (Fn.func 43) #[] #[.pointer (some ⟨w.heap.size, 0, none⟩), .pointer (some ⟨w.heap.size + 1, 0, none⟩)]] 94)) = w2 at *
  have B2 : Hid (Below w.heap.size w w2) := B1.out.trans (BF.out.mono B1.out.size)
  have T2 : Hid (Tb w2 (w.heap.size) (w.heap.size + 1) X (.slice p1 X.gs.length q1) (.slice p2 X.os.length q2) (.slice p3 X.gold.length q3) (.slice p4 X.us.length q4) (.slice p5 X.qs.length q5) u) := T1.out.below BF.out T1.out.x.lt T1.out.u.lt
  have K2 : Hid (w2.cell? ⟨w.heap.size + 2, 3, none⟩ = some (.int .i64 k.n2)) := by have := (K1.out.below BF.out K1.out.lt).c3; rw [Nat.zero_add] at this; exact this
  clear c2 B1 T1 K1 Z1 BF h0'
  obtain ⟨x0, x1, x2, x3, x4, x5, x6, x7, x8⟩ := T2.out.x
  have US : Hid (Unl w (.slice p4 X.us.length q4) X.us) := H.out.slices.2.2.2.1
  go_wp2_with fail
  refine (clone_any _ X.us w2 (US.out.below B2.out) GD.out.2.2.2.2.1).mono ?_
  rintro e w3 ⟨v, rfl, ho, hb⟩
  have O3 : Hid (Uno w3 w2.heap.size v X.us) := ho
  have B3 : Hid (Below w2.heap.size w2 w3) := hb
  have TT : Hid (∀ W, Below w2.heap.size w2 W → Tb W (w.heap.size) (w.heap.size + 1) X (.slice p1 X.gs.length q1) (.slice p2 X.os.length q2) (.slice p3 X.gold.length q3) (.slice p4 X.us.length q4) (.slice p5 X.qs.length q5) u ∧ W.cell? ⟨w.heap.size + 3, 0, none⟩ = some (.func (Fn.func 43) #[] #[.pointer (some ⟨w.heap.size, 0, none⟩), .pointer (some ⟨w.heap.size + 1, 0, none⟩)]) ∧ W.cell? ⟨w.heap.size + 2, 3, none⟩ = some (.int .i64 k.n2)) := fun W hW =>
    ⟨T2.out.below hW T2.out.x.lt T2.out.u.lt, by rw [hW.cell (p := ⟨w.heap.size + 3, 0, none⟩) Z2.out]; exact F2.out, by rw [hW.cell (p := ⟨w.heap.size + 2, 3, none⟩) (show w.heap.size + 2 < w2.heap.size by have := Z2.out; omega)]; exact K2.out⟩
  have PR : Hid (∀ W, Below w2.heap.size w2 W → ∀ h ∈ X.us, Calls Try.prog 45 (#[h.val] ++ #[.pointer (some ⟨w.heap.size + 1, 0, none⟩), .pointer (some ⟨w.heap.size + 3, 0, none⟩), .pointer (some ⟨w.heap.size + 2, 0, none⟩)]) W fun e w' => e = .returned (.bool (safeU Wn u k.n2 h)) ∧ Below W.heap.size W w') := fun W hW h hh =>
    safe_fg X u h Wn _ _ _ _ k.n2 _ _ _ _ _ W (TT.out W hW).1 (TT.out W hW).2.1 (TT.out W hW).2.2 GD.out.1 GD.out.2.1 GD.out.2.2.1 GD.out.2.2.2.1 (GD.out.2.2.2.2.2 h hh).1
  clear ho hb x0 x1 x2 x3 x4 x5 x6 x7 x8 F2 K2
  go_wp2_with fail
  refine (del_any 45 (by intro args w; go_simp) v #[.pointer (some ⟨w.heap.size + 1, 0, none⟩), .pointer (some ⟨w.heap.size + 3, 0, none⟩), .pointer (some ⟨w.heap.size + 2, 0, none⟩)] X.us (safeU Wn u k.n2) w3 w2.heap.size O3.out B3.out.size GD.out.2.2.2.2.1 (fun W hW h hh => PR.out W (B3.out.trans hW) h hh)).mono ?_
  rintro e w4 ⟨v4, rfl, ho, hb⟩
  have B4 : Hid (Below w2.heap.size w2 w4) := B3.out.trans hb
  have L4 : Hid (Unl w4 v4 (foesU Wn u k.n2 X.us)) := ho.l
  obtain ⟨a4, c4, rfl⟩ := ho.len
  obtain ⟨hs, hhs⟩ : ∃ hs, foesU Wn u k.n2 X.us = hs := ⟨_, rfl⟩
  have HS : Hid (foesU Wn u k.n2 X.us = hs) := hhs
  have e4 : (X.us.filter (fun o => !safeU Wn u k.n2 o)).length = hs.length := by rw [← hhs]; rfl
  rw [hhs, e4] at L4
  rw [e4]
  clear ho hb e4 hhs O3 B3 PR
  have BW : Hid (Below w.heap.size w w4) := B2.out.trans (B4.out.mono B2.out.size)
  cases hs with
  | nil =>
    simp only [List.length_nil]
    go_wp2
    go_ret
    exact ⟨-1, rfl, .inr (.inl ⟨N1.out, HS.out, rfl⟩), BW.out⟩
  | cons f0 tl =>
    have HM : Hid (∀ h ∈ f0 :: tl, h ∈ X.us) := fun h hh => by rw [← HS.out] at hh; exact (List.mem_filter.1 hh).1
    have TL : Hid (tl.length ≤ 1000000) := by
      have h1 : (foesU Wn u k.n2 X.us).length ≤ X.us.length := List.length_filter_le _ _
      rw [HS.out, List.length_cons] at h1
      have h2 := GD.out.2.2.2.2.1
      unfold Hid
      omega
    have hne : (((f0 :: tl).length : Nat) : Int) ≠ 0 := by rw [List.length_cons]; omega
    have hne' : ((((f0 :: tl).length : Nat) : Int) == 0) = false := by rw [beq_eq_false_iff_ne]; exact hne
    obtain ⟨n, hn⟩ : ∃ n, (f0 :: tl).length = n := ⟨_, rfl⟩
    have HN : Hid ((f0 :: tl).length = n) := hn
    rw [hn] at hne hne' ⊢
    clear hn
    have L5 : Hid (Unl w4 (.slice a4 n c4) (f0 :: tl)) := by rw [← HN.out]; exact L4.out
    clear L4
    go_upto_region 10 with fail
    have BX : Hid (∀ V, Below w2.heap.size w2 V → Bw V (w.heap.size) X (.slice p1 X.gs.length q1) (.slice p2 X.os.length q2) (.slice p3 X.gold.length q3) (.slice p4 X.us.length q4) (.slice p5 X.qs.length q5)) := fun V hV => (TT.out V hV).1.x
    refine wp_region_two [(true, 0), (true, 1), (true, 2), (false, 3), (true, 4), (false, 5)] [(false, 6)] (fun V => Bw V (w.heap.size) X (.slice p1 X.gs.length q1) (.slice p2 X.os.length q2) (.slice p3 X.gold.length q3) (.slice p4 X.us.length q4) (.slice p5 X.qs.length q5)) (by kernel_rfl) (by kernel_rfl) (by kernel_rfl) (by decide +kernel) (by decide +kernel) (BX.out _ B4.out.drew) ?_
    have B5 : Hid (Below w2.heap.size w2 { w4 with drawn := w4.drawn + 1 }) := B4.out.drew
    have L6 : Hid (Unl { w4 with drawn := w4.drawn + 1 } (.slice a4 n c4) (f0 :: tl)) := L5.out.below ((Below.refl _ _).drew)
    generalize ({ w4 with drawn := w4.drawn + 1 } : World) = w5 at *
    clear B4 L5 BW
    refine headT_read rfl (.agg #[.int .i64 X.turn, .int .i64 X.next, .int .i64 X.wide, .int .i64 X.high, .slice p1 X.gs.length q1, .slice p2 X.os.length q2, .slice p3 X.gold.length q3, .slice p4 X.us.length q4, .slice p5 X.qs.length q5]) (by go_simp) (fun V hV => by obtain ⟨x0, x1, x2, x3, x4, x5, x6, x7, x8⟩ := hV; go_simp) ?_
    go_simp
    refine headT_read rfl (.slice a4 n c4) (by go_simp) (fun V hV => by go_simp) ?_
    go_simp
    refine headT_read rfl (.func (Fn.func 47) #[] #[.pointer (some ⟨w.heap.size + 3, 0, none⟩)]) (by go_simp) (fun V hV => by go_simp) ?_
    go_simp
    refine headT_call rfl 49 #[.slice a4 n c4, .func (Fn.func 47) #[] #[.pointer (some ⟨w.heap.size + 3, 0, none⟩)]] (by go_simp) (by go_simp) ?_
    refine (min_gen 47 (by intro args w; go_simp) _ #[.pointer (some ⟨w.heap.size + 3, 0, none⟩)] f0 tl (keyU Wn u) (soonU Wn u) w5 L6.out TL.out (fun a ha b hb => soon_key (GD.out.2.2.2.2.2 a (HM.out a ha)).2 (GD.out.2.2.2.2.2 b (HM.out b hb)).2) (fun W hW a ha b hb => ?_)).mono ?_
    · have hWW := B5.out.trans (hW.mono B5.out.size)
      exact soon_fg X u a b Wn _ _ _ _ _ _ _ _ W (TT.out W hWW).1 (TT.out W hWW).2.1 GD.out.1 GD.out.2.1 GD.out.2.2.1 GD.out.2.2.2.1 (GD.out.2.2.2.2.2 a (HM.out a ha)).1 (GD.out.2.2.2.2.2 b (HM.out b hb)).1 (GD.out.2.2.2.2.2 a (HM.out a ha)).2 (GD.out.2.2.2.2.2 b (HM.out b hb)).2
    rintro e w6 ⟨rfl, hb⟩
    have B6 : Hid (Below w2.heap.size w2 w6) := B5.out.trans (hb.mono B5.out.size)
    refine ⟨_, rfl, BX.out _ B6.out, ?_⟩
    clear hb L6 B5
    obtain ⟨m, hm⟩ : ∃ m, minU (keyU Wn u) f0 tl = m := ⟨_, rfl⟩
    have MM : Hid (minU (keyU Wn u) f0 tl = m) := hm
    rw [hm]
    clear hm
    unfold UnV.val
    have hfi := fun W => field_id m W
    go_simp
    refine headT_read rfl (.int .i64 m.id) (by go_simp) (fun V hV => by go_simp) ?_
    go_simp
    refine headT_call rfl 28 #[.agg #[.int .i64 X.turn, .int .i64 X.next, .int .i64 X.wide, .int .i64 X.high, .slice p1 X.gs.length q1, .slice p2 X.os.length q2, .slice p3 X.gold.length q3, .slice p4 X.us.length q4, .slice p5 X.qs.length q5], .int .i64 m.id] (by go_simp) (by go_simp) ?_
    refine (wfind_any _ X m.id w6 (H.out.below (B2.out.trans (B6.out.mono B2.out.size)))).mono ?_
    rintro e w7 ⟨r, rfl, hf, hb⟩
    have B7 : Hid (Below w2.heap.size w2 w7) := B6.out.trans (hb.mono B6.out.size)
    have RR : Hid (TgSays Wn u k X.us r) := .inr (.inr ⟨N1.out, f0, tl, HS.out, by rw [MM.out]; exact hf⟩)
    refine ⟨_, rfl, BX.out _ B7.out, ?_⟩
    clear hb hf hfi
    go_simp
    refine sched_value rfl (.int .i64 r) w7 (by go_simp) (by go_simp) trivial ?_
    go_simp
    unfold wpSched
    go_wp2
    go_ret
    exact ⟨r, rfl, RR.out, B2.out.trans (B7.out.mono B2.out.size)⟩

end Go.Proofs.Ytplnhgllbhdfjaa

namespace Go.Proofs.Ytplnhgllbhdfjaa
open Go.RowKit
set_option linter.unusedVariables false

theorem right_fit {ks : List KV} {X : WV} (h : WRight ks X) : ∀ u ∈ X.us, InF u ∧ 0 ≤ u.life ∧ u.life ≤ 1000000 := by
  intro u hu
  obtain ⟨i, hi⟩ := List.mem_iff_getElem?.1 hu
  obtain ⟨k, f⟩ := h.fine hi
  obtain ⟨Wn, Hn, e1, e2, G⟩ := h.good
  have h1 := f.at_
  have h2 := f.life
  have h3 := kind_nums h.kinds (List.mem_of_getElem? f.kk)
  have h4 := G.gl
  have h5 := G.pos.2
  exact ⟨⟨h1.1, by omega⟩, by omega, by omega⟩
/-- what Target tells. -/
def TarSays (ks : List KV) (X : WV) (i t F : Int) : Prop :=
  (Wd.wfault ks X ≠ 0 ∧ F = Wd.wfault ks X ∧ t = 0) ∨ (Wd.wfault ks X = 0 ∧ ¬ (0 ≤ i ∧ i < (X.us.length : Int)) ∧ F = 6 ∧ t = 0)
  ∨ (Wd.wfault ks X = 0 ∧ F = 0 ∧ ∃ (n Wn : Nat) (u : UnV) (k : KV), i = n ∧ X.us[n]? = some u ∧ X.wide = (Wn : Nat) ∧ 0 < Wn ∧ Wn ≤ 12 ∧ ks[u.kind.toNat]? = some k ∧ TgSays Wn u k X.us t)
set_option maxRecDepth 100000 in
set_option maxHeartbeats 4000000 in
theorem Target_any (vk vw : Value) (ks : List KV) (X : WV) (i : Int) (w : World) (hk : Kl w vk ks) (hb : ∀ k ∈ ks, k.b.size ≤ 9223372036854775807) (hw : Wl w vw X) :
    Calls Try.prog 7 #[vk, vw, .int .i64 i] w fun e w' => ∃ t r F, e = .returned (.tuple #[.int .i64 t, r]) ∧ Er r F ∧ TarSays ks X i t F ∧ Below w.heap.size w w' := by
  have K : Hid (Kl w vk ks ∧ ∀ k ∈ ks, k.b.size ≤ 9223372036854775807) := ⟨hk, hb⟩
  have H : Hid (Wl w vw X) := hw
  obtain ⟨p1, q1, p2, q2, p3, q3, p4, q4, p5, q5, rfl⟩ := wl_shape9 hw
  obtain ⟨pk, qk, rfl, ck1, ck2, kc⟩ := hk
  clear hb hw kc
  go_enter Try.func7, Try.ntmps7
  go_upto_region 1 with fail
  have B0 : Hid (Below w.heap.size w (w.alloc (Obj.cells #[.int .i64 X.turn, .int .i64 X.next, .int .i64 X.wide, .int .i64 X.high, .slice p1 X.gs.length q1, .slice p2 X.os.length q2, .slice p3 X.gold.length q3, .slice p4 X.us.length q4, .slice p5 X.qs.length q5] 29))) := (Below.refl _ _).alloc (Nat.le_refl _) _
  have X0 : Hid (Bw (w.alloc (Obj.cells #[.int .i64 X.turn, .int .i64 X.next, .int .i64 X.wide, .int .i64 X.high, .slice p1 X.gs.length q1, .slice p2 X.os.length q2, .slice p3 X.gold.length q3, .slice p4 X.us.length q4, .slice p5 X.qs.length q5] 29)) w.heap.size X (.slice p1 X.gs.length q1) (.slice p2 X.os.length q2) (.slice p3 X.gold.length q3) (.slice p4 X.us.length q4) (.slice p5 X.qs.length q5)) := Bw.mk' X _ _ _ _ _ rfl
  generalize (w.alloc (Obj.cells #[.int .i64 X.turn, .int .i64 X.next, .int .i64 X.wide, .int .i64 X.high, .slice p1 X.gs.length q1, .slice p2 X.os.length q2, .slice p3 X.gold.length q3, .slice p4 X.us.length q4, .slice p5 X.qs.length q5] 29)) = w0 at *
  obtain ⟨x0, x1, x2, x3, x4, x5, x6, x7, x8⟩ := X0.out
  go_wp2_with fail
  refine (wcheck_any _ _ ks X w0 (K.out.1.below B0.out) K.out.2 (H.out.below B0.out)).mono ?_
  rintro e w1 ⟨r, rfl, hr, hb⟩
  obtain ⟨fw, hfw⟩ : ∃ f, Wd.wfault ks X = f := ⟨_, rfl⟩
  have FW : Hid (Wd.wfault ks X = fw) := hfw
  rw [hfw] at hr
  have B1 : Hid (Below w.heap.size w w1) := B0.out.trans (hb.mono B0.out.size)
  have X1 : Hid (Bw w1 w.heap.size X (.slice p1 X.gs.length q1) (.slice p2 X.os.length q2) (.slice p3 X.gold.length q3) (.slice p4 X.us.length q4) (.slice p5 X.qs.length q5)) := X0.out.below hb X0.out.lt
  clear hb hfw x0 x1 x2 x3 x4 x5 x6 x7 x8 X0 B0
  rcases hr with ⟨rfl, rfl⟩ | ⟨hf, rfl⟩
  case inr =>
    have HF : Hid (fw ≠ 0) := hf
    clear hf
    go_wp2
    go_ret2
    exact ⟨0, _, fw, rfl, Er.no HF.out, .inl (by rw [FW.out]; exact ⟨HF.out, rfl, rfl⟩), B1.out⟩
  obtain ⟨x0, x1, x2, x3, x4, x5, x6, x7, x8⟩ := X1.out
  by_cases hi0 : i < 0
  · go_wp2
    go_ret2
    exact ⟨0, _, 6, rfl, Er.no (by decide), .inr (.inl ⟨FW.out, by omega, rfl, rfl⟩), B1.out⟩
  by_cases hi1 : (X.us.length : Int) ≤ i
  · go_wp2
    go_ret2
    exact ⟨0, _, 6, rfl, Er.no (by decide), .inr (.inl ⟨FW.out, by omega, rfl, rfl⟩), B1.out⟩
  obtain ⟨i, rfl⟩ : ∃ n : Nat, i = n := ⟨i.toNat, by omega⟩
  have hil : i < X.us.length := by omega
  obtain ⟨u, hu⟩ : ∃ u, X.us[i]? = some u := ⟨_, List.getElem?_eq_getElem hil⟩
  have UI : Hid (X.us[i]? = some u) := hu
  have WR : Hid (WRight ks X) := wright_of FW.out
  obtain ⟨Wn, Hn, e1, e2, G⟩ := WR.out.good
  obtain ⟨k, fu⟩ := WR.out.fine hu
  have GD : Hid (X.wide = (Wn : Nat) ∧ 0 < Wn ∧ Wn ≤ 12 ∧ 0 ≤ u.kind ∧ ks[u.kind.toNat]? = some k) := ⟨e1, G.w1, G.w2, fu.k0.1, fu.kk⟩
  have FT : Hid (∀ h ∈ X.us, InF h ∧ 0 ≤ h.life ∧ h.life ≤ 1000000) := right_fit WR.out
  obtain ⟨pa, pc, he, -, -, hus⟩ := H.out.slices.2.2.2.1
  obtain ⟨xu, hxu, hxul, hxuc⟩ := hus (by intro h; rw [h] at hil; simp at hil)
  injection he with he1 he2 he3
  subst he1
  subst hxu
  have UK : Hid (Unc w (xu.add (i * 8)) u ∧ (xu.add (i * 8)).block < w.heap.size) := ⟨hxuc i u hu, by rw [add_block]; exact hxul⟩
  clear hus he2 he3 hxul hxuc e1 e2 G fu hu x0 x1 x2 x3 x4 x5 x6 x8 hi0 hi1
  go_upto_region 6 with fail
  clear x7
  have CB : Hid (∀ V, Below w.heap.size w V → Bw V w.heap.size X (.slice p1 X.gs.length q1) (.slice p2 X.os.length q2) (.slice p3 X.gold.length q3) (.slice (some xu) X.us.length q4) (.slice p5 X.qs.length q5) → Bw V w.heap.size X (.slice p1 X.gs.length q1) (.slice p2 X.os.length q2) (.slice p3 X.gold.length q3) (.slice (some xu) X.us.length q4) (.slice p5 X.qs.length q5) ∧ Unc V (xu.add (i * 8)) u) := fun V hb hx => ⟨hx, UK.out.1.below hb UK.out.2⟩
  refine wp_region_two [(true, 0), (true, 1), (true, 2), (true, 3), (true, 4), (true, 5), (true, 6), (false, 7)] [(true, 8), (false, 9)] (fun V => Bw V w.heap.size X (.slice p1 X.gs.length q1) (.slice p2 X.os.length q2) (.slice p3 X.gold.length q3) (.slice (some xu) X.us.length q4) (.slice p5 X.qs.length q5) ∧ Unc V (xu.add (i * 8)) u) (by kernel_rfl) (by kernel_rfl) (by kernel_rfl) (by decide +kernel) (by decide +kernel) (CB.out _ B1.out.drew (X1.out.below ((Below.refl _ _).drew) X1.out.lt)) ?_
  have X2 : Hid (Bw { w1 with drawn := w1.drawn + 1 } w.heap.size X (.slice p1 X.gs.length q1) (.slice p2 X.os.length q2) (.slice p3 X.gold.length q3) (.slice (some xu) X.us.length q4) (.slice p5 X.qs.length q5)) := X1.out.below ((Below.refl _ _).drew) X1.out.lt
  have B2 : Hid (Below w.heap.size w { w1 with drawn := w1.drawn + 1 }) := B1.out.drew
  generalize ({ w1 with drawn := w1.drawn + 1 } : World) = w2 at *
  clear X1 B1
  refine headT_read rfl (.slice pk ks.length qk) (by go_simp) (fun V hV => by go_simp) ?_
  go_simp
  refine headT_read rfl (.agg #[.int .i64 X.turn, .int .i64 X.next, .int .i64 X.wide, .int .i64 X.high, .slice p1 X.gs.length q1, .slice p2 X.os.length q2, .slice p3 X.gold.length q3, .slice (some xu) X.us.length q4, .slice p5 X.qs.length q5]) (by go_simp) (fun V hV => by obtain ⟨⟨x0, x1, x2, x3, x4, x5, x6, x7, x8⟩, ⟨y0, y1, y2, y3, y4, y5, y6, y7⟩⟩ := hV; go_simp) ?_
  go_simp
  refine headT_read rfl (.pointer (some ⟨w.heap.size, 7, none⟩)) (by go_simp) (fun V hV => by go_simp) ?_
  go_simp
  refine headT_read rfl (.slice (some xu) X.us.length q4) (by go_simp) (fun V hV => by obtain ⟨⟨x0, x1, x2, x3, x4, x5, x6, x7, x8⟩, ⟨y0, y1, y2, y3, y4, y5, y6, y7⟩⟩ := hV; go_simp) ?_
  go_simp
  refine headT_read rfl (.int .i64 (i : Nat)) (by go_simp) (fun V hV => by go_simp) ?_
  go_simp
  refine headT_read rfl (.pointer (some (xu.add (i * 8)))) (by go_simp) (fun V hV => by go_simp) ?_
  go_simp
  refine headT_read rfl (.agg #[.int .i64 u.id, .int .i64 u.player, .int .i64 u.kind, .int .i64 u.at_, .int .i64 u.life, .int .i64 u.load, .int .i64 u.task, .int .i64 u.goal]) (by go_simp) (fun V hV => by obtain ⟨⟨x0, x1, x2, x3, x4, x5, x6, x7, x8⟩, ⟨y0, y1, y2, y3, y4, y5, y6, y7⟩⟩ := hV; go_simp) ?_
  go_simp
  refine headT_call rfl 20 #[.slice pk ks.length qk, .agg #[.int .i64 X.turn, .int .i64 X.next, .int .i64 X.wide, .int .i64 X.high, .slice p1 X.gs.length q1, .slice p2 X.os.length q2, .slice p3 X.gold.length q3, .slice (some xu) X.us.length q4, .slice p5 X.qs.length q5], .agg #[.int .i64 u.id, .int .i64 u.player, .int .i64 u.kind, .int .i64 u.at_, .int .i64 u.life, .int .i64 u.load, .int .i64 u.task, .int .i64 u.goal]] (by go_simp) (by go_simp) ?_
  refine (target_any _ _ ks X u Wn k w2 (K.out.1.below B2.out) (H.out.below B2.out) GD.out.1 GD.out.2.1 GD.out.2.2.1 (by have := WR.out.ul; omega) (FT.out u (List.mem_of_getElem? UI.out)).1 GD.out.2.2.2.1 GD.out.2.2.2.2 FT.out).mono ?_
  rintro e w3 ⟨t, rfl, ht, hb⟩
  have TS : Hid (TgSays Wn u k X.us t) := ht
  have B3 : Hid (Below w.heap.size w w3) := B2.out.trans (hb.mono B2.out.size)
  refine ⟨_, rfl, CB.out _ B3.out (X2.out.below hb X2.out.lt), ?_⟩
  clear hb ht X2 B2
  go_simp
  refine sched_read rfl (.int .i64 t) (by go_simp) (fun V hV => by go_simp) ?_
  go_simp
  refine sched_value rfl .nilIface w3 (by go_simp) (by go_simp) trivial ?_
  go_simp
  unfold wpSched
  go_wp2
  go_ret2
  exact ⟨t, _, 0, rfl, .inl ⟨rfl, rfl⟩, .inr (.inr ⟨FW.out, rfl, i, Wn, u, k, rfl, UI.out, GD.out.1, GD.out.2.1, GD.out.2.2.1, GD.out.2.2.2.2, TS.out⟩), B3.out⟩
end Go.Proofs.Ytplnhgllbhdfjaa

namespace Go.Proofs.Ytplnhgllbhdfjaa
open Go.RowKit

def intCells (ds : List Int) : List Value := ds.map fun d => .int .i64 d

/-- block b holds the integers ds, and some cells behind. -/
def Bk (w : World) (b : Nat) (ds : List Int) (r : Array Value) : Prop := w.heap[b]? = some (.cells ((intCells ds).toArray ++ r) 3 (0, 0))

theorem Bk.cell {w : World} {b : Nat} {ds : List Int} {r : Array Value} (h : Bk w b ds r) {i : Nat} {d : Int} (hd : ds[i]? = some d) : w.cell? ⟨b, i, none⟩ = some (.int .i64 d) := by
  have hi : i < ds.length := (List.getElem?_eq_some_iff.1 hd).1
  unfold Bk at h
  simp only [World.cell?, h]
  simp [intCells, Array.getElem?_append, hi]
  exact (List.getElem?_eq_some_iff.1 hd).2
theorem Bk.thaw {w : World} {b : Nat} {ds : List Int} {r : Array Value} (h : Bk w b ds r) (i : Nat) : w.frozen? ⟨b, i, none⟩ = false := by
  unfold Bk at h
  simp [World.frozen?, h]
theorem Bk.set {w : World} {b : Nat} {ds : List Int} {r : Array Value} (h : Bk w b ds r) (i : Nat) (d : Int) (hi : i < ds.length) : Bk (w.setCell ⟨b, i, none⟩ (.int .i64 d)) b (ds.set i d) r := by
  unfold Bk at *
  rw [heap_setCell_same w b i _ _ _ h]
  have e : (intCells (ds.set i d)).toArray = (intCells ds).toArray.setIfInBounds i (.int .i64 d) := by
    simp [intCells, List.map_set]
  rw [e]
  have hl : i < (intCells ds).toArray.size := by simpa [intCells] using hi
  rw [Array.setIfInBounds_append_left hl]
theorem Bk.drewN {w : World} {b : Nat} {ds : List Int} {r : Array Value} (h : Bk w b ds r) (n : Nat) : Bk (w.drewN n) b ds r := h
theorem Bk.kp {w w' : World} {b z : Nat} {ds : List Int} {r : Array Value} (h : Bk w b ds r) (hk : Kp z w w') (hne : b ≠ z) : Bk w' b ds r := by
  unfold Bk at *
  rw [hk.block b (lt_of_block h) hne]; exact h
theorem Bk.below {w w' : World} {b : Nat} {ds : List Int} {r : Array Value} (h : Bk w b ds r) (hb : Below w.heap.size w w') : Bk w' b ds r := by
  unfold Bk at *
  rw [hb.block b (lt_of_block h)]; exact h
theorem Bk.lt {w : World} {b : Nat} {ds : List Int} {r : Array Value} (h : Bk w b ds r) : b < w.heap.size := lt_of_block h
theorem Bk.ro {w : World} {b c : Nat} {ds : List Int} {r : Array Value} (h : Bk w b ds r) (h1 : ds.length ≤ c) (h2 : c ≤ 9223372036854775807) : Ro w (.slice (some ⟨b, 0, none⟩) ds.length c) ds :=
  ⟨_, c, rfl, h1, h2, fun _ => ⟨_, rfl, h.lt, fun i d hd => by rw [Addr.add_lit, Nat.zero_add]; exact h.cell hd⟩⟩
/-- another cell, another block. -/
theorem Bk.other {w : World} {b : Nat} {ds : List Int} {r : Array Value} (h : Bk w b ds r) {g : Nat} (hne : b ≠ g) (i : Nat) (u : Value) : Bk (w.setCell ⟨g, i, none⟩ u) b ds r := by
  unfold Bk at *
  rw [Below.heap_setCell _ _ _ _ hne]; exact h
theorem Bk.low {w w' : World} {b B : Nat} {ds : List Int} {r : Array Value} (h : Bk w b ds r) (hb : Below B w w') (hB : b < B) : Bk w' b ds r := by
  unfold Bk at *
  rw [hb.block b hB]; exact h
end Go.Proofs.Ytplnhgllbhdfjaa

namespace Go.Proofs.Ytplnhgllbhdfjaa
open Go.RowKit
set_option linter.unusedVariables false

theorem and_low (n : Nat) (h : n ≤ 144) : n &&& 4294967295 = n := by
  have := Nat.and_two_pow_sub_one_eq_mod n 32
  rw [show 2 ^ 32 - 1 = 4294967295 from rfl] at this
  rw [this]
  exact Nat.mod_eq_of_lt (by omega)

set_option maxHeartbeats 1000000 in
theorem mul64_one (n : Nat) (w : World) (h : n ≤ 144) :
    Calls Try.prog 79 #[.int .u64 1, .int .u64 (n : Nat)] w fun e w' => e = .returned (.tuple #[.int .u64 0, .int .u64 (n : Nat)]) ∧ w' = w := by
  have e1 : bits BinOp.and IntKind.u64 1 4294967295 = 1 := bits_and_u64_nat 1 4294967295 (by omega) (by omega)
  have e2 : bits BinOp.and IntKind.u64 (n : Int) 4294967295 = (n : Int) := by
    have := bits_and_u64_nat n 4294967295 (by omega) (by omega)
    rw [and_low n h] at this
    exact this
  have e3 : (n : Int) / 4294967296 = 0 := by omega
  have e4 : bits BinOp.and IntKind.u64 0 4294967295 = 0 := bits_and_u64_nat 0 4294967295 (by omega) (by omega)
  go_enter Try.func79, Try.ntmps79
  go_wp2
  go_ret2
  exact ⟨rfl, rfl⟩

set_option maxHeartbeats 1000000 in
theorem mul_one (n : Nat) (w : World) (h : n ≤ 144) :
    Calls Try.prog 64 #[.int .u64 1, .int .u64 (n : Nat)] w fun e w' => e = .returned (.tuple #[.int .u64 0, .int .u64 (n : Nat)]) ∧ w' = w := by
  go_enter Try.func64, Try.ntmps64
  go_wp2_with (go_at_call 79; refine (mul64_one _ _ h).mono ?_; rintro e w' ⟨rfl, rfl⟩)
  go_ret2
  exact ⟨rfl, rfl⟩

theorem wpList_copy_is {P : Program} (w : World) {ops : Array Oper} {rest : List Oper} {o : Oper} {a : Act} {Q : Exit → Act → World → Prop} (hgd : o.guard = none) (s x : Operand) (t tx : TypeId)
    (ho : o.op = .call { callee := .builtin .copy, args := #[s, x], argTypes := #[t, tx] }) (v xv v' : Value) (w' : World) (hv : a.eval s = v) (hx : a.eval x = xv)
    (hrun : (Builtin.copy_ #[t, tx] o.type #[v, xv]).run P w = .ok v' w') (h : wpList P ops Q rest (a.put o.dst v') w') : wpList P ops Q (o :: rest) a w :=
  wpList_plain hgd fun K hK => by
    unfold Oper.wp
    simp [execOp, ho, resolve, invoke, builtin, hv, hx, hrun, Result.andThen]
    exact hK _ _ h

/-- the first m are vv, of n. -/
def rpCells (vv : Int) (n m : Nat) : Array Value := (List.replicate m (Value.int .i64 vv) ++ List.replicate (n - m) (Value.int .i64 0)).toArray
def Rp (vv : Int) (w : World) (b n m : Nat) : Prop := w.heap[b]? = some (.cells (rpCells vv n m) 3 (0, 0))
theorem Rp.bk {vv : Int} {w : World} {b n : Nat} (h : Rp vv w b n n) : Bk w b (List.replicate n vv) #[] := by
  unfold Rp at h
  unfold Bk
  rw [h]
  simp [intCells, rpCells]
theorem Rp.cell {vv : Int} {w : World} {b n m : Nat} (h : Rp vv w b n m) {i : Nat} (hi : i < m) : w.cell? ⟨b, i, none⟩ = some (.int .i64 vv) := by
  unfold Rp at h
  simp only [World.cell?, h]
  simp [rpCells, List.getElem?_append, hi]
theorem Rp.lt {vv : Int} {w : World} {b n m : Nat} (h : Rp vv w b n m) : b < w.heap.size := lt_of_block h
theorem Rp.drewN {vv : Int} {w : World} {b n m : Nat} (h : Rp vv w b n m) (k : Nat) : Rp vv (w.drewN k) b n m := h

theorem info_int1 : (Try.prog.info? 3).map (·.size) = some 1 := by kernel_rfl

theorem rep_more (a z : Value) (n m k : Nat) (h : m + k ≤ n) : (List.replicate m a ++ List.replicate (n - m) z).take m ++ List.replicate k a ++ (List.replicate m a ++ List.replicate (n - m) z).drop (m + k) = List.replicate (m + k) a ++ List.replicate (n - (m + k)) z := by
  rw [List.take_left' (by simp), List.drop_append, List.length_replicate, List.drop_eq_nil_of_le (by simp), List.nil_append, List.drop_replicate, List.replicate_append_replicate]
  congr 2
  omega

/-- k more of them. -/
theorem rp_copy (vv : Int) (w : World) (b n m k : Nat) (dLen dCap sLen sCap : Nat) (x : Addr) (h : Rp vv w b n m) (hn : k = Nat.min sLen dLen) (hk : m + k ≤ n) (hs : ∀ j, j < k → w.cell? (x.add j) = some (.int .i64 vv)) :
    (Builtin.copy_ #[23, 23] 3 #[.slice (some ⟨b, m, none⟩) dLen dCap, .slice (some x) sLen sCap]).run Try.prog w = .ok (.int .i64 (k : Nat)) (w.setRow b (rpCells vv n (m + k))) ∧ Rp vv (w.setRow b (rpCells vv n (m + k))) b n (m + k) ∧ Kp b w (w.setRow b (rpCells vv n (m + k))) := by
  unfold Rp at h
  have r := run_copy_row (P := Try.prog) w 23 23 3 3 b m dLen dCap x sLen sCap _ 3 (List.replicate k (.int .i64 vv)) Try.underlying23 info_int1 h (by simp [hn]) (fun j v hv => by
    rw [List.getElem?_replicate] at hv
    split at hv
    · injection hv with hv
      rw [← hv]
      exact hs j (by assumption)
    · cases hv) (by simp [rpCells]; omega) (fun v hv => by rw [List.eq_of_mem_replicate hv]; rfl)
  rw [List.length_replicate, show (rpCells vv n m).toList = List.replicate m (Value.int .i64 vv) ++ List.replicate (n - m) (Value.int .i64 0) from rfl, rep_more _ _ n m k hk] at r
  exact ⟨r, setRow_heap w b _ _ _ _ h, ⟨rfl, rfl, rfl, by simp, fun i _ hi => setRow_other w b i _ hi⟩⟩

set_option maxRecDepth 100000 in
set_option maxHeartbeats 2000000 in
theorem repeat_ok (vv : Int) (u : Value) (n : Nat) (w : World) (hu : Ro w u [vv]) (n0 : 0 < n) (n1 : n ≤ 144) :
    Calls Try.prog 38 #[u, .int .i64 (n : Nat)] w fun e w' => ∃ b, e = .returned (.slice (some ⟨b, 0, none⟩) n n) ∧ w.heap.size ≤ b ∧ Bk w' b (List.replicate n vv) #[] ∧ Below w.heap.size w w' := by
  obtain ⟨a, c, rfl, c1, c2, ca⟩ := hu
  obtain ⟨x, rfl, xl, hx⟩ := ca (by simp)
  have cx : Hid (w.cell? (x.add 0) = some (.int .i64 vv) ∧ x.block < w.heap.size) := ⟨hx 0 _ rfl, xl⟩
  clear ca hx xl
  simp only [List.length_cons, List.length_nil, Nat.zero_add] at c1 ⊢
  go_enter Try.func38, Try.ntmps38
  go_wp2_with fail
  refine (mul_one _ _ n1).mono ?_
  rintro e w' ⟨rfl, rfl⟩
  have h9 : ¬ (9223372036854775807 : Int) < (n : Int) := by omega
  go_wp2_with (at_make; obtain ⟨i0, hi, hz0, hz1, hz2⟩ := info_parts info_int; refine wpList_make_full _ rfl _ _ 23 rfl w'.heap.size 3 i0 (.int .i64 0) 1 Try.underlying23 hi hz0 hz1 _ _ _ _ n rfl rfl rfl rfl (by rw [hz2]; omega) (by unfold maxLen; omega) (Nat.le_refl _) ?_)
  intro w1 o1 g1
  clear hi hz0 hz1 hz2 h9
  have P1 : Hid (Rp vv w1 w'.heap.size n 0) := by
    rcases o1.2 with ⟨h, _⟩ | ⟨g, cap, cur, hv, hb, hg, h1, h2, h3, h4⟩
    · cases h
    · cases hv
      unfold Hid Rp rpCells
      rw [hg]
      congr 1
      have e : cur.toList = List.replicate n (Value.int .i64 0) := by
        have := toList_madeCells_one (.int .i64 0) n
        rw [List.take_of_length_le (by simp; omega)] at h4
        rw [h4]
        exact this
      simp only [List.replicate_zero, List.nil_append, Nat.sub_zero]
      rw [← e]
  have B1 : Hid (Below w'.heap.size w' w1) := (Below.refl _ _).grown g1 (Nat.le_refl _) (fun k hk => by cases hk)
  clear o1 g1
  obtain ⟨r2, p2, k2⟩ := rp_copy vv w1 w'.heap.size n 0 1 n n 1 c x P1.out (by show 1 = min 1 n; omega) (by omega) (fun j hj => by
    rw [show j = 0 by omega, B1.out.cell (p := x.add 0) (by rw [add_block]; exact cx.out.2)]
    exact cx.out.1)
  simp only [Nat.zero_add] at r2 p2 k2
  generalize w1.setRow w'.heap.size (rpCells vv n 1) = w2 at *
  have P2 : Hid (Rp vv w2 w'.heap.size n 1) := p2
  have B2 : Hid (Below w'.heap.size w' w2) := k2.below B1.out B1.out.size (Nat.le_refl _)
  clear p2 k2 P1 B1
  go_wp2
  clear r2
  obtain ⟨z, hz⟩ : ∃ z, w'.heap.size = z := ⟨_, rfl⟩
  rw [hz] at P2 B2
  simp only [hz]
  have Hz : Hid (w'.heap.size = z) := hz
  clear hz
  go_loopw [8] (fun i W' => ∃ m : Nat, 1 ≤ m ∧ m ≤ n ∧ i = .int .i64 (m : Nat) ∧ Rp vv W' z n m ∧ Below z w' W') (fun i _ => n - (intOf i).toNat)
  case atStart => exact ⟨1, Nat.le_refl _, n0, rfl, P2, B2⟩
  case round =>
    obtain ⟨m, m1, m2, rfl, hp, hb⟩ := hrel
    have P : Hid (Rp vv wr z n m) := hp
    have B : Hid (Below z w' wr) := hb
    clear hp hb P2 B2
    by_cases h0 : m = n
    · subst h0
      go_wp2
      go_ret
      exact ⟨z, rfl, by rw [Hz.out]; exact Nat.le_refl _, P.out.bk, by rw [Hz.out]; exact B⟩
    · have hm : m < n := by omega
      obtain ⟨k, hk⟩ : ∃ k, k = Nat.min m (n - m) := ⟨_, rfl⟩
      have hk' : k ≤ m ∧ k ≤ n - m ∧ 0 < k := by
        have : k = min m (n - m) := hk
        omega
      have rr : (Builtin.copy_ #[23, 23] 3 #[.slice (some ⟨z, m, none⟩) (n - m) (n - m), .slice (some ⟨z, 0, none⟩) m n]).run Try.prog wr.drew = .ok (.int .i64 (k : Nat)) (wr.drew.setRow z (rpCells vv n (m + k))) ∧ _ :=
        rp_copy vv wr.drew z n m k (n - m) (n - m) m n ⟨z, 0, none⟩ P.out hk (by omega) (fun j hj => by
          rw [Addr.add_lit, Nat.zero_add]
          exact Rp.cell (w := wr) P.out (by omega))
      obtain ⟨r1, p1, q1⟩ := rr
      have P1 : Hid (Rp vv (wr.drew.setRow z (rpCells vv n (m + k))) z n (m + k)) := p1
      have B1 : Hid (Below z w' (wr.drew.setRow z (rpCells vv n (m + k)))) := q1.below B.out.drew (by have := P.out.lt; show z ≤ wr.heap.size; omega) (Nat.le_refl _)
      obtain ⟨k1, k2, k3⟩ := hk'
      clear hk p1 q1
      generalize wr.drew.setRow z (rpCells vv n (m + k)) = w3 at *
      go_wp2
      go_region
      clear r1
      go_wp2
      go_round
      case rel => exact ⟨m + k, by omega, by omega, by go_num, P1, B1⟩
      case measure => simp [intOf]; omega
end Go.Proofs.Ytplnhgllbhdfjaa

