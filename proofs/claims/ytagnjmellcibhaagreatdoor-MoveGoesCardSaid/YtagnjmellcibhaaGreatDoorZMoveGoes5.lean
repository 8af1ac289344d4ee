/- world.fresh, world.Copy. · a unit that is to be put: what is wrong, and what comes of it. · Worlds with which nothing is wrong, unit by unit and job by job; a unit that is put keeps one right. Plain mathematics. · Kinds that are right: their numbers. · A unit that is put keeps a world right, and its cell is taken then. Plain mathematics. · move.wish, move.Wish, move.isTaken. · api.Event: records in memory. · Slices of api.Event that the call itself makes, by append. · What stays where one block turns, or a list of one's own grows. · What stays where one block turns: events. · move.walk: as far as its Speed goes. · make([]int, N) for few; one more event. · move.Move: all units, one behind the other. · Ways: who flies gets there no later; a way's steps; two small fields. Plain mathematics. · What may be reached, and the ways there: plain mathematics. · Moves: who rests stays. Plain mathematics. · Move: there is one wish: plain mathematics. · What the reference says of a step (cut out of RfN). -/
import Derived.Test.YtagnjmellcibhaaGreatDoorZMoveGoes3
import Derived.Deep.DeepCutAuto
import Derived.Test.YtagnjmellcibhaaGreatDoorZMoveGoes2
import Derived.Test.YtagnjmellcibhaaGreatDoorZMoveGoes4
import Derived.Test.YtagnjmellcibhaaGreatDoorZMoveGoes1
import Derived.OwnWalk
import Derived.Deep.AppendLies
import Derived.Laws.MakeOwn
import Derived.BigQuiet
namespace Go.Proofs.YtagnjmellcibhaaGreatDoor
open Go.RowKit
set_option linter.unusedVariables false

set_option maxHeartbeats 1000000 in
theorem fresh_ints (v : Value) (xs : List Int) (w : World) (h : Ro w v xs) (hl : xs.length ≤ 100000000) :
    Calls Tryz.prog 58 #[v] w fun e w' => ∃ u, e = .returned u ∧ Ow w' w.heap.size u xs ∧ Below w.heap.size w w' := by
  have H : Hid (Ro w v xs) := h
  clear h
  go_enter Tryz.func58, Tryz.ntmps58
  go_wp2_with (at_builtin; refine app_row _ rfl _ _ rfl w.heap.size _ [] rfl (Ow.nil _ _) _ xs rfl H.out (by simpa using Nat.le_trans hl (by decide)) (Nat.le_refl _) ?_)
  intro u w1 o1 g1 _
  have F : Hid (Ow w1 w.heap.size u xs ∧ Below w.heap.size w w1) := ⟨o1, (Below.refl _ _).grown g1 (Nat.le_refl _) (fun k hk => by cases hk)⟩
  clear o1 g1
  go_wp2
  go_ret
  exact ⟨_, rfl, F.out.1, F.out.2⟩
set_option maxHeartbeats 1000000 in
theorem fresh_uns (v : Value) (xs : List UnV) (w : World) (h : Unl w v xs) (hl : xs.length ≤ 100000000) :
    Calls Tryz.prog 59 #[v] w fun e w' => ∃ u, e = .returned u ∧ Uno w' w.heap.size u xs ∧ Below w.heap.size w w' := by
  have H : Hid (Unl w v xs) := h
  clear h
  go_enter Tryz.func59, Tryz.ntmps59
  go_wp2_with (at_builtin; refine app_uns _ rfl _ _ rfl w.heap.size _ [] rfl (Uno.nil _ _) _ xs rfl H.out (by simpa using Nat.le_trans hl (by decide)) (Nat.le_refl _) ?_)
  intro u w1 o1 g1 _
  have F : Hid (Uno w1 w.heap.size u xs ∧ Below w.heap.size w w1) := ⟨o1, (Below.refl _ _).grown g1 (Nat.le_refl _) (fun k hk => by cases hk)⟩
  clear o1 g1
  go_wp2
  go_ret
  exact ⟨_, rfl, F.out.1, F.out.2⟩
set_option maxHeartbeats 1000000 in
theorem fresh_jbs (v : Value) (xs : List JbV) (w : World) (h : Jbl w v xs) (hl : xs.length ≤ 100000000) :
    Calls Tryz.prog 60 #[v] w fun e w' => ∃ u, e = .returned u ∧ Jbo w' w.heap.size u xs ∧ Below w.heap.size w w' := by
  have H : Hid (Jbl w v xs) := h
  clear h
  go_enter Tryz.func60, Tryz.ntmps60
  go_wp2_with (at_builtin; refine app_jbs _ rfl _ _ rfl w.heap.size _ [] rfl (Jbo.nil _ _) _ xs rfl H.out (by simpa using Nat.le_trans hl (by decide)) (Nat.le_refl _) ?_)
  intro u w1 o1 g1 _
  have F : Hid (Jbo w1 w.heap.size u xs ∧ Below w.heap.size w w1) := ⟨o1, (Below.refl _ _).grown g1 (Nat.le_refl _) (fun k hk => by cases hk)⟩
  clear o1 g1
  go_wp2
  go_ret
  exact ⟨_, rfl, F.out.1, F.out.2⟩
/-- lists that may be copied. -/
structure WLen (W : WV) : Prop where
  g : W.gs.length ≤ 100000000
  o : W.os.length ≤ 100000000
  p : W.gold.length ≤ 100000000
  u : W.us.length ≤ 100000000
  q : W.qs.length ≤ 100000000
set_option maxRecDepth 100000 in
set_option maxHeartbeats 4000000 in
theorem copy_any (v : Value) (W : WV) (w : World) (h : Wl w v W) (hl : WLen W) :
    Calls Tryz.prog 32 #[v] w fun e w' => ∃ u, e = .returned u ∧ Wi w' w.heap.size u W ∧ Below w.heap.size w w' := by
  have H : Hid (Wl w v W) := h
  have L : Hid (WLen W) := hl
  obtain ⟨u1, u2, u3, u4, u5, rfl, -, -, -, -, -⟩ := h
  clear hl
  go_enter Tryz.func32, Tryz.ntmps32
  go_upto_region 1 with fail
  have B0 : Hid (Below w.heap.size w ((w.alloc (.cells #[.int .i64 W.turn, .int .i64 W.next, .int .i64 W.wide, .int .i64 W.high, u1, u2, u3, u4, u5] 29)).alloc (.cells #[.int .i64 0, .int .i64 0, .int .i64 0, .int .i64 0, .slice none 0 0, .slice none 0 0, .slice none 0 0, .slice none 0 0, .slice none 0 0] 29))) := ((Below.refl _ _).alloc (Nat.le_refl _) _).alloc (by simp) _
  have X0 : Hid (Wx ((w.alloc (.cells #[.int .i64 W.turn, .int .i64 W.next, .int .i64 W.wide, .int .i64 W.high, u1, u2, u3, u4, u5] 29)).alloc (.cells #[.int .i64 0, .int .i64 0, .int .i64 0, .int .i64 0, .slice none 0 0, .slice none 0 0, .slice none 0 0, .slice none 0 0, .slice none 0 0] 29)) w.heap.size (.int .i64 W.turn) (.int .i64 W.next) (.int .i64 W.wide) (.int .i64 W.high) u1 u2 u3 u4 u5) := (Wx.new (w := w) _ _ _ _ _ _ _ _ _ rfl).below ((Below.refl _ _).alloc (Nat.le_refl _) _) (by simp)
  have Z0 : Hid (Wx ((w.alloc (.cells #[.int .i64 W.turn, .int .i64 W.next, .int .i64 W.wide, .int .i64 W.high, u1, u2, u3, u4, u5] 29)).alloc (.cells #[.int .i64 0, .int .i64 0, .int .i64 0, .int .i64 0, .slice none 0 0, .slice none 0 0, .slice none 0 0, .slice none 0 0, .slice none 0 0] 29)) (w.heap.size + 1) (.int .i64 0) (.int .i64 0) (.int .i64 0) (.int .i64 0) (.slice none 0 0) (.slice none 0 0) (.slice none 0 0) (.slice none 0 0) (.slice none 0 0)) := Wx.new _ _ _ _ _ _ _ _ _ (by simp)
  have S0 : Hid (w.heap.size + 2 ≤ ((w.alloc (.cells #[.int .i64 W.turn, .int .i64 W.next, .int .i64 W.wide, .int .i64 W.high, u1, u2, u3, u4, u5] 29)).alloc (.cells #[.int .i64 0, .int .i64 0, .int .i64 0, .int .i64 0, .slice none 0 0, .slice none 0 0, .slice none 0 0, .slice none 0 0, .slice none 0 0] 29)).heap.size) := by unfold Hid; simp
  generalize ((w.alloc (.cells #[.int .i64 W.turn, .int .i64 W.next, .int .i64 W.wide, .int .i64 W.high, u1, u2, u3, u4, u5] 29)).alloc (.cells #[.int .i64 0, .int .i64 0, .int .i64 0, .int .i64 0, .slice none 0 0, .slice none 0 0, .slice none 0 0, .slice none 0 0, .slice none 0 0] 29)) = w0 at *
  obtain ⟨x0, x1, x2, x3, x4, x5, x6, x7, x8⟩ := X0.out.cells
  go_wp2_with fail
  refine (fresh_ints _ W.gs w0 ((H.out.below B0.out).slices.1) L.out.g).mono ?_
  rintro e a1 ⟨v1, rfl, ho, hb⟩
  clear x0 x1 x2 x3 x4 x5 x6 x7 x8
  have BA : Hid (Below w.heap.size w a1) := B0.out.trans (hb.mono B0.out.size)
  have SA : Hid (w.heap.size + 2 ≤ a1.heap.size) := Nat.le_trans S0.out hb.size
  have XA : Hid (Wx a1 w.heap.size (.int .i64 W.turn) (.int .i64 W.next) (.int .i64 W.wide) (.int .i64 W.high) u1 u2 u3 u4 u5) := X0.out.below hb X0.out.lt
  have ZA : Hid (Wx a1 (w.heap.size + 1) (.int .i64 0) (.int .i64 0) (.int .i64 0) (.int .i64 0) (.slice none 0 0) (.slice none 0 0) (.slice none 0 0) (.slice none 0 0) (.slice none 0 0)) := Z0.out.below hb Z0.out.lt
  have OA : Hid (Ow a1 (w.heap.size + 2) v1 W.gs) := ho.mono S0.out
  obtain ⟨p1, q1, rfl⟩ := ho.len
  have t := XA.out.thaw 4
  obtain ⟨-, -, -, -, x, -, -, -, -⟩ := XA.out.cells
  clear hb ho 
  go_upto_region 2 with fail
  have KW : Hid (Kp w.heap.size a1 (a1.setCell ⟨w.heap.size, 4, none⟩ (.slice p1 W.gs.length q1))) := Kp.set _ _ _
  have X1 : Hid (Wx (a1.setCell ⟨w.heap.size, 4, none⟩ (.slice p1 W.gs.length q1)) w.heap.size (.int .i64 W.turn) (.int .i64 W.next) (.int .i64 W.wide) (.int .i64 W.high) (.slice p1 W.gs.length q1) u2 u3 u4 u5) := XA.out.set4 _
  clear t x XA X0 Z0
  generalize (a1.setCell ⟨w.heap.size, 4, none⟩ (.slice p1 W.gs.length q1)) = w1 at *
  have B1 : Hid (Below w.heap.size w w1) := KW.out.below BA.out BA.out.size (Nat.le_refl _)
  have S1 : Hid (w.heap.size + 2 ≤ w1.heap.size) := Nat.le_trans SA.out KW.out.size
  have Z1 : Hid (Wx w1 (w.heap.size + 1) (.int .i64 0) (.int .i64 0) (.int .i64 0) (.int .i64 0) (.slice none 0 0) (.slice none 0 0) (.slice none 0 0) (.slice none 0 0) (.slice none 0 0)) := ZA.out.kp KW.out (by omega)
  have P1_1 : Hid (Ow w1 (w.heap.size + 2) (.slice p1 W.gs.length q1) W.gs) := OA.out.kp KW.out (by omega)
  clear BA SA ZA OA KW 
  obtain ⟨x0, x1, x2, x3, x4, x5, x6, x7, x8⟩ := X1.out.cells
  go_wp2_with fail
  refine (fresh_ints _ W.os w1 ((H.out.below B1.out).slices.2.1) L.out.o).mono ?_
  rintro e a2 ⟨v2, rfl, ho, hb⟩
  clear x0 x1 x2 x3 x4 x5 x6 x7 x8
  have BA : Hid (Below w.heap.size w a2) := B1.out.trans (hb.mono B1.out.size)
  have SA : Hid (w.heap.size + 2 ≤ a2.heap.size) := Nat.le_trans S1.out hb.size
  have XA : Hid (Wx a2 w.heap.size (.int .i64 W.turn) (.int .i64 W.next) (.int .i64 W.wide) (.int .i64 W.high) (.slice p1 W.gs.length q1) u2 u3 u4 u5) := X1.out.below hb X1.out.lt
  have ZA : Hid (Wx a2 (w.heap.size + 1) (.int .i64 0) (.int .i64 0) (.int .i64 0) (.int .i64 0) (.slice none 0 0) (.slice none 0 0) (.slice none 0 0) (.slice none 0 0) (.slice none 0 0)) := Z1.out.below hb Z1.out.lt
  have OA : Hid (Ow a2 (w.heap.size + 2) v2 W.os) := ho.mono S1.out
  have PA1 : Hid (Ow a2 (w.heap.size + 2) (.slice p1 W.gs.length q1) W.gs) := P1_1.out.below hb
  have D1_2 : Hid (Dif (.slice p1 W.gs.length q1) v2) := Dif.of (fun k hk => (P1_1.out.block k hk).2) (fun k hk => (ho.block k hk).1)
  obtain ⟨p2, q2, rfl⟩ := ho.len
  have t := XA.out.thaw 5
  obtain ⟨-, -, -, -, -, x, -, -, -⟩ := XA.out.cells
  clear hb ho P1_1
  go_upto_region 3 with fail
  have KW : Hid (Kp w.heap.size a2 (a2.setCell ⟨w.heap.size, 5, none⟩ (.slice p2 W.os.length q2))) := Kp.set _ _ _
  have X2 : Hid (Wx (a2.setCell ⟨w.heap.size, 5, none⟩ (.slice p2 W.os.length q2)) w.heap.size (.int .i64 W.turn) (.int .i64 W.next) (.int .i64 W.wide) (.int .i64 W.high) (.slice p1 W.gs.length q1) (.slice p2 W.os.length q2) u3 u4 u5) := XA.out.set5 _
  clear t x XA X1 Z1
  generalize (a2.setCell ⟨w.heap.size, 5, none⟩ (.slice p2 W.os.length q2)) = w2 at *
  have B2 : Hid (Below w.heap.size w w2) := KW.out.below BA.out BA.out.size (Nat.le_refl _)
  have S2 : Hid (w.heap.size + 2 ≤ w2.heap.size) := Nat.le_trans SA.out KW.out.size
  have Z2 : Hid (Wx w2 (w.heap.size + 1) (.int .i64 0) (.int .i64 0) (.int .i64 0) (.int .i64 0) (.slice none 0 0) (.slice none 0 0) (.slice none 0 0) (.slice none 0 0) (.slice none 0 0)) := ZA.out.kp KW.out (by omega)
  have P2_2 : Hid (Ow w2 (w.heap.size + 2) (.slice p2 W.os.length q2) W.os) := OA.out.kp KW.out (by omega)
  have P1_2 : Hid (Ow w2 (w.heap.size + 2) (.slice p1 W.gs.length q1) W.gs) := PA1.out.kp KW.out (by omega)
  clear BA SA ZA OA KW PA1
  obtain ⟨x0, x1, x2, x3, x4, x5, x6, x7, x8⟩ := X2.out.cells
  go_wp2_with fail
  refine (fresh_ints _ W.gold w2 ((H.out.below B2.out).slices.2.2.1) L.out.p).mono ?_
  rintro e a3 ⟨v3, rfl, ho, hb⟩
  clear x0 x1 x2 x3 x4 x5 x6 x7 x8
  have BA : Hid (Below w.heap.size w a3) := B2.out.trans (hb.mono B2.out.size)
  have SA : Hid (w.heap.size + 2 ≤ a3.heap.size) := Nat.le_trans S2.out hb.size
  have XA : Hid (Wx a3 w.heap.size (.int .i64 W.turn) (.int .i64 W.next) (.int .i64 W.wide) (.int .i64 W.high) (.slice p1 W.gs.length q1) (.slice p2 W.os.length q2) u3 u4 u5) := X2.out.below hb X2.out.lt
  have ZA : Hid (Wx a3 (w.heap.size + 1) (.int .i64 0) (.int .i64 0) (.int .i64 0) (.int .i64 0) (.slice none 0 0) (.slice none 0 0) (.slice none 0 0) (.slice none 0 0) (.slice none 0 0)) := Z2.out.below hb Z2.out.lt
  have OA : Hid (Ow a3 (w.heap.size + 2) v3 W.gold) := ho.mono S2.out
  have PA1 : Hid (Ow a3 (w.heap.size + 2) (.slice p1 W.gs.length q1) W.gs) := P1_2.out.below hb
  have PA2 : Hid (Ow a3 (w.heap.size + 2) (.slice p2 W.os.length q2) W.os) := P2_2.out.below hb
  have D1_3 : Hid (Dif (.slice p1 W.gs.length q1) v3) := Dif.of (fun k hk => (P1_2.out.block k hk).2) (fun k hk => (ho.block k hk).1)
  have D2_3 : Hid (Dif (.slice p2 W.os.length q2) v3) := Dif.of (fun k hk => (P2_2.out.block k hk).2) (fun k hk => (ho.block k hk).1)
  obtain ⟨p3, q3, rfl⟩ := ho.len
  have t := XA.out.thaw 6
  obtain ⟨-, -, -, -, -, -, x, -, -⟩ := XA.out.cells
  clear hb ho P1_2 P2_2
  go_upto_region 4 with fail
  have KW : Hid (Kp w.heap.size a3 (a3.setCell ⟨w.heap.size, 6, none⟩ (.slice p3 W.gold.length q3))) := Kp.set _ _ _
  have X3 : Hid (Wx (a3.setCell ⟨w.heap.size, 6, none⟩ (.slice p3 W.gold.length q3)) w.heap.size (.int .i64 W.turn) (.int .i64 W.next) (.int .i64 W.wide) (.int .i64 W.high) (.slice p1 W.gs.length q1) (.slice p2 W.os.length q2) (.slice p3 W.gold.length q3) u4 u5) := XA.out.set6 _
  clear t x XA X2 Z2
  generalize (a3.setCell ⟨w.heap.size, 6, none⟩ (.slice p3 W.gold.length q3)) = w3 at *
  have B3 : Hid (Below w.heap.size w w3) := KW.out.below BA.out BA.out.size (Nat.le_refl _)
  have S3 : Hid (w.heap.size + 2 ≤ w3.heap.size) := Nat.le_trans SA.out KW.out.size
  have Z3 : Hid (Wx w3 (w.heap.size + 1) (.int .i64 0) (.int .i64 0) (.int .i64 0) (.int .i64 0) (.slice none 0 0) (.slice none 0 0) (.slice none 0 0) (.slice none 0 0) (.slice none 0 0)) := ZA.out.kp KW.out (by omega)
  have P3_3 : Hid (Ow w3 (w.heap.size + 2) (.slice p3 W.gold.length q3) W.gold) := OA.out.kp KW.out (by omega)
  have P1_3 : Hid (Ow w3 (w.heap.size + 2) (.slice p1 W.gs.length q1) W.gs) := PA1.out.kp KW.out (by omega)
  have P2_3 : Hid (Ow w3 (w.heap.size + 2) (.slice p2 W.os.length q2) W.os) := PA2.out.kp KW.out (by omega)
  clear BA SA ZA OA KW PA1 PA2
  obtain ⟨x0, x1, x2, x3, x4, x5, x6, x7, x8⟩ := X3.out.cells
  go_wp2_with fail
  refine (fresh_uns _ W.us w3 ((H.out.below B3.out).slices.2.2.2.1) L.out.u).mono ?_
  rintro e a4 ⟨v4, rfl, ho, hb⟩
  clear x0 x1 x2 x3 x4 x5 x6 x7 x8
  have BA : Hid (Below w.heap.size w a4) := B3.out.trans (hb.mono B3.out.size)
  have SA : Hid (w.heap.size + 2 ≤ a4.heap.size) := Nat.le_trans S3.out hb.size
  have XA : Hid (Wx a4 w.heap.size (.int .i64 W.turn) (.int .i64 W.next) (.int .i64 W.wide) (.int .i64 W.high) (.slice p1 W.gs.length q1) (.slice p2 W.os.length q2) (.slice p3 W.gold.length q3) u4 u5) := X3.out.below hb X3.out.lt
  have ZA : Hid (Wx a4 (w.heap.size + 1) (.int .i64 0) (.int .i64 0) (.int .i64 0) (.int .i64 0) (.slice none 0 0) (.slice none 0 0) (.slice none 0 0) (.slice none 0 0) (.slice none 0 0)) := Z3.out.below hb Z3.out.lt
  have OA : Hid (Uno a4 (w.heap.size + 2) v4 W.us) := ho.mono S3.out
  have PA1 : Hid (Ow a4 (w.heap.size + 2) (.slice p1 W.gs.length q1) W.gs) := P1_3.out.below hb
  have PA2 : Hid (Ow a4 (w.heap.size + 2) (.slice p2 W.os.length q2) W.os) := P2_3.out.below hb
  have PA3 : Hid (Ow a4 (w.heap.size + 2) (.slice p3 W.gold.length q3) W.gold) := P3_3.out.below hb
  have D1_4 : Hid (Dif (.slice p1 W.gs.length q1) v4) := Dif.of (fun k hk => (P1_3.out.block k hk).2) (fun k hk => (ho.block k hk).1)
  have D2_4 : Hid (Dif (.slice p2 W.os.length q2) v4) := Dif.of (fun k hk => (P2_3.out.block k hk).2) (fun k hk => (ho.block k hk).1)
  have D3_4 : Hid (Dif (.slice p3 W.gold.length q3) v4) := Dif.of (fun k hk => (P3_3.out.block k hk).2) (fun k hk => (ho.block k hk).1)
  obtain ⟨p4, q4, rfl⟩ := ho.len
  have t := XA.out.thaw 7
  obtain ⟨-, -, -, -, -, -, -, x, -⟩ := XA.out.cells
  clear hb ho P1_3 P2_3 P3_3
  go_upto_region 5 with fail
  have KW : Hid (Kp w.heap.size a4 (a4.setCell ⟨w.heap.size, 7, none⟩ (.slice p4 W.us.length q4))) := Kp.set _ _ _
  have X4 : Hid (Wx (a4.setCell ⟨w.heap.size, 7, none⟩ (.slice p4 W.us.length q4)) w.heap.size (.int .i64 W.turn) (.int .i64 W.next) (.int .i64 W.wide) (.int .i64 W.high) (.slice p1 W.gs.length q1) (.slice p2 W.os.length q2) (.slice p3 W.gold.length q3) (.slice p4 W.us.length q4) u5) := XA.out.set7 _
  clear t x XA X3 Z3
  generalize (a4.setCell ⟨w.heap.size, 7, none⟩ (.slice p4 W.us.length q4)) = w4 at *
  have B4 : Hid (Below w.heap.size w w4) := KW.out.below BA.out BA.out.size (Nat.le_refl _)
  have S4 : Hid (w.heap.size + 2 ≤ w4.heap.size) := Nat.le_trans SA.out KW.out.size
  have Z4 : Hid (Wx w4 (w.heap.size + 1) (.int .i64 0) (.int .i64 0) (.int .i64 0) (.int .i64 0) (.slice none 0 0) (.slice none 0 0) (.slice none 0 0) (.slice none 0 0) (.slice none 0 0)) := ZA.out.kp KW.out (by omega)
  have P4_4 : Hid (Uno w4 (w.heap.size + 2) (.slice p4 W.us.length q4) W.us) := OA.out.kp KW.out (by omega)
  have P1_4 : Hid (Ow w4 (w.heap.size + 2) (.slice p1 W.gs.length q1) W.gs) := PA1.out.kp KW.out (by omega)
  have P2_4 : Hid (Ow w4 (w.heap.size + 2) (.slice p2 W.os.length q2) W.os) := PA2.out.kp KW.out (by omega)
  have P3_4 : Hid (Ow w4 (w.heap.size + 2) (.slice p3 W.gold.length q3) W.gold) := PA3.out.kp KW.out (by omega)
  clear BA SA ZA OA KW PA1 PA2 PA3
  obtain ⟨x0, x1, x2, x3, x4, x5, x6, x7, x8⟩ := X4.out.cells
  go_wp2_with fail
  refine (fresh_jbs _ W.qs w4 ((H.out.below B4.out).slices.2.2.2.2) L.out.q).mono ?_
  rintro e a5 ⟨v5, rfl, ho, hb⟩
  clear x0 x1 x2 x3 x4 x5 x6 x7 x8
  have BA : Hid (Below w.heap.size w a5) := B4.out.trans (hb.mono B4.out.size)
  have SA : Hid (w.heap.size + 2 ≤ a5.heap.size) := Nat.le_trans S4.out hb.size
  have XA : Hid (Wx a5 w.heap.size (.int .i64 W.turn) (.int .i64 W.next) (.int .i64 W.wide) (.int .i64 W.high) (.slice p1 W.gs.length q1) (.slice p2 W.os.length q2) (.slice p3 W.gold.length q3) (.slice p4 W.us.length q4) u5) := X4.out.below hb X4.out.lt
  have ZA : Hid (Wx a5 (w.heap.size + 1) (.int .i64 0) (.int .i64 0) (.int .i64 0) (.int .i64 0) (.slice none 0 0) (.slice none 0 0) (.slice none 0 0) (.slice none 0 0) (.slice none 0 0)) := Z4.out.below hb Z4.out.lt
  have OA : Hid (Jbo a5 (w.heap.size + 2) v5 W.qs) := ho.mono S4.out
  have PA1 : Hid (Ow a5 (w.heap.size + 2) (.slice p1 W.gs.length q1) W.gs) := P1_4.out.below hb
  have PA2 : Hid (Ow a5 (w.heap.size + 2) (.slice p2 W.os.length q2) W.os) := P2_4.out.below hb
  have PA3 : Hid (Ow a5 (w.heap.size + 2) (.slice p3 W.gold.length q3) W.gold) := P3_4.out.below hb
  have PA4 : Hid (Uno a5 (w.heap.size + 2) (.slice p4 W.us.length q4) W.us) := P4_4.out.below hb
  have D1_5 : Hid (Dif (.slice p1 W.gs.length q1) v5) := Dif.of (fun k hk => (P1_4.out.block k hk).2) (fun k hk => (ho.block k hk).1)
  have D2_5 : Hid (Dif (.slice p2 W.os.length q2) v5) := Dif.of (fun k hk => (P2_4.out.block k hk).2) (fun k hk => (ho.block k hk).1)
  have D3_5 : Hid (Dif (.slice p3 W.gold.length q3) v5) := Dif.of (fun k hk => (P3_4.out.block k hk).2) (fun k hk => (ho.block k hk).1)
  have D4_5 : Hid (Dif (.slice p4 W.us.length q4) v5) := Dif.of (fun k hk => (P4_4.out.block k hk).2) (fun k hk => (ho.block k hk).1)
  obtain ⟨p5, q5, rfl⟩ := ho.len
  have t := XA.out.thaw 8
  obtain ⟨-, -, -, -, -, -, -, -, x⟩ := XA.out.cells
  clear hb ho P1_4 P2_4 P3_4 P4_4
  go_upto_region 6 with fail
  have KW : Hid (Kp w.heap.size a5 (a5.setCell ⟨w.heap.size, 8, none⟩ (.slice p5 W.qs.length q5))) := Kp.set _ _ _
  have X5 : Hid (Wx (a5.setCell ⟨w.heap.size, 8, none⟩ (.slice p5 W.qs.length q5)) w.heap.size (.int .i64 W.turn) (.int .i64 W.next) (.int .i64 W.wide) (.int .i64 W.high) (.slice p1 W.gs.length q1) (.slice p2 W.os.length q2) (.slice p3 W.gold.length q3) (.slice p4 W.us.length q4) (.slice p5 W.qs.length q5)) := XA.out.set8 _
  clear t x XA X4 Z4
  generalize (a5.setCell ⟨w.heap.size, 8, none⟩ (.slice p5 W.qs.length q5)) = w5 at *
  have B5 : Hid (Below w.heap.size w w5) := KW.out.below BA.out BA.out.size (Nat.le_refl _)
  have S5 : Hid (w.heap.size + 2 ≤ w5.heap.size) := Nat.le_trans SA.out KW.out.size
  have Z5 : Hid (Wx w5 (w.heap.size + 1) (.int .i64 0) (.int .i64 0) (.int .i64 0) (.int .i64 0) (.slice none 0 0) (.slice none 0 0) (.slice none 0 0) (.slice none 0 0) (.slice none 0 0)) := ZA.out.kp KW.out (by omega)
  have P5_5 : Hid (Jbo w5 (w.heap.size + 2) (.slice p5 W.qs.length q5) W.qs) := OA.out.kp KW.out (by omega)
  have P1_5 : Hid (Ow w5 (w.heap.size + 2) (.slice p1 W.gs.length q1) W.gs) := PA1.out.kp KW.out (by omega)
  have P2_5 : Hid (Ow w5 (w.heap.size + 2) (.slice p2 W.os.length q2) W.os) := PA2.out.kp KW.out (by omega)
  have P3_5 : Hid (Ow w5 (w.heap.size + 2) (.slice p3 W.gold.length q3) W.gold) := PA3.out.kp KW.out (by omega)
  have P4_5 : Hid (Uno w5 (w.heap.size + 2) (.slice p4 W.us.length q4) W.us) := PA4.out.kp KW.out (by omega)
  clear BA SA ZA OA KW PA1 PA2 PA3 PA4
  obtain ⟨x0, x1, x2, x3, x4, x5, x6, x7, x8⟩ := X5.out.cells
  obtain ⟨z0, z1, z2, z3, z4, z5, z6, z7, z8⟩ := Z5.out.cells
  obtain ⟨t0, t1, t2, t3, t4, t5, t6, t7, t8⟩ := Z5.out.thaws
  have KZ : Hid (Kp (w.heap.size + 1) w5 (((((((((w5.setCell ⟨w.heap.size + 1, 0, none⟩ (.int .i64 W.turn)).setCell ⟨w.heap.size + 1, 1, none⟩ (.int .i64 W.next)).setCell ⟨w.heap.size + 1, 2, none⟩ (.int .i64 W.wide)).setCell ⟨w.heap.size + 1, 3, none⟩ (.int .i64 W.high)).setCell ⟨w.heap.size + 1, 4, none⟩ (.slice p1 W.gs.length q1)).setCell ⟨w.heap.size + 1, 5, none⟩ (.slice p2 W.os.length q2)).setCell ⟨w.heap.size + 1, 6, none⟩ (.slice p3 W.gold.length q3)).setCell ⟨w.heap.size + 1, 7, none⟩ (.slice p4 W.us.length q4)).setCell ⟨w.heap.size + 1, 8, none⟩ (.slice p5 W.qs.length q5))) := put_kp _ _ _ _ _ _ _ _ _ _ _
  obtain ⟨y0, y1, y2, y3, y4, y5, y6, y7, y8⟩ := (Z5.out.put (.int .i64 W.turn) (.int .i64 W.next) (.int .i64 W.wide) (.int .i64 W.high) (.slice p1 W.gs.length q1) (.slice p2 W.os.length q2) (.slice p3 W.gold.length q3) (.slice p4 W.us.length q4) (.slice p5 W.qs.length q5)).cells
  go_wp2
  clear x0 x1 x2 x3 x4 x5 x6 x7 x8 z0 z1 z2 z3 z4 z5 z6 z7 z8 t0 t1 t2 t3 t4 t5 t6 t7 t8
  have s0 := S5.out
  generalize (((((((((w5.setCell ⟨w.heap.size + 1, 0, none⟩ (.int .i64 W.turn)).setCell ⟨w.heap.size + 1, 1, none⟩ (.int .i64 W.next)).setCell ⟨w.heap.size + 1, 2, none⟩ (.int .i64 W.wide)).setCell ⟨w.heap.size + 1, 3, none⟩ (.int .i64 W.high)).setCell ⟨w.heap.size + 1, 4, none⟩ (.slice p1 W.gs.length q1)).setCell ⟨w.heap.size + 1, 5, none⟩ (.slice p2 W.os.length q2)).setCell ⟨w.heap.size + 1, 6, none⟩ (.slice p3 W.gold.length q3)).setCell ⟨w.heap.size + 1, 7, none⟩ (.slice p4 W.us.length q4)).setCell ⟨w.heap.size + 1, 8, none⟩ (.slice p5 W.qs.length q5)) = w9 at *
  refine bodyPost_ret (v := .agg #[.int .i64 W.turn, .int .i64 W.next, .int .i64 W.wide, .int .i64 W.high, .slice p1 W.gs.length q1, .slice p2 W.os.length q2, .slice p3 W.gold.length q3, .slice p4 W.us.length q4, .slice p5 W.qs.length q5]) (by simp [results, Tryz.results32, go_sem, y0, y1, y2, y3, y4, y5, y6, y7, y8]) rfl ⟨_, rfl, ⟨_, _, _, _, _, rfl, ⟨(P1_5.out.kp KZ.out (by omega)).mono (by omega), (P2_5.out.kp KZ.out (by omega)).mono (by omega), (P3_5.out.kp KZ.out (by omega)).mono (by omega), (P4_5.out.kp KZ.out (by omega)).mono (by omega), (P5_5.out.kp KZ.out (by omega)).mono (by omega)⟩, D1_2.out, D1_3.out, D1_4.out, D1_5.out, D2_3.out, D2_4.out, D2_5.out, D3_4.out, D3_5.out, D4_5.out⟩, KZ.out.below B5.out B5.out.size (by omega)⟩
end Go.Proofs.YtagnjmellcibhaaGreatDoor

namespace Go.Proofs.YtagnjmellcibhaaGreatDoor
open Go.RowKit
set_option linter.unusedVariables false

namespace Wd
/-- what is wrong with a unit that is to be put. -/
def placeFault (ks : List KV) (W : WV) (pl kd at_ : Int) : Int :=
  if 40 ≤ (W.us.length : Int) ∨ 1000000 ≤ W.next then 4
  else if ¬ (0 ≤ pl ∧ pl < (W.gold.length : Int)) ∨ ¬ (0 ≤ kd ∧ kd < (ks.length : Int)) then 1
  else if ¬ (0 ≤ at_ ∧ at_ < (W.gs.length : Int)) then 6
  else match ks[kd.toNat]? with
    | some k => if open_ W.gs W.us at_ k.f = false then 7 else 0
    | none => 1
theorem pf4 {ks : List KV} {W : WV} {pl kd at_ : Int} (h : 40 ≤ (W.us.length : Int) ∨ 1000000 ≤ W.next) : placeFault ks W pl kd at_ = 4 := by unfold placeFault; rw [if_pos h]
theorem pf1 {ks : List KV} {W : WV} {pl kd at_ : Int} (h : ¬ (40 ≤ (W.us.length : Int) ∨ 1000000 ≤ W.next)) (h1 : ¬ (0 ≤ pl ∧ pl < (W.gold.length : Int)) ∨ ¬ (0 ≤ kd ∧ kd < (ks.length : Int))) : placeFault ks W pl kd at_ = 1 := by unfold placeFault; rw [if_neg h, if_pos h1]
theorem pf6 {ks : List KV} {W : WV} {pl kd at_ : Int} (h : ¬ (40 ≤ (W.us.length : Int) ∨ 1000000 ≤ W.next)) (h1 : 0 ≤ pl ∧ pl < (W.gold.length : Int)) (h2 : 0 ≤ kd ∧ kd < (ks.length : Int)) (h3 : ¬ (0 ≤ at_ ∧ at_ < (W.gs.length : Int))) : placeFault ks W pl kd at_ = 6 := by unfold placeFault; rw [if_neg h, if_neg (by omega), if_pos h3]
theorem pfk {ks : List KV} {W : WV} {pl kd at_ : Int} {k : KV} (h : ¬ (40 ≤ (W.us.length : Int) ∨ 1000000 ≤ W.next)) (h1 : 0 ≤ pl ∧ pl < (W.gold.length : Int)) (h2 : 0 ≤ kd ∧ kd < (ks.length : Int)) (h3 : 0 ≤ at_ ∧ at_ < (W.gs.length : Int)) (hk : ks[kd.toNat]? = some k) : placeFault ks W pl kd at_ = if open_ W.gs W.us at_ k.f = false then 7 else 0 := by unfold placeFault; rw [if_neg h, if_neg (by omega), if_neg (by omega), hk]
end Wd
structure WRight (ks : List KV) (W : WV) : Prop where
  kinds : Kd.kindsFault (ks.map KV.k) = 0
  good : ∃ Wn Hn : Nat, W.wide = Wn ∧ W.high = Hn ∧ Fd.Good Wn Hn W.gs W.os
  nums : Wd.numsBad W = false
  ul : W.us.length ≤ 40
  units : Wd.unitsGo ks W 0 W.us = 0
  ql : W.qs.length ≤ 12
  jobs : Wd.jobsGo ks W W.qs = 0
theorem wright_of {ks : List KV} {W : WV} (h : Wd.wfault ks W = 0) : WRight ks W := by
  unfold Wd.wfault at h
  by_cases h0 : Wd.ground ks W = 0
  · rw [if_neg (by rw [h0]; simp)] at h
    cases h1 : Wd.numsBad W with
    | true => rw [h1, if_pos rfl] at h; cases h
    | false =>
      rw [h1, if_neg (by simp)] at h
      by_cases h2 : 40 < W.us.length
      · rw [if_pos h2] at h; cases h
      · rw [if_neg h2] at h
        by_cases h3 : Wd.unitsGo ks W 0 W.us = 0
        · rw [if_neg (by rw [h3]; simp)] at h
          by_cases h4 : 12 < W.qs.length
          · rw [if_pos h4] at h; cases h
          · rw [if_neg h4] at h
            unfold Wd.ground at h0
            by_cases h5 : Kd.kindsFault (ks.map KV.k) = 0
            · rw [if_pos h5] at h0
              exact ⟨h5, Fd.fault_zero h0, h1, by omega, h3, by omega, h⟩
            · rw [if_neg h5] at h0; exact absurd h0 h5
        · rw [if_pos h3] at h; exact absurd h h3
  · rw [if_pos h0] at h; exact absurd h h0
theorem WRight.len {ks : List KV} {W : WV} (h : WRight ks W) : WLen W := by
  obtain ⟨Wn, Hn, -, -, G⟩ := h.good
  have h1 := G.pos
  have h2 := G.gl
  have h3 := G.ol
  have h4 := (nums_ok h.nums).2
  have h5 := h.ul
  have h6 := h.ql
  exact ⟨by omega, by omega, by omega, by omega, by omega⟩
namespace Wd
/-- what is told where a unit is put. -/
def putFault (ks : List KV) (W : WV) (pl kd at_ : Int) : Int := if wfault ks W = 0 then placeFault ks W pl kd at_ else wfault ks W
def newUnit (ks : List KV) (W : WV) (pl kd at_ : Int) : UnV := ⟨W.next, pl, kd, at_, (match ks[kd.toNat]? with | some k => k.n0 | none => 0), 0, 0, 0⟩
/-- the world behind it. -/
def put (ks : List KV) (W : WV) (pl kd at_ : Int) : WV := { W with next := W.next + 1, us := W.us ++ [newUnit ks W pl kd at_] }
def placed (ks : List KV) (W : WV) (pl kd at_ : Int) : WV := if putFault ks W pl kd at_ = 0 then put ks W pl kd at_ else WV.zero
end Wd
theorem placed_bad {ks : List KV} {W : WV} {pl kd at_ : Int} (h : Wd.putFault ks W pl kd at_ ≠ 0) : Wd.placed ks W pl kd at_ = WV.zero := by unfold Wd.placed; rw [if_neg h]
theorem placed_ok {ks : List KV} {W : WV} {pl kd at_ : Int} (h : Wd.putFault ks W pl kd at_ = 0) : Wd.placed ks W pl kd at_ = Wd.put ks W pl kd at_ := by unfold Wd.placed; rw [if_pos h]
theorem zero_wo (w : World) (base : Nat) : Wo w base (.agg #[.int .i64 0, .int .i64 0, .int .i64 0, .int .i64 0, .slice none 0 0, .slice none 0 0, .slice none 0 0, .slice none 0 0, .slice none 0 0]) WV.zero := ⟨_, _, _, _, _, rfl, Ow.nil _ _, Ow.nil _ _, Ow.nil _ _, Uno.nil _ _, Jbo.nil _ _⟩
theorem pf_zero {ks : List KV} {W : WV} {pl kd at_ : Int} (h : Wd.placeFault ks W pl kd at_ = 0) : ¬ (40 ≤ (W.us.length : Int) ∨ 1000000 ≤ W.next) ∧ (0 ≤ pl ∧ pl < (W.gold.length : Int)) ∧ (0 ≤ at_ ∧ at_ < (W.gs.length : Int)) ∧ ∃ kn k, kd = ((kn : Nat) : Int) ∧ kn < ks.length ∧ ks[kn]? = some k ∧ Wd.open_ W.gs W.us at_ k.f = true := by
  unfold Wd.placeFault at h
  split at h
  · cases h
  · rename_i h1
    split at h
    · cases h
    · rename_i h2
      split at h
      · cases h
      · rename_i h3
        split at h
        · rename_i k hk
          split at h
          · cases h
          · rename_i h4
            have hl := (List.getElem?_eq_some_iff.1 hk).1
            exact ⟨h1, by omega, by omega, kd.toNat, k, by omega, hl, hk, by simpa using h4⟩
        · cases h
end Go.Proofs.YtagnjmellcibhaaGreatDoor

namespace Go.Proofs.YtagnjmellcibhaaGreatDoor
set_option linter.unusedVariables false
namespace Wd

theorem unitsGo_zero {ks : List KV} {W : WV} : ∀ (l : List UnV) (i : Nat), unitsGo ks W i l = 0 ↔ ∀ (j : Nat) (u : UnV), l[j]? = some u → unitFault ks W (i + j) u = 0
  | [], i => by
    constructor
    · intro _ j u h; simp at h
    · intro _; rfl
  | x :: l, i => by
    unfold unitsGo
    constructor
    · intro h
      split at h
      · rename_i h0
        intro j u hj
        cases j with
        | zero => simp at hj; subst hj; exact h0
        | succ j =>
          have := (unitsGo_zero l (i + 1)).1 h j u (by simpa using hj)
          rwa [show i + 1 + j = i + (j + 1) by omega] at this
      · rename_i h0; exact absurd h h0
    · intro h
      rw [if_pos (show unitFault ks W i x = 0 from h 0 x rfl)]
      refine (unitsGo_zero l (i + 1)).2 fun j u hj => ?_
      have := h (j + 1) u (by simpa using hj)
      rwa [show i + (j + 1) = i + 1 + j by omega] at this
theorem jobsGo_zero {ks : List KV} {W : WV} : ∀ (l : List JbV), jobsGo ks W l = 0 ↔ ∀ j ∈ l, jobFault ks W j = 0
  | [] => by
    constructor
    · intro _ j h; cases h
    · intro _; rfl
  | x :: l => by
    unfold jobsGo
    constructor
    · intro h
      split at h
      · rename_i h0
        intro j hj
        rcases List.mem_cons.1 hj with rfl | hj
        · exact h0
        · exact (jobsGo_zero l).1 h j hj
      · rename_i h0; exact absurd h h0
    · intro h
      rw [if_pos (h x (List.mem_cons_self ..))]
      exact (jobsGo_zero l).2 fun j hj => h j (List.mem_cons_of_mem _ hj)
theorem nor1 {a : Bool} (h : ¬ (!a) = true) : a = true := by cases a <;> simp_all
theorem nor2 {a b : Bool} (h : ¬ (!a || !b) = true) : a = true ∧ b = true := by cases a <;> cases b <;> simp_all
theorem nor3 {a b c : Bool} (h : ¬ (!a || (!b || !c)) = true) : a = true ∧ b = true ∧ c = true := by cases a <;> cases b <;> cases c <;> simp_all
theorem nor6 {a b : Bool} (h : ¬ (!a || b) = true) : a = true ∧ b = false := by cases a <;> cases b <;> simp_all
/-- nothing is wrong with a unit. -/
structure UFine (ks : List KV) (W : WV) (i : Nat) (u : UnV) (k : KV) : Prop where
  id1 : 1 ≤ u.id
  id2 : u.id ≤ W.next - 1
  up : notAbove W.us i u = false
  p : 0 ≤ u.player ∧ u.player < (W.gold.length : Int)
  k0 : 0 ≤ u.kind ∧ u.kind < (ks.length : Int)
  kk : ks[u.kind.toNat]? = some k
  life : 1 ≤ u.life ∧ u.life ≤ k.n0
  load : 0 ≤ u.load ∧ u.load ≤ k.n7
  task : 0 ≤ u.task ∧ u.task ≤ 2
  at_ : 0 ≤ u.at_ ∧ u.at_ < (W.gs.length : Int)
  goal : 0 ≤ u.goal ∧ u.goal < (W.gs.length : Int)
  opn : open_ W.gs (W.us.take i) u.at_ k.f = true
  rest : u.goal = 0 ∨ u.task ≠ 0
theorem unit_fine {ks : List KV} {W : WV} {i : Nat} {u : UnV} : unitFault ks W i u = 0 ↔ ∃ k, UFine ks W i u k := by
  constructor
  · intro h
    unfold unitFault at h
    split at h
    · cases h
    rename_i h1
    split at h
    · cases h
    rename_i h2
    split at h
    · cases h
    rename_i h3
    split at h
    · cases h
    rename_i k hk
    unfold kindPart at h
    split at h
    · cases h
    rename_i h4
    split at h
    · cases h
    rename_i h5
    split at h
    · cases h
    rename_i h6
    have g1 := of_decide_eq_true (nor1 h1)
    have g3 := nor2 h3
    have g4 := nor3 h4
    have g5 := nor2 h5
    have g6 := nor6 h6
    refine ⟨k, ⟨g1.1, g1.2, by simpa using h2, of_decide_eq_true g3.1, of_decide_eq_true g3.2, hk, of_decide_eq_true g4.1, of_decide_eq_true g4.2.1, of_decide_eq_true g4.2.2, of_decide_eq_true g5.1, of_decide_eq_true g5.2, g6.1, ?_⟩⟩
    have g7 := g6.2
    simp only [Bool.and_eq_false_iff, bne_eq_false_iff_eq, beq_eq_false_iff_ne] at g7
    exact g7
  · rintro ⟨k, h⟩
    unfold unitFault
    rw [if_neg (by simp [h.id1, h.id2]), if_neg (by simp [h.up]), if_neg (by simp [has, h.p.1, h.p.2, h.k0.1, h.k0.2]), h.kk]
    show kindPart W (W.us.take i) u k = 0
    unfold kindPart
    rw [if_neg (by simp [h.life.1, h.life.2, h.load.1, h.load.2, h.task.1, h.task.2]), if_neg (by simp [has, h.at_.1, h.at_.2, h.goal.1, h.goal.2]), if_neg]
    simp only [h.opn, Bool.not_true, Bool.false_or, Bool.and_eq_true, bne_iff_ne, beq_iff_eq, ne_eq, not_and]
    intro hg ht
    rcases h.rest with h1 | h1
    · exact hg h1
    · exact h1 ht
/-- a world with which nothing is wrong. -/
theorem wfault_zero {ks : List KV} {W : WV} (hk : Kd.kindsFault (ks.map KV.k) = 0) (hf : Fd.fault W.wide W.high W.gs W.os = 0) (hn : numsBad W = false) (hu : W.us.length ≤ 40) (hus : ∀ (i : Nat) (u : UnV), W.us[i]? = some u → ∃ k, UFine ks W i u k) (hq : W.qs.length ≤ 12) (hqs : ∀ j ∈ W.qs, jobFault ks W j = 0) : wfault ks W = 0 := by
  have h1 : ground ks W = 0 := by unfold ground; rw [if_pos hk, hf]
  have h2 : unitsGo ks W 0 W.us = 0 := (unitsGo_zero W.us 0).2 fun j u hj => by rw [Nat.zero_add]; exact unit_fine.2 (hus j u hj)
  unfold wfault
  rw [if_neg (by rw [h1]; simp), hn, if_neg (by simp), if_neg (by omega), if_neg (by rw [h2]; simp), if_neg (by omega)]
  exact (jobsGo_zero W.qs).2 hqs
end Wd
theorem WRight.fine {ks : List KV} {W : WV} (h : WRight ks W) {i : Nat} {u : UnV} (hu : W.us[i]? = some u) : ∃ k, Wd.UFine ks W i u k := by
  have := (Wd.unitsGo_zero W.us 0).1 h.units i u hu
  rw [Nat.zero_add] at this
  exact Wd.unit_fine.1 this
theorem WRight.job {ks : List KV} {W : WV} (h : WRight ks W) {j : JbV} (hj : j ∈ W.qs) : Wd.jobFault ks W j = 0 := (Wd.jobsGo_zero W.qs).1 h.jobs j hj
theorem WRight.zero {ks : List KV} {W : WV} (h : WRight ks W) : Wd.wfault ks W = 0 := by
  obtain ⟨Wn, Hn, e1, e2, G⟩ := h.good
  exact Wd.wfault_zero h.kinds (by rw [e1, e2]; exact Fd.fault_good G) h.nums h.ul (fun i u hu => h.fine hu) h.ql (fun j hj => h.job hj)
end Go.Proofs.YtagnjmellcibhaaGreatDoor

namespace Go.Proofs.YtagnjmellcibhaaGreatDoor
open Go.RowKit
set_option linter.unusedVariables false

theorem kgo_nums : ∀ {l acc : List Kd.K}, Kd.kindsGo acc l = 0 → ∀ k ∈ l, Kd.numsFault k.nums = 0
  | [], _, _, k, hk => by simp at hk
  | x :: l, acc, h, k, hk => by
    unfold Kd.kindsGo at h
    split at h
    · rename_i h0
      rcases List.mem_cons.1 hk with rfl | hk
      · unfold Kd.kindFault at h0
        split at h0
        · split at h0
          · omega
          · exact h0
        · omega
      · exact kgo_nums h k hk
    · rename_i h0
      exact absurd h h0
/-- kinds that are right. -/
theorem kinds_right {ks : List KV} (h : Kd.kindsFault (ks.map KV.k) = 0) : ks.length ≤ 8 ∧ ∀ k ∈ ks, 0 ≤ k.n5 ∧ k.n5 ≤ 1000 ∧ 0 < k.n0 ∧ k.n0 ≤ 1000 := by
  unfold Kd.kindsFault at h
  split at h
  · omega
  · rename_i h8
    refine ⟨by simpa using h8, fun k hk => ?_⟩
    have := kgo_nums h k.k (List.mem_map.2 ⟨k, hk, rfl⟩)
    unfold Kd.numsFault at this
    split at this
    · omega
    · rename_i h1
      rw [Bool.not_eq_true, List.any_eq_false] at h1
      have a := h1 k.n0 (by simp [KV.k])
      have b := h1 k.n5 (by simp [KV.k])
      simp only [decide_eq_true_eq] at a b
      split at this
      · omega
      · rename_i h2
        have : (k.k.nums).getD 0 0 = k.n0 := rfl
        omega

end Go.Proofs.YtagnjmellcibhaaGreatDoor

namespace Go.Proofs.YtagnjmellcibhaaGreatDoor
set_option linter.unusedVariables false

theorem kind_nums {ks : List KV} (h : Kd.kindsFault (ks.map KV.k) = 0) {k : KV} (hk : k ∈ ks) : 1 ≤ k.n0 ∧ 0 ≤ k.n7 ∧ 0 ≤ k.n4 ∧ k.n4 ≤ 4 ∧ 0 ≤ k.n1 ∧ k.n1 ≤ 1000 ∧ 0 ≤ k.n2 ∧ k.n2 ≤ 12 ∧ 0 ≤ k.n3 ∧ k.n3 ≤ 12 ∧ k.n0 ≤ 1000 ∧ k.n7 ≤ 1000 := by
  unfold Kd.kindsFault at h
  split at h
  · omega
  · have := kgo_nums h k.k (List.mem_map.2 ⟨k, hk, rfl⟩)
    unfold Kd.numsFault at this
    split at this
    · omega
    · rename_i h1
      rw [Bool.not_eq_true, List.any_eq_false] at h1
      have a := h1 k.n0 (by simp [KV.k])
      have b := h1 k.n7 (by simp [KV.k])
      have c := h1 k.n4 (by simp [KV.k])
      have d := h1 k.n1 (by simp [KV.k])
      have e := h1 k.n2 (by simp [KV.k])
      have f := h1 k.n3 (by simp [KV.k])
      simp only [decide_eq_true_eq] at a b c d e f
      split at this
      · omega
      · rename_i h2
        have e0 : (k.k.nums).getD 0 0 = k.n0 := rfl
        have e4 : (k.k.nums).getD 4 0 = k.n4 := rfl
        have e2 : (k.k.nums).getD 2 0 = k.n2 := rfl
        have e3 : (k.k.nums).getD 3 0 = k.n3 := rfl
        omega
theorem find_more {us : List UnV} {n : UnV} {p : UnV → Bool} {u : UnV} (h : us.find? p = some u) : (us ++ [n]).find? p = some u := by
  rw [List.find?_append, h]; rfl
theorem put_right {ks : List KV} {W : WV} {pl kd at_ : Int} (h : WRight ks W) (hp : Wd.placeFault ks W pl kd at_ = 0) : Wd.wfault ks (Wd.put ks W pl kd at_) = 0 := by
  obtain ⟨h40, hpl, hat, kn, k, rfl, hkl, hkk, hop⟩ := pf_zero hp
  have hnu : Wd.newUnit ks W pl (kn : Nat) at_ = ⟨W.next, pl, (kn : Nat), at_, k.n0, 0, 0, 0⟩ := by unfold Wd.newUnit; rw [Int.toNat_natCast, hkk]
  have hn1 : 1 ≤ W.next := by
    have := (nums_ok h.nums).1
    unfold Wd.off at this
    simp at this
    omega
  have hk := kind_nums h.kinds (List.mem_of_getElem? hkk)
  obtain ⟨Wn, Hn, e1, e2, G⟩ := h.good
  unfold Wd.put
  rw [hnu]
  refine Wd.wfault_zero h.kinds (by show Fd.fault W.wide W.high W.gs W.os = 0; rw [e1, e2]; exact Fd.fault_good G) ?_ ?_ ?_ h.ql ?_
  · have hn := h.nums
    unfold Wd.numsBad at hn ⊢
    simp only [Bool.or_eq_false_iff] at hn ⊢
    refine ⟨hn.1, ?_, hn.2.2⟩
    unfold Wd.off
    simp
    omega
  · show (W.us ++ [_]).length ≤ 40
    rw [List.length_append]
    have := h40
    simp only [List.length_cons, List.length_nil]
    omega
  · intro i u hu
    have hu' : (W.us ++ [(⟨W.next, pl, (kn : Nat), at_, k.n0, 0, 0, 0⟩ : UnV)])[i]? = some u := hu
    rcases Nat.lt_or_ge i W.us.length with hi | hi
    · rw [List.getElem?_append_left hi] at hu'
      obtain ⟨k0, f⟩ := h.fine hu'
      refine ⟨k0, ⟨f.id1, ?_, ?_, f.p, f.k0, f.kk, f.life, f.load, f.task, f.at_, f.goal, ?_, f.rest⟩⟩
      · have := f.id2
        show u.id ≤ W.next + 1 - 1
        omega
      · have := f.up
        show Wd.notAbove (W.us ++ [_]) i u = false
        unfold Wd.notAbove at this ⊢
        cases i with
        | zero => rfl
        | succ j =>
          simp only at this ⊢
          rw [List.getElem?_append_left (by omega)]
          exact this
      · show Wd.open_ W.gs ((W.us ++ [_]).take i) u.at_ k0.f = true
        rw [List.take_append_of_le_length (by omega)]
        exact f.opn
    · rw [List.getElem?_append_right hi] at hu'
      have hil : i = W.us.length := by
        rcases Nat.eq_zero_or_pos (i - W.us.length) with h0 | h0
        · omega
        · rw [List.getElem?_eq_none (by simp; omega)] at hu'; cases hu'
      subst hil
      rw [Nat.sub_self] at hu'
      injection hu' with hu'
      subst hu'
      refine ⟨k, ⟨hn1, ?_, ?_, hpl, ⟨by simp, by simp; omega⟩, by simpa using hkk, ⟨hk.1, Int.le_refl _⟩, ⟨Int.le_refl _, hk.2.1⟩, ⟨by simp, by simp⟩, hat, ⟨by simp, Int.lt_of_le_of_lt hat.1 hat.2⟩, ?_, .inl rfl⟩⟩
      · show W.next ≤ W.next + 1 - 1
        omega
      · show Wd.notAbove (W.us ++ [_]) W.us.length _ = false
        unfold Wd.notAbove
        cases hl : W.us.length with
        | zero => rfl
        | succ j =>
          simp only
          rw [List.getElem?_append_left (by omega)]
          cases hx : W.us[j]? with
          | none => rfl
          | some x =>
            obtain ⟨k0, f⟩ := h.fine hx
            have := f.id2
            simp
            omega
      · show Wd.open_ W.gs ((W.us ++ [_]).take W.us.length) at_ k.f = true
        rw [List.take_left]
        exact hop
  · intro j hj
    have := h.job hj
    unfold Wd.jobFault at this ⊢
    cases hx : W.us.find? (fun u => u.id == j.unit) with
    | none => rw [hx] at this; cases this
    | some u =>
      rw [hx] at this
      have hm := find_more (n := (⟨W.next, pl, (kn : Nat), at_, k.n0, 0, 0, 0⟩ : UnV)) hx
      simp only [hm]
      exact this
/-- whoever comes next finds the cell taken. -/
theorem put_taken {ks : List KV} {W : WV} {pl kd at_ : Int} (h : WRight ks W) (hp : Wd.placeFault ks W pl kd at_ = 0) : Wd.putFault ks (Wd.put ks W pl kd at_) pl kd at_ ≠ 0 := by
  unfold Wd.putFault
  rw [if_pos (put_right h hp)]
  intro h0
  obtain ⟨-, -, -, kn, k, hkd, -, -, hop⟩ := pf_zero h0
  unfold Wd.open_ at hop
  have : (Wd.put ks W pl kd at_).us.any (fun u => u.at_ == at_) = true := by
    refine List.any_eq_true.2 ⟨Wd.newUnit ks W pl kd at_, ?_, by simp [Wd.newUnit]⟩
    show _ ∈ W.us ++ [_]
    simp
  rw [this] at hop
  simp at hop
end Go.Proofs.YtagnjmellcibhaaGreatDoor

namespace Go.Proofs.YtagnjmellcibhaaGreatDoor
open Go.RowKit Wy
set_option linter.unusedVariables false

/-- the cell onto which a unit would go next. -/
def WishSays (ks : List KV) (X : WV) (Wn Hn : Nat) (u : UnV) (k : KV) (c : Nat) : Prop :=
  ∃ (an bn : Nat) (l : List Int), u.at_ = an ∧ AimSays ks X Wn Hn u k (bn : Nat) ∧ bn < Wn * Hn ∧ (IsFar (Fd.near Wn Hn) (fun _ j => (X.gs.map fun g => Fd.onto g k.f).getD j 0) bn (Wn * Hn) l ∧ Flat l) ∧
    ((l.getD an 0 < 0 ∧ c = an) ∨ (0 ≤ l.getD an 0 ∧ Nxt (Fd.near Wn Hn) (X.gs.map fun g => Fd.onto g k.f) l bn an c))
theorem nxt_in {Wn Hn : Nat} {gs : List Int} {fl : Bool} {l : List Int} {t i j : Nat} (hW : 0 < Wn) (h : Nxt (Fd.near Wn Hn) (gs.map fun g => Fd.onto g fl) l t i j) (hi : i < Wn * Hn) : j < Wn * Hn := by
  rcases h with ⟨-, rfl⟩ | ⟨-, h⟩
  · exact hi
  · exact (even_to hW gs fl).lt i j hi h.is.1
theorem aim_in {ks : List KV} {X : WV} {Wn Hn : Nat} {u : UnV} {k : KV} {c : Int} (h : AimSays ks X Wn Hn u k c) (hu : Fit ks (Wn * Hn) u) (hus : ∀ h ∈ X.us, Fit ks (Wn * Hn) h) (hg : 0 ≤ u.goal ∧ u.goal < (Wn * Hn : Nat)) : ∃ bn : Nat, c = bn ∧ bn < Wn * Hn := by
  have key : 0 ≤ c ∧ c < (Wn * Hn : Nat) := by
    rcases h with ⟨-, rfl⟩ | ⟨-, -, rfl⟩ | ⟨-, -, l, -, rfl⟩
    · exact hu.2
    · exact hg
    · unfold homeAt
      cases hh : homes ks X.us l u.player with
      | nil => exact hu.2
      | cons x0 tl =>
        have hm := minU_mem (fun h => l.getD h.at_.toNat 0) tl x0
        rw [← hh] at hm
        exact (hus _ (List.mem_filter.1 hm).1).2
  exact ⟨c.toNat, by omega, by omega⟩
set_option maxRecDepth 100000 in
set_option maxHeartbeats 4000000 in
theorem wish_any (vk vw : Value) (ks : List KV) (X : WV) (u : UnV) (Wn Hn : Nat) (k : KV) (w : World) (hk : Kl w vk ks) (hw : Wl w vw X) (hs : Sd w) (G : Fd.Good Wn Hn X.gs X.os) (e1 : X.wide = (Wn : Nat)) (e2 : X.high = (Hn : Nat)) (hl : X.us.length ≤ 1000000)
    (hu : Fit ks (Wn * Hn) u) (hk' : ks[u.kind.toNat]? = some k) (hus : ∀ h ∈ X.us, Fit ks (Wn * Hn) h) (hg : 0 ≤ u.goal ∧ u.goal < (Wn * Hn : Nat)) :
    Calls Tryz.prog 52 #[vk, vw, u.val] w fun e w' => ∃ c : Nat, e = .returned (.int .i64 (c : Nat)) ∧ WishSays ks X Wn Hn u k c ∧ c < Wn * Hn ∧ Below w.heap.size w w' := by
  obtain ⟨kn, hkn⟩ : ∃ n : Nat, u.kind = n := ⟨u.kind.toNat, by have := hu.1; omega⟩
  obtain ⟨an, han⟩ : ∃ n : Nat, u.at_ = n := ⟨u.at_.toNat, by have := hu.2; omega⟩
  have hkl : kn < ks.length := by have := hu.1; omega
  have hkk : ks[kn]? = some k := by rw [hkn, Int.toNat_natCast] at hk'; exact hk'
  have H : Hid (Wl w vw X) := hw
  have K : Hid (Kl w vk ks) := hk
  have S : Hid (Sd w) := hs
  have GD : Hid (Fd.Good Wn Hn X.gs X.os ∧ X.wide = (Wn : Nat) ∧ X.high = (Hn : Nat) ∧ X.us.length ≤ 1000000 ∧ Fit ks (Wn * Hn) u ∧ ks[u.kind.toNat]? = some k ∧ (∀ h ∈ X.us, Fit ks (Wn * Hn) h) ∧ (0 ≤ u.goal ∧ u.goal < (Wn * Hn : Nat)) ∧ an < Wn * Hn) := ⟨G, e1, e2, hl, hu, hk', hus, hg, by have := hu.2; omega⟩
  obtain ⟨p1, q1, p2, q2, p3, q3, p4, q4, p5, q5, rfl⟩ := wl_shape9 hw
  obtain ⟨pk, qk, rfl, ck1, ck2, kc⟩ := hk
  obtain ⟨xk, rfl, hxl, hxc⟩ := kc (by intro h; subst h; simp at hkl)
  have KK : Hid (Kc w (xk.add (kn * 11)) k ∧ (xk.add (kn * 11)).block < w.heap.size) := ⟨hxc kn k hkk, by rw [add_block]; exact hxl⟩
  have HE : Hid (u.kind = (kn : Nat) ∧ u.at_ = (an : Nat)) := ⟨hkn, han⟩
  clear hw hs G e1 e2 hl hu hk' hus hg hkn han kc hxc hxl hkk
  have UV : Hid (u.val = .agg #[.int .i64 u.id, .int .i64 u.player, .int .i64 u.kind, .int .i64 u.at_, .int .i64 u.life, .int .i64 u.load, .int .i64 u.task, .int .i64 u.goal]) := rfl
  rw [UV.out]
  go_enter Tryz.func52, Tryz.ntmps52
  go_upto_region 1 with fail
  have A0 : Hid (Am w ((w.alloc (Obj.cells #[.int .i64 X.turn, .int .i64 X.next, .int .i64 X.wide, .int .i64 X.high, .slice p1 X.gs.length q1, .slice p2 X.os.length q2, .slice p3 X.gold.length q3, .slice p4 X.us.length q4, .slice p5 X.qs.length q5] 29)).alloc (Obj.cells #[.int .i64 u.id, .int .i64 u.player, .int .i64 u.kind, .int .i64 u.at_, .int .i64 u.life, .int .i64 u.load, .int .i64 u.task, .int .i64 u.goal] 59)) X (.slice p1 X.gs.length q1) (.slice p2 X.os.length q2) (.slice p3 X.gold.length q3) (.slice p4 X.us.length q4) (.slice p5 X.qs.length q5) u) := Am.new X _ _ _ _ _ u
  generalize ((w.alloc (Obj.cells #[.int .i64 X.turn, .int .i64 X.next, .int .i64 X.wide, .int .i64 X.high, .slice p1 X.gs.length q1, .slice p2 X.os.length q2, .slice p3 X.gold.length q3, .slice p4 X.us.length q4, .slice p5 X.qs.length q5] 29)).alloc (Obj.cells #[.int .i64 u.id, .int .i64 u.player, .int .i64 u.kind, .int .i64 u.at_, .int .i64 u.life, .int .i64 u.load, .int .i64 u.task, .int .i64 u.goal] 59)) = w0 at *
  have CB : Hid (∀ V, Am w V X (.slice p1 X.gs.length q1) (.slice p2 X.os.length q2) (.slice p3 X.gold.length q3) (.slice p4 X.us.length q4) (.slice p5 X.qs.length q5) u → (Am w V X (.slice p1 X.gs.length q1) (.slice p2 X.os.length q2) (.slice p3 X.gold.length q3) (.slice p4 X.us.length q4) (.slice p5 X.qs.length q5) u ∧ V.cell? ⟨w.heap.size + 1, 3, none⟩ = some (.int .i64 (an : Nat)) ∧ V.cell? ⟨w.heap.size + 1, 2, none⟩ = some (.int .i64 (kn : Nat)) ∧ V.cell? ⟨(xk.add (kn * 11)).block, (xk.add (kn * 11)).off + 9, none⟩ = some (.bool k.f))) := fun V h => ⟨h, by have := h.u.c3; rw [Nat.zero_add, HE.out.2] at this; exact this, by have := h.u.c2; rw [Nat.zero_add, HE.out.1] at this; exact this, (KK.out.1.below h.b KK.out.2).c9⟩
  refine wp_region_two [(true, 0), (true, 1), (true, 2), (true, 3), (true, 4), (true, 5), (true, 6), (true, 8), (true, 9), (true, 10), (true, 11), (true, 12), (true, 13), (false, 7), (false, 14)] [(true, 15), (true, 16), (true, 17), (true, 18), (false, 19)] (fun V => Am w V X (.slice p1 X.gs.length q1) (.slice p2 X.os.length q2) (.slice p3 X.gold.length q3) (.slice p4 X.us.length q4) (.slice p5 X.qs.length q5) u ∧ V.cell? ⟨w.heap.size + 1, 3, none⟩ = some (.int .i64 (an : Nat)) ∧ V.cell? ⟨w.heap.size + 1, 2, none⟩ = some (.int .i64 (kn : Nat)) ∧ V.cell? ⟨(xk.add (kn * 11)).block, (xk.add (kn * 11)).off + 9, none⟩ = some (.bool k.f)) (by kernel_rfl) (by kernel_rfl) (by kernel_rfl) (by decide +kernel) (by decide +kernel) (CB.out _ (A0.out.below ((Below.refl _ _).drew))) ?_
  have A1 : Hid (Am w { w0 with drawn := w0.drawn + 1 } X (.slice p1 X.gs.length q1) (.slice p2 X.os.length q2) (.slice p3 X.gold.length q3) (.slice p4 X.us.length q4) (.slice p5 X.qs.length q5) u) := A0.out.below ((Below.refl _ _).drew)
  generalize ({ w0 with drawn := w0.drawn + 1 } : World) = w1 at *
  clear A0
  refine headT_read rfl (.pointer (some ⟨w.heap.size, 2, none⟩)) (by go_simp) (fun V hV => by go_simp) ?_
  go_simp
  refine headT_read rfl (.agg #[.int .i64 X.wide, .int .i64 X.high, .slice p1 X.gs.length q1, .slice p2 X.os.length q2]) (by go_simp) (fun V hV => by obtain ⟨⟨-, ⟨x0, x1, x2, x3, x4, x5, x6, x7, x8⟩, ⟨y0, y1, y2, y3, y4, y5, y6, y7⟩⟩, ca, ckn, ckf⟩ := hV; go_simp) ?_
  go_simp
  refine headT_read rfl (.pointer (some ⟨w.heap.size + 1, 3, none⟩)) (by go_simp) (fun V hV => by go_simp) ?_
  go_simp
  refine headT_read rfl (.int .i64 (an : Nat)) (by go_simp) (fun V hV => by obtain ⟨-, ca, ckn, ckf⟩ := hV; go_simp) ?_
  go_simp
  refine headT_read rfl (.slice (some xk) ks.length qk) (by go_simp) (fun V hV => by go_simp) ?_
  go_simp
  refine headT_read rfl (.agg #[.int .i64 X.turn, .int .i64 X.next, .int .i64 X.wide, .int .i64 X.high, .slice p1 X.gs.length q1, .slice p2 X.os.length q2, .slice p3 X.gold.length q3, .slice p4 X.us.length q4, .slice p5 X.qs.length q5]) (by go_simp) (fun V hV => by obtain ⟨⟨-, ⟨x0, x1, x2, x3, x4, x5, x6, x7, x8⟩, ⟨y0, y1, y2, y3, y4, y5, y6, y7⟩⟩, ca, ckn, ckf⟩ := hV; go_simp) ?_
  go_simp
  refine headT_read rfl (.agg #[.int .i64 u.id, .int .i64 u.player, .int .i64 u.kind, .int .i64 u.at_, .int .i64 u.life, .int .i64 u.load, .int .i64 u.task, .int .i64 u.goal]) (by go_simp) (fun V hV => by obtain ⟨⟨-, ⟨x0, x1, x2, x3, x4, x5, x6, x7, x8⟩, ⟨y0, y1, y2, y3, y4, y5, y6, y7⟩⟩, ca, ckn, ckf⟩ := hV; go_simp) ?_
  go_simp
  refine headT_read rfl (.slice (some xk) ks.length qk) (by go_simp) (fun V hV => by go_simp) ?_
  go_simp
  refine headT_read rfl (.pointer (some ⟨w.heap.size + 1, 2, none⟩)) (by go_simp) (fun V hV => by go_simp) ?_
  go_simp
  refine headT_read rfl (.int .i64 (kn : Nat)) (by go_simp) (fun V hV => by obtain ⟨-, ca, ckn, ckf⟩ := hV; go_simp) ?_
  go_simp
  refine headT_read rfl (.pointer (some (xk.add (kn * 11)))) (by go_simp) (fun V hV => by go_simp) ?_
  go_simp
  refine headT_read rfl (.pointer (some ⟨(xk.add (kn * 11)).block, (xk.add (kn * 11)).off + 9, none⟩)) (by go_simp) (fun V hV => by go_simp) ?_
  go_simp
  refine headT_read rfl (.bool k.f) (by go_simp) (fun V hV => by obtain ⟨-, ca, ckn, ckf⟩ := hV; go_simp) ?_
  go_simp
  refine headT_call rfl 82 #[.slice (some xk) ks.length qk, .agg #[.int .i64 X.turn, .int .i64 X.next, .int .i64 X.wide, .int .i64 X.high, .slice p1 X.gs.length q1, .slice p2 X.os.length q2, .slice p3 X.gold.length q3, .slice p4 X.us.length q4, .slice p5 X.qs.length q5], .agg #[.int .i64 u.id, .int .i64 u.player, .int .i64 u.kind, .int .i64 u.at_, .int .i64 u.life, .int .i64 u.load, .int .i64 u.task, .int .i64 u.goal]] (by go_simp) (by go_simp) ?_
  have AIM : Hid (Calls Tryz.prog 82 #[.slice (some xk) ks.length qk, .agg #[.int .i64 X.turn, .int .i64 X.next, .int .i64 X.wide, .int .i64 X.high, .slice p1 X.gs.length q1, .slice p2 X.os.length q2, .slice p3 X.gold.length q3, .slice p4 X.us.length q4, .slice p5 X.qs.length q5], .agg #[.int .i64 u.id, .int .i64 u.player, .int .i64 u.kind, .int .i64 u.at_, .int .i64 u.life, .int .i64 u.load, .int .i64 u.task, .int .i64 u.goal]] w1 fun e w' => ∃ c, e = .returned (.int .i64 c) ∧ AimSays ks X Wn Hn u k c ∧ Below w1.heap.size w1 w') := by
    have h := aim_any _ _ ks X u Wn Hn k w1 (K.out.below A1.out.b) (H.out.below A1.out.b) (S.out.below A1.out.b) GD.out.1 GD.out.2.1 GD.out.2.2.1 GD.out.2.2.2.1 GD.out.2.2.2.2.1 GD.out.2.2.2.2.2.1 GD.out.2.2.2.2.2.2.1 GD.out.2.2.2.2.2.2.2.1
    rw [UV.out] at h
    exact h
  refine Calls.mono AIM.out ?_
  rintro e w2 ⟨c0, rfl, ha, hb⟩
  obtain ⟨bn, rfl, hbn⟩ := aim_in ha GD.out.2.2.2.2.1 GD.out.2.2.2.2.2.2.1 GD.out.2.2.2.2.2.2.2.1
  have A2 : Hid (Am w w2 X (.slice p1 X.gs.length q1) (.slice p2 X.os.length q2) (.slice p3 X.gold.length q3) (.slice p4 X.us.length q4) (.slice p5 X.qs.length q5) u) := A1.out.below hb
  have AS : Hid (AimSays ks X Wn Hn u k (bn : Nat) ∧ bn < Wn * Hn) := ⟨ha, hbn⟩
  refine ⟨_, rfl, CB.out _ A2.out, ?_⟩
  clear hb ha hbn AIM A1
  go_simp
  refine headT_call rfl 81 #[.agg #[.int .i64 X.wide, .int .i64 X.high, .slice p1 X.gs.length q1, .slice p2 X.os.length q2], .int .i64 (an : Nat), .int .i64 (bn : Nat), .bool k.f] (by go_simp) (by go_simp) ?_
  have FL : Hid (Fl w2 (.agg #[.int .i64 X.wide, .int .i64 X.high, .slice p1 X.gs.length q1, .slice p2 X.os.length q2]) (Wn : Nat) (Hn : Nat) X.gs X.os) := by
    have := fl_of (H.out.below A2.out.b)
    rw [GD.out.2.1, GD.out.2.2.1] at this
    rw [GD.out.2.1, GD.out.2.2.1]
    exact this
  refine (Next_ok _ Wn Hn X.gs X.os an bn k.f w2 FL.out (S.out.below A2.out.b) GD.out.1 GD.out.2.2.2.2.2.2.2.2 AS.out.2).mono ?_
  rintro e w3 ⟨l, hl, hn, hb⟩
  have A3 : Hid (Am w w3 X (.slice p1 X.gs.length q1) (.slice p2 X.os.length q2) (.slice p3 X.gold.length q3) (.slice p4 X.us.length q4) (.slice p5 X.qs.length q5) u) := A2.out.below hb
  clear hb FL A2
  have NS : Hid (IsFar (Fd.near Wn Hn) (fun _ j => (X.gs.map fun g => Fd.onto g k.f).getD j 0) bn (Wn * Hn) l ∧ Flat l) := hl
  clear hl
  rcases hn with ⟨hlt, rfl⟩ | ⟨hge, j, rfl, hnx⟩
  · have WS : Hid (WishSays ks X Wn Hn u k an) := ⟨an, bn, l, HE.out.2, AS.out.1, AS.out.2, NS.out, .inl ⟨hlt, rfl⟩⟩
    refine ⟨_, rfl, CB.out _ A3.out, ?_⟩
    clear hlt
    go_simp
    refine sched_read rfl (.tuple #[.int .i64 0, .iface 75 (.int .i64 7)]) (by go_simp) (fun V hV => by go_simp) ?_
    go_simp
    refine sched_read rfl (.int .i64 0) (by go_simp) (fun V hV => by go_simp) ?_
    go_simp
    refine sched_read rfl (.iface 75 (.int .i64 7)) (by go_simp) (fun V hV => by go_simp) ?_
    go_simp
    refine sched_read rfl (.int .i64 0) (by go_simp) (fun V hV => by go_simp) ?_
    go_simp
    refine sched_value rfl (.iface 75 (.int .i64 7)) w3 (by go_simp) (by go_simp) trivial ?_
    go_simp
    unfold wpSched
    obtain ⟨-, ca, -, -⟩ := CB.out _ A3.out
    go_wp2
    go_ret
    exact ⟨an, rfl, WS.out, GD.out.2.2.2.2.2.2.2.2, A3.out.b⟩
  · have WS : Hid (WishSays ks X Wn Hn u k j ∧ j < Wn * Hn) := ⟨⟨an, bn, l, HE.out.2, AS.out.1, AS.out.2, NS.out, .inr ⟨hge, hnx⟩⟩, nxt_in GD.out.1.w1 hnx GD.out.2.2.2.2.2.2.2.2⟩
    refine ⟨_, rfl, CB.out _ A3.out, ?_⟩
    clear hge hnx
    go_simp
    refine sched_read rfl (.tuple #[.int .i64 (j : Nat), .nilIface]) (by go_simp) (fun V hV => by go_simp) ?_
    go_simp
    refine sched_read rfl (.int .i64 (j : Nat)) (by go_simp) (fun V hV => by go_simp) ?_
    go_simp
    refine sched_read rfl .nilIface (by go_simp) (fun V hV => by go_simp) ?_
    go_simp
    refine sched_read rfl (.int .i64 (j : Nat)) (by go_simp) (fun V hV => by go_simp) ?_
    go_simp
    refine sched_value rfl .nilIface w3 (by go_simp) (by go_simp) trivial ?_
    go_simp
    unfold wpSched
    go_wp2
    go_ret
    exact ⟨j, rfl, WS.out.1, WS.out.2, A3.out.b⟩
set_option maxHeartbeats 1000000 in
theorem mat_any (u : UnV) (at_ : Int) (b : Nat) (w : World) (hc : w.cell? ⟨b, 0, none⟩ = some (.int .i64 at_)) :
    Calls Tryz.prog 101 #[u.val, .pointer (some ⟨b, 0, none⟩)] w fun e w' => e = .returned (.bool (u.at_ == at_)) ∧ Below w.heap.size w w' := by
  have hb : b < w.heap.size := cell_lt hc
  have hne : b ≠ w.heap.size := by omega
  unfold UnV.val
  go_enter Tryz.func101, Tryz.ntmps101
  go_wp2
  go_ret
  exact ⟨rfl, (Below.refl _ _).alloc (Nat.le_refl _) _⟩
set_option maxRecDepth 100000 in
set_option maxHeartbeats 2000000 in
theorem taken_any (vw : Value) (X : WV) (at_ : Int) (w : World) (hw : Wl w vw X) :
    Calls Tryz.prog 78 #[vw, .int .i64 at_] w fun e w' => e = .returned (.bool (X.us.any (fun u => u.at_ == at_))) ∧ Below w.heap.size w w' := by
  have H : Hid (Wl w vw X) := hw
  obtain ⟨p1, q1, p2, q2, p3, q3, p4, q4, p5, q5, rfl⟩ := wl_shape9 hw
  clear hw
  go_enter Tryz.func78, Tryz.ntmps78
  go_upto_region 1 with fail
  have B0 : Hid (Below w.heap.size w ((w.alloc (Obj.cells #[.int .i64 X.turn, .int .i64 X.next, .int .i64 X.wide, .int .i64 X.high, .slice p1 X.gs.length q1, .slice p2 X.os.length q2, .slice p3 X.gold.length q3, .slice p4 X.us.length q4, .slice p5 X.qs.length q5] 29)).alloc (Obj.cells #[.int .i64 at_] 3))) := ((Below.refl _ _).alloc (Nat.le_refl _) _).alloc (by simp) _
  have C0 : Hid (((w.alloc (Obj.cells #[.int .i64 X.turn, .int .i64 X.next, .int .i64 X.wide, .int .i64 X.high, .slice p1 X.gs.length q1, .slice p2 X.os.length q2, .slice p3 X.gold.length q3, .slice p4 X.us.length q4, .slice p5 X.qs.length q5] 29)).alloc (Obj.cells #[.int .i64 at_] 3)).cell? ⟨w.heap.size + 1, 0, none⟩ = some (.int .i64 at_)) := cell_of_new (by simp) rfl
  have X0 : Hid (Bw ((w.alloc (Obj.cells #[.int .i64 X.turn, .int .i64 X.next, .int .i64 X.wide, .int .i64 X.high, .slice p1 X.gs.length q1, .slice p2 X.os.length q2, .slice p3 X.gold.length q3, .slice p4 X.us.length q4, .slice p5 X.qs.length q5] 29)).alloc (Obj.cells #[.int .i64 at_] 3)) w.heap.size X (.slice p1 X.gs.length q1) (.slice p2 X.os.length q2) (.slice p3 X.gold.length q3) (.slice p4 X.us.length q4) (.slice p5 X.qs.length q5)) := (Bw.mk' X _ _ _ _ _ rfl).below ((Below.refl _ _).alloc (Nat.le_refl _) _) (by simp)
  generalize ((w.alloc (Obj.cells #[.int .i64 X.turn, .int .i64 X.next, .int .i64 X.wide, .int .i64 X.high, .slice p1 X.gs.length q1, .slice p2 X.os.length q2, .slice p3 X.gold.length q3, .slice p4 X.us.length q4, .slice p5 X.qs.length q5] 29)).alloc (Obj.cells #[.int .i64 at_] 3)) = w0 at *
  have c7 := X0.out.c7
  have US : Hid (Unl w (.slice p4 X.us.length q4) X.us) := H.out.slices.2.2.2.1
  go_wp2_with fail
  refine (hasu_any 101 (by intro args w; go_simp) _ #[.pointer (some ⟨w.heap.size + 1, 0, none⟩)] X.us (fun u => u.at_ == at_) w0 (US.out.below B0.out) (fun V hV k => mat_any k at_ (w.heap.size + 1) V (by rw [hV.cell (p := ⟨w.heap.size + 1, 0, none⟩) (cell_lt C0.out)]; exact C0.out))).mono ?_
  rintro e w1 ⟨rfl, hb1⟩
  have B1 : Hid (Below w.heap.size w w1) := B0.out.trans (hb1.mono B0.out.size)
  obtain ⟨m, hm⟩ : ∃ m, X.us.any (fun u => u.at_ == at_) = m := ⟨_, rfl⟩
  have HM : Hid (X.us.any (fun u => u.at_ == at_) = m) := hm
  rw [hm]
  clear hb1 hm c7
  go_wp2
  go_ret
  exact ⟨by rw [HM.out]; rfl, B1.out⟩
/-- what Wish tells. -/
def WisSays (ks : List KV) (X : WV) (i c F : Int) : Prop :=
  (Wd.wfault ks X ≠ 0 ∧ F = Wd.wfault ks X ∧ c = 0) ∨ (Wd.wfault ks X = 0 ∧ ¬ (0 ≤ i ∧ i < (X.us.length : Int)) ∧ F = 6 ∧ c = 0)
  ∨ (Wd.wfault ks X = 0 ∧ F = 0 ∧ ∃ (n cn Wn Hn : Nat) (u : UnV) (k : KV), i = n ∧ c = cn ∧ X.us[n]? = some u ∧ X.wide = (Wn : Nat) ∧ X.high = (Hn : Nat) ∧ Fd.Good Wn Hn X.gs X.os ∧ ks[u.kind.toNat]? = some k ∧ WishSays ks X Wn Hn u k cn ∧ cn < Wn * Hn)
theorem right_fits {ks : List KV} {X : WV} (h : WRight ks X) {Wn Hn : Nat} (G : Fd.Good Wn Hn X.gs X.os) : ∀ u ∈ X.us, Fit ks (Wn * Hn) u ∧ (0 ≤ u.goal ∧ u.goal < (Wn * Hn : Nat)) := by
  intro u hu
  obtain ⟨i, hi⟩ := List.mem_iff_getElem?.1 hu
  obtain ⟨k, f⟩ := h.fine hi
  have h1 := f.at_
  have h2 := f.goal
  rw [G.gl] at h1 h2
  exact ⟨⟨f.k0, h1⟩, h2⟩
end Go.Proofs.YtagnjmellcibhaaGreatDoor

namespace Go.Proofs.YtagnjmellcibhaaGreatDoor
open Go.RowKit
set_option linter.unusedVariables false

structure EvV where
  what : Int
  unit : Int
  arg : Int
def EvV.val (k : EvV) : Value := .agg #[.int .i64 k.what, .int .i64 k.unit, .int .i64 k.arg]
/-- its cells, from an address on. -/
structure Evc (w : World) (y : Addr) (k : EvV) : Prop where
  c0 : w.cell? y = some (.int .i64 k.what)
  c1 : w.cell? ⟨y.block, y.off + 1, none⟩ = some (.int .i64 k.unit)
  c2 : w.cell? ⟨y.block, y.off + 2, none⟩ = some (.int .i64 k.arg)
theorem Evc.lt {w : World} {y : Addr} {k : EvV} (h : Evc w y k) : y.block < w.heap.size := cell_lt h.c0
theorem Evc.below {w w' : World} {y : Addr} {k : EvV} {B : Nat} (h : Evc w y k) (hb : Below B w w') (hy : y.block < B) : Evc w' y k :=
  ⟨by rw [hb.cell (p := y) hy]; exact h.c0, by rw [hb.cell (p := ⟨y.block, y.off + 1, none⟩) hy]; exact h.c1, by rw [hb.cell (p := ⟨y.block, y.off + 2, none⟩) hy]; exact h.c2⟩
/-- v is a slice of them. -/
def Evl (w : World) (v : Value) (ks : List EvV) : Prop := ∃ a c, v = .slice a ks.length c ∧ ks.length ≤ c ∧ c ≤ 9223372036854775807 ∧ (ks ≠ [] → ∃ x, a = some x ∧ x.block < w.heap.size ∧ ∀ (i : Nat) k, ks[i]? = some k → Evc w (x.add (i * 3)) k)
theorem Evl.below {w w' : World} {v : Value} {ks : List EvV} (h : Evl w v ks) (hb : Below w.heap.size w w') : Evl w' v ks := by
  obtain ⟨a, c, h1, h2, h3, h4⟩ := h
  refine ⟨a, c, h1, h2, h3, fun hn => ?_⟩
  obtain ⟨x, e, hx, hk⟩ := h4 hn
  exact ⟨x, e, Nat.lt_of_lt_of_le hx hb.size, fun i k hi => (hk i k hi).below hb (by rw [add_block]; exact hx)⟩
theorem Evc.mk' {w : World} {z : Nat} (k : EvV) (hz : w.heap.size = z) : Evc (w.alloc (.cells #[.int .i64 k.what, .int .i64 k.unit, .int .i64 k.arg] 68)) ⟨z, 0, none⟩ k := by
  subst hz
  constructor <;> simp
end Go.Proofs.YtagnjmellcibhaaGreatDoor

namespace Go.Proofs.YtagnjmellcibhaaGreatDoor
open Go.RowKit
set_option linter.unusedVariables false

theorem info_ev : (Tryz.prog.info? 68).map (fun i => (i.zero, i.size, i.bytes)) = some (some (.agg #[.int .i64 0, .int .i64 0, .int .i64 0]), 3, 24) := by kernel_rfl
def EvV.cs (k : EvV) : List Value := [.int .i64 k.what, .int .i64 k.unit, .int .i64 k.arg]
theorem flat_ev : ∀ (ks : List EvV) (i j : Nat) (k : EvV), ks[i]? = some k → j < 3 → (ks.flatMap EvV.cs)[i * 3 + j]? = k.cs[j]?
  | [], i, j, k, h, _ => by simp at h
  | x :: ks, 0, j, k, h, hj => by
    simp at h
    subst h
    rw [List.flatMap_cons, List.getElem?_append_left (by simp [EvV.cs]; omega)]
    simp
  | x :: ks, i + 1, j, k, h, hj => by
    rw [List.flatMap_cons, List.getElem?_append_right (by simp [EvV.cs]; omega)]
    have : (i + 1) * 3 + j - (EvV.cs x).length = i * 3 + j := by simp [EvV.cs]; omega
    rw [this]
    exact flat_ev ks i j k (by simpa using h) hj
/-- v is a slice of them, in a block of its own from base on. -/
def Evo (w : World) (base : Nat) (v : Value) (ks : List EvV) : Prop := w.ownsRow base 68 3 v ks.length (ks.flatMap EvV.cs)
theorem Evo.nil (w : World) (base : Nat) : Evo w base (.slice none 0 0) [] := World.ownsRow_nil _ _ _ _
theorem Evo.below {w w' : World} {base : Nat} {v : Value} {ks : List EvV} (h : Evo w base v ks) (hb : Below w.heap.size w w') : Evo w' base v ks :=
  World.ownsRow.kept h (row := none) ⟨hb.os, hb.tape, hb.output, hb.size, fun k hk _ => hb.block k hk⟩ (by cases v.ownBlock <;> simp)
theorem Evo.kept {w w' : World} {base : Nat} {v : Value} {ks : List EvV} {row : Option Nat} (h : Evo w base v ks) (hg : w.grownBy w' row) (hne : v.ownBlock = none ∨ v.ownBlock ≠ row) : Evo w' base v ks := World.ownsRow.kept h hg hne
theorem Evo.alloc {w : World} {base : Nat} {v : Value} {ks : List EvV} (h : Evo w base v ks) (o : Obj) : Evo (w.alloc o) base v ks := World.ownsRow.alloc h o
theorem Evo.block {w : World} {base : Nat} {v : Value} {ks : List EvV} (h : Evo w base v ks) : ∀ k, v.ownBlock = some k → base ≤ k ∧ k < w.heap.size := World.ownsRow.lt h
theorem Evo.mono {w : World} {base base' : Nat} {v : Value} {ks : List EvV} (h : Evo w base v ks) (hb : base' ≤ base) : Evo w base' v ks := by
  refine ⟨h.1, ?_⟩
  rcases h.2 with h1 | ⟨g, cap, cur, h1, h2, h3⟩
  · exact .inl h1
  · exact .inr ⟨g, cap, cur, h1, Nat.le_trans hb h2, h3⟩
theorem Evo.l {w : World} {base : Nat} {v : Value} {ks : List EvV} (h : Evo w base v ks) : Evl w v ks := by
  rcases h.2 with ⟨hv, h0⟩ | ⟨g, cap, cur, hv, hb, hg, h1, h2, h3, h4⟩
  · exact ⟨none, 0, by rw [hv, h0], by omega, by omega, fun hn => absurd (List.length_eq_zero_iff.1 h0) hn⟩
  · refine ⟨_, cap, hv, h1, by unfold maxLen at h2; omega, fun _ => ⟨_, rfl, lt_of_block hg, fun i k hi => ?_⟩⟩
    have hil : i < ks.length := (List.getElem?_eq_some_iff.1 hi).1
    have h5 : w.ownsRow base 68 3 (.slice (some ⟨g, 0, none⟩) ks.length cap) ks.length (ks.flatMap EvV.cs) := by rw [← hv]; exact h
    have hc : ∀ j u, j < 3 → k.cs[j]? = some u → w.cell? ⟨g, i * 3 + j, none⟩ = some u := fun j u hj hu => by
      rw [h5.cellAt (i * 3 + j) (by omega), flat_ev ks i j k hi hj, hu]
    rw [Addr.add_lit, Nat.zero_add]
    exact ⟨hc 0 _ (by decide) rfl, hc 1 _ (by decide) rfl, hc 2 _ (by decide) rfl⟩
theorem Evo.len {w : World} {base : Nat} {v : Value} {ks : List EvV} (h : Evo w base v ks) : ∃ a c, v = .slice a ks.length c := by
  obtain ⟨a, c, h1, -⟩ := h.l
  exact ⟨a, c, h1⟩

/-- one more. -/
theorem app_ev {ops : Array Oper} {rest : List Oper} {o : Oper} {a : Act} {Q : Exit → Act → World → Prop} (w : World) (hgd : o.guard = none) (s x : Operand)
    (ho : o.op = .call { callee := .builtin .append, args := #[s, x], argTypes := #[31, 31] }) (base : Nat) (v : Value) (ks : List EvV) (hs : a.eval s = v) (hown : Evo w base v ks)
    (b : Nat) (d : EvV) (hx : a.eval x = .slice (some ⟨b, 0, none⟩) 1 1) (hd : Evc w ⟨b, 0, none⟩ d) (hl : ks.length ≤ 1000000) (hbase : base ≤ w.heap.size)
    (h : ∀ g cap w', Evo w' base (.slice (some ⟨g, 0, none⟩) (ks.length + 1) cap) (ks ++ [d]) → w.grownBy w' v.ownBlock → (v.ownBlock = some g ∨ g = w.heap.size) → g < w'.heap.size → wpList Tryz.prog ops Q rest (a.put o.dst (.slice (some ⟨g, 0, none⟩) (ks.length + 1) cap)) w') :
    wpList Tryz.prog ops Q (o :: rest) a w := by
  obtain ⟨i0, hi, hz0, hz1, hz2⟩ := info_parts info_ev
  refine wpList_append_lies w hgd s x 31 ho base 68 i0 (.agg #[.int .i64 0, .int .i64 0, .int .i64 0]) 3 24 Tryz.underlying31 hi hz0 hz1 hz2 rfl (by decide) v ks.length _ hs hown ⟨b, 0, none⟩ 1 1 d.cs hx rfl ?_ ?_ (by decide) (by unfold maxLen; omega) (by omega) hbase _ rfl ?_
  · intro j u hj
    have hjn : j < 3 := (List.getElem?_eq_some_iff.1 hj).1
    rw [Addr.add_lit, Nat.zero_add]
    match j, hjn, hj with
    | 0, _, hj => simp [EvV.cs] at hj; subst hj; exact hd.c0
    | 1, _, hj => simp [EvV.cs] at hj; subst hj; exact hd.c1
    | 2, _, hj => simp [EvV.cs] at hj; subst hj; exact hd.c2
  · intro u hu
    simp [EvV.cs] at hu
    rcases hu with rfl | rfl | rfl <;> rfl
  · intro g cap w' h1 h2 h3 h4
    refine h g cap w' ?_ h2 h3 h4
    unfold Evo
    rw [List.length_append, List.flatMap_append]
    simpa using h1
end Go.Proofs.YtagnjmellcibhaaGreatDoor

namespace Go.Proofs.YtagnjmellcibhaaGreatDoor
open Go.RowKit
set_option linter.unusedVariables false

theorem gb_trans {a b c : World} {r : Option Nat} (h : a.grownBy b r) (k : b.grownBy c r) : a.grownBy c r :=
  ⟨k.os.trans h.os, k.tape.trans h.tape, k.output.trans h.output, Nat.le_trans h.size k.size, fun i hi hr => (k.block i (Nat.lt_of_lt_of_le hi h.size) hr).trans (h.block i hi hr)⟩
theorem gb_below {a b : World} {r : Option Nat} (h : Below a.heap.size a b) : a.grownBy b r := ⟨h.os, h.tape, h.output, h.size, fun k hk _ => h.block k hk⟩
theorem gb_kp {a b : World} {z : Nat} (h : Kp z a b) : a.grownBy b (some z) := ⟨h.os, h.tape, h.output, h.size, fun k hk hn => h.block k hk (fun e => hn (by rw [e]))⟩
theorem kp_gb {z : Nat} {a b c : World} {r : Option Nat} (h : Kp z a b) (g : b.grownBy c r) (hr : ∀ k, r = some k → a.heap.size ≤ k) : Kp z a c :=
  ⟨g.os.trans h.os, g.tape.trans h.tape, g.output.trans h.output, Nat.le_trans h.size g.size, fun i hi hz => (g.block i (Nat.lt_of_lt_of_le hi h.size) (fun e => by have := hr i e.symm; omega)).trans (h.block i hi hz)⟩
theorem cell_kp9 {w w' : World} {z : Nat} {p : Addr} {u : Value} (h : w.cell? p = some u) (k : Kp z w w') (hz : p.block ≠ z) : w'.cell? p = some u := by
  rw [World.cell?_of_block (k.block p.block (cell_lt h) hz)]; exact h
theorem Bw.kp9 {w w' : World} {z y : Nat} {W : WV} {u1 u2 u3 u4 u5 : Value} (h : Bw w z W u1 u2 u3 u4 u5) (k : Kp y w w') (hn : z ≠ y) : Bw w' z W u1 u2 u3 u4 u5 :=
  ⟨cell_kp9 h.c0 k hn, cell_kp9 h.c1 k hn, cell_kp9 h.c2 k hn, cell_kp9 h.c3 k hn, cell_kp9 h.c4 k hn, cell_kp9 h.c5 k hn, cell_kp9 h.c6 k hn, cell_kp9 h.c7 k hn, cell_kp9 h.c8 k hn⟩
theorem Unc.kp9 {w w' : World} {z : Nat} {y : Addr} {u : UnV} (h : Unc w y u) (k : Kp z w w') (hn : y.block ≠ z) : Unc w' y u :=
  ⟨cell_kp9 h.c0 k hn, cell_kp9 h.c1 k hn, cell_kp9 h.c2 k hn, cell_kp9 h.c3 k hn, cell_kp9 h.c4 k hn, cell_kp9 h.c5 k hn, cell_kp9 h.c6 k hn, cell_kp9 h.c7 k hn⟩
theorem cell_gb {w w' : World} {r : Option Nat} {p : Addr} {u : Value} (h : w.cell? p = some u) (k : w.grownBy w' r) (hz : r ≠ some p.block) : w'.cell? p = some u := by
  rw [World.cell?_of_block (k.block p.block (cell_lt h) (fun e => hz e.symm))]; exact h
theorem Unc.gb {w w' : World} {r : Option Nat} {y : Addr} {u : UnV} (h : Unc w y u) (k : w.grownBy w' r) (hn : r ≠ some y.block) : Unc w' y u :=
  ⟨cell_gb h.c0 k hn, cell_gb h.c1 k hn, cell_gb h.c2 k hn, cell_gb h.c3 k hn, cell_gb h.c4 k hn, cell_gb h.c5 k hn, cell_gb h.c6 k hn, cell_gb h.c7 k hn⟩
theorem wx_bw {w : World} {z : Nat} {X : WV} {u1 u2 u3 u4 u5 : Value} (h : Wx w z (.int .i64 X.turn) (.int .i64 X.next) (.int .i64 X.wide) (.int .i64 X.high) u1 u2 u3 u4 u5) : Bw w z X u1 u2 u3 u4 u5 := by
  obtain ⟨h0, h1, h2, h3, h4, h5, h6, h7, h8⟩ := h.cells
  exact ⟨h0, h1, h2, h3, h4, h5, h6, h7, h8⟩
theorem own_low {w w' : World} {B base : Nat} {T : TypeId} {size : Nat} {u : Value} {n : Nat} {cs : List Value} (h : w.ownsRow base T size u n cs) (k : Below B w w') (hz : ∀ b, u.ownBlock = some b → b < B) : w'.ownsRow base T size u n cs := by
  refine ⟨h.1, ?_⟩
  rcases h.2 with h1 | ⟨g, cap, cur, h1, h2, h3, h4⟩
  · exact .inl h1
  · exact .inr ⟨g, cap, cur, h1, h2, (k.block g (hz g (by rw [h1]; rfl))).trans h3, h4⟩
theorem own_gb {w w' : World} {base : Nat} {T : TypeId} {size : Nat} {u : Value} {n : Nat} {cs : List Value} {r : Option Nat} (h : w.ownsRow base T size u n cs) (k : w.grownBy w' r) (hz : ∀ b, u.ownBlock = some b → r ≠ some b) : w'.ownsRow base T size u n cs := by
  refine ⟨h.1, ?_⟩
  rcases h.2 with h1 | ⟨g, cap, cur, h1, h2, h3, h4⟩
  · exact .inl h1
  · exact .inr ⟨g, cap, cur, h1, h2, (k.block g (lt_of_block h3) (fun e => hz g (by rw [h1]; rfl) e.symm)).trans h3, h4⟩
theorem kind_new {w : World} {z : Nat} (k : KV) (hz : w.heap.size = z) : Kc (w.alloc (Obj.cells #[.string k.b, .int .i64 k.n0, .int .i64 k.n1, .int .i64 k.n2, .int .i64 k.n3, .int .i64 k.n4, .int .i64 k.n5, .int .i64 k.n6, .int .i64 k.n7, .bool k.f, .bool k.t] 61)) ⟨z, 0, none⟩ k := by
  subst hz
  exact ⟨by simp, by simp, by simp, by simp, by simp, by simp, by simp, by simp, by simp, by simp, by simp⟩
theorem Kc.kp9 {w w' : World} {z : Nat} {y : Addr} {k : KV} (h : Kc w y k) (q : Kp z w w') (hn : y.block ≠ z) : Kc w' y k :=
  ⟨cell_kp9 h.c0 q hn, cell_kp9 h.c1 q hn, cell_kp9 h.c2 q hn, cell_kp9 h.c3 q hn, cell_kp9 h.c4 q hn, cell_kp9 h.c5 q hn, cell_kp9 h.c6 q hn, cell_kp9 h.c7 q hn, cell_kp9 h.c8 q hn, cell_kp9 h.c9 q hn, cell_kp9 h.c10 q hn⟩
theorem kc_of {w : World} {xk : Addr} {n q kn : Nat} {ks : List KV} {k : KV} (h : Kl w (.slice (some xk) n q) ks) (hk : ks[kn]? = some k) : Kc w (xk.add (kn * 11)) k := by
  obtain ⟨a, c, he, -, -, hc⟩ := h
  obtain ⟨x, hx, -, hxc⟩ := hc (by intro h; rw [h] at hk; simp at hk)
  injection he with he
  rw [← he] at hx
  injection hx with hx
  rw [hx]
  exact hxc kn k hk
end Go.Proofs.YtagnjmellcibhaaGreatDoor

namespace Go.Proofs.YtagnjmellcibhaaGreatDoor
open Go.RowKit
set_option linter.unusedVariables false

theorem Evo.kp9 {w w' : World} {base z : Nat} {v : Value} {ks : List EvV} (h : Evo w base v ks) (k : Kp z w w') (hz : z < base) : Evo w' base v ks := owns_kp h k hz
end Go.Proofs.YtagnjmellcibhaaGreatDoor

namespace Go.Proofs.YtagnjmellcibhaaGreatDoor
open Go.RowKit Wy
set_option linter.unusedVariables false

/-- a unit goes as far as it can: what it has left, the cells, and all units then. -/
inductive Goes (ks : List KV) (X : WV) (Wn Hn : Nat) (k : KV) (i : Nat) : List UnV → Int → List Int → List UnV → Prop where
  | stop {us : List UnV} {left : Int} {u : UnV} {c : Nat} {gg : Int} (hu : us[i]? = some u) (hw : WishSays ks { X with us := us } Wn Hn u k c) (hg : X.gs[c]? = some gg) (h : left < Fd.onto gg k.f ∨ us.any (fun o => o.at_ == (c : Int)) = true) : Goes ks X Wn Hn k i us left [] us
  | step {us us' : List UnV} {left : Int} {u : UnV} {c : Nat} {gg : Int} {cells : List Int} (hu : us[i]? = some u) (hw : WishSays ks { X with us := us } Wn Hn u k c) (hg : X.gs[c]? = some gg) (h1 : ¬ left < Fd.onto gg k.f) (h2 : us.any (fun o => o.at_ == (c : Int)) = false) (h3 : Goes ks X Wn Hn k i (us.set i { u with at_ := (c : Nat) }) (left - Fd.onto gg k.f) cells us') : Goes ks X Wn Hn k i us left ((c : Int) :: cells) us'
theorem wish_pos {ks : List KV} {X : WV} {Wn Hn : Nat} {u : UnV} {k : KV} {c : Nat} {gg : Int} (h : WishSays ks X Wn Hn u k c) (hg : X.gs[c]? = some gg) (hc : u.at_ ≠ (c : Nat)) : 0 < Fd.onto gg k.f := by
  obtain ⟨an, bn, l, ha, -, -, -, hh⟩ := h
  rcases hh with ⟨-, rfl⟩ | ⟨-, h⟩
  · exact absurd ha hc
  · rcases h with ⟨-, rfl⟩ | ⟨-, h⟩
    · exact absurd ha hc
    · have := h.is.2.1
      rw [List.getD_eq_getElem?_getD, List.getElem?_map, hg] at this
      exact this
set_option maxRecDepth 100000 in
set_option maxHeartbeats 16000000 in
theorem walk_any (vk : Value) (ks : List KV) (X : WV) (us : List UnV) (g1 g2 g3 g5 : Value) (g cap i : Nat) (rest : List Value) (u : UnV) (k : KV) (Wn Hn : Nat) (w : World) (hk : Kl w vk ks) (hs : Sd w) (G : Fd.Good Wn Hn X.gs X.os) (e1 : X.wide = (Wn : Nat)) (e2 : X.high = (Hn : Nat))
    (hst : ∀ V us', us'.length = us.length → Kp g w V → Ub V g us' rest → Wl V (.agg #[.int .i64 X.turn, .int .i64 X.next, .int .i64 X.wide, .int .i64 X.high, g1, g2, g3, .slice (some ⟨g, 0, none⟩) us.length cap, g5]) { X with us := us' } ∧ Kl V vk ks ∧ Sd V) (hub : Ub w g us rest) (hui : us[i]? = some u) (hkk : ks[u.kind.toNat]? = some k) (hul : us.length ≤ 40) (hus : ∀ h ∈ us, Fit ks (Wn * Hn) h) (hg : 0 ≤ u.goal ∧ u.goal < (Wn * Hn : Nat)) (hsp : 0 ≤ k.n4 ∧ k.n4 ≤ 4) :
    Calls Tryz.prog 49 #[vk, .agg #[.int .i64 X.turn, .int .i64 X.next, .int .i64 X.wide, .int .i64 X.high, g1, g2, g3, .slice (some ⟨g, 0, none⟩) us.length cap, g5], .pointer (some ⟨g, i * 8, none⟩)] w fun e w' => ∃ v us' cells, e = .returned v ∧ Ow w' w.heap.size v cells ∧ Goes ks X Wn Hn k i us k.n4 cells us' ∧ Ub w' g us' rest ∧ Kp g w w' ∧ cells.length ≤ 4 ∧ (∃ a, us' = us.set i { u with at_ := a } ∧ 0 ≤ a ∧ a < (Wn * Hn : Nat)) := by
  have hil : i < us.length := (List.getElem?_eq_some_iff.1 hui).1
  have hfu := hus u (List.mem_of_getElem? hui)
  obtain ⟨kn, hkn⟩ : ∃ n : Nat, u.kind = n := ⟨u.kind.toNat, by have := hfu.1; omega⟩
  have hkk' : ks[kn]? = some k := by rw [hkn, Int.toNat_natCast] at hkk; exact hkk
  have hkl : kn < ks.length := (List.getElem?_eq_some_iff.1 hkk').1
  have K : Hid (Kl w vk ks) := hk
  have S : Hid (Sd w) := hs
  have GD : Hid (Fd.Good Wn Hn X.gs X.os ∧ X.wide = (Wn : Nat) ∧ X.high = (Hn : Nat) ∧ ks[u.kind.toNat]? = some k ∧ us.length ≤ 40 ∧ (∀ h ∈ us, Fit ks (Wn * Hn) h) ∧ (0 ≤ u.goal ∧ u.goal < (Wn * Hn : Nat)) ∧ us[i]? = some u ∧ Fit ks (Wn * Hn) u ∧ i < us.length) := ⟨G, e1, e2, hkk, hul, hus, hg, hui, hfu, hil⟩
  have ST : Hid (∀ V us', us'.length = us.length → Kp g w V → Ub V g us' rest → Wl V (.agg #[.int .i64 X.turn, .int .i64 X.next, .int .i64 X.wide, .int .i64 X.high, g1, g2, g3, .slice (some ⟨g, 0, none⟩) us.length cap, g5]) { X with us := us' } ∧ Kl V vk ks ∧ Sd V) := hst
  have UB : Hid (Ub w g us rest ∧ g < w.heap.size) := ⟨hub, hub.lt⟩
  obtain ⟨pk, qk, rfl, ck1, ck2, kc⟩ := hk
  obtain ⟨xk, rfl, hxl, hxc⟩ := kc (by intro h; subst h; simp at hkl)
  have KK : Hid (Kc w (xk.add (kn * 11)) k ∧ (xk.add (kn * 11)).block < w.heap.size) := ⟨hxc kn k hkk', by rw [add_block]; exact hxl⟩
  have HE : Hid (u.kind = (kn : Nat)) := hkn
  have SP : Hid (0 ≤ k.n4 ∧ k.n4 ≤ 4) := hsp
  clear hs G e1 e2 hst hub hui hkk hus hg hsp hkn hkk' kc hxc hxl hfu
  go_enter Tryz.func49, Tryz.ntmps49
  go_upto_region 2 with fail
  have B0 : Hid (Below w.heap.size w (w.alloc (Obj.cells #[.int .i64 X.turn, .int .i64 X.next, .int .i64 X.wide, .int .i64 X.high, g1, g2, g3, .slice (some ⟨g, 0, none⟩) us.length cap, g5] 29))) := (Below.refl _ _).alloc (Nat.le_refl _) _
  have X0 : Hid (Bw (w.alloc (Obj.cells #[.int .i64 X.turn, .int .i64 X.next, .int .i64 X.wide, .int .i64 X.high, g1, g2, g3, .slice (some ⟨g, 0, none⟩) us.length cap, g5] 29)) w.heap.size X (g1) (g2) (g3) (.slice (some ⟨g, 0, none⟩) us.length cap) (g5)) := Bw.mk' X _ _ _ _ _ rfl
  have Z0 : Hid ((w.alloc (Obj.cells #[.int .i64 X.turn, .int .i64 X.next, .int .i64 X.wide, .int .i64 X.high, g1, g2, g3, .slice (some ⟨g, 0, none⟩) us.length cap, g5] 29)).heap.size = w.heap.size + 1) := by unfold Hid; simp
  generalize (w.alloc (Obj.cells #[.int .i64 X.turn, .int .i64 X.next, .int .i64 X.wide, .int .i64 X.high, g1, g2, g3, .slice (some ⟨g, 0, none⟩) us.length cap, g5] 29)) = w0 at *
  have U0 : Hid (Ub w0 g us rest) := UB.out.1.below B0.out UB.out.2
  obtain ⟨z0, z1, z2, z3, z4, z5, z6, z7, z8, z9, z10⟩ := KK.out.1.below B0.out KK.out.2
  have y2 : w0.cell? ⟨g, i * 8 + 2, none⟩ = some (.int .i64 (kn : Nat)) := by have := (U0.out.unc GD.out.2.2.2.2.2.2.2.1).c2; rw [HE.out] at this; exact this
  go_upto_region 3 with fail
  have BK : Hid (Below w0.heap.size w0 (w0.alloc (Obj.cells #[.string k.b, .int .i64 k.n0, .int .i64 k.n1, .int .i64 k.n2, .int .i64 k.n3, .int .i64 k.n4, .int .i64 k.n5, .int .i64 k.n6, .int .i64 k.n7, .bool k.f, .bool k.t] 61))) := (Below.refl _ _).alloc (Nat.le_refl _) _
  have K1 : Hid (Kc (w0.alloc (Obj.cells #[.string k.b, .int .i64 k.n0, .int .i64 k.n1, .int .i64 k.n2, .int .i64 k.n3, .int .i64 k.n4, .int .i64 k.n5, .int .i64 k.n6, .int .i64 k.n7, .bool k.f, .bool k.t] 61)) ⟨w.heap.size + 1, 0, none⟩ k) := kind_new k Z0.out
  have Z1 : Hid ((w0.alloc (Obj.cells #[.string k.b, .int .i64 k.n0, .int .i64 k.n1, .int .i64 k.n2, .int .i64 k.n3, .int .i64 k.n4, .int .i64 k.n5, .int .i64 k.n6, .int .i64 k.n7, .bool k.f, .bool k.t] 61)).heap.size = w.heap.size + 2) := by have := Z0.out; unfold Hid; simp; omega
  rw [Z0.out]
  generalize (w0.alloc (Obj.cells #[.string k.b, .int .i64 k.n0, .int .i64 k.n1, .int .i64 k.n2, .int .i64 k.n3, .int .i64 k.n4, .int .i64 k.n5, .int .i64 k.n6, .int .i64 k.n7, .bool k.f, .bool k.t] 61)) = w1 at *
  have B1 : Hid (Below w.heap.size w w1) := B0.out.trans (BK.out.mono B0.out.size)
  have X1 : Hid (Bw w1 w.heap.size X (g1) (g2) (g3) (.slice (some ⟨g, 0, none⟩) us.length cap) (g5)) := X0.out.below BK.out X0.out.lt
  have U1 : Hid (Ub w1 g us rest) := U0.out.below BK.out U0.out.lt
  clear z0 z1 z2 z3 z4 z5 z6 z7 z8 z9 z10 y2 B0 X0 Z0 U0 BK
  have c5 : w1.cell? ⟨w.heap.size + 1, 5, none⟩ = some (.int .i64 k.n4) := by have := K1.out.c5; rw [Nat.zero_add] at this; exact this
  go_upto_region 4 with fail
  clear c5
  go_loopw [7, 9] (fun v7 v9 V => ∃ (a left : Int) (cells : List Int) (cv : Value), cv = v7 ∧ v9 = .int .i64 left ∧ 0 ≤ left ∧ (cells.length : Int) + left ≤ 4 ∧ (0 ≤ a ∧ a < (Wn * Hn : Nat)) ∧ Ub V g (us.set i { u with at_ := a }) rest ∧ Ow V w1.heap.size cv cells ∧ Kp g w1 V ∧ (∀ cells' us', Goes ks X Wn Hn k i (us.set i { u with at_ := a }) left cells' us' → Goes ks X Wn Hn k i us k.n4 (cells ++ cells') us')) (fun _ v9 _ => (intOf v9).toNat)
  case atStart =>
    have hset : us.set i { u with at_ := u.at_ } = us := by
      have h1 := GD.out.2.2.2.2.2.2.2.1
      obtain ⟨h2, h3⟩ := List.getElem?_eq_some_iff.1 h1
      have : ({ u with at_ := u.at_ } : UnV) = us[i] := by rw [h3]
      rw [this, List.set_getElem_self]
    exact ⟨u.at_, k.n4, [], _, rfl, rfl, SP.out.1, by have := SP.out.2; simp; omega, GD.out.2.2.2.2.2.2.2.2.1.2, by rw [hset]; exact U1.out, Ow.nil _ _, Kp.refl _ _, fun cells' us' h => by rw [hset] at h; exact h⟩
  case round =>
    obtain ⟨a, left, cells, cv, rfl, rfl, hl0, hcl, hab, hub, how, hkp, hgo⟩ := hrel
    obtain ⟨us1, hus1⟩ : ∃ l, us.set i { u with at_ := a } = l := ⟨_, rfl⟩
    obtain ⟨u1, hu1⟩ : ∃ v : UnV, { u with at_ := a } = v := ⟨_, rfl⟩
    have hi1 : us1[i]? = some u1 := by rw [← hus1, hu1, List.getElem?_set_self GD.out.2.2.2.2.2.2.2.2.2]
    have hln : us1.length = us.length := by rw [← hus1, List.length_set]
    have F1 : Hid (us1[i]? = some u1 ∧ us1.length = us.length ∧ { u with at_ := a } = u1 ∧ us.set i { u with at_ := a } = us1 ∧ Fit ks (Wn * Hn) u1 ∧ (∀ h ∈ us1, Fit ks (Wn * Hn) h) ∧ ks[u1.kind.toNat]? = some k ∧ (0 ≤ u1.goal ∧ u1.goal < (Wn * Hn : Nat))) := by
      have hf : Fit ks (Wn * Hn) u1 := by rw [← hu1]; exact ⟨GD.out.2.2.2.2.2.2.2.2.1.1, hab⟩
      refine ⟨hi1, hln, hu1, hus1, hf, fun h hh => ?_, by rw [← hu1]; exact GD.out.2.2.2.1, by rw [← hu1]; exact GD.out.2.2.2.2.2.2.1⟩
      rw [← hus1] at hh
      rcases List.mem_or_eq_of_mem_set hh with hh | hh
      · exact GD.out.2.2.2.2.2.1 h hh
      · rw [hh, hu1]; exact hf
    rw [hus1] at hub hgo
    have UB1 : Hid (Ub wr g us1 rest) := hub
    have OC : Hid (Ow wr w1.heap.size cv cells) := how
    have KP : Hid (Kp g w1 wr) := hkp
    have KW : Hid (Kp g w wr) := (Kp.of B1.out).trans hkp
    have HG : Hid (∀ cells' us', Goes ks X Wn Hn k i us1 left cells' us' → Goes ks X Wn Hn k i us k.n4 (cells ++ cells') us') := hgo
    have XR : Hid (Bw wr w.heap.size X (g1) (g2) (g3) (.slice (some ⟨g, 0, none⟩) us.length cap) (g5)) := X1.out.kp9 hkp (by have := UB.out.2; omega)
    have KR : Hid (Kc wr ⟨w.heap.size + 1, 0, none⟩ k) := K1.out.kp9 hkp (by have := UB.out.2; show w.heap.size + 1 ≠ g; omega)
    clear hub how hkp hgo hus1 hu1 hi1 hln hab
    have hcl3 : cells.length ≤ 4 := by omega
    have WL : Hid (∀ V, Below wr.heap.size wr V → Wl V (.agg #[.int .i64 X.turn, .int .i64 X.next, .int .i64 X.wide, .int .i64 X.high, g1, g2, g3, .slice (some ⟨g, 0, none⟩) us.length cap, g5]) { X with us := us1 } ∧ Kl V (.slice (some xk) ks.length qk) ks ∧ Sd V) := fun V hb => by
      have hkv : Kp g w V := KW.out.trans (Kp.of hb)
      exact ST.out V us1 F1.out.2.1 hkv (UB1.out.below hb UB1.out.lt)
    have C4 : Hid (∀ V, Below wr.heap.size wr V → (Bw V w.heap.size X (g1) (g2) (g3) (.slice (some ⟨g, 0, none⟩) us.length cap) (g5) ∧ Unc V ⟨g, i * 8, none⟩ u1)) := fun V hb => ⟨XR.out.below hb XR.out.lt, (UB1.out.below hb UB1.out.lt).unc F1.out.1⟩
    have DR : Hid (Below wr.heap.size wr { wr with drawn := wr.drawn + 1 }) := (Below.refl _ _).drew
    go_upto_region 4 with fail
    refine wp_region_two [(true, 0), (true, 1), (true, 2), (true, 3), (true, 4), (false, 5)] [(false, 6)] (fun V => Bw V w.heap.size X (g1) (g2) (g3) (.slice (some ⟨g, 0, none⟩) us.length cap) (g5) ∧ Unc V ⟨g, i * 8, none⟩ u1) (by kernel_rfl) (by kernel_rfl) (by kernel_rfl) (by decide +kernel) (by decide +kernel) (C4.out _ DR.out) ?_
    generalize ({ wr with drawn := wr.drawn + 1 } : World) = v1 at *
    refine headT_read rfl (.slice (some xk) ks.length qk) (by go_simp) (fun V hV => by go_simp) ?_
    go_simp
    refine headT_read rfl (.agg #[.int .i64 X.turn, .int .i64 X.next, .int .i64 X.wide, .int .i64 X.high, g1, g2, g3, .slice (some ⟨g, 0, none⟩) us.length cap, g5]) (by go_simp) (fun V hV => by obtain ⟨⟨x0, x1, x2, x3, x4, x5, x6, x7, x8⟩, ⟨y0, y1, y2, y3, y4, y5, y6, y7⟩⟩ := hV; go_simp) ?_
    go_simp
    refine headT_read rfl (.pointer (some ⟨g, i * 8, none⟩)) (by go_simp) (fun V hV => by go_simp) ?_
    go_simp
    refine headT_read rfl (.pointer (some ⟨g, i * 8, none⟩)) (by go_simp) (fun V hV => by go_simp) ?_
    go_simp
    refine headT_read rfl (.agg #[.int .i64 u1.id, .int .i64 u1.player, .int .i64 u1.kind, .int .i64 u1.at_, .int .i64 u1.life, .int .i64 u1.load, .int .i64 u1.task, .int .i64 u1.goal]) (by go_simp) (fun V hV => by obtain ⟨⟨x0, x1, x2, x3, x4, x5, x6, x7, x8⟩, ⟨y0, y1, y2, y3, y4, y5, y6, y7⟩⟩ := hV; go_simp) ?_
    go_simp
    refine headT_call rfl 52 #[.slice (some xk) ks.length qk, .agg #[.int .i64 X.turn, .int .i64 X.next, .int .i64 X.wide, .int .i64 X.high, g1, g2, g3, .slice (some ⟨g, 0, none⟩) us.length cap, g5], .agg #[.int .i64 u1.id, .int .i64 u1.player, .int .i64 u1.kind, .int .i64 u1.at_, .int .i64 u1.life, .int .i64 u1.load, .int .i64 u1.task, .int .i64 u1.goal]] (by go_simp) (by go_simp) ?_
    have WI : Hid (Calls Tryz.prog 52 #[.slice (some xk) ks.length qk, .agg #[.int .i64 X.turn, .int .i64 X.next, .int .i64 X.wide, .int .i64 X.high, g1, g2, g3, .slice (some ⟨g, 0, none⟩) us.length cap, g5], .agg #[.int .i64 u1.id, .int .i64 u1.player, .int .i64 u1.kind, .int .i64 u1.at_, .int .i64 u1.life, .int .i64 u1.load, .int .i64 u1.task, .int .i64 u1.goal]] v1 fun e w' => ∃ c : Nat, e = .returned (.int .i64 (c : Nat)) ∧ WishSays ks { X with us := us1 } Wn Hn u1 k c ∧ c < Wn * Hn ∧ Below v1.heap.size v1 w') :=
      wish_any _ _ ks { X with us := us1 } u1 Wn Hn k v1 (WL.out v1 DR.out).2.1 (WL.out v1 DR.out).1 (WL.out v1 DR.out).2.2 GD.out.1 GD.out.2.1 GD.out.2.2.1 (by show us1.length ≤ 1000000; rw [F1.out.2.1]; omega) F1.out.2.2.2.2.1 F1.out.2.2.2.2.2.2.1 F1.out.2.2.2.2.2.1 F1.out.2.2.2.2.2.2.2
    refine Calls.mono WI.out ?_
    rintro e v2 ⟨c, rfl, hws, hcn, hb⟩
    have B2 : Hid (Below wr.heap.size wr v2) := DR.out.trans (hb.mono DR.out.size)
    have hgl := GD.out.1.gl
    obtain ⟨gg, hgg⟩ : ∃ x, X.gs[c]? = some x := ⟨_, List.getElem?_eq_getElem (by omega)⟩
    have WS : Hid (WishSays ks { X with us := us1 } Wn Hn u1 k c ∧ c < Wn * Hn ∧ X.gs[c]? = some gg) := ⟨hws, hcn, hgg⟩
    refine ⟨_, rfl, C4.out _ B2.out, ?_⟩
    clear hb hws hcn hgl hgg DR WI
    go_simp
    refine sched_value rfl (.int .i64 (c : Nat)) v2 (by go_simp) (by go_simp) trivial ?_
    go_simp
    unfold wpSched
    obtain ⟨⟨x0, x1, x2, x3, x4, x5, x6, x7, x8⟩, -⟩ := C4.out _ B2.out
    have c9 : v2.cell? ⟨w.heap.size + 1, 9, none⟩ = some (.bool k.f) := by have := (KR.out.below B2.out KR.out.lt).c9; rw [Nat.zero_add] at this; exact this
    have FL : Hid (Fl v2 (.agg #[.int .i64 X.wide, .int .i64 X.high, g1, g2]) (Wn : Nat) (Hn : Nat) X.gs X.os) := by
      have h9 := (WL.out v2 B2.out).1
      have := fl_of (X := { X with us := us1 }) h9
      have e1 : ({ X with us := us1 } : WV).wide = (Wn : Nat) := GD.out.2.1
      have e2 : ({ X with us := us1 } : WV).high = (Hn : Nat) := GD.out.2.2.1
      rw [e1, e2] at this
      rw [GD.out.2.1, GD.out.2.2.1]
      exact this
    go_wp2_with fail
    refine (Step_ok _ Wn Hn X.gs X.os c gg k.f v2 FL.out GD.out.1 WS.out.2.1 WS.out.2.2).mono ?_
    rintro e v3 ⟨rfl, hb⟩
    obtain ⟨s, hs⟩ : ∃ s, Fd.onto gg k.f = s := ⟨_, rfl⟩
    have SS : Hid (Fd.onto gg k.f = s) := hs
    rw [hs]
    have B3 : Hid (Below wr.heap.size wr v3) := B2.out.trans (hb.mono B2.out.size)
    clear hb hs x0 x1 x2 x3 x4 x5 x6 x7 x8 c9 FL B2
    by_cases hsl : left < s
    · have FIN : Hid (Goes ks X Wn Hn k i us k.n4 cells us1) := by
        have := HG.out [] us1 (.stop F1.out.1 WS.out.1 WS.out.2.2 (.inl (by rw [SS.out]; exact hsl)))
        rw [List.append_nil] at this
        exact this
      go_wp2
      go_ret
      exact ⟨cv, us1, cells, rfl, (OC.out.below B3.out).mono (by have := Z1.out; omega), FIN.out, UB1.out.below B3.out UB1.out.lt, KW.out.trans (Kp.of B3.out), hcl3, a, F1.out.2.2.2.1.symm, by have := F1.out.2.2.2.2.1.2; rw [← F1.out.2.2.1] at this; exact this⟩
    obtain ⟨⟨x0, x1, x2, x3, x4, x5, x6, x7, x8⟩, -⟩ := C4.out _ B3.out
    go_wp2_with fail
    refine (taken_any _ { X with us := us1 } (c : Nat) v3 (WL.out v3 B3.out).1).mono ?_
    rintro e v4 ⟨rfl, hb⟩
    have B4 : Hid (Below wr.heap.size wr v4) := B3.out.trans (hb.mono B3.out.size)
    obtain ⟨tk, htk⟩ : ∃ t, us1.any (fun u => u.at_ == (c : Int)) = t := ⟨_, rfl⟩
    have TK : Hid (us1.any (fun u => u.at_ == (c : Int)) = tk) := htk
    have hx1 : ({ X with us := us1 } : WV).us.any (fun u => u.at_ == (c : Int)) = tk := htk
    rw [hx1]
    clear hb htk hx1 x0 x1 x2 x3 x4 x5 x6 x7 x8 B3
    cases tk with
    | true =>
      have FIN : Hid (Goes ks X Wn Hn k i us k.n4 cells us1) := by
        have := HG.out [] us1 (.stop F1.out.1 WS.out.1 WS.out.2.2 (.inr TK.out))
        rw [List.append_nil] at this
        exact this
      go_wp2
      go_ret
      exact ⟨cv, us1, cells, rfl, (OC.out.below B4.out).mono (by have := Z1.out; omega), FIN.out, UB1.out.below B4.out UB1.out.lt, KW.out.trans (Kp.of B4.out), hcl3, a, F1.out.2.2.2.1.symm, by have := F1.out.2.2.2.2.1.2; rw [← F1.out.2.2.1] at this; exact this⟩
    | false =>
      have hne : u1.at_ ≠ (c : Nat) := by
        have := List.any_eq_false.1 TK.out u1 (List.mem_of_getElem? F1.out.1)
        simpa using this
      have hs1 : 0 < s := by rw [← SS.out]; exact wish_pos WS.out.1 WS.out.2.2 hne
      have U4 : Hid (Ub v4 g us1 rest) := UB1.out.below B4.out UB1.out.lt
      have c3 := (U4.out.unc F1.out.1).c3
      have t3 := U4.out.thaw (i * 8 + 3)
      have U5 : Hid (Ub (v4.setCell ⟨g, i * 8 + 3, none⟩ (.int .i64 (c : Nat))) g (us1.set i { u1 with at_ := (c : Nat) }) rest) := U4.out.set3 F1.out.1 _
      have K5 : Hid (Kp g v4 (v4.setCell ⟨g, i * 8 + 3, none⟩ (.int .i64 (c : Nat)))) := Kp.set _ _ _
      have wsub : IntKind.i64.wrap (left - s) = left - s := by rw [IntKind.wrap_i64]; omega
      go_upto_region 9 with fail
      clear c3 t3 hne
      generalize (v4.setCell ⟨g, i * 8 + 3, none⟩ (.int .i64 (c : Nat))) = v5 at *
      have P5 : Hid (Kp g w1 v5) := (KP.out.trans (Kp.of B4.out)).trans K5.out
      have O5 : Hid (Ow v5 w1.heap.size cv cells) := (OC.out.below B4.out).kp K5.out (by have := UB.out.2; have := Z1.out; omega)
      go_upto_region 10 with fail
      have BA : Hid (Below v5.heap.size v5 (v5.alloc (Obj.cells #[.int .i64 (c : Nat)] 3))) := (Below.refl _ _).alloc (Nat.le_refl _) _
      have C6 : Hid ((v5.alloc (Obj.cells #[.int .i64 (c : Nat)] 3)).cell? ⟨v5.heap.size, 0, none⟩ = some (.int .i64 (c : Nat))) := cell_of_new rfl rfl
      have O6 : Hid (Ow (v5.alloc (Obj.cells #[.int .i64 (c : Nat)] 3)) w1.heap.size cv cells) := O5.out.below BA.out
      have S6 : Hid (w1.heap.size ≤ (v5.alloc (Obj.cells #[.int .i64 (c : Nat)] 3)).heap.size) := Nat.le_trans P5.out.size BA.out.size
      go_wp2_with (at_builtin; refine app_int _ rfl _ _ rfl w1.heap.size _ cells rfl O6.out _ (c : Nat) rfl C6.out (by omega) S6.out ?_)
      intro gg' gc v7 o7 g7 _ _
      have O7 : Hid (Ow v7 w1.heap.size (.slice (some ⟨gg', 0, none⟩) (cells.length + 1) gc) (cells ++ [(c : Int)])) := o7
      have P7 : Hid (Kp g w1 v7) := kp_gb (P5.out.trans (Kp.of BA.out)) g7 (fun b hb => (O6.out.block b hb).1)
      have U7 : Hid (Ub v7 g (us1.set i { u1 with at_ := (c : Nat) }) rest) := by
        have h6 := U5.out.below BA.out U5.out.lt
        unfold Ub at h6
        unfold Hid Ub
        rw [g7.block g (lt_of_block h6) (fun e => by have := (O6.out.block g e.symm).1; have := UB.out.2; have := Z1.out; omega)]
        exact h6
      have US2 : Hid (us1.set i { u1 with at_ := (c : Nat) } = us.set i { u with at_ := (c : Nat) }) := by
        unfold Hid
        rw [← F1.out.2.2.2.1, List.set_set, ← F1.out.2.2.1]
      have HG2 : Hid (∀ cells' us', Goes ks X Wn Hn k i (us.set i { u with at_ := (c : Nat) }) (left - s) cells' us' → Goes ks X Wn Hn k i us k.n4 ((cells ++ [(c : Int)]) ++ cells') us') := fun cells' us' h => by
        have h9 := HG.out ((c : Int) :: cells') us' (.step F1.out.1 WS.out.1 WS.out.2.2 (by rw [SS.out]; omega) TK.out (by rw [US2.out, SS.out]; exact h))
        rw [List.append_assoc]
        exact h9
      clear o7 g7 BA C6 O6 S6 O5 P5 U5 K5 U4
      go_wp2
      go_round
      case rel => exact ⟨(c : Nat), left - s, cells ++ [(c : Int)], _, rfl, rfl, by omega, by rw [List.length_append]; simp; omega, ⟨by omega, by have := WS.out.2.1; omega⟩, by rw [← US2.out]; exact U7.out, O7.out, P7.out, HG2.out⟩
      case measure => simp [intOf]; omega
end Go.Proofs.YtagnjmellcibhaaGreatDoor

namespace Go.Proofs.YtagnjmellcibhaaGreatDoor
open Go.RowKit
set_option linter.unusedVariables false

theorem made_ints (n : Nat) : madeCells #[Value.int .i64 0] n = (intCells (List.replicate n 0)).toArray := by
  apply Array.ext_getElem?
  intro i
  unfold madeCells intCells
  by_cases h : i < n
  · simp [h, Nat.mod_one]
  · simp [h]
theorem makeI (n : Nat) (w : World) (h : n ≤ 1000000) : ∃ w', (Instr.makeSlice 23 (.int .i64 (n : Nat)) (.int .i64 (n : Nat))).run Tryz.prog w = .ok (.slice (some ⟨w.heap.size, 0, none⟩) n n) w' ∧ Bk w' w.heap.size (List.replicate n 0) #[] ∧ Below w.heap.size w w' ∧ w'.heap.size = w.heap.size + 1 := by
  obtain ⟨i0, hi, hz0, hz1, hz2⟩ := info_parts info_int
  have hr := run_make (P := Tryz.prog) w 23 3 i0 (.int .i64 0) Tryz.underlying23 hi hz0 .i64 .i64 (n : Nat) (n : Nat) (by omega) (Int.le_refl _) (by rw [hz2]; omega) (by omega)
  refine ⟨_, hr, ?_, (Below.refl _ _).alloc (Nat.le_refl _) _, by simp⟩
  unfold Bk
  rw [hz1, Int.toNat_natCast, Nat.mul_one, heap_alloc_new]
  have e : (Value.int .i64 0).cells = #[Value.int .i64 0] := rfl
  rw [e, made_ints, Array.append_empty]
/-- one more event: the run itself. -/
theorem run_ev (w : World) (ty : TypeId) (base : Nat) (v : Value) (ks : List EvV) (hown : Evo w base v ks) (b : Nat) (d : EvV) (hd : Evc w ⟨b, 0, none⟩ d) (hl : ks.length ≤ 1000000) (hbase : base ≤ w.heap.size) :
    ∃ g cap w', (Builtin.append_ #[31, 31] ty #[v, .slice (some ⟨b, 0, none⟩) 1 1]).run Tryz.prog w = .ok (.slice (some ⟨g, 0, none⟩) (ks.length + 1) cap) w' ∧ Evo w' base (.slice (some ⟨g, 0, none⟩) (ks.length + 1) cap) (ks ++ [d]) ∧ w.grownBy w' v.ownBlock ∧ (v.ownBlock = some g ∨ g = w.heap.size) ∧ g < w'.heap.size := by
  obtain ⟨i0, hi, hz0, hz1, hz2⟩ := info_parts info_ev
  obtain ⟨g, cap, w6, hr, ho6, hg6, ha6, hl6⟩ := run_append_lies (P := Tryz.prog) w 31 31 base 68 i0 _ 3 24 Tryz.underlying31 hi hz0 hz1 hz2 rfl (by decide) v ks.length _ hown ⟨b, 0, none⟩ 1 1 (EvV.cs d) rfl (fun j u hj => by
    have hjn : j < 3 := (List.getElem?_eq_some_iff.1 hj).1
    rw [Addr.add_lit, Nat.zero_add]
    match j, hjn, hj with
    | 0, _, hj => simp [EvV.cs] at hj; subst hj; exact hd.c0
    | 1, _, hj => simp [EvV.cs] at hj; subst hj; exact hd.c1
    | 2, _, hj => simp [EvV.cs] at hj; subst hj; exact hd.c2) (fun u hu => by
    simp [EvV.cs] at hu
    rcases hu with rfl | rfl | rfl <;> rfl) (by decide) (by unfold maxLen; omega) (by omega) hbase _ rfl
  refine ⟨g, cap, w6, hr, ?_, hg6, ha6, hl6⟩
  unfold Evo
  rw [List.length_append, List.flatMap_append]
  simpa using ho6
end Go.Proofs.YtagnjmellcibhaaGreatDoor

namespace Go.Proofs.YtagnjmellcibhaaGreatDoor
open Go.RowKit Wy
set_option linter.unusedVariables false

/-- who has come to its end rests. -/
def ends (u : UnV) : UnV := if u.task = 1 ∧ u.at_ = u.goal then { u with task := 0, goal := 0 } else u
/-- from the n-th on all units go. -/
inductive Moves (ks : List KV) (X : WV) (Wn Hn : Nat) : Nat → List UnV → List EvV → List UnV → Prop where
  | done {n : Nat} {us : List UnV} (h : n = us.length) : Moves ks X Wn Hn n us [] us
  | unit {n : Nat} {us us1 us' : List UnV} {u u1 : UnV} {k : KV} {cells : List Int} {evs : List EvV} (hu : us[n]? = some u) (hk : ks[u.kind.toNat]? = some k) (hg : Goes ks X Wn Hn k n us k.n4 cells us1) (h1 : us1[n]? = some u1) (hm : Moves ks X Wn Hn (n + 1) (us1.set n (ends u1)) evs us') : Moves ks X Wn Hn n us (cells.map (fun c => (⟨1, u.id, c⟩ : EvV)) ++ evs) us'
/-- what Move tells. -/
def MoveSays (ks : List KV) (X : WV) (w w' : World) (v ev : Value) : Prop :=
  (Wd.wfault ks X ≠ 0 ∧ v = .agg #[.int .i64 0, .int .i64 0, .int .i64 0, .int .i64 0, .slice none 0 0, .slice none 0 0, .slice none 0 0, .slice none 0 0, .slice none 0 0] ∧ ev = .slice none 0 0)
  ∨ (Wd.wfault ks X = 0 ∧ ∃ Wn Hn : Nat, X.wide = (Wn : Nat) ∧ X.high = (Hn : Nat) ∧ Fd.Good Wn Hn X.gs X.os ∧ ∃ us' evs, Moves ks X Wn Hn 0 X.us evs us' ∧ us'.length = X.us.length ∧ Wo w' w.heap.size v { X with us := us' } ∧ Evo w' w.heap.size ev evs)
/-- units that only their places, Tasks and Goals tell from those that were. -/
def Alike (ks : List KV) (n : Nat) (us0 us : List UnV) : Prop := us.length = us0.length ∧ ∀ (j : Nat) (v : UnV), us[j]? = some v → ∃ u, us0[j]? = some u ∧ v.kind = u.kind ∧ v.id = u.id ∧ Fit ks n v ∧ (0 ≤ v.goal ∧ v.goal < (n : Int))
theorem Alike.fits {ks : List KV} {n : Nat} {us0 us : List UnV} (h : Alike ks n us0 us) : ∀ v ∈ us, Fit ks n v := fun v hv => by
  obtain ⟨j, hj⟩ := List.mem_iff_getElem?.1 hv
  obtain ⟨u, -, -, -, h1, -⟩ := h.2 j v hj
  exact h1
theorem Alike.set {ks : List KV} {n : Nat} {us0 us : List UnV} (h : Alike ks n us0 us) {i : Nat} {u v : UnV} (hu : us[i]? = some u) (hk : v.kind = u.kind) (hi : v.id = u.id) (hf : Fit ks n v) (hg : 0 ≤ v.goal ∧ v.goal < (n : Int)) : Alike ks n us0 (us.set i v) := by
  refine ⟨by rw [List.length_set]; exact h.1, fun j x hj => ?_⟩
  by_cases hij : i = j
  · subst hij
    rw [List.getElem?_set_self (List.getElem?_eq_some_iff.1 hu).1] at hj
    injection hj with hj
    subst hj
    obtain ⟨u0, h1, h2, h3, -, -⟩ := h.2 i u hu
    exact ⟨u0, h1, by rw [hk, h2], by rw [hi, h3], hf, hg⟩
  · rw [List.getElem?_set_ne hij] at hj
    exact h.2 j x hj
theorem uno_set {ks : List UnV} {i : Nat} {u : UnV} : (ks.set i u).length = ks.length := List.length_set
set_option maxRecDepth 100000 in
set_option maxHeartbeats 16000000 in
theorem Move_any (vk vw : Value) (ks : List KV) (X : WV) (w : World) (hk : Kl w vk ks) (hb : ∀ k ∈ ks, k.b.size ≤ 9223372036854775807) (hw : Wl w vw X) (hs : Sd w) :
    Calls Tryz.prog 21 #[vk, vw] w fun e w' => ∃ v ev r, e = .returned (.tuple #[v, ev, r]) ∧ Er r (Wd.wfault ks X) ∧ MoveSays ks X w w' v ev ∧ Below w.heap.size w w' := by
  have K : Hid (Kl w vk ks ∧ ∀ k ∈ ks, k.b.size ≤ 9223372036854775807) := ⟨hk, hb⟩
  have H : Hid (Wl w vw X) := hw
  have S : Hid (Sd w) := hs
  obtain ⟨p1, q1, p2, q2, p3, q3, p4, q4, p5, q5, rfl⟩ := wl_shape9 hw
  obtain ⟨pk, qk, rfl, ck1, ck2, kc⟩ := hk
  clear hb hw hs kc
  go_enter Tryz.func21, Tryz.ntmps21
  go_upto_region 1 with fail
  have B0 : Hid (Below w.heap.size w ((w.alloc (Obj.cells #[.int .i64 X.turn, .int .i64 X.next, .int .i64 X.wide, .int .i64 X.high, .slice p1 X.gs.length q1, .slice p2 X.os.length q2, .slice p3 X.gold.length q3, .slice p4 X.us.length q4, .slice p5 X.qs.length q5] 29)).alloc (Obj.cells #[.int .i64 0, .int .i64 0, .int .i64 0, .int .i64 0, .slice none 0 0, .slice none 0 0, .slice none 0 0, .slice none 0 0, .slice none 0 0] 29))) := ((Below.refl _ _).alloc (Nat.le_refl _) _).alloc (by simp) _
  have X0 : Hid (Wx ((w.alloc (Obj.cells #[.int .i64 X.turn, .int .i64 X.next, .int .i64 X.wide, .int .i64 X.high, .slice p1 X.gs.length q1, .slice p2 X.os.length q2, .slice p3 X.gold.length q3, .slice p4 X.us.length q4, .slice p5 X.qs.length q5] 29)).alloc (Obj.cells #[.int .i64 0, .int .i64 0, .int .i64 0, .int .i64 0, .slice none 0 0, .slice none 0 0, .slice none 0 0, .slice none 0 0, .slice none 0 0] 29)) (w.heap.size) (.int .i64 X.turn) (.int .i64 X.next) (.int .i64 X.wide) (.int .i64 X.high) (.slice p1 X.gs.length q1) (.slice p2 X.os.length q2) (.slice p3 X.gold.length q3) (.slice p4 X.us.length q4) (.slice p5 X.qs.length q5)) := (Wx.new (.int .i64 X.turn) (.int .i64 X.next) (.int .i64 X.wide) (.int .i64 X.high) (.slice p1 X.gs.length q1) (.slice p2 X.os.length q2) (.slice p3 X.gold.length q3) (.slice p4 X.us.length q4) (.slice p5 X.qs.length q5) rfl).below ((Below.refl _ _).alloc (Nat.le_refl _) _) (by simp)
  have Z0 : Hid (Wx ((w.alloc (Obj.cells #[.int .i64 X.turn, .int .i64 X.next, .int .i64 X.wide, .int .i64 X.high, .slice p1 X.gs.length q1, .slice p2 X.os.length q2, .slice p3 X.gold.length q3, .slice p4 X.us.length q4, .slice p5 X.qs.length q5] 29)).alloc (Obj.cells #[.int .i64 0, .int .i64 0, .int .i64 0, .int .i64 0, .slice none 0 0, .slice none 0 0, .slice none 0 0, .slice none 0 0, .slice none 0 0] 29)) (w.heap.size + 1) (.int .i64 0) (.int .i64 0) (.int .i64 0) (.int .i64 0) (.slice none 0 0) (.slice none 0 0) (.slice none 0 0) (.slice none 0 0) (.slice none 0 0)) := Wx.new (.int .i64 0) (.int .i64 0) (.int .i64 0) (.int .i64 0) (.slice none 0 0) (.slice none 0 0) (.slice none 0 0) (.slice none 0 0) (.slice none 0 0) (by simp)
  generalize ((w.alloc (Obj.cells #[.int .i64 X.turn, .int .i64 X.next, .int .i64 X.wide, .int .i64 X.high, .slice p1 X.gs.length q1, .slice p2 X.os.length q2, .slice p3 X.gold.length q3, .slice p4 X.us.length q4, .slice p5 X.qs.length q5] 29)).alloc (Obj.cells #[.int .i64 0, .int .i64 0, .int .i64 0, .int .i64 0, .slice none 0 0, .slice none 0 0, .slice none 0 0, .slice none 0 0, .slice none 0 0] 29)) = w0 at *
  obtain ⟨x0, x1, x2, x3, x4, x5, x6, x7, x8⟩ := X0.out.cells
  go_wp2_with fail
  refine (wcheck_any _ _ ks X w0 (K.out.1.below B0.out) K.out.2 (H.out.below B0.out)).mono ?_
  rintro e w1 ⟨r, rfl, hr, hb⟩
  obtain ⟨fw, hfw⟩ : ∃ f, Wd.wfault ks X = f := ⟨_, rfl⟩
  have FW : Hid (Wd.wfault ks X = fw) := hfw
  rw [hfw] at hr
  have B1 : Hid (Below w.heap.size w w1) := B0.out.trans (hb.mono B0.out.size)
  have X1 : Hid (Wx w1 (w.heap.size) (.int .i64 X.turn) (.int .i64 X.next) (.int .i64 X.wide) (.int .i64 X.high) (.slice p1 X.gs.length q1) (.slice p2 X.os.length q2) (.slice p3 X.gold.length q3) (.slice p4 X.us.length q4) (.slice p5 X.qs.length q5)) := X0.out.below hb X0.out.lt
  have Z1 : Hid (Wx w1 (w.heap.size + 1) (.int .i64 0) (.int .i64 0) (.int .i64 0) (.int .i64 0) (.slice none 0 0) (.slice none 0 0) (.slice none 0 0) (.slice none 0 0) (.slice none 0 0)) := Z0.out.below hb Z0.out.lt
  clear hb hfw x0 x1 x2 x3 x4 x5 x6 x7 x8 X0 B0 Z0
  rcases hr with ⟨rfl, rfl⟩ | ⟨hf, rfl⟩
  case inr =>
    have HF : Hid (fw ≠ 0) := hf
    clear hf
    obtain ⟨z0, z1, z2, z3, z4, z5, z6, z7, z8⟩ := Z1.out.cells
    obtain ⟨t0, t1, t2, t3, t4, t5, t6, t7, t8⟩ := Z1.out.thaws
    have KZ : Hid (Kp (w.heap.size + 1) w1 (((((((((w1.setCell ⟨w.heap.size + 1, 0, none⟩ (.int .i64 0)).setCell ⟨w.heap.size + 1, 1, none⟩ (.int .i64 0)).setCell ⟨w.heap.size + 1, 2, none⟩ (.int .i64 0)).setCell ⟨w.heap.size + 1, 3, none⟩ (.int .i64 0)).setCell ⟨w.heap.size + 1, 4, none⟩ (.slice none 0 0)).setCell ⟨w.heap.size + 1, 5, none⟩ (.slice none 0 0)).setCell ⟨w.heap.size + 1, 6, none⟩ (.slice none 0 0)).setCell ⟨w.heap.size + 1, 7, none⟩ (.slice none 0 0)).setCell ⟨w.heap.size + 1, 8, none⟩ (.slice none 0 0))) := put_kp _ _ _ _ _ _ _ _ _ _ _
    obtain ⟨y0, y1, y2, y3, y4, y5, y6, y7, y8⟩ := (Z1.out.put (.int .i64 0) (.int .i64 0) (.int .i64 0) (.int .i64 0) (.slice none 0 0) (.slice none 0 0) (.slice none 0 0) (.slice none 0 0) (.slice none 0 0)).cells
    go_wp2
    clear z0 z1 z2 z3 z4 z5 z6 z7 z8 t0 t1 t2 t3 t4 t5 t6 t7 t8
    generalize (((((((((w1.setCell ⟨w.heap.size + 1, 0, none⟩ (.int .i64 0)).setCell ⟨w.heap.size + 1, 1, none⟩ (.int .i64 0)).setCell ⟨w.heap.size + 1, 2, none⟩ (.int .i64 0)).setCell ⟨w.heap.size + 1, 3, none⟩ (.int .i64 0)).setCell ⟨w.heap.size + 1, 4, none⟩ (.slice none 0 0)).setCell ⟨w.heap.size + 1, 5, none⟩ (.slice none 0 0)).setCell ⟨w.heap.size + 1, 6, none⟩ (.slice none 0 0)).setCell ⟨w.heap.size + 1, 7, none⟩ (.slice none 0 0)).setCell ⟨w.heap.size + 1, 8, none⟩ (.slice none 0 0)) = w9 at *
    refine bodyPost_ret (v := .tuple #[.agg #[.int .i64 0, .int .i64 0, .int .i64 0, .int .i64 0, .slice none 0 0, .slice none 0 0, .slice none 0 0, .slice none 0 0, .slice none 0 0], .slice none 0 0, .iface 75 (.int .i64 fw)]) (by simp [results, Tryz.results21, go_sem, y0, y1, y2, y3, y4, y5, y6, y7, y8]) rfl ⟨_, _, _, rfl, by rw [FW.out]; exact Er.no HF.out, .inl ⟨by rw [FW.out]; exact HF.out, rfl, rfl⟩, KZ.out.below B1.out B1.out.size (by omega)⟩
  have WR : Hid (WRight ks X) := wright_of FW.out
  obtain ⟨Wn, Hn, e1, e2, G⟩ := WR.out.good
  have GD : Hid (Fd.Good Wn Hn X.gs X.os ∧ X.wide = (Wn : Nat) ∧ X.high = (Hn : Nat)) := ⟨G, e1, e2⟩
  clear e1 e2 G
  obtain ⟨x0, x1, x2, x3, x4, x5, x6, x7, x8⟩ := X1.out.cells
  go_wp2_with fail
  refine (copy_any _ X w1 (H.out.below B1.out) WR.out.len).mono ?_
  rintro e w2 ⟨cu, rfl, ⟨k1, k2, k3, k4, k5, rfl, ⟨o1, o2, o3, o4, o5⟩, -, -, d14, -, -, d24, -, d34, -, d45⟩, hb⟩
  obtain ⟨a1, r1, rfl⟩ := o1.len
  obtain ⟨a2, r2, rfl⟩ := o2.len
  obtain ⟨a3, r3, rfl⟩ := o3.len
  obtain ⟨a5, r5, rfl⟩ := o5.len
  obtain ⟨b1, hb1⟩ : ∃ z, w1.heap.size = z := ⟨_, rfl⟩
  rw [hb1] at o1 o2 o3 o4 o5
  have BS : Hid (w.heap.size + 1 < b1 ∧ b1 ≤ w2.heap.size) := ⟨by rw [← hb1]; exact Z1.out.lt, by rw [← hb1]; exact hb.size⟩
  have X2 : Hid (Wx w2 (w.heap.size) (.int .i64 X.turn) (.int .i64 X.next) (.int .i64 X.wide) (.int .i64 X.high) (.slice p1 X.gs.length q1) (.slice p2 X.os.length q2) (.slice p3 X.gold.length q3) (.slice p4 X.us.length q4) (.slice p5 X.qs.length q5)) := X1.out.below hb X1.out.lt
  have Z2 : Hid (Wx w2 (w.heap.size + 1) (.int .i64 0) (.int .i64 0) (.int .i64 0) (.int .i64 0) (.slice none 0 0) (.slice none 0 0) (.slice none 0 0) (.slice none 0 0) (.slice none 0 0)) := Z1.out.below hb Z1.out.lt
  have B2 : Hid (Below w.heap.size w w2) := B1.out.trans (hb.mono B1.out.size)
  clear hb hb1 x0 x1 x2 x3 x4 x5 x6 x7 x8 X1 Z1 B1
  obtain ⟨z0, z1, z2, z3, z4, z5, z6, z7, z8⟩ := X2.out.cells
  obtain ⟨t0, t1, t2, t3, t4, t5, t6, t7, t8⟩ := X2.out.thaws
  rcases o4.ub with ⟨rfl, hnil⟩ | ⟨g, r4, rest, rfl, hbg, hkc, hcm, hcl, hub⟩
  · -- nobody
    have KZ : Hid (Kp (w.heap.size) w2 (((((((((w2.setCell ⟨w.heap.size, 0, none⟩ (.int .i64 X.turn)).setCell ⟨w.heap.size, 1, none⟩ (.int .i64 X.next)).setCell ⟨w.heap.size, 2, none⟩ (.int .i64 X.wide)).setCell ⟨w.heap.size, 3, none⟩ (.int .i64 X.high)).setCell ⟨w.heap.size, 4, none⟩ (Value.slice a1 X.gs.length r1)).setCell ⟨w.heap.size, 5, none⟩ (Value.slice a2 X.os.length r2)).setCell ⟨w.heap.size, 6, none⟩ (Value.slice a3 X.gold.length r3)).setCell ⟨w.heap.size, 7, none⟩ (Value.slice none 0 0)).setCell ⟨w.heap.size, 8, none⟩ (Value.slice a5 X.qs.length r5))) := put_kp _ _ _ _ _ _ _ _ _ _ _
    have XE : Hid (Wx (((((((((w2.setCell ⟨w.heap.size, 0, none⟩ (.int .i64 X.turn)).setCell ⟨w.heap.size, 1, none⟩ (.int .i64 X.next)).setCell ⟨w.heap.size, 2, none⟩ (.int .i64 X.wide)).setCell ⟨w.heap.size, 3, none⟩ (.int .i64 X.high)).setCell ⟨w.heap.size, 4, none⟩ (Value.slice a1 X.gs.length r1)).setCell ⟨w.heap.size, 5, none⟩ (Value.slice a2 X.os.length r2)).setCell ⟨w.heap.size, 6, none⟩ (Value.slice a3 X.gold.length r3)).setCell ⟨w.heap.size, 7, none⟩ (Value.slice none 0 0)).setCell ⟨w.heap.size, 8, none⟩ (Value.slice a5 X.qs.length r5)) (w.heap.size) (.int .i64 X.turn) (.int .i64 X.next) (.int .i64 X.wide) (.int .i64 X.high) (Value.slice a1 X.gs.length r1) (Value.slice a2 X.os.length r2) (Value.slice a3 X.gold.length r3) (Value.slice none 0 0) (Value.slice a5 X.qs.length r5)) := X2.out.put (.int .i64 X.turn) (.int .i64 X.next) (.int .i64 X.wide) (.int .i64 X.high) (Value.slice a1 X.gs.length r1) (Value.slice a2 X.os.length r2) (Value.slice a3 X.gold.length r3) (Value.slice none 0 0) (Value.slice a5 X.qs.length r5)
    have NIL : Hid (X.us = []) := hnil
    have O2 : Hid (Ow w2 b1 (Value.slice a1 X.gs.length r1) X.gs ∧ Ow w2 b1 (Value.slice a2 X.os.length r2) X.os ∧ Ow w2 b1 (Value.slice a3 X.gold.length r3) X.gold ∧ Jbo w2 b1 (Value.slice a5 X.qs.length r5) X.qs) := ⟨o1, o2, o3, o5⟩
    clear o1 o2 o3 o4 o5 d14 d24 d34 d45 hnil
    go_upto_region 5 with fail
    clear z0 z1 z2 z3 z4 z5 z6 z7 z8 t0 t1 t2 t3 t4 t5 t6 t7 t8
    generalize (((((((((w2.setCell ⟨w.heap.size, 0, none⟩ (.int .i64 X.turn)).setCell ⟨w.heap.size, 1, none⟩ (.int .i64 X.next)).setCell ⟨w.heap.size, 2, none⟩ (.int .i64 X.wide)).setCell ⟨w.heap.size, 3, none⟩ (.int .i64 X.high)).setCell ⟨w.heap.size, 4, none⟩ (Value.slice a1 X.gs.length r1)).setCell ⟨w.heap.size, 5, none⟩ (Value.slice a2 X.os.length r2)).setCell ⟨w.heap.size, 6, none⟩ (Value.slice a3 X.gold.length r3)).setCell ⟨w.heap.size, 7, none⟩ (Value.slice none 0 0)).setCell ⟨w.heap.size, 8, none⟩ (Value.slice a5 X.qs.length r5)) = w3 at *
    have ZE : Hid (Wx w3 (w.heap.size + 1) (.int .i64 0) (.int .i64 0) (.int .i64 0) (.int .i64 0) (.slice none 0 0) (.slice none 0 0) (.slice none 0 0) (.slice none 0 0) (.slice none 0 0)) := Z2.out.kp KZ.out (by omega)
    have BE : Hid (Below w.heap.size w w3) := KZ.out.below B2.out B2.out.size (Nat.le_refl _)
    have O3 : Hid (Ow w3 b1 (Value.slice a1 X.gs.length r1) X.gs ∧ Ow w3 b1 (Value.slice a2 X.os.length r2) X.os ∧ Ow w3 b1 (Value.slice a3 X.gold.length r3) X.gold ∧ Jbo w3 b1 (Value.slice a5 X.qs.length r5) X.qs) := by
      have h := BS.out.1
      exact ⟨O2.out.1.kp KZ.out (by omega), O2.out.2.1.kp KZ.out (by omega), O2.out.2.2.1.kp KZ.out (by omega), O2.out.2.2.2.kp KZ.out (by omega)⟩
    clear KZ X2 Z2 B2 O2
    obtain ⟨-, -, -, -, -, -, -, w7, -⟩ := XE.out.cells
    go_upto_region 7 with fail
    clear w7
    refine wp_loop_rounds 1 ?_
    rw [rounds_succ]
    obtain ⟨x0, x1, x2, x3, x4, x5, x6, x7, x8⟩ := XE.out.cells
    obtain ⟨z0, z1, z2, z3, z4, z5, z6, z7, z8⟩ := ZE.out.cells
    obtain ⟨t0, t1, t2, t3, t4, t5, t6, t7, t8⟩ := ZE.out.thaws
    have KZ : Hid (Kp (w.heap.size + 1) w3 (((((((((w3.setCell ⟨w.heap.size + 1, 0, none⟩ (.int .i64 X.turn)).setCell ⟨w.heap.size + 1, 1, none⟩ (.int .i64 X.next)).setCell ⟨w.heap.size + 1, 2, none⟩ (.int .i64 X.wide)).setCell ⟨w.heap.size + 1, 3, none⟩ (.int .i64 X.high)).setCell ⟨w.heap.size + 1, 4, none⟩ (Value.slice a1 X.gs.length r1)).setCell ⟨w.heap.size + 1, 5, none⟩ (Value.slice a2 X.os.length r2)).setCell ⟨w.heap.size + 1, 6, none⟩ (Value.slice a3 X.gold.length r3)).setCell ⟨w.heap.size + 1, 7, none⟩ (Value.slice none 0 0)).setCell ⟨w.heap.size + 1, 8, none⟩ (Value.slice a5 X.qs.length r5))) := put_kp _ _ _ _ _ _ _ _ _ _ _
    obtain ⟨y0, y1, y2, y3, y4, y5, y6, y7, y8⟩ := (ZE.out.put (.int .i64 X.turn) (.int .i64 X.next) (.int .i64 X.wide) (.int .i64 X.high) (Value.slice a1 X.gs.length r1) (Value.slice a2 X.os.length r2) (Value.slice a3 X.gold.length r3) (Value.slice none 0 0) (Value.slice a5 X.qs.length r5)).cells
    go_wp2
    clear x0 x1 x2 x3 x4 x5 x6 x7 x8 z0 z1 z2 z3 z4 z5 z6 z7 z8 t0 t1 t2 t3 t4 t5 t6 t7 t8
    generalize (((((((((w3.setCell ⟨w.heap.size + 1, 0, none⟩ (.int .i64 X.turn)).setCell ⟨w.heap.size + 1, 1, none⟩ (.int .i64 X.next)).setCell ⟨w.heap.size + 1, 2, none⟩ (.int .i64 X.wide)).setCell ⟨w.heap.size + 1, 3, none⟩ (.int .i64 X.high)).setCell ⟨w.heap.size + 1, 4, none⟩ (Value.slice a1 X.gs.length r1)).setCell ⟨w.heap.size + 1, 5, none⟩ (Value.slice a2 X.os.length r2)).setCell ⟨w.heap.size + 1, 6, none⟩ (Value.slice a3 X.gold.length r3)).setCell ⟨w.heap.size + 1, 7, none⟩ (Value.slice none 0 0)).setCell ⟨w.heap.size + 1, 8, none⟩ (Value.slice a5 X.qs.length r5)) = wz at *
    refine bodyPost_ret (v := .tuple #[.agg #[.int .i64 X.turn, .int .i64 X.next, .int .i64 X.wide, .int .i64 X.high, Value.slice a1 X.gs.length r1, Value.slice a2 X.os.length r2, Value.slice a3 X.gold.length r3, Value.slice none 0 0, Value.slice a5 X.qs.length r5], .slice none 0 0, .nilIface]) (by simp [results, Tryz.results21, go_sem, y0, y1, y2, y3, y4, y5, y6, y7, y8]) rfl ⟨_, _, _, rfl, by rw [FW.out]; exact Er.nil, .inr ⟨FW.out, Wn, Hn, GD.out.2.1, GD.out.2.2, GD.out.1, X.us, [], .done (by rw [NIL.out]; rfl), rfl, ?_, Evo.nil _ _⟩, KZ.out.below BE.out BE.out.size (by omega)⟩
    have h := BS.out.1
    exact ⟨_, _, _, _, _, rfl, (O3.out.1.kp KZ.out (by omega)).mono (by omega), (O3.out.2.1.kp KZ.out (by omega)).mono (by omega), (O3.out.2.2.1.kp KZ.out (by omega)).mono (by omega), by rw [NIL.out]; exact Uno.nil _ _, (O3.out.2.2.2.kp KZ.out (by omega)).mono (by omega)⟩
  have KZ : Hid (Kp (w.heap.size) w2 (((((((((w2.setCell ⟨w.heap.size, 0, none⟩ (.int .i64 X.turn)).setCell ⟨w.heap.size, 1, none⟩ (.int .i64 X.next)).setCell ⟨w.heap.size, 2, none⟩ (.int .i64 X.wide)).setCell ⟨w.heap.size, 3, none⟩ (.int .i64 X.high)).setCell ⟨w.heap.size, 4, none⟩ (Value.slice a1 X.gs.length r1)).setCell ⟨w.heap.size, 5, none⟩ (Value.slice a2 X.os.length r2)).setCell ⟨w.heap.size, 6, none⟩ (Value.slice a3 X.gold.length r3)).setCell ⟨w.heap.size, 7, none⟩ (Value.slice (some ⟨g, 0, none⟩) X.us.length r4)).setCell ⟨w.heap.size, 8, none⟩ (Value.slice a5 X.qs.length r5))) := put_kp _ _ _ _ _ _ _ _ _ _ _
  have X3 : Hid (Wx (((((((((w2.setCell ⟨w.heap.size, 0, none⟩ (.int .i64 X.turn)).setCell ⟨w.heap.size, 1, none⟩ (.int .i64 X.next)).setCell ⟨w.heap.size, 2, none⟩ (.int .i64 X.wide)).setCell ⟨w.heap.size, 3, none⟩ (.int .i64 X.high)).setCell ⟨w.heap.size, 4, none⟩ (Value.slice a1 X.gs.length r1)).setCell ⟨w.heap.size, 5, none⟩ (Value.slice a2 X.os.length r2)).setCell ⟨w.heap.size, 6, none⟩ (Value.slice a3 X.gold.length r3)).setCell ⟨w.heap.size, 7, none⟩ (Value.slice (some ⟨g, 0, none⟩) X.us.length r4)).setCell ⟨w.heap.size, 8, none⟩ (Value.slice a5 X.qs.length r5)) (w.heap.size) (.int .i64 X.turn) (.int .i64 X.next) (.int .i64 X.wide) (.int .i64 X.high) (Value.slice a1 X.gs.length r1) (Value.slice a2 X.os.length r2) (Value.slice a3 X.gold.length r3) (Value.slice (some ⟨g, 0, none⟩) X.us.length r4) (Value.slice a5 X.qs.length r5)) := X2.out.put (.int .i64 X.turn) (.int .i64 X.next) (.int .i64 X.wide) (.int .i64 X.high) (Value.slice a1 X.gs.length r1) (Value.slice a2 X.os.length r2) (Value.slice a3 X.gold.length r3) (Value.slice (some ⟨g, 0, none⟩) X.us.length r4) (Value.slice a5 X.qs.length r5)
  have O2 : Hid (Ow w2 b1 (Value.slice a1 X.gs.length r1) X.gs ∧ Ow w2 b1 (Value.slice a2 X.os.length r2) X.os ∧ Ow w2 b1 (Value.slice a3 X.gold.length r3) X.gold ∧ Jbo w2 b1 (Value.slice a5 X.qs.length r5) X.qs ∧ Ub w2 g X.us rest) := ⟨o1, o2, o3, o5, hub⟩
  have DD : Hid ((∀ b, ((Value.slice a1 X.gs.length r1)).ownBlock = some b → some g ≠ some b) ∧ (∀ b, ((Value.slice a2 X.os.length r2)).ownBlock = some b → some g ≠ some b) ∧ (∀ b, ((Value.slice a3 X.gold.length r3)).ownBlock = some b → some g ≠ some b) ∧ (∀ b, ((Value.slice a5 X.qs.length r5)).ownBlock = some b → some g ≠ some b)) := ⟨fun b h e => d14 b h e, fun b h e => d24 b h e, fun b h e => d34 b h e, fun b h e => d45 b e h⟩
  have CP : Hid (b1 ≤ g ∧ X.us.length ≤ r4 ∧ r4 ≤ maxLen ∧ X.us.length * 8 + rest.length = r4 * 8) := ⟨hbg, hkc, hcm, hcl⟩
  have hr4 : r4 ≤ 9223372036854775807 := by unfold maxLen at hcm; omega
  have hr4' : X.us.length ≤ r4 := hkc
  have hul : X.us.length ≤ 40 := WR.out.ul
  clear o1 o2 o3 o4 o5 d14 d24 d34 d45 hbg hkc hcm hcl hub
  go_upto_region 5 with fail
  clear z0 z1 z2 z3 z4 z5 z6 z7 z8 t0 t1 t2 t3 t4 t5 t6 t7 t8
  generalize (((((((((w2.setCell ⟨w.heap.size, 0, none⟩ (.int .i64 X.turn)).setCell ⟨w.heap.size, 1, none⟩ (.int .i64 X.next)).setCell ⟨w.heap.size, 2, none⟩ (.int .i64 X.wide)).setCell ⟨w.heap.size, 3, none⟩ (.int .i64 X.high)).setCell ⟨w.heap.size, 4, none⟩ (Value.slice a1 X.gs.length r1)).setCell ⟨w.heap.size, 5, none⟩ (Value.slice a2 X.os.length r2)).setCell ⟨w.heap.size, 6, none⟩ (Value.slice a3 X.gold.length r3)).setCell ⟨w.heap.size, 7, none⟩ (Value.slice (some ⟨g, 0, none⟩) X.us.length r4)).setCell ⟨w.heap.size, 8, none⟩ (Value.slice a5 X.qs.length r5)) = w3 at *
  have Z3 : Hid (Wx w3 (w.heap.size + 1) (.int .i64 0) (.int .i64 0) (.int .i64 0) (.int .i64 0) (.slice none 0 0) (.slice none 0 0) (.slice none 0 0) (.slice none 0 0) (.slice none 0 0)) := Z2.out.kp KZ.out (by omega)
  have B3 : Hid (Below w.heap.size w w3) := KZ.out.below B2.out B2.out.size (Nat.le_refl _)
  have O3 : Hid (Ow w3 b1 (Value.slice a1 X.gs.length r1) X.gs ∧ Ow w3 b1 (Value.slice a2 X.os.length r2) X.os ∧ Ow w3 b1 (Value.slice a3 X.gold.length r3) X.gold ∧ Jbo w3 b1 (Value.slice a5 X.qs.length r5) X.qs ∧ Ub w3 g X.us rest) := by
    have h := BS.out.1
    refine ⟨O2.out.1.kp KZ.out (by omega), O2.out.2.1.kp KZ.out (by omega), O2.out.2.2.1.kp KZ.out (by omega), O2.out.2.2.2.1.kp KZ.out (by omega), ?_⟩
    have h9 := O2.out.2.2.2.2
    unfold Ub at *
    rw [KZ.out.block g (lt_of_block h9) (by have := CP.out.1; omega)]
    exact h9
  clear KZ X2 Z2 B2 O2
  -- what stands in any world in which that block alone has turned
  have ST : Hid (∀ V us', us'.length = X.us.length → Kp g w3 V → Ub V g us' rest → Wl V (.agg #[.int .i64 X.turn, .int .i64 X.next, .int .i64 X.wide, .int .i64 X.high, Value.slice a1 X.gs.length r1, Value.slice a2 X.os.length r2, Value.slice a3 X.gold.length r3, Value.slice (some ⟨g, 0, none⟩) X.us.length r4, Value.slice a5 X.qs.length r5]) { X with us := us' } ∧ Kl V (.slice pk ks.length qk) ks ∧ Sd V ∧ Wx V (w.heap.size) (.int .i64 X.turn) (.int .i64 X.next) (.int .i64 X.wide) (.int .i64 X.high) (Value.slice a1 X.gs.length r1) (Value.slice a2 X.os.length r2) (Value.slice a3 X.gold.length r3) (Value.slice (some ⟨g, 0, none⟩) X.us.length r4) (Value.slice a5 X.qs.length r5) ∧ Wx V (w.heap.size + 1) (.int .i64 0) (.int .i64 0) (.int .i64 0) (.int .i64 0) (.slice none 0 0) (.slice none 0 0) (.slice none 0 0) (.slice none 0 0) (.slice none 0 0) ∧ Below w.heap.size w V ∧ Ow V b1 (Value.slice a1 X.gs.length r1) X.gs ∧ Ow V b1 (Value.slice a2 X.os.length r2) X.os ∧ Ow V b1 (Value.slice a3 X.gold.length r3) X.gold ∧ Jbo V b1 (Value.slice a5 X.qs.length r5) X.qs) := fun V us' hl hk hu => by
    have hb : Below w.heap.size w V := hk.below B3.out B3.out.size (by have := CP.out.1; have := BS.out.1; omega)
    have o1 : Ow V b1 (Value.slice a1 X.gs.length r1) X.gs := own_gb O3.out.1 (gb_kp hk) DD.out.1
    have o2 : Ow V b1 (Value.slice a2 X.os.length r2) X.os := own_gb O3.out.2.1 (gb_kp hk) DD.out.2.1
    have o3 : Ow V b1 (Value.slice a3 X.gold.length r3) X.gold := own_gb O3.out.2.2.1 (gb_kp hk) DD.out.2.2.1
    have o5 : Jbo V b1 (Value.slice a5 X.qs.length r5) X.qs := own_gb O3.out.2.2.2.1 (gb_kp hk) DD.out.2.2.2
    have hu' := hu.uno (base := b1) (cap := r4) CP.out.1 (by rw [hl]; exact CP.out.2.1) CP.out.2.2.1 (by rw [hl]; exact CP.out.2.2.2)
    rw [hl] at hu'
    exact ⟨⟨_, _, _, _, _, rfl, o1.ro, o2.ro, o3.ro, hu'.l, o5.l⟩, K.out.1.below hb, S.out.below hb, X3.out.kp hk (by have := CP.out.1; have := BS.out.1; omega), Z3.out.kp hk (by have := CP.out.1; have := BS.out.1; omega), hb, o1, o2, o3, o5⟩
  obtain ⟨-, -, -, -, -, -, -, w7, -⟩ := X3.out.cells
  go_upto_region 7 with fail
  clear w7
  have GL : Hid (g < w3.heap.size) := O3.out.2.2.2.2.lt
  go_loopw [8, 25] (fun v8 v25 V => ∃ (n : Nat) (us1 : List UnV) (evs : List EvV) (ev : Value), ev = v8 ∧ v25 = .int .i64 (n : Nat) ∧ n ≤ X.us.length ∧ Alike ks (Wn * Hn) X.us us1 ∧ Ub V g us1 rest ∧ Evo V w3.heap.size ev evs ∧ evs.length ≤ 4 * n ∧ Kp g w3 V ∧ (∀ evs' us', Moves ks X Wn Hn n us1 evs' us' → Moves ks X Wn Hn 0 X.us (evs ++ evs') us')) (fun _ v25 _ => X.us.length - (intOf v25).toNat)
  case atStart => exact ⟨0, X.us, [], _, rfl, rfl, Nat.zero_le _, ⟨rfl, fun j v hj => ⟨v, hj, rfl, rfl, right_fits WR.out GD.out.1 v (List.mem_of_getElem? hj)⟩⟩, O3.out.2.2.2.2, Evo.nil _ _, Nat.le_refl _, Kp.refl _ _, fun _ _ h => h⟩
  case round =>
    obtain ⟨n, us1, evs, ev, rfl, rfl, hn, hal, hub, hev, hel, hkp, hmo⟩ := hrel
    have AL : Hid (Alike ks (Wn * Hn) X.us us1) := hal
    have U4 : Hid (Ub wr g us1 rest) := hub
    have E4 : Hid (Evo wr w3.heap.size ev evs ∧ evs.length ≤ 4 * n) := ⟨hev, hel⟩
    have P4 : Hid (Kp g w3 wr) := hkp
    have MO : Hid (∀ evs' us', Moves ks X Wn Hn n us1 evs' us' → Moves ks X Wn Hn 0 X.us (evs ++ evs') us') := hmo
    have A4 := ST.out wr us1 hal.1 hkp hub
    obtain ⟨-, -, -, ax, az, ab, ao1, ao2, ao3, ao5⟩ := A4
    clear hal hub hev hel hkp hmo
    by_cases h0 : n = X.us.length
    · subst h0
      have hnl : ¬ (((X.us.length : Nat) : Int) < (X.us.length : Nat)) := by omega
      have XE : Hid (Wx wr (w.heap.size) (.int .i64 X.turn) (.int .i64 X.next) (.int .i64 X.wide) (.int .i64 X.high) (Value.slice a1 X.gs.length r1) (Value.slice a2 X.os.length r2) (Value.slice a3 X.gold.length r3) (Value.slice (some ⟨g, 0, none⟩) X.us.length r4) (Value.slice a5 X.qs.length r5)) := ax
      have ZE : Hid (Wx wr (w.heap.size + 1) (.int .i64 0) (.int .i64 0) (.int .i64 0) (.int .i64 0) (.slice none 0 0) (.slice none 0 0) (.slice none 0 0) (.slice none 0 0) (.slice none 0 0)) := az
      have BE : Hid (Below w.heap.size w wr) := ab
      have OE : Hid (Ow wr b1 (Value.slice a1 X.gs.length r1) X.gs ∧ Ow wr b1 (Value.slice a2 X.os.length r2) X.os ∧ Ow wr b1 (Value.slice a3 X.gold.length r3) X.gold ∧ Jbo wr b1 (Value.slice a5 X.qs.length r5) X.qs) := ⟨ao1, ao2, ao3, ao5⟩
      have UE : Hid (Uno wr b1 (Value.slice (some ⟨g, 0, none⟩) X.us.length r4) us1) := by
        have hl := AL.out.1
        have := U4.out.uno (base := b1) (cap := r4) CP.out.1 (by rw [hl]; exact CP.out.2.1) CP.out.2.2.1 (by rw [hl]; exact CP.out.2.2.2)
        rw [hl] at this
        exact this
      have FIN : Hid (Moves ks X Wn Hn 0 X.us evs us1) := by
        have := MO.out [] us1 (.done AL.out.1.symm)
        rw [List.append_nil] at this
        exact this
      have B13 : Hid (b1 ≤ w3.heap.size) := by have := CP.out.1; have := GL.out; unfold Hid; omega
      clear ax az ab ao1 ao2 ao3 ao5
      obtain ⟨x0, x1, x2, x3, x4, x5, x6, x7, x8⟩ := XE.out.cells
      obtain ⟨z0, z1, z2, z3, z4, z5, z6, z7, z8⟩ := ZE.out.cells
      obtain ⟨t0, t1, t2, t3, t4, t5, t6, t7, t8⟩ := ZE.out.thaws
      have KZ : Hid (Kp (w.heap.size + 1) wr (((((((((wr.setCell ⟨w.heap.size + 1, 0, none⟩ (.int .i64 X.turn)).setCell ⟨w.heap.size + 1, 1, none⟩ (.int .i64 X.next)).setCell ⟨w.heap.size + 1, 2, none⟩ (.int .i64 X.wide)).setCell ⟨w.heap.size + 1, 3, none⟩ (.int .i64 X.high)).setCell ⟨w.heap.size + 1, 4, none⟩ (Value.slice a1 X.gs.length r1)).setCell ⟨w.heap.size + 1, 5, none⟩ (Value.slice a2 X.os.length r2)).setCell ⟨w.heap.size + 1, 6, none⟩ (Value.slice a3 X.gold.length r3)).setCell ⟨w.heap.size + 1, 7, none⟩ (Value.slice (some ⟨g, 0, none⟩) X.us.length r4)).setCell ⟨w.heap.size + 1, 8, none⟩ (Value.slice a5 X.qs.length r5))) := put_kp _ _ _ _ _ _ _ _ _ _ _
      obtain ⟨y0, y1, y2, y3, y4, y5, y6, y7, y8⟩ := (ZE.out.put (.int .i64 X.turn) (.int .i64 X.next) (.int .i64 X.wide) (.int .i64 X.high) (Value.slice a1 X.gs.length r1) (Value.slice a2 X.os.length r2) (Value.slice a3 X.gold.length r3) (Value.slice (some ⟨g, 0, none⟩) X.us.length r4) (Value.slice a5 X.qs.length r5)).cells
      go_wp2
      clear x0 x1 x2 x3 x4 x5 x6 x7 x8 z0 z1 z2 z3 z4 z5 z6 z7 z8 t0 t1 t2 t3 t4 t5 t6 t7 t8
      generalize (((((((((wr.setCell ⟨w.heap.size + 1, 0, none⟩ (.int .i64 X.turn)).setCell ⟨w.heap.size + 1, 1, none⟩ (.int .i64 X.next)).setCell ⟨w.heap.size + 1, 2, none⟩ (.int .i64 X.wide)).setCell ⟨w.heap.size + 1, 3, none⟩ (.int .i64 X.high)).setCell ⟨w.heap.size + 1, 4, none⟩ (Value.slice a1 X.gs.length r1)).setCell ⟨w.heap.size + 1, 5, none⟩ (Value.slice a2 X.os.length r2)).setCell ⟨w.heap.size + 1, 6, none⟩ (Value.slice a3 X.gold.length r3)).setCell ⟨w.heap.size + 1, 7, none⟩ (Value.slice (some ⟨g, 0, none⟩) X.us.length r4)).setCell ⟨w.heap.size + 1, 8, none⟩ (Value.slice a5 X.qs.length r5)) = wz at *
      refine bodyPost_ret (v := .tuple #[.agg #[.int .i64 X.turn, .int .i64 X.next, .int .i64 X.wide, .int .i64 X.high, Value.slice a1 X.gs.length r1, Value.slice a2 X.os.length r2, Value.slice a3 X.gold.length r3, Value.slice (some ⟨g, 0, none⟩) X.us.length r4, Value.slice a5 X.qs.length r5], ev, .nilIface]) (by simp [results, Tryz.results21, go_sem, y0, y1, y2, y3, y4, y5, y6, y7, y8]) rfl ⟨_, _, _, rfl, by rw [FW.out]; exact Er.nil, .inr ⟨FW.out, Wn, Hn, GD.out.2.1, GD.out.2.2, GD.out.1, us1, evs, FIN.out, AL.out.1, ?_, ?_⟩, KZ.out.below BE.out BE.out.size (by omega)⟩
      · have h := BS.out.1
        exact ⟨_, _, _, _, _, rfl, (OE.out.1.kp KZ.out (by omega)).mono (by omega), (OE.out.2.1.kp KZ.out (by omega)).mono (by omega), (OE.out.2.2.1.kp KZ.out (by omega)).mono (by omega), (UE.out.kp KZ.out (by omega)).mono (by omega), (OE.out.2.2.2.kp KZ.out (by omega)).mono (by omega)⟩
      · have h := BS.out.1
        have h' := B13.out
        exact (E4.out.1.kp9 KZ.out (by omega)).mono (by omega)
    · have hnl : n < X.us.length := by omega
      have hni : ((n : Nat) : Int) < (X.us.length : Nat) := by omega
      have hn1 : n < us1.length := by rw [AL.out.1]; exact hnl
      obtain ⟨u, hu⟩ : ∃ u, us1[n]? = some u := ⟨_, List.getElem?_eq_getElem hn1⟩
      obtain ⟨u0, hu0, huk, hid0, hfit, hgoal⟩ := AL.out.2 n u hu
      obtain ⟨k, f0⟩ := WR.out.fine hu0
      have hkk : ks[u.kind.toNat]? = some k := by rw [huk]; exact f0.kk
      have hsp := kind_nums WR.out.kinds (List.mem_of_getElem? hkk)
      have UH : Hid (us1[n]? = some u ∧ ks[u.kind.toNat]? = some k ∧ Fit ks (Wn * Hn) u ∧ (0 ≤ u.goal ∧ u.goal < (Wn * Hn : Nat)) ∧ (0 ≤ k.n4 ∧ k.n4 ≤ 4)) := ⟨hu, hkk, hfit, hgoal, hsp.2.2.1, hsp.2.2.2.1⟩
      have WN : IntKind.i64.wrap ((n : Nat) + 1 : Int) = ((n : Nat) : Int) + 1 := by rw [IntKind.wrap_i64]; omega
      have BE : Hid (Below w.heap.size w wr) := ab
      obtain ⟨x0, x1, x2, x3, x4, x5, x6, x7, x8⟩ := ax.cells
      have WK : Hid (Calls Tryz.prog 49 #[.slice pk ks.length qk, .agg #[.int .i64 X.turn, .int .i64 X.next, .int .i64 X.wide, .int .i64 X.high, Value.slice a1 X.gs.length r1, Value.slice a2 X.os.length r2, Value.slice a3 X.gold.length r3, Value.slice (some ⟨g, 0, none⟩) X.us.length r4, Value.slice a5 X.qs.length r5], .pointer (some ⟨g, n * 8, none⟩)] wr fun e w' => ∃ v us' cells, e = .returned v ∧ Ow w' wr.heap.size v cells ∧ Goes ks X Wn Hn k n us1 k.n4 cells us' ∧ Ub w' g us' rest ∧ Kp g wr w' ∧ cells.length ≤ 4 ∧ (∃ a, us' = us1.set n { u with at_ := a } ∧ 0 ≤ a ∧ a < (Wn * Hn : Nat))) := by
        have h := walk_any (.slice pk ks.length qk) ks X us1 (Value.slice a1 X.gs.length r1) (Value.slice a2 X.os.length r2) (Value.slice a3 X.gold.length r3) (Value.slice a5 X.qs.length r5) g r4 n rest u k Wn Hn wr (K.out.1.below BE.out) (S.out.below BE.out) GD.out.1 GD.out.2.1 GD.out.2.2 (fun V us' hl hk hu => by
          have h9 := ST.out V us' (by rw [hl, AL.out.1]) (P4.out.trans hk) hu
          rw [AL.out.1]
          exact ⟨h9.1, h9.2.1, h9.2.2.1⟩) U4.out UH.out.1 UH.out.2.1 (by rw [AL.out.1]; exact hul) AL.out.fits UH.out.2.2.2.1 UH.out.2.2.2.2
        rw [AL.out.1] at h
        exact h
      clear ax az ab ao1 ao2 ao3 ao5 hu hu0 huk hid0 hfit hgoal f0 hkk hsp
      go_wp2_with fail
      refine Calls.mono WK.out ?_
      rintro e v2 ⟨cv, us2, cells, rfl, hoc, hgo, hub2, hkp2, hc4, a, hus2, ha⟩
      obtain ⟨u2, hu2⟩ : ∃ v : UnV, { u with at_ := a } = v := ⟨_, rfl⟩
      have hi2 : us2[n]? = some u2 := by rw [hus2, hu2, List.getElem?_set_self hn1]
      have H2 : Hid (us2[n]? = some u2 ∧ us2.length = X.us.length ∧ Alike ks (Wn * Hn) X.us us2 ∧ u2.id = u.id ∧ u2.kind = u.kind ∧ Fit ks (Wn * Hn) u2 ∧ (0 ≤ u2.goal ∧ u2.goal < (Wn * Hn : Nat)) ∧ n < us2.length) := by
        have hf : Fit ks (Wn * Hn) u2 := by rw [← hu2]; exact ⟨UH.out.2.2.1.1, ha⟩
        have hg2 : 0 ≤ u2.goal ∧ u2.goal < (Wn * Hn : Nat) := by rw [← hu2]; exact UH.out.2.2.2.1
        have hal2 : Alike ks (Wn * Hn) X.us us2 := by rw [hus2, hu2]; exact AL.out.set UH.out.1 (by rw [← hu2]) (by rw [← hu2]) hf hg2
        exact ⟨hi2, hal2.1, hal2, by rw [← hu2], by rw [← hu2], hf, hg2, (List.getElem?_eq_some_iff.1 hi2).1⟩
      obtain ⟨ac, cc, rfl⟩ := hoc.len
      obtain ⟨bo, hbo⟩ : ∃ z, wr.heap.size = z := ⟨_, rfl⟩
      rw [hbo] at hoc
      have OC : Hid (Ow v2 bo (.slice ac cells.length cc) cells) := hoc
      have GO : Hid (Goes ks X Wn Hn k n us1 k.n4 cells us2 ∧ cells.length ≤ 4) := ⟨hgo, hc4⟩
      have U5 : Hid (Ub v2 g us2 rest) := hub2
      have P5 : Hid (Kp g w3 v2) := P4.out.trans hkp2
      have E5 : Hid (Evo v2 w3.heap.size ev evs) := E4.out.1.kp9 hkp2 GL.out
      have DE : Hid (∀ b, ev.ownBlock = some b → (Value.slice ac cells.length cc).ownBlock ≠ some b) := fun b h1 h2 => by
        have := (E4.out.1.block b h1).2
        have := (hoc.block b h2).1
        omega
      have EL : Hid (evs.length ≤ 4 * n) := E4.out.2
      have hcc : cells.length ≤ cc ∧ cc ≤ 9223372036854775807 := by
        obtain ⟨a9, c9, h9, h8, h7, -⟩ := hoc.ro
        injection h9 with _ _ h9
        subst h9
        exact ⟨h8, h7⟩
      obtain ⟨hcc1, hcc2⟩ := hcc
      clear hoc hgo hub2 hkp2 hus2 ha hu2 hi2 hbo x0 x1 x2 x3 x4 x5 x6 x7 x8 WK U4 P4 E4 BE
      generalize wr = wo at *
      go_upto_region 11 with fail
      go_loopw [8, 37] (fun v8 v37 V => ∃ (m : Nat) (ev' : Value), ev' = v8 ∧ v37 = .int .i64 (m : Nat) ∧ m ≤ cells.length ∧ Ub V g us2 rest ∧ Evo V w3.heap.size ev' (evs ++ (cells.take m).map (fun c => (⟨1, u.id, c⟩ : EvV))) ∧ Kp g w3 V ∧ Ow V bo (.slice ac cells.length cc) cells ∧ (∀ b, ev'.ownBlock = some b → (Value.slice ac cells.length cc).ownBlock ≠ some b)) (fun _ v37 _ => cells.length - (intOf v37).toNat)
      case atStart => exact ⟨0, _, rfl, rfl, Nat.zero_le _, U5.out, by simpa using E5.out, P5.out, OC.out, DE.out⟩
      case round =>
        obtain ⟨m, ev', rfl, rfl, hm, hub, hev, hkp, hoc, hde⟩ := hrel
        have U6 : Hid (Ub wr g us2 rest) := hub
        have E6 : Hid (Evo wr w3.heap.size ev' (evs ++ (cells.take m).map (fun c => (⟨1, u.id, c⟩ : EvV)))) := hev
        have P6 : Hid (Kp g w3 wr) := hkp
        have O6 : Hid (Ow wr bo (.slice ac cells.length cc) cells) := hoc
        have D6 : Hid (∀ b, ev'.ownBlock = some b → (Value.slice ac cells.length cc).ownBlock ≠ some b) := hde
        clear hub hev hkp hoc hde U5 E5 P5 OC DE
        obtain ⟨y0, y1, y2, y3, y4, y5, y6, y7⟩ := U6.out.unc H2.out.1
        by_cases h0 : m = cells.length
        · subst h0
          have hml : ¬ (((cells.length : Nat) : Int) < (cells.length : Nat)) := by omega
          rw [List.take_of_length_le (Nat.le_refl _)] at E6
          obtain ⟨evs2, hevs2⟩ : ∃ l, evs ++ cells.map (fun c => (⟨1, u.id, c⟩ : EvV)) = l := ⟨_, rfl⟩
          rw [hevs2] at E6
          have EL2 : Hid (evs2.length ≤ 4 * (n + 1)) := by
            unfold Hid
            rw [← hevs2, List.length_append, List.length_map]
            have := EL.out
            have := GO.out.2
            omega
          have MO2 : Hid (∀ evs' us', Moves ks X Wn Hn (n + 1) (us2.set n (ends u2)) evs' us' → Moves ks X Wn Hn 0 X.us (evs2 ++ evs') us') := fun evs' us' h => by
            have := MO.out (cells.map (fun c => (⟨1, u.id, c⟩ : EvV)) ++ evs') us' (.unit UH.out.1 UH.out.2.1 GO.out.1 H2.out.1 h)
            rw [← List.append_assoc, hevs2] at this
            exact this
          clear hevs2
          have SELF : Hid (us2.set n u2 = us2) := by
            unfold Hid
            obtain ⟨h2, h3⟩ := List.getElem?_eq_some_iff.1 H2.out.1
            rw [← h3, List.set_getElem_self]
          go_upto_region 15 with fail
          by_cases ht : u2.task = 1
          · have ht' : (u2.task == 1) = true := by rw [ht]; rfl
            have C5 : Hid (∀ V, Below wr.heap.size wr V → Unc V ⟨g, n * 8, none⟩ u2) := fun V hb => (U6.out.below hb U6.out.lt).unc H2.out.1
            clear y0 y1 y2 y3 y4 y5 y6 y7
            by_cases hg : u2.at_ = u2.goal
            · have hg' : (u2.at_ == u2.goal) = true := by rw [hg]; simp
              have EN : Hid (ends u2 = { u2 with task := 0, goal := 0 }) := by unfold Hid ends; rw [if_pos ⟨ht, hg⟩]
              clear ht hg
              refine wp_region_two [(true, 0), (true, 1), (true, 2), (true, 3), (true, 4), (true, 5), (true, 6), (true, 7), (true, 8), (true, 9), (true, 10), (true, 11), (true, 12), (true, 13), (true, 14)] [(false, 15)] (fun V => Unc V ⟨g, n * 8, none⟩ u2) (by kernel_rfl) (by kernel_rfl) (by kernel_rfl) (by decide +kernel) (by decide +kernel) (C5.out _ ((Below.refl _ _).drew)) ?_
              have D1 : Hid (Below wr.heap.size wr { wr with drawn := wr.drawn + 1 }) := (Below.refl _ _).drew
              generalize ({ wr with drawn := wr.drawn + 1 } : World) = v7 at *
              refine headT_read rfl (.pointer (some ⟨g, n * 8, none⟩)) (by go_simp) (fun V hV => by go_simp) ?_
              go_simp
              refine headT_read rfl (.pointer (some ⟨g, n * 8, none⟩)) (by go_simp) (fun V hV => by go_simp) ?_
              go_simp
              refine headT_read rfl (.pointer (some ⟨g, n * 8 + 6, none⟩)) (by go_simp) (fun V hV => by go_simp) ?_
              go_simp
              refine headT_read rfl (.int .i64 u2.task) (by go_simp) (fun V hV => by obtain ⟨y0, y1, y2, y3, y4, y5, y6, y7⟩ := hV; go_simp) ?_
              go_simp
              refine headT_read rfl (.bool true) (by go_simp) (fun V hV => by go_simp) ?_
              go_simp
              refine headT_read rfl (.bool true) (by go_simp) (fun V hV => by go_simp) ?_
              go_simp
              refine headT_read rfl (.pointer (some ⟨g, n * 8, none⟩)) (by go_simp) (fun V hV => by go_simp) ?_
              go_simp
              refine headT_read rfl (.pointer (some ⟨g, n * 8, none⟩)) (by go_simp) (fun V hV => by go_simp) ?_
              go_simp
              refine headT_read rfl (.pointer (some ⟨g, n * 8 + 3, none⟩)) (by go_simp) (fun V hV => by go_simp) ?_
              go_simp
              refine headT_read rfl (.int .i64 u2.at_) (by go_simp) (fun V hV => by obtain ⟨y0, y1, y2, y3, y4, y5, y6, y7⟩ := hV; go_simp) ?_
              go_simp
              refine headT_read rfl (.pointer (some ⟨g, n * 8, none⟩)) (by go_simp) (fun V hV => by go_simp) ?_
              go_simp
              refine headT_read rfl (.pointer (some ⟨g, n * 8, none⟩)) (by go_simp) (fun V hV => by go_simp) ?_
              go_simp
              refine headT_read rfl (.pointer (some ⟨g, n * 8 + 7, none⟩)) (by go_simp) (fun V hV => by go_simp) ?_
              go_simp
              refine headT_read rfl (.int .i64 u2.goal) (by go_simp) (fun V hV => by obtain ⟨y0, y1, y2, y3, y4, y5, y6, y7⟩ := hV; go_simp) ?_
              go_simp
              refine headT_read rfl (.bool true) (by go_simp) (fun V hV => by go_simp) ?_
              go_simp
              unfold wpHeadT
              refine sched_value rfl (.bool true) v7 (by go_simp) (by go_simp) trivial ?_
              go_simp
              unfold wpSched
              have U7 : Hid (Ub v7 g us2 rest) := U6.out.below D1.out U6.out.lt
              have c6 := (U7.out.unc H2.out.1).c6
              have t6 := U7.out.thaw (n * 8 + 6)
              have U8 : Hid (Ub (v7.setCell ⟨g, n * 8 + 6, none⟩ (.int .i64 0)) g (us2.set n { u2 with task := 0 }) rest) := U7.out.set6 H2.out.1 0
              have hs8 : (us2.set n { u2 with task := 0 })[n]? = some { u2 with task := 0 } := List.getElem?_set_self H2.out.2.2.2.2.2.2.2
              have c7 := (U8.out.unc hs8).c7
              have t7 := U8.out.thaw (n * 8 + 7)
              have U9 : Hid (Ub ((v7.setCell ⟨g, n * 8 + 6, none⟩ (.int .i64 0)).setCell ⟨g, n * 8 + 7, none⟩ (.int .i64 0)) g (us2.set n { u2 with task := 0, goal := 0 }) rest) := by
                have := U8.out.set7 hs8 0
                rw [List.set_set] at this
                exact this
              have K9 : Hid (Kp g v7 ((v7.setCell ⟨g, n * 8 + 6, none⟩ (.int .i64 0)).setCell ⟨g, n * 8 + 7, none⟩ (.int .i64 0))) := (Kp.set _ _ _).trans (Kp.set _ _ _)
              clear hs8
              go_upto_region 17 with fail
              clear c6 t6 c7 t7 U8 U7
              generalize ((v7.setCell ⟨g, n * 8 + 6, none⟩ (.int .i64 0)).setCell ⟨g, n * 8 + 7, none⟩ (.int .i64 0)) = v9 at *
              have P9 : Hid (Kp g w3 v9) := (P6.out.trans (Kp.of D1.out)).trans K9.out
              have E9 : Hid (Evo v9 w3.heap.size ev' evs2) := (E6.out.below D1.out).kp9 K9.out GL.out
              have AL9 : Hid (Alike ks (Wn * Hn) X.us (us2.set n { u2 with task := 0, goal := 0 })) := H2.out.2.2.1.set H2.out.1 rfl rfl ⟨H2.out.2.2.2.2.2.1.1, H2.out.2.2.2.2.2.1.2⟩ ⟨Int.le_refl _, by have := H2.out.2.2.2.2.2.2.1; show (0 : Int) < _; omega⟩
              rw [EN.out] at MO2
              clear ht' hg'
              go_wp2
              go_round
              case rel => exact ⟨n + 1, _, evs2, _, rfl, by go_num, by omega, AL9.out, U9.out, E9.out, EL2.out, P9.out, MO2.out⟩
              case measure => simp [intOf]; omega
            · have hg' : (u2.at_ == u2.goal) = false := by rw [beq_eq_false_iff_ne]; exact hg
              have EN : Hid (ends u2 = u2) := by unfold Hid ends; rw [if_neg (fun h => hg h.2)]
              clear ht hg
              refine wp_region_two [(true, 0), (true, 1), (true, 2), (true, 3), (true, 4), (true, 5), (true, 6), (true, 7), (true, 8), (true, 9), (true, 10), (true, 11), (true, 12), (true, 13), (true, 14)] [(false, 15)] (fun V => Unc V ⟨g, n * 8, none⟩ u2) (by kernel_rfl) (by kernel_rfl) (by kernel_rfl) (by decide +kernel) (by decide +kernel) (C5.out _ ((Below.refl _ _).drew)) ?_
              have D1 : Hid (Below wr.heap.size wr { wr with drawn := wr.drawn + 1 }) := (Below.refl _ _).drew
              generalize ({ wr with drawn := wr.drawn + 1 } : World) = v7 at *
              refine headT_read rfl (.pointer (some ⟨g, n * 8, none⟩)) (by go_simp) (fun V hV => by go_simp) ?_
              go_simp
              refine headT_read rfl (.pointer (some ⟨g, n * 8, none⟩)) (by go_simp) (fun V hV => by go_simp) ?_
              go_simp
              refine headT_read rfl (.pointer (some ⟨g, n * 8 + 6, none⟩)) (by go_simp) (fun V hV => by go_simp) ?_
              go_simp
              refine headT_read rfl (.int .i64 u2.task) (by go_simp) (fun V hV => by obtain ⟨y0, y1, y2, y3, y4, y5, y6, y7⟩ := hV; go_simp) ?_
              go_simp
              refine headT_read rfl (.bool true) (by go_simp) (fun V hV => by go_simp) ?_
              go_simp
              refine headT_read rfl (.bool true) (by go_simp) (fun V hV => by go_simp) ?_
              go_simp
              refine headT_read rfl (.pointer (some ⟨g, n * 8, none⟩)) (by go_simp) (fun V hV => by go_simp) ?_
              go_simp
              refine headT_read rfl (.pointer (some ⟨g, n * 8, none⟩)) (by go_simp) (fun V hV => by go_simp) ?_
              go_simp
              refine headT_read rfl (.pointer (some ⟨g, n * 8 + 3, none⟩)) (by go_simp) (fun V hV => by go_simp) ?_
              go_simp
              refine headT_read rfl (.int .i64 u2.at_) (by go_simp) (fun V hV => by obtain ⟨y0, y1, y2, y3, y4, y5, y6, y7⟩ := hV; go_simp) ?_
              go_simp
              refine headT_read rfl (.pointer (some ⟨g, n * 8, none⟩)) (by go_simp) (fun V hV => by go_simp) ?_
              go_simp
              refine headT_read rfl (.pointer (some ⟨g, n * 8, none⟩)) (by go_simp) (fun V hV => by go_simp) ?_
              go_simp
              refine headT_read rfl (.pointer (some ⟨g, n * 8 + 7, none⟩)) (by go_simp) (fun V hV => by go_simp) ?_
              go_simp
              refine headT_read rfl (.int .i64 u2.goal) (by go_simp) (fun V hV => by obtain ⟨y0, y1, y2, y3, y4, y5, y6, y7⟩ := hV; go_simp) ?_
              go_simp
              refine headT_read rfl (.bool false) (by go_simp) (fun V hV => by go_simp) ?_
              go_simp
              unfold wpHeadT
              refine sched_value rfl (.bool false) v7 (by go_simp) (by go_simp) trivial ?_
              go_simp
              unfold wpSched
              have U9 : Hid (Ub v7 g us2 rest) := U6.out.below D1.out U6.out.lt
              have P9 : Hid (Kp g w3 v7) := P6.out.trans (Kp.of D1.out)
              have E9 : Hid (Evo v7 w3.heap.size ev' evs2) := E6.out.below D1.out
              rw [EN.out, SELF.out] at MO2
              clear ht' hg'
              go_wp2
              go_round
              case rel => exact ⟨n + 1, us2, evs2, _, rfl, by go_num, by omega, H2.out.2.2.1, U9.out, E9.out, EL2.out, P9.out, MO2.out⟩
              case measure => simp [intOf]; omega
          · have ht' : (u2.task == 1) = false := by rw [beq_eq_false_iff_ne]; exact ht
            have EN : Hid (ends u2 = u2) := by unfold Hid ends; rw [if_neg (fun h => ht h.1)]
            rw [EN.out, SELF.out] at MO2
            clear ht
            go_quiet (fail)
            clear y0 y1 y2 y3 y4 y5 y6 y7
            go_wp2
            go_round
            case rel => exact ⟨n + 1, us2, evs2, _, rfl, by go_num, by omega, H2.out.2.2.1, U6.out.below (B := wr.heap.size) ⟨rfl, rfl, rfl, Nat.le_refl _, fun _ _ => rfl⟩ U6.out.lt, E6.out.below ⟨rfl, rfl, rfl, Nat.le_refl _, fun _ _ => rfl⟩, EL2.out, P6.out.trans (Kp.of ⟨rfl, rfl, rfl, Nat.le_refl _, fun _ _ => rfl⟩), MO2.out⟩
            case measure => simp [intOf]; omega
        · have hml : m < cells.length := by omega
          have hmi : ((m : Nat) : Int) < (cells.length : Nat) := by omega
          obtain ⟨x, hx⟩ : ∃ x, cells[m]? = some x := ⟨_, List.getElem?_eq_getElem hml⟩
          obtain ⟨a9, c9, h9, -, -, hcl⟩ := O6.out.ro
          obtain ⟨xc, hxc, -, hcc9⟩ := hcl (by intro h; rw [h] at hml; simp at hml)
          injection h9 with h91 h92 h93
          subst h91
          subst hxc
          have cx := hcc9 m x hx
          have WM : IntKind.i64.wrap ((m : Nat) + 1 : Int) = ((m : Nat) : Int) + 1 := by rw [IntKind.wrap_i64]; have := GO.out.2; omega
          obtain ⟨fs, hfs⟩ : ∃ l, evs ++ (cells.take m).map (fun c => (⟨1, u.id, c⟩ : EvV)) = l := ⟨_, rfl⟩
          have NX : Hid (evs ++ (cells.take (m + 1)).map (fun c => (⟨1, u.id, c⟩ : EvV)) = fs ++ [⟨1, u.id, x⟩]) := by
            unfold Hid
            obtain ⟨q1', q2'⟩ := List.getElem?_eq_some_iff.1 hx
            rw [List.take_succ_eq_append_getElem q1', q2', List.map_append, ← List.append_assoc, hfs]
            rfl
          have FSL : Hid (fs.length ≤ 1000) := by
            unfold Hid
            rw [← hfs, List.length_append, List.length_map, List.length_take]
            have := EL.out
            have := GO.out.2
            omega
          rw [hfs] at E6
          rw [H2.out.2.2.2.1] at y0
          clear hcl h92 h93 hcc9 hx hfs
          have BA : Hid (Below wr.heap.size wr (wr.alloc (Obj.cells #[.int .i64 1, .int .i64 u.id, .int .i64 x] 68))) := (Below.refl _ _).alloc (Nat.le_refl _) _
          have EC : Hid (Evc (wr.alloc (Obj.cells #[.int .i64 1, .int .i64 u.id, .int .i64 x] 68)) ⟨wr.heap.size, 0, none⟩ (⟨1, u.id, x⟩ : EvV)) := Evc.mk' (⟨1, u.id, x⟩ : EvV) rfl
          have E7 : Hid (Evo (wr.alloc (Obj.cells #[.int .i64 1, .int .i64 u.id, .int .i64 x] 68)) w3.heap.size ev' fs) := E6.out.below BA.out
          have SZ : Hid (w3.heap.size ≤ (wr.alloc (Obj.cells #[.int .i64 1, .int .i64 u.id, .int .i64 x] 68)).heap.size) := Nat.le_trans P6.out.size BA.out.size
          go_wp2_with (at_builtin; refine app_ev _ rfl _ _ rfl w3.heap.size _ fs rfl E7.out _ (⟨1, u.id, x⟩ : EvV) rfl EC.out (by have := FSL.out; omega) SZ.out ?_)
          intro gg gc v8 o8 g8 s8 _
          have E8 : Hid (Evo v8 w3.heap.size (.slice (some ⟨gg, 0, none⟩) (fs.length + 1) gc) (fs ++ [⟨1, u.id, x⟩])) := o8
          have P8 : Hid (Kp g w3 v8) := kp_gb (P6.out.trans (Kp.of BA.out)) g8 (fun b hb => (E7.out.block b hb).1)
          have U8 : Hid (Ub v8 g us2 rest) := by
            have h6 := U6.out.below BA.out U6.out.lt
            unfold Ub at h6
            unfold Hid Ub
            rw [g8.block g (lt_of_block h6) (fun e => by have := (E7.out.block g e.symm).1; have := GL.out; omega)]
            exact h6
          have O8 : Hid (Ow v8 bo (.slice (some xc) cells.length cc) cells) := own_gb (Ow.below O6.out BA.out) g8 (fun b h1 h2 => D6.out b h2 h1)
          have D8 : Hid (∀ b, (Value.slice (some ⟨gg, 0, none⟩) (fs.length + 1) gc).ownBlock = some b → (Value.slice (some xc) cells.length cc).ownBlock ≠ some b) := fun b h1 h2 => by
            have hgb : gg = b := by injection h1
            rcases s8 with s8 | s8
            · exact D6.out gg s8 (by rw [hgb]; exact h2)
            · have := (O6.out.block b h2).2
              have hw : gg = wr.heap.size + 1 := s8.trans (by simp)
              omega
          clear o8 g8 s8 BA EC E7 SZ y0 y1 y2 y3 y4 y5 y6 y7 cx
          go_wp2
          go_round
          case rel => exact ⟨m + 1, _, rfl, by go_num, by omega, U8.out, by rw [NX.out]; exact E8.out, P8.out, O8.out, D8.out⟩
          case measure => simp [intOf]; omega
end Go.Proofs.YtagnjmellcibhaaGreatDoor

namespace Go.Proofs.YtagnjmellcibhaaGreatDoor.Wy

theorem onto_air {g : Int} {fl : Bool} (h : 0 < Fd.onto g fl) : 0 < Fd.onto g true ∧ Fd.onto g true ≤ Fd.onto g fl := by
  unfold Fd.onto at *
  by_cases h1 : g = 1
  · simp [h1] at h
  · by_cases h2 : g = 2
    · cases fl
      · simp [h2] at h
      · simp [h2]
    · by_cases h3 : g = 3
      · cases fl
        · simp [h3]
        · simp [h3]
      · simp [h1, h2, h3]
theorem ss_air {gs : List Int} {fl : Bool} {j : Nat} (h : 0 < (gs.map fun g => Fd.onto g fl).getD j 0) : 0 < (gs.map fun g => Fd.onto g true).getD j 0 ∧ (gs.map fun g => Fd.onto g true).getD j 0 ≤ (gs.map fun g => Fd.onto g fl).getD j 0 := by
  rw [List.getD_eq_getElem?_getD, List.getElem?_map] at *
  rw [List.getD_eq_getElem?_getD, List.getElem?_map]
  cases hg : gs[j]? with
  | none => rw [hg] at h; simp at h
  | some g => rw [hg] at h; exact onto_air h
theorem way_air {nb : Nat → List Int} {gs : List Int} {fl : Bool} {t i : Nat} {d : Int} (h : Way nb (fun _ j => (gs.map fun g => Fd.onto g fl).getD j 0) t i d) : ∃ d', d' ≤ d ∧ Way nb (fun _ j => (gs.map fun g => Fd.onto g true).getD j 0) t i d' := by
  induction h with
  | here => exact ⟨0, by omega, .here⟩
  | @step i j d h1 h2 h3 ih =>
    obtain ⟨d', hd, hw⟩ := ih
    have k := ss_air h2
    exact ⟨_, by omega, .step h1 k.1 hw⟩
theorem least_get {nb : Nat → List Int} {st : Nat → Nat → Int} {t n i : Nat} {l : List Int} (h : IsFar nb st t n l) (hi : i < n) : Least nb st t i (l.getD i 0) := by
  have e : l[i]? = some (l.getD i 0) := by rw [List.getD_eq_getElem?_getD, List.getElem?_eq_getElem (by rw [h.1]; exact hi)]; rfl
  exact h.2 i _ e
theorem far_air {nb : Nat → List Int} {gs : List Int} {fl : Bool} {t n i : Nat} {l l' : List Int} (h : IsFar nb (fun _ j => (gs.map fun g => Fd.onto g fl).getD j 0) t n l) (h' : IsFar nb (fun _ j => (gs.map fun g => Fd.onto g true).getD j 0) t n l') (hi : i < n) (h0 : 0 ≤ l.getD i 0) : 0 ≤ l'.getD i 0 ∧ l'.getD i 0 ≤ l.getD i 0 := by
  rcases least_get h hi with ⟨e, _⟩ | ⟨hw, _⟩
  · omega
  · obtain ⟨d', hd, hw'⟩ := way_air hw
    rcases least_get h' hi with ⟨_, k⟩ | ⟨k1, k2⟩
    · exact absurd hw' (k _)
    · have := k2 _ hw'
      have := k1.nonneg
      omega

/-- two cells of a way, one behind the other. -/
theorem Pth.two {nb : Nat → List Int} {ss l : List Int} {t i : Nat} {p : List Int} (h : Pth nb ss l t i p) : ∀ k, k + 1 < p.length → ∃ x y : Nat, p[k]? = some (x : Int) ∧ p[k + 1]? = some (y : Int) ∧ Nx nb ss l x y := by
  induction h with
  | here => intro k hk; simp at hk
  | @step i j p h1 h2 h3 ih =>
    intro k hk
    cases k with
    | zero => exact ⟨i, j, rfl, by simpa using h3.head, h2⟩
    | succ k =>
      obtain ⟨x, y, a1, a2, a3⟩ := ih k (by simpa using hk)
      exact ⟨x, y, by simpa using a1, by simpa using a2, a3⟩
theorem Pth.pos {nb : Nat → List Int} {ss l : List Int} {t i : Nat} {p : List Int} (h : Pth nb ss l t i p) : 0 < p.length := by
  cases h <;> simp
/-- all cells of a way are cells. -/
theorem Pth.cells {nb : Nat → List Int} {ss l : List Int} {t i n : Nat} {p : List Int} (hn : ∀ (i j : Nat), i < n → (j : Int) ∈ nb i → j < n) (h : Pth nb ss l t i p) (hi : i < n) : ∀ (k : Nat) (x : Int), p[k]? = some x → ∃ y : Nat, x = y ∧ y < n := by
  induction h with
  | here =>
    intro k x hx
    cases k with
    | zero => simp at hx; exact ⟨t, hx.symm, hi⟩
    | succ k => simp at hx
  | @step i j p h1 h2 h3 ih =>
    intro k x hx
    cases k with
    | zero => simp at hx; exact ⟨i, hx.symm, hi⟩
    | succ k => exact ih (hn i j hi h2.is.1) k x (by simpa using hx)

/-! two small fields. -/
/-- Shut, asked of a list. -/
def chk (nb : Nat → List Int) (st : Nat → Nat → Int) (l : List Int) (n : Nat) : Bool := (List.range n).all fun i => (nb i).all fun x => decide (¬ (0 < st i x.toNat ∧ 0 ≤ l.getD x.toNat 0) ∨ (0 ≤ l.getD i 0 ∧ l.getD i 0 ≤ st i x.toNat + l.getD x.toNat 0))
theorem chk_shut {nb : Nat → List Int} {st : Nat → Nat → Int} {l : List Int} {n : Nat} (h : chk nb st l n = true) : ∀ i, i < n → Shut nb st l i := by
  intro i hi j x y hx hy hj h0 y0
  unfold chk at h
  rw [List.all_eq_true] at h
  have h1 := h i (List.mem_range.2 hi)
  rw [List.all_eq_true] at h1
  have h2 := of_decide_eq_true (h1 j hj)
  rw [Int.toNat_natCast, getD_of hx, getD_of hy] at h2
  rcases h2 with h2 | h2
  · exact absurd ⟨h0, y0⟩ h2
  · exact h2

def s6 : Nat → Nat → Int := fun _ j => (([0, 1, 0, 0, 3, 0] : List Int).map fun g => Fd.onto g false).getD j 0
theorem six : IsFar (Fd.near 3 2) s6 2 6 [5, 1, 0, 4, 2, 1] := by
  have w2 : Way (Fd.near 3 2) s6 2 2 0 := .here
  have w5 : Way (Fd.near 3 2) s6 2 5 1 := Way.step (nb := Fd.near 3 2) (st := s6) (i := 5) (j := 2) (by decide) (by decide) w2
  have w1 : Way (Fd.near 3 2) s6 2 1 1 := Way.step (nb := Fd.near 3 2) (st := s6) (i := 1) (j := 2) (by decide) (by decide) w2
  have w4 : Way (Fd.near 3 2) s6 2 4 2 := Way.step (nb := Fd.near 3 2) (st := s6) (i := 4) (j := 5) (by decide) (by decide) w5
  have w3 : Way (Fd.near 3 2) s6 2 3 4 := Way.step (nb := Fd.near 3 2) (st := s6) (i := 3) (j := 4) (by decide) (by decide) w4
  have w0 : Way (Fd.near 3 2) s6 2 0 5 := Way.step (nb := Fd.near 3 2) (st := s6) (i := 0) (j := 3) (by decide) (by decide) w3
  refine far_of rfl ?_ rfl ?_ (chk_shut (by decide))
  · intro i j hi hj
    obtain ⟨t, h1, h2, -⟩ := Fd.near_cell (W := 3) (H := 2) (by decide) hi hj
    omega
  · intro i x hx
    match i, hx with
    | 0, hx => simp at hx; subst hx; exact .inr w0
    | 1, hx => simp at hx; subst hx; exact .inr w1
    | 2, hx => simp at hx; subst hx; exact .inr w2
    | 3, hx => simp at hx; subst hx; exact .inr w3
    | 4, hx => simp at hx; subst hx; exact .inr w4
    | 5, hx => simp at hx; subst hx; exact .inr w5
    | i + 6, hx => simp at hx
def s3 : Nat → Nat → Int := fun i _ => (([0, 3, 0] : List Int).map fun g => Fd.onto g false).getD i 0
theorem three : IsFar (Fd.near 3 1) s3 0 3 [0, 2, 3] := by
  have w0 : Way (Fd.near 3 1) s3 0 0 0 := .here
  have w1 : Way (Fd.near 3 1) s3 0 1 2 := Way.step (nb := Fd.near 3 1) (st := s3) (i := 1) (j := 0) (by decide) (by decide) w0
  have w2 : Way (Fd.near 3 1) s3 0 2 3 := Way.step (nb := Fd.near 3 1) (st := s3) (i := 2) (j := 1) (by decide) (by decide) w1
  refine far_of rfl ?_ rfl ?_ (chk_shut (by decide))
  · intro i j hi hj
    obtain ⟨t, h1, h2, -⟩ := Fd.near_cell (W := 3) (H := 1) (by decide) hi hj
    omega
  · intro i x hx
    match i, hx with
    | 0, hx => simp at hx; subst hx; exact .inr w0
    | 1, hx => simp at hx; subst hx; exact .inr w1
    | 2, hx => simp at hx; subst hx; exact .inr w2
    | i + 3, hx => simp at hx
end Go.Proofs.YtagnjmellcibhaaGreatDoor.Wy

namespace Go.Proofs.YtagnjmellcibhaaGreatDoor.Wy

/-- from where a way begins, each cell of it may be reached. -/
theorem Pth.reach {nb : Nat → List Int} {ss l : List Int} {t i : Nat} {p : List Int} (h : Pth nb ss l t i p) (h0 : 0 ≤ l.getD t 0) : ∀ (k x : Nat), p[k]? = some (x : Int) → ∃ d, Way nb (fun _ j => ss.getD j 0) x i d ∧ d + l.getD x 0 = l.getD i 0 ∧ 0 ≤ l.getD x 0 := by
  induction h with
  | here =>
    intro k x hx
    cases k with
    | zero =>
      simp at hx
      have : t = x := by omega
      subst this
      exact ⟨0, .here, by omega, h0⟩
    | succ k => simp at hx
  | @step i j p h1 h2 h3 ih =>
    intro k x hx
    have is := h2.is
    cases k with
    | zero =>
      simp at hx
      have : i = x := by omega
      subst this
      exact ⟨0, .here, by omega, by omega⟩
    | succ k =>
      obtain ⟨d, hw, he, hn⟩ := ih k x (by simpa using hx)
      exact ⟨_, .step is.1 is.2.1 hw, by show ss.getD j 0 + d + _ = _; omega, hn⟩
/-- there and back: how far it is to a cell is how far from there. -/
theorem far_back {nb : Nat → List Int} {ss : List Int} {a c n : Nat} {l l' : List Int} (E : Even nb (fun _ j => ss.getD j 0) n) (h : IsFar nb (fun i _ => ss.getD i 0) a n l) (h' : IsFar nb (fun _ j => ss.getD j 0) c n l') (ha : a < n) (hc : c < n) : l'.getD a 0 = l.getD c 0 :=
  (least_get h' ha).uniq ((least_get (st := fun i _ => ss.getD i 0) h hc).turn (s := fun j => ss.getD j 0) E hc ha)
/-- the cells of a way to what may be reached may be reached. -/
theorem way_in {nb : Nat → List Int} {ss : List Int} {a c n x k : Nat} {l l' p : List Int} {m : Int} (E : Even nb (fun _ j => ss.getD j 0) n) (h : IsFar nb (fun i _ => ss.getD i 0) a n l) (h' : IsFar nb (fun _ j => ss.getD j 0) c n l') (ha : a < n) (hc : c < n) (hm : l.getD c 0 ≤ m) (hp : Pth nb ss l' c a p) (hx : p[k]? = some (x : Int)) (hxn : x < n) : (x : Int) ∈ rch l m n := by
  have h0 : 0 ≤ l'.getD c 0 := by rw [getD_of (h'.here hc)]; omega
  obtain ⟨d, hw, he, hn⟩ := hp.reach h0 k x hx
  have e := far_back E h h' ha hc
  have ls := (least_get (st := fun i _ => ss.getD i 0) h hxn).turn (s := fun j => ss.getD j 0) E hxn ha
  refine rch_mem.2 ⟨x, rfl, hxn, ?_⟩
  rcases ls with ⟨_, k1⟩ | ⟨k1, k2⟩
  · exact absurd hw (k1 _)
  · have := k1.nonneg
    have := k2 _ hw
    omega
theorem rch_mono {l : List Int} {m m' : Int} {n : Nat} (h : m ≤ m') {x : Int} (hx : x ∈ rch l m n) : x ∈ rch l m' n := by
  obtain ⟨i, h1, h2, h3, h4⟩ := rch_mem.1 hx
  exact rch_mem.2 ⟨i, h1, h2, h3, by omega⟩
theorem rise_at {A : List Int} (h : A.Pairwise (· < ·)) {i : Nat} {x y : Int} (hx : A[i]? = some x) (hy : A[i + 1]? = some y) : x < y := by
  obtain ⟨h1, e1⟩ := List.getElem?_eq_some_iff.1 hx
  obtain ⟨h2, e2⟩ := List.getElem?_eq_some_iff.1 hy
  have := (List.pairwise_iff_getElem.1 h) i (i + 1) h1 h2 (Nat.lt_succ_self _)
  rw [e1, e2] at this
  exact this
end Go.Proofs.YtagnjmellcibhaaGreatDoor.Wy

namespace Go.Proofs.YtagnjmellcibhaaGreatDoor
open Wy
set_option linter.unusedVariables false

theorem far_self {nb : Nat → List Int} {st : Nat → Nat → Int} {t n : Nat} {l : List Int} (h : IsFar nb st t n l) (ht : t < n) : l.getD t 0 = 0 := by
  have hl : t < l.length := by rw [h.1]; exact ht
  have h1 := h.2 t _ (List.getElem?_eq_getElem hl)
  rw [List.getD_eq_getElem?_getD, List.getElem?_eq_getElem hl]
  show l[t] = 0
  rcases h1 with ⟨-, h1⟩ | ⟨h1, h2⟩
  · exact absurd Way.here (h1 0)
  · have := h2 0 Way.here
    have := h1.nonneg
    omega
/-- who rests wishes to be where it is. -/
theorem wish_rest {ks : List KV} {X : WV} {Wn Hn : Nat} {u : UnV} {k : KV} {c : Nat} (h : WishSays ks X Wn Hn u k c) (ht : u.task = 0) : u.at_ = (c : Nat) := by
  obtain ⟨an, bn, l, ha, haim, -, -, hh⟩ := h
  have hb : (bn : Int) = u.at_ := by
    rcases haim with ⟨-, h⟩ | ⟨h, -⟩ | ⟨h, -⟩
    · exact h
    · exact absurd ht h
    · rw [ht] at h; cases h
  rcases hh with ⟨-, rfl⟩ | ⟨-, h⟩
  · exact ha
  · rcases h with ⟨-, rfl⟩ | ⟨h, -⟩
    · exact ha
    · exact absurd (by omega) h
theorem goes_rest {ks : List KV} {X : WV} {Wn Hn : Nat} {k : KV} {i : Nat} {us us' : List UnV} {left : Int} {cells : List Int} {u : UnV} (hu : us[i]? = some u) (ht : u.task = 0) (h : Goes ks X Wn Hn k i us left cells us') : cells = [] ∧ us' = us := by
  cases h with
  | stop => exact ⟨rfl, rfl⟩
  | step hu' hw hg h1 h2 h3 =>
    rw [hu] at hu'
    injection hu' with hu'
    subst hu'
    have := List.any_eq_false.1 h2 u (List.mem_of_getElem? hu)
    rw [wish_rest hw ht] at this
    simp at this
theorem ends_rest {u : UnV} (ht : u.task = 0) : ends u = u := by
  unfold ends
  rw [if_neg]
  rintro ⟨h, -⟩
  rw [ht] at h; cases h
theorem moves_rest {ks : List KV} {X : WV} {Wn Hn : Nat} {n : Nat} {us us' : List UnV} {evs : List EvV} (h : Moves ks X Wn Hn n us evs us') : (∀ u ∈ us, u.task = 0) → evs = [] ∧ us' = us := by
  induction h with
  | done h => intro _; exact ⟨rfl, rfl⟩
  | unit hu hk hg h1 hm ih =>
    intro hr
    have htu := hr _ (List.mem_of_getElem? hu)
    obtain ⟨rfl, rfl⟩ := goes_rest hu htu hg
    rw [hu] at h1
    injection h1 with h1
    subst h1
    obtain ⟨hi, e⟩ := List.getElem?_eq_some_iff.1 hu
    rw [ends_rest htu, ← e, List.set_getElem_self] at ih
    obtain ⟨rfl, rfl⟩ := ih hr
    exact ⟨rfl, rfl⟩
/-- all rest. -/
def rst (u : UnV) : UnV := { u with task := 0, goal := 0 }
def restW (X : WV) : WV := { X with us := X.us.map rst }
def restN (us : List UnV) (n : Nat) : List UnV := (us.take n).map rst ++ us.drop n
theorem restN_zero (us : List UnV) : restN us 0 = us := by simp [restN]
theorem restN_all (us : List UnV) : restN us us.length = us.map rst := by simp [restN]
theorem restN_len (us : List UnV) (n : Nat) : (restN us n).length = us.length := by
  unfold restN
  rw [List.length_append, List.length_map, List.length_take, List.length_drop]
  omega
theorem restN_at {us : List UnV} {n : Nat} {u : UnV} (hu : us[n]? = some u) : (restN us n)[n]? = some u := by
  have hn : n < us.length := (List.getElem?_eq_some_iff.1 hu).1
  unfold restN
  have h1 : ((us.take n).map rst).length = n := by rw [List.length_map, List.length_take]; omega
  rw [List.getElem?_append_right (by omega), h1, Nat.sub_self, List.getElem?_drop, Nat.add_zero]
  exact hu
theorem restN_next {us : List UnV} {n : Nat} {u : UnV} (hu : us[n]? = some u) : (restN us n).set n (rst u) = restN us (n + 1) := by
  obtain ⟨hn, e1⟩ := List.getElem?_eq_some_iff.1 hu
  have h1 : ((us.take n).map rst).length = n := by rw [List.length_map, List.length_take]; omega
  unfold restN
  rw [List.set_append_right _ _ (by omega), h1, Nat.sub_self, List.drop_eq_getElem_cons hn, List.set_cons_zero, List.take_succ_eq_append_getElem hn, e1, List.map_append]
  simp
theorem rest_right {ks : List KV} {X : WV} (h : WRight ks X) : Wd.wfault ks (restW X) = 0 := by
  obtain ⟨Wm, Hm, e1, e2, G⟩ := h.good
  have hgp : 0 < X.gs.length := by rw [G.gl]; exact Nat.mul_pos G.w1 G.h1
  refine Wd.wfault_zero h.kinds (by show Fd.fault X.wide X.high X.gs X.os = 0; rw [e1, e2]; exact Fd.fault_good G) h.nums (by show (X.us.map rst).length ≤ 40; rw [List.length_map]; exact h.ul) ?_ h.ql ?_
  · intro i y hy
    have hy' : (X.us.map rst)[i]? = some y := hy
    rw [List.getElem?_map] at hy'
    cases hu : X.us[i]? with
    | none => rw [hu] at hy'; cases hy'
    | some u =>
      rw [hu] at hy'
      injection hy' with hy'
      subst hy'
      obtain ⟨k, f⟩ := h.fine hu
      refine ⟨k, f.id1, f.id2, ?_, f.p, f.k0, f.kk, f.life, f.load, ⟨Int.le_refl _, by show (0 : Int) ≤ 2; decide⟩, f.at_, ⟨Int.le_refl _, by show (0 : Int) < _; exact Int.ofNat_lt.2 hgp⟩, ?_, .inl rfl⟩
      · show Wd.notAbove (X.us.map rst) i (rst u) = false
        have hup := f.up
        cases i with
        | zero => rfl
        | succ i =>
          simp only [Wd.notAbove] at hup ⊢
          rw [List.getElem?_map]
          cases hx : X.us[i]? with
          | none => rfl
          | some x =>
            rw [hx] at hup
            exact hup
      · have ho := f.opn
        show Wd.open_ X.gs ((X.us.map rst).take i) u.at_ k.f = true
        unfold Wd.open_ at ho ⊢
        rw [← List.map_take, List.any_map]
        exact ho
  · intro j hj
    have hx := h.job hj
    unfold Wd.jobFault at hx ⊢
    show (match (X.us.map rst).find? (fun u => u.id == j.unit) with | none => (6 : Int) | some u => _) = 0
    rw [List.find?_map]
    have hc : ((fun u : UnV => u.id == j.unit) ∘ rst) = (fun u : UnV => u.id == j.unit) := rfl
    rw [hc]
    cases hf : X.us.find? (fun u => u.id == j.unit) with
    | none => rw [hf] at hx; cases hx
    | some u => rw [hf] at hx; exact hx
/-- one that marches wishes to its Goal no further than it is. -/
theorem wish_march {ks : List KV} {X : WV} {Wn Hn : Nat} {u : UnV} {k : KV} {c an gn : Nat} {lf : List Int} (h : WishSays ks X Wn Hn u k c) (ht : u.task = 1) (ha : u.at_ = (an : Nat)) (hg : u.goal = (gn : Nat)) (han : an < Wn * Hn) (hgn : gn < Wn * Hn)
    (hl : IsFar (Fd.near Wn Hn) (fun _ j => (X.gs.map fun g => Fd.onto g k.f).getD j 0) gn (Wn * Hn) lf) : (lf.getD an 0 < 0 → c = an) ∧ (0 < lf.getD an 0 → lf.getD c 0 < lf.getD an 0) := by
  obtain ⟨an', bn, l, ha', haim, -, hl', hh⟩ := h
  have hb : (bn : Int) = u.goal := by
    rcases haim with ⟨h, -⟩ | ⟨-, -, h⟩ | ⟨h, -⟩
    · rw [ht] at h; cases h
    · exact h
    · rw [ht] at h; cases h
  obtain rfl : bn = gn := by omega
  obtain rfl : an' = an := by omega
  obtain rfl := IsFar.uniq hl'.1 hl
  rcases hh with ⟨h1, rfl⟩ | ⟨h1, h⟩
  · exact ⟨fun _ => rfl, fun h2 => by omega⟩
  · refine ⟨fun h2 => by omega, fun h2 => ?_⟩
    rcases h with ⟨rfl, -⟩ | ⟨-, h⟩
    · rw [far_self hl hgn] at h2; omega
    · have := h.is
      omega
end Go.Proofs.YtagnjmellcibhaaGreatDoor

namespace Go.Proofs.YtagnjmellcibhaaGreatDoor
open Go.RowKit Wy
set_option linter.unusedVariables false

/-- what a unit of a right world is, as far as its wish asks. -/
structure Able (X : WV) (u : UnV) (k : KV) : Prop where
  task : 0 ≤ u.task ∧ u.task ≤ 2
  load : u.load ≤ k.n7
/-- the nearest so far: -1 where there is none. -/
def bestOf (ks : List KV) (l : List Int) (pl : Int) (us : List UnV) (best least : Int) : Prop :=
  (homes ks us l pl = [] ∧ best = -1) ∨ ∃ x0 tl, homes ks us l pl = x0 :: tl ∧ best = (minU (fun h => l.getD h.at_.toNat 0) x0 tl).at_ ∧ least = l.getD (minU (fun h => l.getD h.at_.toNat 0) x0 tl).at_.toNat 0
theorem homes_no {ks : List KV} {us : List UnV} {l : List Int} {pl : Int} {n : Nat} {h : UnV} (hh : us[n]? = some h) (ho : otherU ks l pl h = true) : homes ks (us.take (n + 1)) l pl = homes ks (us.take n) l pl := by
  obtain ⟨hi, e⟩ := List.getElem?_eq_some_iff.1 hh
  unfold homes
  rw [List.take_succ_eq_append_getElem hi, e, List.filter_append]
  simp [ho]
theorem homes_yes {ks : List KV} {us : List UnV} {l : List Int} {pl : Int} {n : Nat} {h : UnV} (hh : us[n]? = some h) (ho : otherU ks l pl h = false) : homes ks (us.take (n + 1)) l pl = homes ks (us.take n) l pl ++ [h] := by
  obtain ⟨hi, e⟩ := List.getElem?_eq_some_iff.1 hh
  unfold homes
  rw [List.take_succ_eq_append_getElem hi, e, List.filter_append]
  simp [ho]
theorem minU_snoc (d : UnV → Int) (m y : UnV) (l : List UnV) : minU d m (l ++ [y]) = if d y < d (minU d m l) then y else minU d m l := by
  unfold minU
  rw [List.foldl_append]
  rfl
theorem best_skip {ks : List KV} {us : List UnV} {l : List Int} {pl best least : Int} {n : Nat} {h : UnV} (hb : bestOf ks l pl (us.take n) best least) (hh : us[n]? = some h) (ho : otherU ks l pl h = true) : bestOf ks l pl (us.take (n + 1)) best least := by
  unfold bestOf at hb ⊢
  rw [homes_no hh ho]
  exact hb
theorem best_new {ks : List KV} {us : List UnV} {l : List Int} {pl best least : Int} {n : Nat} {h : UnV} (hb : bestOf ks l pl (us.take n) best least) (hh : us[n]? = some h) (ho : otherU ks l pl h = false) (hn : best < 0 ∨ l.getD h.at_.toNat 0 < least) (hpos : ∀ x ∈ us, 0 ≤ x.at_) : bestOf ks l pl (us.take (n + 1)) h.at_ (l.getD h.at_.toNat 0) := by
  unfold bestOf
  rw [homes_yes hh ho]
  rcases hb with ⟨h1, h2⟩ | ⟨x0, tl, h1, h2, h3⟩
  · refine .inr ⟨h, [], by rw [h1]; rfl, ?_, ?_⟩ <;> simp [minU]
  · refine .inr ⟨x0, tl ++ [h], by rw [h1]; rfl, ?_, ?_⟩
    all_goals
      rw [minU_snoc, if_pos]
      rcases hn with hn | hn
      · exfalso
        have hm : minU (fun h => l.getD h.at_.toNat 0) x0 tl ∈ us := by
          have : minU (fun h => l.getD h.at_.toNat 0) x0 tl ∈ homes ks (us.take n) l pl := by rw [h1]; exact minU_mem _ _ _
          exact List.mem_of_mem_take (List.mem_filter.1 this).1
        have := hpos _ hm
        omega
      · rw [h3] at hn; exact hn
theorem best_old {ks : List KV} {us : List UnV} {l : List Int} {pl best least : Int} {n : Nat} {h : UnV} (hb : bestOf ks l pl (us.take n) best least) (hh : us[n]? = some h) (ho : otherU ks l pl h = false) (h0 : 0 ≤ best) (hn : ¬ l.getD h.at_.toNat 0 < least) : bestOf ks l pl (us.take (n + 1)) best least := by
  unfold bestOf
  rw [homes_yes hh ho]
  rcases hb with ⟨h1, h2⟩ | ⟨x0, tl, h1, h2, h3⟩
  · omega
  · refine .inr ⟨x0, tl ++ [h], by rw [h1]; rfl, ?_, ?_⟩
    all_goals
      rw [minU_snoc, if_neg (by rw [← h3]; exact hn)]
      assumption
theorem best_home {ks : List KV} {us : List UnV} {l : List Int} {u : UnV} {best least : Int} (hb : bestOf ks l u.player us best least) (hpos : ∀ x ∈ us, 0 ≤ x.at_) : homeAt ks us l u = if best < 0 then u.at_ else best := by
  unfold homeAt
  rcases hb with ⟨h1, rfl⟩ | ⟨x0, tl, h1, h2, -⟩
  · rw [h1]; rfl
  · rw [h1]
    have hm : minU (fun h => l.getD h.at_.toNat 0) x0 tl ∈ us := by
      have : minU (fun h => l.getD h.at_.toNat 0) x0 tl ∈ homes ks us l u.player := by rw [h1]; exact minU_mem _ _ _
      exact (List.mem_filter.1 this).1
    have := hpos _ hm
    rw [if_neg (by omega), h2]
end Go.Proofs.YtagnjmellcibhaaGreatDoor

namespace Go.Proofs.YtagnjmellcibhaaGreatDoor
open Go.RowKit
set_option linter.unusedVariables false

set_option maxRecDepth 100000 in
set_option maxHeartbeats 1000000 in
theorem ref_onto (v : Value) (W H : Int) (gs os : List Int) (a : Nat) (g : Int) (fl : Bool) (w : World) (h : Fl w v W H gs os) (hl : gs.length ≤ 144) (hg : gs[a]? = some g) (g0 : 0 ≤ g) (g3 : g ≤ 3) :
    Calls Tryz.prog 27 #[v, .int .i64 (a : Nat), .bool fl] w fun e w' => e = .returned (.int .i64 (Fd.onto g fl)) ∧ Below w.heap.size w w' := by
  obtain ⟨u1, u2, rfl, ⟨a1, c, rfl, c1, c2, ca⟩, ⟨b1, d, rfl, d1, d2, cb⟩⟩ := h
  have hal : a < gs.length := (List.getElem?_eq_some_iff.1 hg).1
  obtain ⟨x, rfl, xl, hx⟩ := ca (by intro e; rw [e] at hal; simp at hal)
  have j0 : (0 : Int) ≤ (a : Int) := by omega
  have j1 : (a : Int) < (gs.length : Int) := by omega
  obtain ⟨w0, hw0⟩ : ∃ w0, w.alloc (Obj.cells #[.int .i64 W, .int .i64 H, .slice (some x) gs.length c, .slice b1 os.length d] 25) = w0 := ⟨_, rfl⟩
  have B0 : Hid (Below w.heap.size w w0) := by rw [← hw0]; exact (Below.refl _ _).alloc (Nat.le_refl _) _
  have cg : w0.cell? (x.add a) = some (.int .i64 g) := by rw [B0.out.cell (p := x.add a) (by rw [add_block]; exact xl)]; exact hx a g hg
  have x2 : w0.cell? ⟨w.heap.size, 2, none⟩ = some (.slice (some x) gs.length c) := by rw [← hw0]; simp
  have Hw : Hid (w.alloc (Obj.cells #[.int .i64 W, .int .i64 H, .slice (some x) gs.length c, .slice b1 os.length d] 25) = w0) := hw0
  have O : Hid (∀ u, u = Fd.onto g fl → Ending.returned (.int .i64 u) = .returned (.int .i64 (Fd.onto g fl))) := fun u h => by rw [h]
  clear hw0 cb hx xl ca hg
  go_enter Tryz.func27, Tryz.ntmps27
  go_upto_region 1 with fail
  rw [Hw.out]
  have hg' : g = 0 ∨ g = 1 ∨ g = 2 ∨ g = 3 := by omega
  rcases hg' with rfl | rfl | rfl | rfl
  all_goals cases fl
  all_goals
    go_wp2
    go_ret
    exact ⟨O.out _ rfl, B0⟩
end Go.Proofs.YtagnjmellcibhaaGreatDoor

