/- Slices of api.Job: a whole list behind another one. · world.fresh, world.Copy. · world.checkPlace. · world.Place. · Worlds with which nothing is wrong, unit by unit and job by job; a unit that is put keeps one right. Plain mathematics. · Kinds that are right: their numbers. · A unit that is put keeps a world right, and its cell is taken then. Plain mathematics. · move.wish, move.Wish, move.isTaken. · api.Event: records in memory. · Slices of api.Event that the call itself makes, by append. · What stays where one block turns, or a list of one's own grows. · move.walk: as far as its Speed goes. · make([]int, N) for few; one more event. -/
import Derived.Test.YtplnhgllbhdfjaaDoorZMoveWishes3
import Derived.Test.YtplnhgllbhdfjaaDoorZMoveWishes2
import Derived.Deep.DeepCutAuto
import Derived.Test.YtplnhgllbhdfjaaDoorZMoveWishes4
import Derived.Test.YtplnhgllbhdfjaaDoorZMoveWishes1
import Derived.OwnWalk
import Derived.Deep.AppendLies
import Derived.Laws.MakeOwn
namespace Go.Proofs.YtplnhgllbhdfjaaDoor
open Go.RowKit
set_option linter.unusedVariables false

theorem len_jb (ks : List JbV) : (ks.flatMap JbV.cs).length = ks.length * 4 := by
  induction ks with
  | nil => rfl
  | cons x l ih => rw [List.flatMap_cons, List.length_append, ih, List.length_cons, Nat.succ_mul, Nat.add_comm]; rfl
theorem cell_jb {w : World} {y : Addr} {ks : List JbV} (hc : ∀ (i : Nat) k, ks[i]? = some k → Jbc w (y.add (i * 4)) k) (j : Nat) (u : Value) (hj : (ks.flatMap JbV.cs)[j]? = some u) : w.cell? (y.add j) = some u := by
  have hjl : j < ks.length * 4 := by rw [← len_jb]; exact (List.getElem?_eq_some_iff.1 hj).1
  obtain ⟨i, r, hr, rfl⟩ : ∃ i r, r < 4 ∧ j = i * 4 + r := ⟨j / 4, j % 4, Nat.mod_lt _ (by decide), by omega⟩
  have hi : i < ks.length := by omega
  obtain ⟨k, hk⟩ : ∃ k, ks[i]? = some k := ⟨_, List.getElem?_eq_getElem hi⟩
  rw [flat_jb ks i r k hk hr] at hj
  have h := hc i k hk
  rcases Nat.eq_zero_or_pos r with rfl | hr0
  · simp [JbV.cs] at hj
    subst hj
    exact h.c0
  · have ea : y.add (i * 4 + r) = ⟨(y.add (i * 4)).block, (y.add (i * 4)).off + r, none⟩ := by
      unfold Addr.add
      rw [if_neg (by omega)]
      split <;> simp <;> omega
    rw [ea]
    match r, hr, hr0, hj with
    | 1, _, _, hj => simp [JbV.cs] at hj; subst hj; exact h.c1
    | 2, _, _, hj => simp [JbV.cs] at hj; subst hj; exact h.c2
    | 3, _, _, hj => simp [JbV.cs] at hj; subst hj; exact h.c3

theorem app_jbs {ops : Array Oper} {rest : List Oper} {o : Oper} {a : Act} {Q : Exit → Act → World → Prop} (w : World) (hgd : o.guard = none) (s x : Operand)
    (ho : o.op = .call { callee := .builtin .append, args := #[s, x], argTypes := #[27, 27] }) (base : Nat) (v : Value) (ks : List JbV) (hs : a.eval s = v) (hown : Jbo w base v ks)
    (u : Value) (ys : List JbV) (hx : a.eval x = u) (hu : Jbl w u ys) (hl : ks.length + ys.length ≤ 100000000) (hbase : base ≤ w.heap.size)
    (h : ∀ v' w', Jbo w' base v' (ks ++ ys) → w.grownBy w' v.ownBlock → (v'.ownBlock = v.ownBlock ∨ v'.ownBlock = some w.heap.size) → wpList Tryd.prog ops Q rest (a.put o.dst v') w') :
    wpList Tryd.prog ops Q (o :: rest) a w := by
  obtain ⟨i0, hi, hz0, hz1, hz2⟩ := info_parts info_jb
  obtain ⟨ad, c, rfl, h1, h2, h3⟩ := hu
  by_cases hn : ys = []
  · subst hn
    refine wpList_plain hgd fun K hK => ?_
    have hrun := run_append_no (P := Tryd.prog) (w := w) base 27 o.type 74 i0 4 Tryd.underlying27 hi v ks.length _ hown ad c
    have hx' : a.eval x = .slice ad 0 c := hx
    unfold Oper.wp
    simp [execOp, ho, resolve, invoke, builtin, hs, hx', hrun, Result.andThen]
    exact hK _ _ (h v w (by simpa using hown) (World.grownBy.refl _ _) (.inl rfl))
  · obtain ⟨y, rfl, hy, hc⟩ := h3 hn
    refine wpList_append_lies w hgd s x 27 ho base 74 i0 _ 4 32 Tryd.underlying27 hi hz0 hz1 hz2 rfl (by decide) v ks.length _ hs hown y ys.length c (ys.flatMap JbV.cs) hx (len_jb ys) (cell_jb hc) ?_ (List.length_pos_iff.2 hn) (by unfold maxLen; omega) (by omega) hbase _ rfl ?_
    · intro u hu
      obtain ⟨k, -, hk⟩ := List.mem_flatMap.1 hu
      simp [JbV.cs] at hk
      rcases hk with rfl | rfl | rfl | rfl <;> rfl
    · intro g cap w' k1 k2 k3 _
      refine h _ w' ?_ k2 ?_
      · unfold Jbo
        rw [List.length_append, List.flatMap_append]
        exact k1
      · rcases k3 with k3 | k3
        · exact .inl k3.symm
        · exact .inr (by rw [k3]; rfl)
end Go.Proofs.YtplnhgllbhdfjaaDoor

namespace Go.Proofs.YtplnhgllbhdfjaaDoor
open Go.RowKit
set_option linter.unusedVariables false

set_option maxHeartbeats 1000000 in
theorem fresh_ints (v : Value) (xs : List Int) (w : World) (h : Ro w v xs) (hl : xs.length ≤ 100000000) :
    Calls Tryd.prog 46 #[v] w fun e w' => ∃ u, e = .returned u ∧ Ow w' w.heap.size u xs ∧ Below w.heap.size w w' := by
  have H : Hid (Ro w v xs) := h
  clear h
  go_enter Tryd.func46, Tryd.ntmps46
  go_wp2_with (at_builtin; refine app_row _ rfl _ _ rfl w.heap.size _ [] rfl (Ow.nil _ _) _ xs rfl H.out (by simpa using Nat.le_trans hl (by decide)) (Nat.le_refl _) ?_)
  intro u w1 o1 g1 _
  have F : Hid (Ow w1 w.heap.size u xs ∧ Below w.heap.size w w1) := ⟨o1, (Below.refl _ _).grown g1 (Nat.le_refl _) (fun k hk => by cases hk)⟩
  clear o1 g1
  go_wp2
  go_ret
  exact ⟨_, rfl, F.out.1, F.out.2⟩
set_option maxHeartbeats 1000000 in
theorem fresh_uns (v : Value) (xs : List UnV) (w : World) (h : Unl w v xs) (hl : xs.length ≤ 100000000) :
    Calls Tryd.prog 47 #[v] w fun e w' => ∃ u, e = .returned u ∧ Uno w' w.heap.size u xs ∧ Below w.heap.size w w' := by
  have H : Hid (Unl w v xs) := h
  clear h
  go_enter Tryd.func47, Tryd.ntmps47
  go_wp2_with (at_builtin; refine app_uns _ rfl _ _ rfl w.heap.size _ [] rfl (Uno.nil _ _) _ xs rfl H.out (by simpa using Nat.le_trans hl (by decide)) (Nat.le_refl _) ?_)
  intro u w1 o1 g1 _
  have F : Hid (Uno w1 w.heap.size u xs ∧ Below w.heap.size w w1) := ⟨o1, (Below.refl _ _).grown g1 (Nat.le_refl _) (fun k hk => by cases hk)⟩
  clear o1 g1
  go_wp2
  go_ret
  exact ⟨_, rfl, F.out.1, F.out.2⟩
set_option maxHeartbeats 1000000 in
theorem fresh_jbs (v : Value) (xs : List JbV) (w : World) (h : Jbl w v xs) (hl : xs.length ≤ 100000000) :
    Calls Tryd.prog 48 #[v] w fun e w' => ∃ u, e = .returned u ∧ Jbo w' w.heap.size u xs ∧ Below w.heap.size w w' := by
  have H : Hid (Jbl w v xs) := h
  clear h
  go_enter Tryd.func48, Tryd.ntmps48
  go_wp2_with (at_builtin; refine app_jbs _ rfl _ _ rfl w.heap.size _ [] rfl (Jbo.nil _ _) _ xs rfl H.out (by simpa using Nat.le_trans hl (by decide)) (Nat.le_refl _) ?_)
  intro u w1 o1 g1 _
  have F : Hid (Jbo w1 w.heap.size u xs ∧ Below w.heap.size w w1) := ⟨o1, (Below.refl _ _).grown g1 (Nat.le_refl _) (fun k hk => by cases hk)⟩
  clear o1 g1
  go_wp2
  go_ret
  exact ⟨_, rfl, F.out.1, F.out.2⟩
/-- lists that may be copied. -/
structure WLen (W : WV) : Prop where
  g : W.gs.length ≤ 100000000
  o : W.os.length ≤ 100000000
  p : W.gold.length ≤ 100000000
  u : W.us.length ≤ 100000000
  q : W.qs.length ≤ 100000000
set_option maxRecDepth 100000 in
set_option maxHeartbeats 4000000 in
theorem copy_any (v : Value) (W : WV) (w : World) (h : Wl w v W) (hl : WLen W) :
    Calls Tryd.prog 26 #[v] w fun e w' => ∃ u, e = .returned u ∧ Wi w' w.heap.size u W ∧ Below w.heap.size w w' := by
  have H : Hid (Wl w v W) := h
  have L : Hid (WLen W) := hl
  obtain ⟨u1, u2, u3, u4, u5, rfl, -, -, -, -, -⟩ := h
  clear hl
  go_enter Tryd.func26, Tryd.ntmps26
  go_upto_region 1 with fail
  have B0 : Hid (Below w.heap.size w ((w.alloc (.cells #[.int .i64 W.turn, .int .i64 W.next, .int .i64 W.wide, .int .i64 W.high, u1, u2, u3, u4, u5] 29)).alloc (.cells #[.int .i64 0, .int .i64 0, .int .i64 0, .int .i64 0, .slice none 0 0, .slice none 0 0, .slice none 0 0, .slice none 0 0, .slice none 0 0] 29))) := ((Below.refl _ _).alloc (Nat.le_refl _) _).alloc (by simp) _
  have X0 : Hid (Wx ((w.alloc (.cells #[.int .i64 W.turn, .int .i64 W.next, .int .i64 W.wide, .int .i64 W.high, u1, u2, u3, u4, u5] 29)).alloc (.cells #[.int .i64 0, .int .i64 0, .int .i64 0, .int .i64 0, .slice none 0 0, .slice none 0 0, .slice none 0 0, .slice none 0 0, .slice none 0 0] 29)) w.heap.size (.int .i64 W.turn) (.int .i64 W.next) (.int .i64 W.wide) (.int .i64 W.high) u1 u2 u3 u4 u5) := (Wx.new (w := w) _ _ _ _ _ _ _ _ _ rfl).below ((Below.refl _ _).alloc (Nat.le_refl _) _) (by simp)
  have Z0 : Hid (Wx ((w.alloc (.cells #[.int .i64 W.turn, .int .i64 W.next, .int .i64 W.wide, .int .i64 W.high, u1, u2, u3, u4, u5] 29)).alloc (.cells #[.int .i64 0, .int .i64 0, .int .i64 0, .int .i64 0, .slice none 0 0, .slice none 0 0, .slice none 0 0, .slice none 0 0, .slice none 0 0] 29)) (w.heap.size + 1) (.int .i64 0) (.int .i64 0) (.int .i64 0) (.int .i64 0) (.slice none 0 0) (.slice none 0 0) (.slice none 0 0) (.slice none 0 0) (.slice none 0 0)) := Wx.new _ _ _ _ _ _ _ _ _ (by simp)
  have S0 : Hid (w.heap.size + 2 ≤ ((w.alloc (.cells #[.int .i64 W.turn, .int .i64 W.next, .int .i64 W.wide, .int .i64 W.high, u1, u2, u3, u4, u5] 29)).alloc (.cells #[.int .i64 0, .int .i64 0, .int .i64 0, .int .i64 0, .slice none 0 0, .slice none 0 0, .slice none 0 0, .slice none 0 0, .slice none 0 0] 29)).heap.size) := by unfold Hid; simp
  generalize ((w.alloc (.cells #[.int .i64 W.turn, .int .i64 W.next, .int .i64 W.wide, .int .i64 W.high, u1, u2, u3, u4, u5] 29)).alloc (.cells #[.int .i64 0, .int .i64 0, .int .i64 0, .int .i64 0, .slice none 0 0, .slice none 0 0, .slice none 0 0, .slice none 0 0, .slice none 0 0] 29)) = w0 at *
  obtain ⟨x0, x1, x2, x3, x4, x5, x6, x7, x8⟩ := X0.out.cells
  go_wp2_with fail
  refine (fresh_ints _ W.gs w0 ((H.out.below B0.out).slices.1) L.out.g).mono ?_
  rintro e a1 ⟨v1, rfl, ho, hb⟩
  clear x0 x1 x2 x3 x4 x5 x6 x7 x8
  have BA : Hid (Below w.heap.size w a1) := B0.out.trans (hb.mono B0.out.size)
  have SA : Hid (w.heap.size + 2 ≤ a1.heap.size) := Nat.le_trans S0.out hb.size
  have XA : Hid (Wx a1 w.heap.size (.int .i64 W.turn) (.int .i64 W.next) (.int .i64 W.wide) (.int .i64 W.high) u1 u2 u3 u4 u5) := X0.out.below hb X0.out.lt
  have ZA : Hid (Wx a1 (w.heap.size + 1) (.int .i64 0) (.int .i64 0) (.int .i64 0) (.int .i64 0) (.slice none 0 0) (.slice none 0 0) (.slice none 0 0) (.slice none 0 0) (.slice none 0 0)) := Z0.out.below hb Z0.out.lt
  have OA : Hid (Ow a1 (w.heap.size + 2) v1 W.gs) := ho.mono S0.out
  obtain ⟨p1, q1, rfl⟩ := ho.len
  have t := XA.out.thaw 4
  obtain ⟨-, -, -, -, x, -, -, -, -⟩ := XA.out.cells
  clear hb ho 
  go_upto_region 2 with fail
  have KW : Hid (Kp w.heap.size a1 (a1.setCell ⟨w.heap.size, 4, none⟩ (.slice p1 W.gs.length q1))) := Kp.set _ _ _
  have X1 : Hid (Wx (a1.setCell ⟨w.heap.size, 4, none⟩ (.slice p1 W.gs.length q1)) w.heap.size (.int .i64 W.turn) (.int .i64 W.next) (.int .i64 W.wide) (.int .i64 W.high) (.slice p1 W.gs.length q1) u2 u3 u4 u5) := XA.out.set4 _
  clear t x XA X0 Z0
  generalize (a1.setCell ⟨w.heap.size, 4, none⟩ (.slice p1 W.gs.length q1)) = w1 at *
  have B1 : Hid (Below w.heap.size w w1) := KW.out.below BA.out BA.out.size (Nat.le_refl _)
  have S1 : Hid (w.heap.size + 2 ≤ w1.heap.size) := Nat.le_trans SA.out KW.out.size
  have Z1 : Hid (Wx w1 (w.heap.size + 1) (.int .i64 0) (.int .i64 0) (.int .i64 0) (.int .i64 0) (.slice none 0 0) (.slice none 0 0) (.slice none 0 0) (.slice none 0 0) (.slice none 0 0)) := ZA.out.kp KW.out (by omega)
  have P1_1 : Hid (Ow w1 (w.heap.size + 2) (.slice p1 W.gs.length q1) W.gs) := OA.out.kp KW.out (by omega)
  clear BA SA ZA OA KW 
  obtain ⟨x0, x1, x2, x3, x4, x5, x6, x7, x8⟩ := X1.out.cells
  go_wp2_with fail
  refine (fresh_ints _ W.os w1 ((H.out.below B1.out).slices.2.1) L.out.o).mono ?_
  rintro e a2 ⟨v2, rfl, ho, hb⟩
  clear x0 x1 x2 x3 x4 x5 x6 x7 x8
  have BA : Hid (Below w.heap.size w a2) := B1.out.trans (hb.mono B1.out.size)
  have SA : Hid (w.heap.size + 2 ≤ a2.heap.size) := Nat.le_trans S1.out hb.size
  have XA : Hid (Wx a2 w.heap.size (.int .i64 W.turn) (.int .i64 W.next) (.int .i64 W.wide) (.int .i64 W.high) (.slice p1 W.gs.length q1) u2 u3 u4 u5) := X1.out.below hb X1.out.lt
  have ZA : Hid (Wx a2 (w.heap.size + 1) (.int .i64 0) (.int .i64 0) (.int .i64 0) (.int .i64 0) (.slice none 0 0) (.slice none 0 0) (.slice none 0 0) (.slice none 0 0) (.slice none 0 0)) := Z1.out.below hb Z1.out.lt
  have OA : Hid (Ow a2 (w.heap.size + 2) v2 W.os) := ho.mono S1.out
  have PA1 : Hid (Ow a2 (w.heap.size + 2) (.slice p1 W.gs.length q1) W.gs) := P1_1.out.below hb
  have D1_2 : Hid (Dif (.slice p1 W.gs.length q1) v2) := Dif.of (fun k hk => (P1_1.out.block k hk).2) (fun k hk => (ho.block k hk).1)
  obtain ⟨p2, q2, rfl⟩ := ho.len
  have t := XA.out.thaw 5
  obtain ⟨-, -, -, -, -, x, -, -, -⟩ := XA.out.cells
  clear hb ho P1_1
  go_upto_region 3 with fail
  have KW : Hid (Kp w.heap.size a2 (a2.setCell ⟨w.heap.size, 5, none⟩ (.slice p2 W.os.length q2))) := Kp.set _ _ _
  have X2 : Hid (Wx (a2.setCell ⟨w.heap.size, 5, none⟩ (.slice p2 W.os.length q2)) w.heap.size (.int .i64 W.turn) (.int .i64 W.next) (.int .i64 W.wide) (.int .i64 W.high) (.slice p1 W.gs.length q1) (.slice p2 W.os.length q2) u3 u4 u5) := XA.out.set5 _
  clear t x XA X1 Z1
  generalize (a2.setCell ⟨w.heap.size, 5, none⟩ (.slice p2 W.os.length q2)) = w2 at *
  have B2 : Hid (Below w.heap.size w w2) := KW.out.below BA.out BA.out.size (Nat.le_refl _)
  have S2 : Hid (w.heap.size + 2 ≤ w2.heap.size) := Nat.le_trans SA.out KW.out.size
  have Z2 : Hid (Wx w2 (w.heap.size + 1) (.int .i64 0) (.int .i64 0) (.int .i64 0) (.int .i64 0) (.slice none 0 0) (.slice none 0 0) (.slice none 0 0) (.slice none 0 0) (.slice none 0 0)) := ZA.out.kp KW.out (by omega)
  have P2_2 : Hid (Ow w2 (w.heap.size + 2) (.slice p2 W.os.length q2) W.os) := OA.out.kp KW.out (by omega)
  have P1_2 : Hid (Ow w2 (w.heap.size + 2) (.slice p1 W.gs.length q1) W.gs) := PA1.out.kp KW.out (by omega)
  clear BA SA ZA OA KW PA1
  obtain ⟨x0, x1, x2, x3, x4, x5, x6, x7, x8⟩ := X2.out.cells
  go_wp2_with fail
  refine (fresh_ints _ W.gold w2 ((H.out.below B2.out).slices.2.2.1) L.out.p).mono ?_
  rintro e a3 ⟨v3, rfl, ho, hb⟩
  clear x0 x1 x2 x3 x4 x5 x6 x7 x8
  have BA : Hid (Below w.heap.size w a3) := B2.out.trans (hb.mono B2.out.size)
  have SA : Hid (w.heap.size + 2 ≤ a3.heap.size) := Nat.le_trans S2.out hb.size
  have XA : Hid (Wx a3 w.heap.size (.int .i64 W.turn) (.int .i64 W.next) (.int .i64 W.wide) (.int .i64 W.high) (.slice p1 W.gs.length q1) (.slice p2 W.os.length q2) u3 u4 u5) := X2.out.below hb X2.out.lt
  have ZA : Hid (Wx a3 (w.heap.size + 1) (.int .i64 0) (.int .i64 0) (.int .i64 0) (.int .i64 0) (.slice none 0 0) (.slice none 0 0) (.slice none 0 0) (.slice none 0 0) (.slice none 0 0)) := Z2.out.below hb Z2.out.lt
  have OA : Hid (Ow a3 (w.heap.size + 2) v3 W.gold) := ho.mono S2.out
  have PA1 : Hid (Ow a3 (w.heap.size + 2) (.slice p1 W.gs.length q1) W.gs) := P1_2.out.below hb
  have PA2 : Hid (Ow a3 (w.heap.size + 2) (.slice p2 W.os.length q2) W.os) := P2_2.out.below hb
  have D1_3 : Hid (Dif (.slice p1 W.gs.length q1) v3) := Dif.of (fun k hk => (P1_2.out.block k hk).2) (fun k hk => (ho.block k hk).1)
  have D2_3 : Hid (Dif (.slice p2 W.os.length q2) v3) := Dif.of (fun k hk => (P2_2.out.block k hk).2) (fun k hk => (ho.block k hk).1)
  obtain ⟨p3, q3, rfl⟩ := ho.len
  have t := XA.out.thaw 6
  obtain ⟨-, -, -, -, -, -, x, -, -⟩ := XA.out.cells
  clear hb ho P1_2 P2_2
  go_upto_region 4 with fail
  have KW : Hid (Kp w.heap.size a3 (a3.setCell ⟨w.heap.size, 6, none⟩ (.slice p3 W.gold.length q3))) := Kp.set _ _ _
  have X3 : Hid (Wx (a3.setCell ⟨w.heap.size, 6, none⟩ (.slice p3 W.gold.length q3)) w.heap.size (.int .i64 W.turn) (.int .i64 W.next) (.int .i64 W.wide) (.int .i64 W.high) (.slice p1 W.gs.length q1) (.slice p2 W.os.length q2) (.slice p3 W.gold.length q3) u4 u5) := XA.out.set6 _
  clear t x XA X2 Z2
  generalize (a3.setCell ⟨w.heap.size, 6, none⟩ (.slice p3 W.gold.length q3)) = w3 at *
  have B3 : Hid (Below w.heap.size w w3) := KW.out.below BA.out BA.out.size (Nat.le_refl _)
  have S3 : Hid (w.heap.size + 2 ≤ w3.heap.size) := Nat.le_trans SA.out KW.out.size
  have Z3 : Hid (Wx w3 (w.heap.size + 1) (.int .i64 0) (.int .i64 0) (.int .i64 0) (.int .i64 0) (.slice none 0 0) (.slice none 0 0) (.slice none 0 0) (.slice none 0 0) (.slice none 0 0)) := ZA.out.kp KW.out (by omega)
  have P3_3 : Hid (Ow w3 (w.heap.size + 2) (.slice p3 W.gold.length q3) W.gold) := OA.out.kp KW.out (by omega)
  have P1_3 : Hid (Ow w3 (w.heap.size + 2) (.slice p1 W.gs.length q1) W.gs) := PA1.out.kp KW.out (by omega)
  have P2_3 : Hid (Ow w3 (w.heap.size + 2) (.slice p2 W.os.length q2) W.os) := PA2.out.kp KW.out (by omega)
  clear BA SA ZA OA KW PA1 PA2
  obtain ⟨x0, x1, x2, x3, x4, x5, x6, x7, x8⟩ := X3.out.cells
  go_wp2_with fail
  refine (fresh_uns _ W.us w3 ((H.out.below B3.out).slices.2.2.2.1) L.out.u).mono ?_
  rintro e a4 ⟨v4, rfl, ho, hb⟩
  clear x0 x1 x2 x3 x4 x5 x6 x7 x8
  have BA : Hid (Below w.heap.size w a4) := B3.out.trans (hb.mono B3.out.size)
  have SA : Hid (w.heap.size + 2 ≤ a4.heap.size) := Nat.le_trans S3.out hb.size
  have XA : Hid (Wx a4 w.heap.size (.int .i64 W.turn) (.int .i64 W.next) (.int .i64 W.wide) (.int .i64 W.high) (.slice p1 W.gs.length q1) (.slice p2 W.os.length q2) (.slice p3 W.gold.length q3) u4 u5) := X3.out.below hb X3.out.lt
  have ZA : Hid (Wx a4 (w.heap.size + 1) (.int .i64 0) (.int .i64 0) (.int .i64 0) (.int .i64 0) (.slice none 0 0) (.slice none 0 0) (.slice none 0 0) (.slice none 0 0) (.slice none 0 0)) := Z3.out.below hb Z3.out.lt
  have OA : Hid (Uno a4 (w.heap.size + 2) v4 W.us) := ho.mono S3.out
  have PA1 : Hid (Ow a4 (w.heap.size + 2) (.slice p1 W.gs.length q1) W.gs) := P1_3.out.below hb
  have PA2 : Hid (Ow a4 (w.heap.size + 2) (.slice p2 W.os.length q2) W.os) := P2_3.out.below hb
  have PA3 : Hid (Ow a4 (w.heap.size + 2) (.slice p3 W.gold.length q3) W.gold) := P3_3.out.below hb
  have D1_4 : Hid (Dif (.slice p1 W.gs.length q1) v4) := Dif.of (fun k hk => (P1_3.out.block k hk).2) (fun k hk => (ho.block k hk).1)
  have D2_4 : Hid (Dif (.slice p2 W.os.length q2) v4) := Dif.of (fun k hk => (P2_3.out.block k hk).2) (fun k hk => (ho.block k hk).1)
  have D3_4 : Hid (Dif (.slice p3 W.gold.length q3) v4) := Dif.of (fun k hk => (P3_3.out.block k hk).2) (fun k hk => (ho.block k hk).1)
  obtain ⟨p4, q4, rfl⟩ := ho.len
  have t := XA.out.thaw 7
  obtain ⟨-, -, -, -, -, -, -, x, -⟩ := XA.out.cells
  clear hb ho P1_3 P2_3 P3_3
  go_upto_region 5 with fail
  have KW : Hid (Kp w.heap.size a4 (a4.setCell ⟨w.heap.size, 7, none⟩ (.slice p4 W.us.length q4))) := Kp.set _ _ _
  have X4 : Hid (Wx (a4.setCell ⟨w.heap.size, 7, none⟩ (.slice p4 W.us.length q4)) w.heap.size (.int .i64 W.turn) (.int .i64 W.next) (.int .i64 W.wide) (.int .i64 W.high) (.slice p1 W.gs.length q1) (.slice p2 W.os.length q2) (.slice p3 W.gold.length q3) (.slice p4 W.us.length q4) u5) := XA.out.set7 _
  clear t x XA X3 Z3
  generalize (a4.setCell ⟨w.heap.size, 7, none⟩ (.slice p4 W.us.length q4)) = w4 at *
  have B4 : Hid (Below w.heap.size w w4) := KW.out.below BA.out BA.out.size (Nat.le_refl _)
  have S4 : Hid (w.heap.size + 2 ≤ w4.heap.size) := Nat.le_trans SA.out KW.out.size
  have Z4 : Hid (Wx w4 (w.heap.size + 1) (.int .i64 0) (.int .i64 0) (.int .i64 0) (.int .i64 0) (.slice none 0 0) (.slice none 0 0) (.slice none 0 0) (.slice none 0 0) (.slice none 0 0)) := ZA.out.kp KW.out (by omega)
  have P4_4 : Hid (Uno w4 (w.heap.size + 2) (.slice p4 W.us.length q4) W.us) := OA.out.kp KW.out (by omega)
  have P1_4 : Hid (Ow w4 (w.heap.size + 2) (.slice p1 W.gs.length q1) W.gs) := PA1.out.kp KW.out (by omega)
  have P2_4 : Hid (Ow w4 (w.heap.size + 2) (.slice p2 W.os.length q2) W.os) := PA2.out.kp KW.out (by omega)
  have P3_4 : Hid (Ow w4 (w.heap.size + 2) (.slice p3 W.gold.length q3) W.gold) := PA3.out.kp KW.out (by omega)
  clear BA SA ZA OA KW PA1 PA2 PA3
  obtain ⟨x0, x1, x2, x3, x4, x5, x6, x7, x8⟩ := X4.out.cells
  go_wp2_with fail
  refine (fresh_jbs _ W.qs w4 ((H.out.below B4.out).slices.2.2.2.2) L.out.q).mono ?_
  rintro e a5 ⟨v5, rfl, ho, hb⟩
  clear x0 x1 x2 x3 x4 x5 x6 x7 x8
  have BA : Hid (Below w.heap.size w a5) := B4.out.trans (hb.mono B4.out.size)
  have SA : Hid (w.heap.size + 2 ≤ a5.heap.size) := Nat.le_trans S4.out hb.size
  have XA : Hid (Wx a5 w.heap.size (.int .i64 W.turn) (.int .i64 W.next) (.int .i64 W.wide) (.int .i64 W.high) (.slice p1 W.gs.length q1) (.slice p2 W.os.length q2) (.slice p3 W.gold.length q3) (.slice p4 W.us.length q4) u5) := X4.out.below hb X4.out.lt
  have ZA : Hid (Wx a5 (w.heap.size + 1) (.int .i64 0) (.int .i64 0) (.int .i64 0) (.int .i64 0) (.slice none 0 0) (.slice none 0 0) (.slice none 0 0) (.slice none 0 0) (.slice none 0 0)) := Z4.out.below hb Z4.out.lt
  have OA : Hid (Jbo a5 (w.heap.size + 2) v5 W.qs) := ho.mono S4.out
  have PA1 : Hid (Ow a5 (w.heap.size + 2) (.slice p1 W.gs.length q1) W.gs) := P1_4.out.below hb
  have PA2 : Hid (Ow a5 (w.heap.size + 2) (.slice p2 W.os.length q2) W.os) := P2_4.out.below hb
  have PA3 : Hid (Ow a5 (w.heap.size + 2) (.slice p3 W.gold.length q3) W.gold) := P3_4.out.below hb
  have PA4 : Hid (Uno a5 (w.heap.size + 2) (.slice p4 W.us.length q4) W.us) := P4_4.out.below hb
  have D1_5 : Hid (Dif (.slice p1 W.gs.length q1) v5) := Dif.of (fun k hk => (P1_4.out.block k hk).2) (fun k hk => (ho.block k hk).1)
  have D2_5 : Hid (Dif (.slice p2 W.os.length q2) v5) := Dif.of (fun k hk => (P2_4.out.block k hk).2) (fun k hk => (ho.block k hk).1)
  have D3_5 : Hid (Dif (.slice p3 W.gold.length q3) v5) := Dif.of (fun k hk => (P3_4.out.block k hk).2) (fun k hk => (ho.block k hk).1)
  have D4_5 : Hid (Dif (.slice p4 W.us.length q4) v5) := Dif.of (fun k hk => (P4_4.out.block k hk).2) (fun k hk => (ho.block k hk).1)
  obtain ⟨p5, q5, rfl⟩ := ho.len
  have t := XA.out.thaw 8
  obtain ⟨-, -, -, -, -, -, -, -, x⟩ := XA.out.cells
  clear hb ho P1_4 P2_4 P3_4 P4_4
  go_upto_region 6 with fail
  have KW : Hid (Kp w.heap.size a5 (a5.setCell ⟨w.heap.size, 8, none⟩ (.slice p5 W.qs.length q5))) := Kp.set _ _ _
  have X5 : Hid (Wx (a5.setCell ⟨w.heap.size, 8, none⟩ (.slice p5 W.qs.length q5)) w.heap.size (.int .i64 W.turn) (.int .i64 W.next) (.int .i64 W.wide) (.int .i64 W.high) (.slice p1 W.gs.length q1) (.slice p2 W.os.length q2) (.slice p3 W.gold.length q3) (.slice p4 W.us.length q4) (.slice p5 W.qs.length q5)) := XA.out.set8 _
  clear t x XA X4 Z4
  generalize (a5.setCell ⟨w.heap.size, 8, none⟩ (.slice p5 W.qs.length q5)) = w5 at *
  have B5 : Hid (Below w.heap.size w w5) := KW.out.below BA.out BA.out.size (Nat.le_refl _)
  have S5 : Hid (w.heap.size + 2 ≤ w5.heap.size) := Nat.le_trans SA.out KW.out.size
  have Z5 : Hid (Wx w5 (w.heap.size + 1) (.int .i64 0) (.int .i64 0) (.int .i64 0) (.int .i64 0) (.slice none 0 0) (.slice none 0 0) (.slice none 0 0) (.slice none 0 0) (.slice none 0 0)) := ZA.out.kp KW.out (by omega)
  have P5_5 : Hid (Jbo w5 (w.heap.size + 2) (.slice p5 W.qs.length q5) W.qs) := OA.out.kp KW.out (by omega)
  have P1_5 : Hid (Ow w5 (w.heap.size + 2) (.slice p1 W.gs.length q1) W.gs) := PA1.out.kp KW.out (by omega)
  have P2_5 : Hid (Ow w5 (w.heap.size + 2) (.slice p2 W.os.length q2) W.os) := PA2.out.kp KW.out (by omega)
  have P3_5 : Hid (Ow w5 (w.heap.size + 2) (.slice p3 W.gold.length q3) W.gold) := PA3.out.kp KW.out (by omega)
  have P4_5 : Hid (Uno w5 (w.heap.size + 2) (.slice p4 W.us.length q4) W.us) := PA4.out.kp KW.out (by omega)
  clear BA SA ZA OA KW PA1 PA2 PA3 PA4
  obtain ⟨x0, x1, x2, x3, x4, x5, x6, x7, x8⟩ := X5.out.cells
  obtain ⟨z0, z1, z2, z3, z4, z5, z6, z7, z8⟩ := Z5.out.cells
  obtain ⟨t0, t1, t2, t3, t4, t5, t6, t7, t8⟩ := Z5.out.thaws
  have KZ : Hid (Kp (w.heap.size + 1) w5 (((((((((w5.setCell ⟨w.heap.size + 1, 0, none⟩ (.int .i64 W.turn)).setCell ⟨w.heap.size + 1, 1, none⟩ (.int .i64 W.next)).setCell ⟨w.heap.size + 1, 2, none⟩ (.int .i64 W.wide)).setCell ⟨w.heap.size + 1, 3, none⟩ (.int .i64 W.high)).setCell ⟨w.heap.size + 1, 4, none⟩ (.slice p1 W.gs.length q1)).setCell ⟨w.heap.size + 1, 5, none⟩ (.slice p2 W.os.length q2)).setCell ⟨w.heap.size + 1, 6, none⟩ (.slice p3 W.gold.length q3)).setCell ⟨w.heap.size + 1, 7, none⟩ (.slice p4 W.us.length q4)).setCell ⟨w.heap.size + 1, 8, none⟩ (.slice p5 W.qs.length q5))) := put_kp _ _ _ _ _ _ _ _ _ _ _
  obtain ⟨y0, y1, y2, y3, y4, y5, y6, y7, y8⟩ := (Z5.out.put (.int .i64 W.turn) (.int .i64 W.next) (.int .i64 W.wide) (.int .i64 W.high) (.slice p1 W.gs.length q1) (.slice p2 W.os.length q2) (.slice p3 W.gold.length q3) (.slice p4 W.us.length q4) (.slice p5 W.qs.length q5)).cells
  go_wp2
  clear x0 x1 x2 x3 x4 x5 x6 x7 x8 z0 z1 z2 z3 z4 z5 z6 z7 z8 t0 t1 t2 t3 t4 t5 t6 t7 t8
  have s0 := S5.out
  generalize (((((((((w5.setCell ⟨w.heap.size + 1, 0, none⟩ (.int .i64 W.turn)).setCell ⟨w.heap.size + 1, 1, none⟩ (.int .i64 W.next)).setCell ⟨w.heap.size + 1, 2, none⟩ (.int .i64 W.wide)).setCell ⟨w.heap.size + 1, 3, none⟩ (.int .i64 W.high)).setCell ⟨w.heap.size + 1, 4, none⟩ (.slice p1 W.gs.length q1)).setCell ⟨w.heap.size + 1, 5, none⟩ (.slice p2 W.os.length q2)).setCell ⟨w.heap.size + 1, 6, none⟩ (.slice p3 W.gold.length q3)).setCell ⟨w.heap.size + 1, 7, none⟩ (.slice p4 W.us.length q4)).setCell ⟨w.heap.size + 1, 8, none⟩ (.slice p5 W.qs.length q5)) = w9 at *
  refine bodyPost_ret (v := .agg #[.int .i64 W.turn, .int .i64 W.next, .int .i64 W.wide, .int .i64 W.high, .slice p1 W.gs.length q1, .slice p2 W.os.length q2, .slice p3 W.gold.length q3, .slice p4 W.us.length q4, .slice p5 W.qs.length q5]) (by simp [results, Tryd.results26, go_sem, y0, y1, y2, y3, y4, y5, y6, y7, y8]) rfl ⟨_, rfl, ⟨_, _, _, _, _, rfl, ⟨(P1_5.out.kp KZ.out (by omega)).mono (by omega), (P2_5.out.kp KZ.out (by omega)).mono (by omega), (P3_5.out.kp KZ.out (by omega)).mono (by omega), (P4_5.out.kp KZ.out (by omega)).mono (by omega), (P5_5.out.kp KZ.out (by omega)).mono (by omega)⟩, D1_2.out, D1_3.out, D1_4.out, D1_5.out, D2_3.out, D2_4.out, D2_5.out, D3_4.out, D3_5.out, D4_5.out⟩, KZ.out.below B5.out B5.out.size (by omega)⟩
end Go.Proofs.YtplnhgllbhdfjaaDoor

namespace Go.Proofs.YtplnhgllbhdfjaaDoor
open Go.RowKit
set_option linter.unusedVariables false

namespace Wd
/-- what is wrong with a unit that is to be put. -/
def placeFault (ks : List KV) (W : WV) (pl kd at_ : Int) : Int :=
  if 40 ≤ (W.us.length : Int) ∨ 1000000 ≤ W.next then 4
  else if ¬ (0 ≤ pl ∧ pl < (W.gold.length : Int)) ∨ ¬ (0 ≤ kd ∧ kd < (ks.length : Int)) then 1
  else if ¬ (0 ≤ at_ ∧ at_ < (W.gs.length : Int)) then 6
  else match ks[kd.toNat]? with
    | some k => if open_ W.gs W.us at_ k.f = false then 7 else 0
    | none => 1
theorem pf4 {ks : List KV} {W : WV} {pl kd at_ : Int} (h : 40 ≤ (W.us.length : Int) ∨ 1000000 ≤ W.next) : placeFault ks W pl kd at_ = 4 := by unfold placeFault; rw [if_pos h]
theorem pf1 {ks : List KV} {W : WV} {pl kd at_ : Int} (h : ¬ (40 ≤ (W.us.length : Int) ∨ 1000000 ≤ W.next)) (h1 : ¬ (0 ≤ pl ∧ pl < (W.gold.length : Int)) ∨ ¬ (0 ≤ kd ∧ kd < (ks.length : Int))) : placeFault ks W pl kd at_ = 1 := by unfold placeFault; rw [if_neg h, if_pos h1]
theorem pf6 {ks : List KV} {W : WV} {pl kd at_ : Int} (h : ¬ (40 ≤ (W.us.length : Int) ∨ 1000000 ≤ W.next)) (h1 : 0 ≤ pl ∧ pl < (W.gold.length : Int)) (h2 : 0 ≤ kd ∧ kd < (ks.length : Int)) (h3 : ¬ (0 ≤ at_ ∧ at_ < (W.gs.length : Int))) : placeFault ks W pl kd at_ = 6 := by unfold placeFault; rw [if_neg h, if_neg (by omega), if_pos h3]
theorem pfk {ks : List KV} {W : WV} {pl kd at_ : Int} {k : KV} (h : ¬ (40 ≤ (W.us.length : Int) ∨ 1000000 ≤ W.next)) (h1 : 0 ≤ pl ∧ pl < (W.gold.length : Int)) (h2 : 0 ≤ kd ∧ kd < (ks.length : Int)) (h3 : 0 ≤ at_ ∧ at_ < (W.gs.length : Int)) (hk : ks[kd.toNat]? = some k) : placeFault ks W pl kd at_ = if open_ W.gs W.us at_ k.f = false then 7 else 0 := by unfold placeFault; rw [if_neg h, if_neg (by omega), if_neg (by omega), hk]
end Wd
structure WRight (ks : List KV) (W : WV) : Prop where
  kinds : Kd.kindsFault (ks.map KV.k) = 0
  good : ∃ Wn Hn : Nat, W.wide = Wn ∧ W.high = Hn ∧ Fd.Good Wn Hn W.gs W.os
  nums : Wd.numsBad W = false
  ul : W.us.length ≤ 40
  units : Wd.unitsGo ks W 0 W.us = 0
  ql : W.qs.length ≤ 12
  jobs : Wd.jobsGo ks W W.qs = 0
theorem wright_of {ks : List KV} {W : WV} (h : Wd.wfault ks W = 0) : WRight ks W := by
  unfold Wd.wfault at h
  by_cases h0 : Wd.ground ks W = 0
  · rw [if_neg (by rw [h0]; simp)] at h
    cases h1 : Wd.numsBad W with
    | true => rw [h1, if_pos rfl] at h; cases h
    | false =>
      rw [h1, if_neg (by simp)] at h
      by_cases h2 : 40 < W.us.length
      · rw [if_pos h2] at h; cases h
      · rw [if_neg h2] at h
        by_cases h3 : Wd.unitsGo ks W 0 W.us = 0
        · rw [if_neg (by rw [h3]; simp)] at h
          by_cases h4 : 12 < W.qs.length
          · rw [if_pos h4] at h; cases h
          · rw [if_neg h4] at h
            unfold Wd.ground at h0
            by_cases h5 : Kd.kindsFault (ks.map KV.k) = 0
            · rw [if_pos h5] at h0
              exact ⟨h5, Fd.fault_zero h0, h1, by omega, h3, by omega, h⟩
            · rw [if_neg h5] at h0; exact absurd h0 h5
        · rw [if_pos h3] at h; exact absurd h h3
  · rw [if_pos h0] at h; exact absurd h h0
theorem WRight.len {ks : List KV} {W : WV} (h : WRight ks W) : WLen W := by
  obtain ⟨Wn, Hn, -, -, G⟩ := h.good
  have h1 := G.pos
  have h2 := G.gl
  have h3 := G.ol
  have h4 := (nums_ok h.nums).2
  have h5 := h.ul
  have h6 := h.ql
  exact ⟨by omega, by omega, by omega, by omega, by omega⟩
set_option maxRecDepth 100000 in
set_option maxHeartbeats 4000000 in
theorem cplace_any (vk vw : Value) (ks : List KV) (W : WV) (pl kd at_ : Int) (w : World) (hk : Kl w vk ks) (hw : Wl w vw W) (hr : WRight ks W) :
    Calls Tryd.prog 35 #[vk, vw, .int .i64 pl, .int .i64 kd, .int .i64 at_] w fun e w' => ∃ r, e = .returned r ∧ Er r (Wd.placeFault ks W pl kd at_) ∧ Below w.heap.size w w' := by
  have K : Hid (Kl w vk ks) := hk
  have H : Hid (Wl w vw W) := hw
  have R : Hid (WRight ks W) := hr
  obtain ⟨u1, u2, u3, u4, u5, rfl, r1, r2, r3, r4, r5⟩ := hw
  obtain ⟨p1, q1, rfl, -⟩ := r1
  obtain ⟨p2, q2, rfl, -⟩ := r2
  obtain ⟨p3, q3, rfl, -⟩ := r3
  obtain ⟨p4, q4, rfl, -⟩ := r4
  obtain ⟨p5, q5, rfl, -⟩ := r5
  obtain ⟨pk, qk, rfl, -, -, kc⟩ := hk
  have KC : Hid (ks ≠ [] → ∃ x, pk = some x ∧ x.block < w.heap.size ∧ ∀ (i : Nat) k, ks[i]? = some k → Kc w (x.add (i * 11)) k) := kc
  have lk : ks.length ≤ 8 := kinds_len hr.kinds
  have lg : W.gold.length ≤ 4 := (nums_ok hr.nums).2
  have lu : W.us.length ≤ 40 := hr.ul
  have lc : W.gs.length ≤ 144 := by
    obtain ⟨Wn, Hn, -, -, G⟩ := hr.good
    have h1 := G.pos
    have h2 := G.gl
    omega
  clear hr kc
  go_enter Tryd.func35, Tryd.ntmps35
  go_upto_region 1 with fail
  have B0 : Hid (Below w.heap.size w (w.alloc (Obj.cells #[.int .i64 W.turn, .int .i64 W.next, .int .i64 W.wide, .int .i64 W.high, .slice p1 W.gs.length q1, .slice p2 W.os.length q2, .slice p3 W.gold.length q3, .slice p4 W.us.length q4, .slice p5 W.qs.length q5] 29))) := (Below.refl _ _).alloc (Nat.le_refl _) _
  have X0 : Hid (Bw (w.alloc (Obj.cells #[.int .i64 W.turn, .int .i64 W.next, .int .i64 W.wide, .int .i64 W.high, .slice p1 W.gs.length q1, .slice p2 W.os.length q2, .slice p3 W.gold.length q3, .slice p4 W.us.length q4, .slice p5 W.qs.length q5] 29)) w.heap.size W (.slice p1 W.gs.length q1) (.slice p2 W.os.length q2) (.slice p3 W.gold.length q3) (.slice p4 W.us.length q4) (.slice p5 W.qs.length q5)) := Bw.mk' W _ _ _ _ _ rfl
  generalize (w.alloc (Obj.cells #[.int .i64 W.turn, .int .i64 W.next, .int .i64 W.wide, .int .i64 W.high, .slice p1 W.gs.length q1, .slice p2 W.os.length q2, .slice p3 W.gold.length q3, .slice p4 W.us.length q4, .slice p5 W.qs.length q5] 29)) = w0 at *
  obtain ⟨x0, x1, x2, x3, x4, x5, x6, x7, x8⟩ := X0.out
  by_cases h40 : (40 : Int) ≤ (W.us.length : Int)
  · go_wp2
    go_ret
    exact ⟨_, rfl, by rw [Wd.pf4 (.inl h40)]; exact Er.no (by decide), B0.out⟩
  by_cases hnx : (1000000 : Int) ≤ W.next
  · go_wp2
    go_ret
    exact ⟨_, rfl, by rw [Wd.pf4 (.inr hnx)]; exact Er.no (by decide), B0.out⟩
  have HF : Hid (¬ (40 ≤ (W.us.length : Int) ∨ 1000000 ≤ W.next)) := fun h => h.elim h40 hnx
  by_cases h1 : 0 ≤ pl ∧ pl < (W.gold.length : Int)
  case neg =>
    have t1 : decide (0 ≤ pl ∧ pl < (W.gold.length : Int)) = false := decide_eq_false h1
    have F : Hid (Wd.placeFault ks W pl kd at_ = 1) := Wd.pf1 HF.out (.inl h1)
    clear h1
    go_wp2_with fail
    refine (isone_ints _ _ _ _ _ (by omega)).mono ?_
    rintro e w1 ⟨rfl, hww⟩
    obtain rfl := hww.symm
    rw [t1]
    clear t1
    go_wp2
    go_ret
    exact ⟨_, rfl, by rw [F.out]; exact Er.no (by decide), B0.out⟩
  have t1 : decide (0 ≤ pl ∧ pl < (W.gold.length : Int)) = true := decide_eq_true h1
  have H1 : Hid (0 ≤ pl ∧ pl < (W.gold.length : Int)) := h1
  clear h1
  go_wp2_with fail
  refine (isone_ints _ _ _ _ _ (by omega)).mono ?_
  rintro e w1 ⟨rfl, hww⟩
  obtain rfl := hww.symm
  rw [t1]
  clear t1
  by_cases h2 : 0 ≤ kd ∧ kd < (ks.length : Int)
  case neg =>
    have t1 : decide (0 ≤ kd ∧ kd < (ks.length : Int)) = false := decide_eq_false h2
    have F : Hid (Wd.placeFault ks W pl kd at_ = 1) := Wd.pf1 HF.out (.inr h2)
    clear h2
    go_wp2_with fail
    refine (isone_kinds _ _ _ _ _ (by omega)).mono ?_
    rintro e w1 ⟨rfl, hww⟩
    obtain rfl := hww.symm
    rw [t1]
    clear t1
    go_wp2
    go_ret
    exact ⟨_, rfl, by rw [F.out]; exact Er.no (by decide), B0.out⟩
  have t1 : decide (0 ≤ kd ∧ kd < (ks.length : Int)) = true := decide_eq_true h2
  have H2 : Hid (0 ≤ kd ∧ kd < (ks.length : Int)) := h2
  clear h2
  go_wp2_with fail
  refine (isone_kinds _ _ _ _ _ (by omega)).mono ?_
  rintro e w1 ⟨rfl, hww⟩
  obtain rfl := hww.symm
  rw [t1]
  clear t1
  by_cases h3 : 0 ≤ at_ ∧ at_ < (W.gs.length : Int)
  case neg =>
    have t1 : decide (0 ≤ at_ ∧ at_ < (W.gs.length : Int)) = false := decide_eq_false h3
    have F : Hid (Wd.placeFault ks W pl kd at_ = 6) := Wd.pf6 HF.out H1.out H2.out h3
    clear h3
    go_wp2_with fail
    refine (isone_ints _ _ _ _ _ (by omega)).mono ?_
    rintro e w1 ⟨rfl, hww⟩
    obtain rfl := hww.symm
    rw [t1]
    clear t1
    go_wp2
    go_ret
    exact ⟨_, rfl, by rw [F.out]; exact Er.no (by decide), B0.out⟩
  have t1 : decide (0 ≤ at_ ∧ at_ < (W.gs.length : Int)) = true := decide_eq_true h3
  have H3 : Hid (0 ≤ at_ ∧ at_ < (W.gs.length : Int)) := h3
  go_wp2_with fail
  refine (isone_ints _ _ _ _ _ (by omega)).mono ?_
  rintro e w1 ⟨rfl, hww⟩
  obtain rfl := hww.symm
  rw [t1]
  clear t1
  obtain ⟨an, ea⟩ : ∃ an : Nat, at_ = an := ⟨at_.toNat, by omega⟩
  obtain ⟨kn, ek⟩ : ∃ kn : Nat, kd = kn := ⟨kd.toNat, by have := H2.out; omega⟩
  subst ea
  subst ek
  have hkl : kn < ks.length := by have := H2.out; omega
  have hki : (kn : Int) < (ks.length : Int) := by omega
  obtain ⟨k, hk⟩ : ∃ k, ks[kn]? = some k := ⟨_, List.getElem?_eq_getElem hkl⟩
  obtain ⟨g, hg0⟩ : ∃ g, W.gs[an]? = some g := ⟨_, List.getElem?_eq_getElem (by omega)⟩
  have FK : Hid (Wd.placeFault ks W pl (kn : Nat) (an : Nat) = if Wd.open_ W.gs W.us (an : Nat) k.f = false then 7 else 0) := Wd.pfk HF.out H1.out H2.out H3.out (by simpa using hk)
  have hgan : Hid (W.gs[an]? = some g) := hg0
  obtain ⟨xk, rfl, hxl, hxc⟩ := KC.out (by intro e; rw [e] at hkl; simp at hkl)
  have hkc : Hid (Kc w0 (xk.add (kn * 11)) k) := (hxc kn k hk).below B0.out (by rw [add_block]; exact hxl)
  have FC : Hid (∀ V, Below w0.heap.size w0 V → V.cell? ⟨w.heap.size, 2, none⟩ = some (.int .i64 W.wide) ∧ V.cell? ⟨w.heap.size, 3, none⟩ = some (.int .i64 W.high) ∧ V.cell? ⟨w.heap.size, 4, none⟩ = some (.slice p1 W.gs.length q1) ∧ V.cell? ⟨w.heap.size, 5, none⟩ = some (.slice p2 W.os.length q2) ∧ V.cell? ⟨w.heap.size, 7, none⟩ = some (.slice p4 W.us.length q4) ∧ V.cell? ⟨(xk.add (kn * 11)).block, (xk.add (kn * 11)).off + 9, none⟩ = some (.bool k.f)) := fun V hV => by
    obtain ⟨-, -, z2, z3, z4, z5, -, z7, -⟩ := X0.out.below hV X0.out.lt
    obtain ⟨-, -, -, -, -, -, -, -, -, m9, -⟩ := hkc.out.below hV hkc.out.lt
    exact ⟨z2, z3, z4, z5, z7, m9⟩
  have OPN : Hid (∀ V, Below w0.heap.size w0 V → Calls Tryd.prog 60 #[.agg #[.int .i64 W.wide, .int .i64 W.high, .slice p1 W.gs.length q1, .slice p2 W.os.length q2], .slice p4 W.us.length q4, .int .i64 (an : Nat), .bool k.f] V fun e w' => e = .returned (.bool (Wd.open_ W.gs W.us (an : Nat) k.f)) ∧ Below w0.heap.size w0 w') := fun V hV => by
    have BV : Below w.heap.size w V := B0.out.trans (hV.mono B0.out.size)
    obtain ⟨r1, r2, -, r4, -⟩ := (H.out.below BV).slices
    obtain ⟨Wn, Hn, hWn, hHn, hGood⟩ := R.out.good
    rw [hWn, hHn]
    exact (isopen_any _ _ Wn Hn W.gs W.os W.us an g k.f V ⟨_, _, rfl, r1, r2⟩ hGood r4 (by have := hGood.gl; omega) hgan.out).mono fun e w' ⟨h1, h2⟩ => ⟨h1, hV.trans (h2.mono hV.size)⟩
  have eo : ∀ args w, (callFunc 60 args).run Tryd.prog w = .ok (.enter 60 args) w := by intro args w; go_simp
  clear hxc hk hg0 h3 x0 x1 x2 x3 x4 x5 x6 x7 x8
  go_upto_region 9 with fail
  refine wp_region_class 11 (fun V => Below w0.heap.size w0 V) (by kernel_rfl) (by kernel_rfl) (Below.refl _ _).drew ?_
  simp only [List.take_succ_cons, List.take_zero, List.drop_succ_cons, List.drop_zero]
  refine head_step (.pointer (some ⟨w.heap.size, 2, none⟩)) (by go_simp) (fun V hV => by go_simp) ?_
  go_simp
  refine head_step (.agg #[.int .i64 W.wide, .int .i64 W.high, .slice p1 W.gs.length q1, .slice p2 W.os.length q2]) (by go_simp) (fun V hV => by obtain ⟨f2, f3, f4, f5, -⟩ := FC.out V hV; go_simp) ?_
  go_simp
  refine head_step (.pointer (some ⟨w.heap.size, 7, none⟩)) (by go_simp) (fun V hV => by go_simp) ?_
  go_simp
  refine head_step (.slice p4 W.us.length q4) (by go_simp) (fun V hV => by obtain ⟨-, -, -, -, f7, -⟩ := FC.out V hV; go_simp) ?_
  go_simp
  refine head_step (.int .i64 (an : Nat)) (by go_simp) (fun V hV => by go_simp) ?_
  go_simp
  refine head_step (.slice (some xk) ks.length qk) (by go_simp) (fun V hV => by go_simp) ?_
  go_simp
  refine head_step (.int .i64 (kn : Nat)) (by go_simp) (fun V hV => by go_simp) ?_
  go_simp
  refine head_step (.pointer (some (xk.add (kn * 11)))) (by go_simp) (fun V hV => by go_simp) ?_
  go_simp
  refine head_step (.pointer (some ⟨(xk.add (kn * 11)).block, (xk.add (kn * 11)).off + 9, none⟩)) (by go_simp) (fun V hV => by go_simp) ?_
  go_simp
  refine head_step (.bool k.f) (by go_simp) (fun V hV => by obtain ⟨-, -, -, -, -, f10⟩ := FC.out V hV; go_simp) ?_
  go_simp
  refine head_call (.bool (Wd.open_ W.gs W.us (an : Nat) k.f)) 60 #[.agg #[.int .i64 W.wide, .int .i64 W.high, .slice p1 W.gs.length q1, .slice p2 W.os.length q2], .slice p4 W.us.length q4, .int .i64 (an : Nat), .bool k.f] (by go_simp) (fun V hV => by go_simp) (fun V hV => OPN.out V hV) ?_
  go_simp
  intro V hV
  have BV : Hid (Below w.heap.size w V) := B0.out.trans (hV.mono B0.out.size)
  obtain ⟨b9, hb9⟩ : ∃ b, Wd.open_ W.gs W.us (an : Nat) k.f = b := ⟨_, rfl⟩
  rw [hb9] at FK ⊢
  clear hV FC OPN hb9
  cases b9 with
  | false =>
    go_wp2
    go_ret
    exact ⟨_, rfl, by rw [FK.out]; exact Er.no (by decide), BV.out⟩
  | true =>
    go_wp2
    go_ret
    exact ⟨_, rfl, by rw [FK.out]; exact Er.nil, BV.out⟩
end Go.Proofs.YtplnhgllbhdfjaaDoor

namespace Go.Proofs.YtplnhgllbhdfjaaDoor
open Go.RowKit
set_option linter.unusedVariables false

namespace Wd
/-- what is told where a unit is put. -/
def putFault (ks : List KV) (W : WV) (pl kd at_ : Int) : Int := if wfault ks W = 0 then placeFault ks W pl kd at_ else wfault ks W
def newUnit (ks : List KV) (W : WV) (pl kd at_ : Int) : UnV := ⟨W.next, pl, kd, at_, (match ks[kd.toNat]? with | some k => k.n0 | none => 0), 0, 0, 0⟩
/-- the world behind it. -/
def put (ks : List KV) (W : WV) (pl kd at_ : Int) : WV := { W with next := W.next + 1, us := W.us ++ [newUnit ks W pl kd at_] }
def placed (ks : List KV) (W : WV) (pl kd at_ : Int) : WV := if putFault ks W pl kd at_ = 0 then put ks W pl kd at_ else WV.zero
end Wd
theorem placed_bad {ks : List KV} {W : WV} {pl kd at_ : Int} (h : Wd.putFault ks W pl kd at_ ≠ 0) : Wd.placed ks W pl kd at_ = WV.zero := by unfold Wd.placed; rw [if_neg h]
theorem placed_ok {ks : List KV} {W : WV} {pl kd at_ : Int} (h : Wd.putFault ks W pl kd at_ = 0) : Wd.placed ks W pl kd at_ = Wd.put ks W pl kd at_ := by unfold Wd.placed; rw [if_pos h]
theorem zero_wo (w : World) (base : Nat) : Wo w base (.agg #[.int .i64 0, .int .i64 0, .int .i64 0, .int .i64 0, .slice none 0 0, .slice none 0 0, .slice none 0 0, .slice none 0 0, .slice none 0 0]) WV.zero := ⟨_, _, _, _, _, rfl, Ow.nil _ _, Ow.nil _ _, Ow.nil _ _, Uno.nil _ _, Jbo.nil _ _⟩
theorem pf_zero {ks : List KV} {W : WV} {pl kd at_ : Int} (h : Wd.placeFault ks W pl kd at_ = 0) : ¬ (40 ≤ (W.us.length : Int) ∨ 1000000 ≤ W.next) ∧ (0 ≤ pl ∧ pl < (W.gold.length : Int)) ∧ (0 ≤ at_ ∧ at_ < (W.gs.length : Int)) ∧ ∃ kn k, kd = ((kn : Nat) : Int) ∧ kn < ks.length ∧ ks[kn]? = some k ∧ Wd.open_ W.gs W.us at_ k.f = true := by
  unfold Wd.placeFault at h
  split at h
  · cases h
  · rename_i h1
    split at h
    · cases h
    · rename_i h2
      split at h
      · cases h
      · rename_i h3
        split at h
        · rename_i k hk
          split at h
          · cases h
          · rename_i h4
            have hl := (List.getElem?_eq_some_iff.1 hk).1
            exact ⟨h1, by omega, by omega, kd.toNat, k, by omega, hl, hk, by simpa using h4⟩
        · cases h
set_option maxRecDepth 100000 in
set_option maxHeartbeats 8000000 in
theorem place_any (vk vw : Value) (ks : List KV) (W : WV) (pl kd at_ : Int) (w : World) (hk : Kl w vk ks) (hb : ∀ k ∈ ks, k.b.size ≤ 9223372036854775807) (hw : Wl w vw W) :
    Calls Tryd.prog 21 #[vk, vw, .int .i64 pl, .int .i64 kd, .int .i64 at_] w fun e w' => ∃ u r, e = .returned (.tuple #[u, r]) ∧ Er r (Wd.putFault ks W pl kd at_) ∧ Wo w' w.heap.size u (Wd.placed ks W pl kd at_) ∧ Below w.heap.size w w' := by
  have K : Hid (Kl w vk ks ∧ ∀ k ∈ ks, k.b.size ≤ 9223372036854775807) := ⟨hk, hb⟩
  have H : Hid (Wl w vw W) := hw
  obtain ⟨u1, u2, u3, u4, u5, rfl, r1, r2, r3, r4, r5⟩ := hw
  obtain ⟨p1, q1, rfl, -⟩ := r1
  obtain ⟨p2, q2, rfl, -⟩ := r2
  obtain ⟨p3, q3, rfl, -⟩ := r3
  obtain ⟨p4, q4, rfl, -⟩ := r4
  obtain ⟨p5, q5, rfl, -⟩ := r5
  obtain ⟨pk, qk, rfl, -, -, kc⟩ := hk
  have KC : Hid (ks ≠ [] → ∃ x, pk = some x ∧ x.block < w.heap.size ∧ ∀ (i : Nat) k, ks[i]? = some k → Kc w (x.add (i * 11)) k) := kc
  clear hb kc
  go_enter Tryd.func21, Tryd.ntmps21
  go_upto_region 1 with fail
  have B0 : Hid (Below w.heap.size w ((w.alloc (.cells #[.int .i64 W.turn, .int .i64 W.next, .int .i64 W.wide, .int .i64 W.high, .slice p1 W.gs.length q1, .slice p2 W.os.length q2, .slice p3 W.gold.length q3, .slice p4 W.us.length q4, .slice p5 W.qs.length q5] 29)).alloc (.cells #[.int .i64 0, .int .i64 0, .int .i64 0, .int .i64 0, .slice none 0 0, .slice none 0 0, .slice none 0 0, .slice none 0 0, .slice none 0 0] 29))) := ((Below.refl _ _).alloc (Nat.le_refl _) _).alloc (by simp) _
  have X0 : Hid (Wx ((w.alloc (.cells #[.int .i64 W.turn, .int .i64 W.next, .int .i64 W.wide, .int .i64 W.high, .slice p1 W.gs.length q1, .slice p2 W.os.length q2, .slice p3 W.gold.length q3, .slice p4 W.us.length q4, .slice p5 W.qs.length q5] 29)).alloc (.cells #[.int .i64 0, .int .i64 0, .int .i64 0, .int .i64 0, .slice none 0 0, .slice none 0 0, .slice none 0 0, .slice none 0 0, .slice none 0 0] 29)) w.heap.size (.int .i64 W.turn) (.int .i64 W.next) (.int .i64 W.wide) (.int .i64 W.high) (.slice p1 W.gs.length q1) (.slice p2 W.os.length q2) (.slice p3 W.gold.length q3) (.slice p4 W.us.length q4) (.slice p5 W.qs.length q5)) := (Wx.new (w := w) _ _ _ _ _ _ _ _ _ rfl).below ((Below.refl _ _).alloc (Nat.le_refl _) _) (by simp)
  have Z0 : Hid (Wx ((w.alloc (.cells #[.int .i64 W.turn, .int .i64 W.next, .int .i64 W.wide, .int .i64 W.high, .slice p1 W.gs.length q1, .slice p2 W.os.length q2, .slice p3 W.gold.length q3, .slice p4 W.us.length q4, .slice p5 W.qs.length q5] 29)).alloc (.cells #[.int .i64 0, .int .i64 0, .int .i64 0, .int .i64 0, .slice none 0 0, .slice none 0 0, .slice none 0 0, .slice none 0 0, .slice none 0 0] 29)) (w.heap.size + 1) (.int .i64 0) (.int .i64 0) (.int .i64 0) (.int .i64 0) (.slice none 0 0) (.slice none 0 0) (.slice none 0 0) (.slice none 0 0) (.slice none 0 0)) := Wx.new _ _ _ _ _ _ _ _ _ (by simp)
  have S0 : Hid (w.heap.size + 2 ≤ ((w.alloc (.cells #[.int .i64 W.turn, .int .i64 W.next, .int .i64 W.wide, .int .i64 W.high, .slice p1 W.gs.length q1, .slice p2 W.os.length q2, .slice p3 W.gold.length q3, .slice p4 W.us.length q4, .slice p5 W.qs.length q5] 29)).alloc (.cells #[.int .i64 0, .int .i64 0, .int .i64 0, .int .i64 0, .slice none 0 0, .slice none 0 0, .slice none 0 0, .slice none 0 0, .slice none 0 0] 29)).heap.size) := by unfold Hid; simp
  generalize ((w.alloc (.cells #[.int .i64 W.turn, .int .i64 W.next, .int .i64 W.wide, .int .i64 W.high, .slice p1 W.gs.length q1, .slice p2 W.os.length q2, .slice p3 W.gold.length q3, .slice p4 W.us.length q4, .slice p5 W.qs.length q5] 29)).alloc (.cells #[.int .i64 0, .int .i64 0, .int .i64 0, .int .i64 0, .slice none 0 0, .slice none 0 0, .slice none 0 0, .slice none 0 0, .slice none 0 0] 29)) = w0 at *
  obtain ⟨x0, x1, x2, x3, x4, x5, x6, x7, x8⟩ := X0.out.cells
  go_wp2_with fail
  refine (wcheck_any _ _ ks W w0 (K.out.1.below B0.out) K.out.2 (H.out.below B0.out)).mono ?_
  rintro e w1 ⟨r, rfl, hr, hb1⟩
  clear x0 x1 x2 x3 x4 x5 x6 x7 x8
  have B1 : Hid (Below w.heap.size w w1) := B0.out.trans (hb1.mono B0.out.size)
  have X1 : Hid (Wx w1 w.heap.size (.int .i64 W.turn) (.int .i64 W.next) (.int .i64 W.wide) (.int .i64 W.high) (.slice p1 W.gs.length q1) (.slice p2 W.os.length q2) (.slice p3 W.gold.length q3) (.slice p4 W.us.length q4) (.slice p5 W.qs.length q5)) := X0.out.below hb1 X0.out.lt
  have Z1 : Hid (Wx w1 (w.heap.size + 1) (.int .i64 0) (.int .i64 0) (.int .i64 0) (.int .i64 0) (.slice none 0 0) (.slice none 0 0) (.slice none 0 0) (.slice none 0 0) (.slice none 0 0)) := Z0.out.below hb1 Z0.out.lt
  have S1 : Hid (w.heap.size + 2 ≤ w1.heap.size) := Nat.le_trans S0.out hb1.size
  clear hb1 B0 X0 Z0 S0
  rcases hr with ⟨hf, rfl⟩ | ⟨hf, rfl⟩
  case inr =>
    obtain ⟨fe, hfe⟩ : ∃ f, Wd.wfault ks W = f := ⟨_, rfl⟩
    have HFE : Hid (fe ≠ 0) := by rw [← hfe]; exact hf
    have FE : Hid (Wd.putFault ks W pl kd at_ = fe) := by unfold Hid Wd.putFault; rw [if_neg hf]; exact hfe
    rw [hfe]
    clear hf hfe
    obtain ⟨z0, z1, z2, z3, z4, z5, z6, z7, z8⟩ := Z1.out.cells
    obtain ⟨t0, t1, t2, t3, t4, t5, t6, t7, t8⟩ := Z1.out.thaws
    have KZ : Hid (Kp (w.heap.size + 1) w1 (((((((((w1.setCell ⟨w.heap.size + 1, 0, none⟩ (.int .i64 0)).setCell ⟨w.heap.size + 1, 1, none⟩ (.int .i64 0)).setCell ⟨w.heap.size + 1, 2, none⟩ (.int .i64 0)).setCell ⟨w.heap.size + 1, 3, none⟩ (.int .i64 0)).setCell ⟨w.heap.size + 1, 4, none⟩ (.slice none 0 0)).setCell ⟨w.heap.size + 1, 5, none⟩ (.slice none 0 0)).setCell ⟨w.heap.size + 1, 6, none⟩ (.slice none 0 0)).setCell ⟨w.heap.size + 1, 7, none⟩ (.slice none 0 0)).setCell ⟨w.heap.size + 1, 8, none⟩ (.slice none 0 0))) := put_kp _ _ _ _ _ _ _ _ _ _ _
    obtain ⟨y0, y1, y2, y3, y4, y5, y6, y7, y8⟩ := (Z1.out.put (.int .i64 0) (.int .i64 0) (.int .i64 0) (.int .i64 0) (.slice none 0 0) (.slice none 0 0) (.slice none 0 0) (.slice none 0 0) (.slice none 0 0)).cells
    go_wp2
    clear z0 z1 z2 z3 z4 z5 z6 z7 z8 t0 t1 t2 t3 t4 t5 t6 t7 t8
    generalize (((((((((w1.setCell ⟨w.heap.size + 1, 0, none⟩ (.int .i64 0)).setCell ⟨w.heap.size + 1, 1, none⟩ (.int .i64 0)).setCell ⟨w.heap.size + 1, 2, none⟩ (.int .i64 0)).setCell ⟨w.heap.size + 1, 3, none⟩ (.int .i64 0)).setCell ⟨w.heap.size + 1, 4, none⟩ (.slice none 0 0)).setCell ⟨w.heap.size + 1, 5, none⟩ (.slice none 0 0)).setCell ⟨w.heap.size + 1, 6, none⟩ (.slice none 0 0)).setCell ⟨w.heap.size + 1, 7, none⟩ (.slice none 0 0)).setCell ⟨w.heap.size + 1, 8, none⟩ (.slice none 0 0)) = w9 at *
    refine bodyPost_ret (v := .tuple #[.agg #[.int .i64 0, .int .i64 0, .int .i64 0, .int .i64 0, .slice none 0 0, .slice none 0 0, .slice none 0 0, .slice none 0 0, .slice none 0 0], .iface 62 (.int .i64 fe)]) (by simp [results, Tryd.results21, go_sem, y0, y1, y2, y3, y4, y5, y6, y7, y8]) rfl ⟨_, _, rfl, by rw [FE.out]; exact Er.no HFE.out, by rw [placed_bad (by rw [FE.out]; exact HFE.out)]; exact zero_wo _ _, KZ.out.below B1.out B1.out.size (by omega)⟩
  have HF : Hid (Wd.wfault ks W = 0) := hf
  have PF : Hid (Wd.putFault ks W pl kd at_ = Wd.placeFault ks W pl kd at_) := by unfold Hid Wd.putFault; rw [if_pos hf]
  have RT : Hid (WRight ks W) := wright_of hf
  clear hf
  obtain ⟨x0, x1, x2, x3, x4, x5, x6, x7, x8⟩ := X1.out.cells
  go_wp2_with fail
  refine (cplace_any _ _ ks W pl kd at_ w1 (K.out.1.below B1.out) (H.out.below B1.out) RT.out).mono ?_
  rintro e w2 ⟨r, rfl, hr, hb2⟩
  clear x0 x1 x2 x3 x4 x5 x6 x7 x8
  have B2 : Hid (Below w.heap.size w w2) := B1.out.trans (hb2.mono B1.out.size)
  have X2 : Hid (Wx w2 w.heap.size (.int .i64 W.turn) (.int .i64 W.next) (.int .i64 W.wide) (.int .i64 W.high) (.slice p1 W.gs.length q1) (.slice p2 W.os.length q2) (.slice p3 W.gold.length q3) (.slice p4 W.us.length q4) (.slice p5 W.qs.length q5)) := X1.out.below hb2 X1.out.lt
  have Z2 : Hid (Wx w2 (w.heap.size + 1) (.int .i64 0) (.int .i64 0) (.int .i64 0) (.int .i64 0) (.slice none 0 0) (.slice none 0 0) (.slice none 0 0) (.slice none 0 0) (.slice none 0 0)) := Z1.out.below hb2 Z1.out.lt
  have S2 : Hid (w.heap.size + 2 ≤ w2.heap.size) := Nat.le_trans S1.out hb2.size
  clear hb2 B1 X1 Z1 S1
  rcases hr with ⟨hf, rfl⟩ | ⟨hf, rfl⟩
  case inr =>
    obtain ⟨fe, hfe⟩ : ∃ f, Wd.placeFault ks W pl kd at_ = f := ⟨_, rfl⟩
    have HFE : Hid (fe ≠ 0) := by rw [← hfe]; exact hf
    have FE : Hid (Wd.putFault ks W pl kd at_ = fe) := by unfold Hid; rw [PF.out]; exact hfe
    rw [hfe]
    clear hf hfe
    obtain ⟨z0, z1, z2, z3, z4, z5, z6, z7, z8⟩ := Z2.out.cells
    obtain ⟨t0, t1, t2, t3, t4, t5, t6, t7, t8⟩ := Z2.out.thaws
    have KZ : Hid (Kp (w.heap.size + 1) w2 (((((((((w2.setCell ⟨w.heap.size + 1, 0, none⟩ (.int .i64 0)).setCell ⟨w.heap.size + 1, 1, none⟩ (.int .i64 0)).setCell ⟨w.heap.size + 1, 2, none⟩ (.int .i64 0)).setCell ⟨w.heap.size + 1, 3, none⟩ (.int .i64 0)).setCell ⟨w.heap.size + 1, 4, none⟩ (.slice none 0 0)).setCell ⟨w.heap.size + 1, 5, none⟩ (.slice none 0 0)).setCell ⟨w.heap.size + 1, 6, none⟩ (.slice none 0 0)).setCell ⟨w.heap.size + 1, 7, none⟩ (.slice none 0 0)).setCell ⟨w.heap.size + 1, 8, none⟩ (.slice none 0 0))) := put_kp _ _ _ _ _ _ _ _ _ _ _
    obtain ⟨y0, y1, y2, y3, y4, y5, y6, y7, y8⟩ := (Z2.out.put (.int .i64 0) (.int .i64 0) (.int .i64 0) (.int .i64 0) (.slice none 0 0) (.slice none 0 0) (.slice none 0 0) (.slice none 0 0) (.slice none 0 0)).cells
    go_wp2
    clear z0 z1 z2 z3 z4 z5 z6 z7 z8 t0 t1 t2 t3 t4 t5 t6 t7 t8
    generalize (((((((((w2.setCell ⟨w.heap.size + 1, 0, none⟩ (.int .i64 0)).setCell ⟨w.heap.size + 1, 1, none⟩ (.int .i64 0)).setCell ⟨w.heap.size + 1, 2, none⟩ (.int .i64 0)).setCell ⟨w.heap.size + 1, 3, none⟩ (.int .i64 0)).setCell ⟨w.heap.size + 1, 4, none⟩ (.slice none 0 0)).setCell ⟨w.heap.size + 1, 5, none⟩ (.slice none 0 0)).setCell ⟨w.heap.size + 1, 6, none⟩ (.slice none 0 0)).setCell ⟨w.heap.size + 1, 7, none⟩ (.slice none 0 0)).setCell ⟨w.heap.size + 1, 8, none⟩ (.slice none 0 0)) = w9 at *
    refine bodyPost_ret (v := .tuple #[.agg #[.int .i64 0, .int .i64 0, .int .i64 0, .int .i64 0, .slice none 0 0, .slice none 0 0, .slice none 0 0, .slice none 0 0, .slice none 0 0], .iface 62 (.int .i64 fe)]) (by simp [results, Tryd.results21, go_sem, y0, y1, y2, y3, y4, y5, y6, y7, y8]) rfl ⟨_, _, rfl, by rw [FE.out]; exact Er.no HFE.out, by rw [placed_bad (by rw [FE.out]; exact HFE.out)]; exact zero_wo _ _, KZ.out.below B2.out B2.out.size (by omega)⟩
  obtain ⟨h40, hpl, hat, kn, k, rfl, hkn, hkk, hop⟩ := pf_zero hf
  have P0 : Hid (Wd.putFault ks W pl (kn : Nat) at_ = 0) := by unfold Hid; rw [PF.out]; exact hf
  have NU : Hid (Wd.newUnit ks W pl (kn : Nat) at_ = ⟨W.next, pl, (kn : Nat), at_, k.n0, 0, 0, 0⟩) := by unfold Hid Wd.newUnit; rw [Int.toNat_natCast, hkk]
  have L40 : Hid (W.us.length < 40) := by unfold Hid; omega
  have hnx : W.next < 1000000 := by omega
  have hn1 : 1 ≤ W.next := by
    have := (nums_ok RT.out.nums).1
    unfold Wd.off at this
    simp at this
    omega
  obtain ⟨xk, rfl, hxl, hxc⟩ := KC.out (by intro e; rw [e] at hkn; simp at hkn)
  have HK : Hid (Kc w (xk.add (kn * 11)) k ∧ (xk.add (kn * 11)).block < w.heap.size) := ⟨hxc kn k hkk, by rw [add_block]; exact hxl⟩
  have hki : (kn : Int) < (ks.length : Int) := by omega
  clear hf h40 hpl hat hkn hkk hop hxc hxl
  obtain ⟨x0, x1, x2, x3, x4, x5, x6, x7, x8⟩ := X2.out.cells
  go_wp2_with fail
  refine (copy_any _ W w2 (H.out.below B2.out) RT.out.len).mono ?_
  rintro e w3 ⟨u, rfl, ho, hb3⟩
  clear x0 x1 x2 x3 x4 x5 x6 x7 x8
  have B3 : Hid (Below w.heap.size w w3) := B2.out.trans (hb3.mono B2.out.size)
  have X3 : Hid (Wx w3 w.heap.size (.int .i64 W.turn) (.int .i64 W.next) (.int .i64 W.wide) (.int .i64 W.high) (.slice p1 W.gs.length q1) (.slice p2 W.os.length q2) (.slice p3 W.gold.length q3) (.slice p4 W.us.length q4) (.slice p5 W.qs.length q5)) := X2.out.below hb3 X2.out.lt
  have Z3 : Hid (Wx w3 (w.heap.size + 1) (.int .i64 0) (.int .i64 0) (.int .i64 0) (.int .i64 0) (.slice none 0 0) (.slice none 0 0) (.slice none 0 0) (.slice none 0 0) (.slice none 0 0)) := Z2.out.below hb3 Z2.out.lt
  have S3 : Hid (w.heap.size + 2 ≤ w3.heap.size) := Nat.le_trans S2.out hb3.size
  obtain ⟨v1, v2, v3, v4, v5, rfl, ⟨o1, o2, o3, o4, o5⟩, -, -, d14, -, -, d24, -, d34, -, d45⟩ := ho.mono S2.out
  have O1 : Hid (Ow w3 (w.heap.size + 2) v1 W.gs ∧ Ow w3 (w.heap.size + 2) v2 W.os ∧ Ow w3 (w.heap.size + 2) v3 W.gold ∧ Uno w3 (w.heap.size + 2) v4 W.us ∧ Jbo w3 (w.heap.size + 2) v5 W.qs) := ⟨o1, o2, o3, o4, o5⟩
  have DD : Hid (Dif v1 v4 ∧ Dif v2 v4 ∧ Dif v3 v4 ∧ Dif v5 v4) := ⟨d14, d24, d34, d45.symm⟩
  clear d14 d24 d34 d45
  obtain ⟨a1, b1, rfl⟩ := o1.len
  obtain ⟨a2, b2, rfl⟩ := o2.len
  obtain ⟨a3, b3, rfl⟩ := o3.len
  obtain ⟨a4, b4, rfl⟩ := o4.len
  obtain ⟨a5, b5, rfl⟩ := o5.len
  clear ho hb3 B2 X2 Z2 S2 o1 o2 o3 o4 o5
  obtain ⟨x0, x1, x2, x3, x4, x5, x6, x7, x8⟩ := X3.out.cells
  obtain ⟨t0, t1, t2, t3, t4, t5, t6, t7, t8⟩ := X3.out.thaws
  have K4 : Hid (Kp w.heap.size w3 (((((((((w3.setCell ⟨w.heap.size, 0, none⟩ (.int .i64 W.turn)).setCell ⟨w.heap.size, 1, none⟩ (.int .i64 W.next)).setCell ⟨w.heap.size, 2, none⟩ (.int .i64 W.wide)).setCell ⟨w.heap.size, 3, none⟩ (.int .i64 W.high)).setCell ⟨w.heap.size, 4, none⟩ (.slice a1 W.gs.length b1)).setCell ⟨w.heap.size, 5, none⟩ (.slice a2 W.os.length b2)).setCell ⟨w.heap.size, 6, none⟩ (.slice a3 W.gold.length b3)).setCell ⟨w.heap.size, 7, none⟩ (.slice a4 W.us.length b4)).setCell ⟨w.heap.size, 8, none⟩ (.slice a5 W.qs.length b5))) := put_kp _ _ _ _ _ _ _ _ _ _ _
  have X4 : Hid (Wx (((((((((w3.setCell ⟨w.heap.size, 0, none⟩ (.int .i64 W.turn)).setCell ⟨w.heap.size, 1, none⟩ (.int .i64 W.next)).setCell ⟨w.heap.size, 2, none⟩ (.int .i64 W.wide)).setCell ⟨w.heap.size, 3, none⟩ (.int .i64 W.high)).setCell ⟨w.heap.size, 4, none⟩ (.slice a1 W.gs.length b1)).setCell ⟨w.heap.size, 5, none⟩ (.slice a2 W.os.length b2)).setCell ⟨w.heap.size, 6, none⟩ (.slice a3 W.gold.length b3)).setCell ⟨w.heap.size, 7, none⟩ (.slice a4 W.us.length b4)).setCell ⟨w.heap.size, 8, none⟩ (.slice a5 W.qs.length b5)) w.heap.size (.int .i64 W.turn) (.int .i64 W.next) (.int .i64 W.wide) (.int .i64 W.high) (.slice a1 W.gs.length b1) (.slice a2 W.os.length b2) (.slice a3 W.gold.length b3) (.slice a4 W.us.length b4) (.slice a5 W.qs.length b5)) := X3.out.put (.int .i64 W.turn) (.int .i64 W.next) (.int .i64 W.wide) (.int .i64 W.high) (.slice a1 W.gs.length b1) (.slice a2 W.os.length b2) (.slice a3 W.gold.length b3) (.slice a4 W.us.length b4) (.slice a5 W.qs.length b5)
  go_upto_region 8 with fail
  clear x0 x1 x2 x3 x4 x5 x6 x7 x8 t0 t1 t2 t3 t4 t5 t6 t7 t8
  generalize (((((((((w3.setCell ⟨w.heap.size, 0, none⟩ (.int .i64 W.turn)).setCell ⟨w.heap.size, 1, none⟩ (.int .i64 W.next)).setCell ⟨w.heap.size, 2, none⟩ (.int .i64 W.wide)).setCell ⟨w.heap.size, 3, none⟩ (.int .i64 W.high)).setCell ⟨w.heap.size, 4, none⟩ (.slice a1 W.gs.length b1)).setCell ⟨w.heap.size, 5, none⟩ (.slice a2 W.os.length b2)).setCell ⟨w.heap.size, 6, none⟩ (.slice a3 W.gold.length b3)).setCell ⟨w.heap.size, 7, none⟩ (.slice a4 W.us.length b4)).setCell ⟨w.heap.size, 8, none⟩ (.slice a5 W.qs.length b5)) = w4 at *
  have B4 : Hid (Below w.heap.size w w4) := K4.out.below B3.out B3.out.size (Nat.le_refl _)
  have Z4 : Hid (Wx w4 (w.heap.size + 1) (.int .i64 0) (.int .i64 0) (.int .i64 0) (.int .i64 0) (.slice none 0 0) (.slice none 0 0) (.slice none 0 0) (.slice none 0 0) (.slice none 0 0)) := Z3.out.kp K4.out (by omega)
  have S4 : Hid (w.heap.size + 2 ≤ w4.heap.size) := Nat.le_trans S3.out K4.out.size
  have O4 : Hid (Ow w4 (w.heap.size + 2) (.slice a1 W.gs.length b1) W.gs ∧ Ow w4 (w.heap.size + 2) (.slice a2 W.os.length b2) W.os ∧ Ow w4 (w.heap.size + 2) (.slice a3 W.gold.length b3) W.gold ∧ Uno w4 (w.heap.size + 2) (.slice a4 W.us.length b4) W.us ∧ Jbo w4 (w.heap.size + 2) (.slice a5 W.qs.length b5) W.qs) :=
    ⟨O1.out.1.kp K4.out (by omega), O1.out.2.1.kp K4.out (by omega), O1.out.2.2.1.kp K4.out (by omega), O1.out.2.2.2.1.kp K4.out (by omega), O1.out.2.2.2.2.kp K4.out (by omega)⟩
  clear K4 B3 X3 Z3 S3 O1
  -- the region that draws
  refine wp_region_two [(true, 0), (true, 1), (true, 2), (true, 3), (true, 4), (true, 5), (true, 6), (true, 7), (true, 8), (true, 9), (true, 10), (true, 11), (true, 12), (false, 13), (false, 14)] [(false, 15), (false, 16)] (fun V => V.cell? ⟨w.heap.size, 7, none⟩ = some (.slice a4 W.us.length b4) ∧ V.cell? ⟨w.heap.size, 1, none⟩ = some (.int .i64 W.next) ∧ V.cell? ⟨(xk.add (kn * 11)).block, (xk.add (kn * 11)).off + 1, none⟩ = some (.int .i64 k.n0)) (by kernel_rfl) (by kernel_rfl) (by kernel_rfl) (by kernel_rfl) (by kernel_rfl) ?_ ?_
  · obtain ⟨-, x1, -, -, -, -, -, x7, -⟩ := X4.out.cells
    exact ⟨x7, x1, (HK.out.1.below B4.out HK.out.2).c1⟩
  have X5 : Hid (Wx { w4 with drawn := w4.drawn + 1 } w.heap.size (.int .i64 W.turn) (.int .i64 W.next) (.int .i64 W.wide) (.int .i64 W.high) (.slice a1 W.gs.length b1) (.slice a2 W.os.length b2) (.slice a3 W.gold.length b3) (.slice a4 W.us.length b4) (.slice a5 W.qs.length b5)) := X4.out
  have B5 : Hid (Below w.heap.size w { w4 with drawn := w4.drawn + 1 }) := B4.out.drew
  have Z5 : Hid (Wx { w4 with drawn := w4.drawn + 1 } (w.heap.size + 1) (.int .i64 0) (.int .i64 0) (.int .i64 0) (.int .i64 0) (.slice none 0 0) (.slice none 0 0) (.slice none 0 0) (.slice none 0 0) (.slice none 0 0)) := Z4.out
  have S5 : Hid (w.heap.size + 2 ≤ ({ w4 with drawn := w4.drawn + 1 } : World).heap.size) := S4.out
  have D5 : Hid (Below w4.heap.size w4 { w4 with drawn := w4.drawn + 1 }) := (Below.refl _ _).drew
  generalize ({ w4 with drawn := w4.drawn + 1 } : World) = w5 at *
  have O5 : Hid (Ow w5 (w.heap.size + 2) (.slice a1 W.gs.length b1) W.gs ∧ Ow w5 (w.heap.size + 2) (.slice a2 W.os.length b2) W.os ∧ Ow w5 (w.heap.size + 2) (.slice a3 W.gold.length b3) W.gold ∧ Uno w5 (w.heap.size + 2) (.slice a4 W.us.length b4) W.us ∧ Jbo w5 (w.heap.size + 2) (.slice a5 W.qs.length b5) W.qs) :=
    ⟨O4.out.1.below D5.out, O4.out.2.1.below D5.out, O4.out.2.2.1.below D5.out, O4.out.2.2.2.1.below D5.out, O4.out.2.2.2.2.below D5.out⟩
  clear X4 B4 Z4 S4 O4 D5
  refine headT_read rfl (.pointer (some ⟨w.heap.size, 7, none⟩)) (by go_simp) (fun V hV => by go_simp) ?_
  go_simp
  refine headT_read rfl (.slice a4 W.us.length b4) (by go_simp) (fun V hV => by obtain ⟨f7, f1, fk⟩ := hV; go_simp) ?_
  go_simp
  refine headT_read rfl (.pointer (some ⟨w.heap.size, 1, none⟩)) (by go_simp) (fun V hV => by go_simp) ?_
  go_simp
  refine headT_read rfl (.int .i64 W.next) (by go_simp) (fun V hV => by obtain ⟨f7, f1, fk⟩ := hV; go_simp) ?_
  go_simp
  refine headT_read rfl (.int .i64 pl) (by go_simp) (fun V hV => by go_simp) ?_
  go_simp
  refine headT_read rfl (.int .i64 (kn : Nat)) (by go_simp) (fun V hV => by go_simp) ?_
  go_simp
  refine headT_read rfl (.int .i64 at_) (by go_simp) (fun V hV => by go_simp) ?_
  go_simp
  refine headT_read rfl (.slice (some xk) ks.length qk) (by go_simp) (fun V hV => by go_simp) ?_
  go_simp
  refine headT_read rfl (.int .i64 (kn : Nat)) (by go_simp) (fun V hV => by go_simp) ?_
  go_simp
  refine headT_read rfl (.pointer (some (xk.add (kn * 11)))) (by go_simp) (fun V hV => by go_simp) ?_
  go_simp
  refine headT_read rfl (.pointer (some ⟨(xk.add (kn * 11)).block, (xk.add (kn * 11)).off + 1, none⟩)) (by go_simp) (fun V hV => by go_simp) ?_
  go_simp
  refine headT_read rfl (.int .i64 k.n0) (by go_simp) (fun V hV => by obtain ⟨f7, f1, fk⟩ := hV; go_simp) ?_
  go_simp
  refine headT_read rfl (.agg #[.int .i64 W.next, .int .i64 pl, .int .i64 (kn : Nat), .int .i64 at_, .int .i64 k.n0, .int .i64 0, .int .i64 0, .int .i64 0]) (by go_simp) (fun V hV => by go_simp) ?_
  go_simp
  have CL : Hid (∀ V, Wx V w.heap.size (.int .i64 W.turn) (.int .i64 W.next) (.int .i64 W.wide) (.int .i64 W.high) (.slice a1 W.gs.length b1) (.slice a2 W.os.length b2) (.slice a3 W.gold.length b3) (.slice a4 W.us.length b4) (.slice a5 W.qs.length b5) → Below w.heap.size w V → V.cell? ⟨w.heap.size, 7, none⟩ = some (.slice a4 W.us.length b4) ∧ V.cell? ⟨w.heap.size, 1, none⟩ = some (.int .i64 W.next) ∧ V.cell? ⟨(xk.add (kn * 11)).block, (xk.add (kn * 11)).off + 1, none⟩ = some (.int .i64 k.n0)) := fun V hX hB => by
    obtain ⟨-, x1, -, -, -, -, -, x7, -⟩ := hX.cells
    exact ⟨x7, x1, (HK.out.1.below hB HK.out.2).c1⟩
  have BA : Hid (Below w5.heap.size w5 (w5.alloc (.cells #[.int .i64 W.next, .int .i64 pl, .int .i64 (kn : Nat), .int .i64 at_, .int .i64 k.n0, .int .i64 0, .int .i64 0, .int .i64 0] 38))) := (Below.refl _ _).alloc (Nat.le_refl _) _
  have SA : Hid ((w5.alloc (.cells #[.int .i64 W.next, .int .i64 pl, .int .i64 (kn : Nat), .int .i64 at_, .int .i64 k.n0, .int .i64 0, .int .i64 0, .int .i64 0] 38)).heap.size = w5.heap.size + 1) := by unfold Hid; simp
  have UA : Hid (Unc (w5.alloc (.cells #[.int .i64 W.next, .int .i64 pl, .int .i64 (kn : Nat), .int .i64 at_, .int .i64 k.n0, .int .i64 0, .int .i64 0, .int .i64 0] 38)) ⟨w5.heap.size, 0, none⟩ (⟨W.next, pl, (kn : Nat), at_, k.n0, 0, 0, 0⟩ : UnV)) := Unc.mk' (w := w5) (⟨W.next, pl, (kn : Nat), at_, k.n0, 0, 0, 0⟩ : UnV) rfl
  have OA : Hid (Uno (w5.alloc (.cells #[.int .i64 W.next, .int .i64 pl, .int .i64 (kn : Nat), .int .i64 at_, .int .i64 k.n0, .int .i64 0, .int .i64 0, .int .i64 0] 38)) (w.heap.size + 2) (.slice a4 W.us.length b4) W.us) := O5.out.2.2.2.1.alloc _
  have XA : Hid (Wx (w5.alloc (.cells #[.int .i64 W.next, .int .i64 pl, .int .i64 (kn : Nat), .int .i64 at_, .int .i64 k.n0, .int .i64 0, .int .i64 0, .int .i64 0] 38)) w.heap.size (.int .i64 W.turn) (.int .i64 W.next) (.int .i64 W.wide) (.int .i64 W.high) (.slice a1 W.gs.length b1) (.slice a2 W.os.length b2) (.slice a3 W.gold.length b3) (.slice a4 W.us.length b4) (.slice a5 W.qs.length b5)) := X5.out.below BA.out X5.out.lt
  have BB : Hid (Below w.heap.size w (w5.alloc (.cells #[.int .i64 W.next, .int .i64 pl, .int .i64 (kn : Nat), .int .i64 at_, .int .i64 k.n0, .int .i64 0, .int .i64 0, .int .i64 0] 38))) := B5.out.trans (BA.out.mono B5.out.size)
  refine headT_value rfl (.slice (some ⟨w5.heap.size, 0, none⟩) 1 1) (w5.alloc (.cells #[.int .i64 W.next, .int .i64 pl, .int .i64 (kn : Nat), .int .i64 at_, .int .i64 k.n0, .int .i64 0, .int .i64 0, .int .i64 0] 38)) (by go_simp) (by go_simp) (CL.out _ XA.out BB.out) ?_
  go_simp
  generalize (w5.alloc (.cells #[.int .i64 W.next, .int .i64 pl, .int .i64 (kn : Nat), .int .i64 at_, .int .i64 k.n0, .int .i64 0, .int .i64 0, .int .i64 0] 38)) = wa at *
  obtain ⟨i0, hi, hz0, hz1, hz2⟩ := info_parts info_un
  obtain ⟨g, cap, w6, hr, ho6, hg6, ha6, hl6⟩ := run_append_lies (P := Tryd.prog) wa 26 26 (w.heap.size + 2) 38 i0 _ 8 64 Tryd.underlying26 hi hz0 hz1 hz2 rfl (by decide) (.slice a4 W.us.length b4) W.us.length _ OA.out ⟨w5.heap.size, 0, none⟩ 1 1 (UnV.cs (⟨W.next, pl, (kn : Nat), at_, k.n0, 0, 0, 0⟩ : UnV)) rfl (fun j u hj => by
    have hd := UA.out
    have hjn : j < 8 := (List.getElem?_eq_some_iff.1 hj).1
    rw [Addr.add_lit, Nat.zero_add]
    match j, hjn, hj with
    | 0, _, hj => simp [UnV.cs] at hj; subst hj; exact hd.c0
    | 1, _, hj => simp [UnV.cs] at hj; subst hj; exact hd.c1
    | 2, _, hj => simp [UnV.cs] at hj; subst hj; exact hd.c2
    | 3, _, hj => simp [UnV.cs] at hj; subst hj; exact hd.c3
    | 4, _, hj => simp [UnV.cs] at hj; subst hj; exact hd.c4
    | 5, _, hj => simp [UnV.cs] at hj; subst hj; exact hd.c5
    | 6, _, hj => simp [UnV.cs] at hj; subst hj; exact hd.c6
    | 7, _, hj => simp [UnV.cs] at hj; subst hj; exact hd.c7) (fun u hu => by
    simp [UnV.cs] at hu
    rcases hu with rfl | rfl | rfl | rfl | rfl | rfl | rfl | rfl <;> rfl) (by decide) (by have := L40.out; unfold maxLen; omega) (by have := L40.out; omega) (by have := S5.out; have := SA.out; omega) _ rfl
  have ON : Hid (Uno w6 (w.heap.size + 2) (.slice (some ⟨g, 0, none⟩) (W.us.length + 1) cap) (W.us ++ [(⟨W.next, pl, (kn : Nat), at_, k.n0, 0, 0, 0⟩ : UnV)])) := by
    unfold Hid Uno
    rw [List.length_append, List.flatMap_append]
    simpa using ho6
  have GB : Hid (∀ b, ((.slice a4 W.us.length b4) : Value).ownBlock = some b → w.heap.size + 2 ≤ b) := fun b hb => (OA.out.block b hb).1
  have BG : Hid (Below (w.heap.size + 2) wa w6) := (Below.refl _ _).grown hg6 (by have := S5.out; have := SA.out; omega) (fun b hb => GB.out b hb)
  have X6 : Hid (Wx w6 w.heap.size (.int .i64 W.turn) (.int .i64 W.next) (.int .i64 W.wide) (.int .i64 W.high) (.slice a1 W.gs.length b1) (.slice a2 W.os.length b2) (.slice a3 W.gold.length b3) (.slice a4 W.us.length b4) (.slice a5 W.qs.length b5)) := XA.out.below BG.out (by omega)
  have Z6 : Hid (Wx w6 (w.heap.size + 1) (.int .i64 0) (.int .i64 0) (.int .i64 0) (.int .i64 0) (.slice none 0 0) (.slice none 0 0) (.slice none 0 0) (.slice none 0 0) (.slice none 0 0)) := (Z5.out.below BA.out Z5.out.lt).below BG.out (by omega)
  have B6 : Hid (Below w.heap.size w w6) := BB.out.trans (BG.out.mono (by omega))
  refine headT_value rfl (.slice (some ⟨g, 0, none⟩) (W.us.length + 1) cap) w6 (by go_simp) (exec_append _ _ _ _ rfl _ _ (by go_simp) (by go_simp) hr) (CL.out _ X6.out B6.out) ?_
  have S6 : Hid (w.heap.size + 2 ≤ w6.heap.size) := by have := S5.out; have := SA.out; have := BG.out.size; unfold Hid; omega
  have N1 : Hid (Ow w6 (w.heap.size + 2) (.slice a1 W.gs.length b1) W.gs) := ((O5.out.1).below BA.out).kept hg6 DD.out.1.ne
  have N2 : Hid (Ow w6 (w.heap.size + 2) (.slice a2 W.os.length b2) W.os) := ((O5.out.2.1).below BA.out).kept hg6 DD.out.2.1.ne
  have N3 : Hid (Ow w6 (w.heap.size + 2) (.slice a3 W.gold.length b3) W.gold) := ((O5.out.2.2.1).below BA.out).kept hg6 DD.out.2.2.1.ne
  have N5 : Hid (Jbo w6 (w.heap.size + 2) (.slice a5 W.qs.length b5) W.qs) := ((O5.out.2.2.2.2).below BA.out).kept hg6 DD.out.2.2.2.ne
  clear hr ho6 hg6 ha6 hl6 hi hz0 hz1 hz2 BG GB OA UA XA BB BA X5 Z5 S5 B5 O5 CL SA DD
  go_simp
  unfold wpHeadT
  refine sched_value rfl (.pointer (some ⟨w.heap.size, 7, none⟩)) w6 (by go_simp) (by go_simp) trivial ?_
  go_simp
  have K7 : Hid (Kp w.heap.size w6 (w6.setCell ⟨w.heap.size, 7, none⟩ (.slice (some ⟨g, 0, none⟩) (W.us.length + 1) cap))) := Kp.set _ _ _
  have X7 : Hid (Wx (w6.setCell ⟨w.heap.size, 7, none⟩ (.slice (some ⟨g, 0, none⟩) (W.us.length + 1) cap)) w.heap.size (.int .i64 W.turn) (.int .i64 W.next) (.int .i64 W.wide) (.int .i64 W.high) (.slice a1 W.gs.length b1) (.slice a2 W.os.length b2) (.slice a3 W.gold.length b3) (.slice (some ⟨g, 0, none⟩) (W.us.length + 1) cap) (.slice a5 W.qs.length b5)) := X6.out.set7 _
  have t7 := X6.out.thaw 7
  obtain ⟨-, -, -, -, -, -, -, x7, -⟩ := X6.out.cells
  refine sched_skip rfl (w6.setCell ⟨w.heap.size, 7, none⟩ (.slice (some ⟨g, 0, none⟩) (W.us.length + 1) cap)) (by go_simp) (by go_simp) trivial ?_
  go_simp
  clear t7 x7
  generalize (w6.setCell ⟨w.heap.size, 7, none⟩ (.slice (some ⟨g, 0, none⟩) (W.us.length + 1) cap)) = w7 at *
  have B7 : Hid (Below w.heap.size w w7) := K7.out.below B6.out B6.out.size (Nat.le_refl _)
  have Z7 : Hid (Wx w7 (w.heap.size + 1) (.int .i64 0) (.int .i64 0) (.int .i64 0) (.int .i64 0) (.slice none 0 0) (.slice none 0 0) (.slice none 0 0) (.slice none 0 0) (.slice none 0 0)) := Z6.out.kp K7.out (by omega)
  have S7 : Hid (w.heap.size + 2 ≤ w7.heap.size) := Nat.le_trans S6.out K7.out.size
  have M : Hid (Ow w7 (w.heap.size + 2) (.slice a1 W.gs.length b1) W.gs ∧ Ow w7 (w.heap.size + 2) (.slice a2 W.os.length b2) W.os ∧ Ow w7 (w.heap.size + 2) (.slice a3 W.gold.length b3) W.gold ∧ Uno w7 (w.heap.size + 2) (.slice (some ⟨g, 0, none⟩) (W.us.length + 1) cap) (W.us ++ [(⟨W.next, pl, (kn : Nat), at_, k.n0, 0, 0, 0⟩ : UnV)]) ∧ Jbo w7 (w.heap.size + 2) (.slice a5 W.qs.length b5) W.qs) :=
    ⟨N1.out.kp K7.out (by omega), N2.out.kp K7.out (by omega), N3.out.kp K7.out (by omega), ON.out.kp K7.out (by omega), N5.out.kp K7.out (by omega)⟩
  clear K7 B6 Z6 S6 N1 N2 N3 N5 ON X6
  unfold wpSched
  have wn : IntKind.i64.wrap (W.next + 1) = W.next + 1 := by rw [IntKind.wrap_i64]; omega
  have K8 : Hid (Kp w.heap.size w7 (w7.setCell ⟨w.heap.size, 1, none⟩ (.int .i64 (W.next + 1)))) := Kp.set _ _ _
  have X8 : Hid (Wx (w7.setCell ⟨w.heap.size, 1, none⟩ (.int .i64 (W.next + 1))) w.heap.size (.int .i64 W.turn) (.int .i64 (W.next + 1)) (.int .i64 W.wide) (.int .i64 W.high) (.slice a1 W.gs.length b1) (.slice a2 W.os.length b2) (.slice a3 W.gold.length b3) (.slice (some ⟨g, 0, none⟩) (W.us.length + 1) cap) (.slice a5 W.qs.length b5)) := X7.out.set1 _
  have t1 := X7.out.thaw 1
  obtain ⟨-, x1, -, -, -, -, -, -, -⟩ := X7.out.cells
  go_upto_region 10 with fail
  clear t1 x1 wn
  generalize (w7.setCell ⟨w.heap.size, 1, none⟩ (.int .i64 (W.next + 1))) = w8 at *
  have B8 : Hid (Below w.heap.size w w8) := K8.out.below B7.out B7.out.size (Nat.le_refl _)
  have Z8 : Hid (Wx w8 (w.heap.size + 1) (.int .i64 0) (.int .i64 0) (.int .i64 0) (.int .i64 0) (.slice none 0 0) (.slice none 0 0) (.slice none 0 0) (.slice none 0 0) (.slice none 0 0)) := Z7.out.kp K8.out (by omega)
  have S8 : Hid (w.heap.size + 2 ≤ w8.heap.size) := Nat.le_trans S7.out K8.out.size
  have M8 : Hid (Ow w8 (w.heap.size + 2) (.slice a1 W.gs.length b1) W.gs ∧ Ow w8 (w.heap.size + 2) (.slice a2 W.os.length b2) W.os ∧ Ow w8 (w.heap.size + 2) (.slice a3 W.gold.length b3) W.gold ∧ Uno w8 (w.heap.size + 2) (.slice (some ⟨g, 0, none⟩) (W.us.length + 1) cap) (W.us ++ [(⟨W.next, pl, (kn : Nat), at_, k.n0, 0, 0, 0⟩ : UnV)]) ∧ Jbo w8 (w.heap.size + 2) (.slice a5 W.qs.length b5) W.qs) :=
    ⟨M.out.1.kp K8.out (by omega), M.out.2.1.kp K8.out (by omega), M.out.2.2.1.kp K8.out (by omega), M.out.2.2.2.1.kp K8.out (by omega), M.out.2.2.2.2.kp K8.out (by omega)⟩
  clear K8 B7 Z7 S7 M X7
  obtain ⟨x0, x1, x2, x3, x4, x5, x6, x7, x8⟩ := X8.out.cells
  obtain ⟨z0, z1, z2, z3, z4, z5, z6, z7, z8⟩ := Z8.out.cells
  obtain ⟨t0, t1, t2, t3, t4, t5, t6, t7, t8⟩ := Z8.out.thaws
  have KZ : Hid (Kp (w.heap.size + 1) w8 (((((((((w8.setCell ⟨w.heap.size + 1, 0, none⟩ (.int .i64 W.turn)).setCell ⟨w.heap.size + 1, 1, none⟩ (.int .i64 (W.next + 1))).setCell ⟨w.heap.size + 1, 2, none⟩ (.int .i64 W.wide)).setCell ⟨w.heap.size + 1, 3, none⟩ (.int .i64 W.high)).setCell ⟨w.heap.size + 1, 4, none⟩ (.slice a1 W.gs.length b1)).setCell ⟨w.heap.size + 1, 5, none⟩ (.slice a2 W.os.length b2)).setCell ⟨w.heap.size + 1, 6, none⟩ (.slice a3 W.gold.length b3)).setCell ⟨w.heap.size + 1, 7, none⟩ (.slice (some ⟨g, 0, none⟩) (W.us.length + 1) cap)).setCell ⟨w.heap.size + 1, 8, none⟩ (.slice a5 W.qs.length b5))) := put_kp _ _ _ _ _ _ _ _ _ _ _
  obtain ⟨y0, y1, y2, y3, y4, y5, y6, y7, y8⟩ := (Z8.out.put (.int .i64 W.turn) (.int .i64 (W.next + 1)) (.int .i64 W.wide) (.int .i64 W.high) (.slice a1 W.gs.length b1) (.slice a2 W.os.length b2) (.slice a3 W.gold.length b3) (.slice (some ⟨g, 0, none⟩) (W.us.length + 1) cap) (.slice a5 W.qs.length b5)).cells
  go_wp2
  clear x0 x1 x2 x3 x4 x5 x6 x7 x8 z0 z1 z2 z3 z4 z5 z6 z7 z8 t0 t1 t2 t3 t4 t5 t6 t7 t8
  generalize (((((((((w8.setCell ⟨w.heap.size + 1, 0, none⟩ (.int .i64 W.turn)).setCell ⟨w.heap.size + 1, 1, none⟩ (.int .i64 (W.next + 1))).setCell ⟨w.heap.size + 1, 2, none⟩ (.int .i64 W.wide)).setCell ⟨w.heap.size + 1, 3, none⟩ (.int .i64 W.high)).setCell ⟨w.heap.size + 1, 4, none⟩ (.slice a1 W.gs.length b1)).setCell ⟨w.heap.size + 1, 5, none⟩ (.slice a2 W.os.length b2)).setCell ⟨w.heap.size + 1, 6, none⟩ (.slice a3 W.gold.length b3)).setCell ⟨w.heap.size + 1, 7, none⟩ (.slice (some ⟨g, 0, none⟩) (W.us.length + 1) cap)).setCell ⟨w.heap.size + 1, 8, none⟩ (.slice a5 W.qs.length b5)) = w9 at *
  refine bodyPost_ret (v := .tuple #[.agg #[.int .i64 W.turn, .int .i64 (W.next + 1), .int .i64 W.wide, .int .i64 W.high, .slice a1 W.gs.length b1, .slice a2 W.os.length b2, .slice a3 W.gold.length b3, .slice (some ⟨g, 0, none⟩) (W.us.length + 1) cap, .slice a5 W.qs.length b5], .nilIface]) (by simp [results, Tryd.results21, go_sem, y0, y1, y2, y3, y4, y5, y6, y7, y8]) rfl ⟨_, _, rfl, by rw [P0.out]; exact Er.nil, ?_, KZ.out.below B8.out B8.out.size (by omega)⟩
  rw [placed_ok P0.out]
  unfold Wd.put
  rw [NU.out]
  exact ⟨_, _, _, _, _, rfl, (M8.out.1.kp KZ.out (by omega)).mono (by omega), (M8.out.2.1.kp KZ.out (by omega)).mono (by omega), (M8.out.2.2.1.kp KZ.out (by omega)).mono (by omega), (M8.out.2.2.2.1.kp KZ.out (by omega)).mono (by omega), (M8.out.2.2.2.2.kp KZ.out (by omega)).mono (by omega)⟩
end Go.Proofs.YtplnhgllbhdfjaaDoor

namespace Go.Proofs.YtplnhgllbhdfjaaDoor
set_option linter.unusedVariables false
namespace Wd

theorem unitsGo_zero {ks : List KV} {W : WV} : ∀ (l : List UnV) (i : Nat), unitsGo ks W i l = 0 ↔ ∀ (j : Nat) (u : UnV), l[j]? = some u → unitFault ks W (i + j) u = 0
  | [], i => by
    constructor
    · intro _ j u h; simp at h
    · intro _; rfl
  | x :: l, i => by
    unfold unitsGo
    constructor
    · intro h
      split at h
      · rename_i h0
        intro j u hj
        cases j with
        | zero => simp at hj; subst hj; exact h0
        | succ j =>
          have := (unitsGo_zero l (i + 1)).1 h j u (by simpa using hj)
          rwa [show i + 1 + j = i + (j + 1) by omega] at this
      · rename_i h0; exact absurd h h0
    · intro h
      rw [if_pos (show unitFault ks W i x = 0 from h 0 x rfl)]
      refine (unitsGo_zero l (i + 1)).2 fun j u hj => ?_
      have := h (j + 1) u (by simpa using hj)
      rwa [show i + (j + 1) = i + 1 + j by omega] at this
theorem jobsGo_zero {ks : List KV} {W : WV} : ∀ (l : List JbV), jobsGo ks W l = 0 ↔ ∀ j ∈ l, jobFault ks W j = 0
  | [] => by
    constructor
    · intro _ j h; cases h
    · intro _; rfl
  | x :: l => by
    unfold jobsGo
    constructor
    · intro h
      split at h
      · rename_i h0
        intro j hj
        rcases List.mem_cons.1 hj with rfl | hj
        · exact h0
        · exact (jobsGo_zero l).1 h j hj
      · rename_i h0; exact absurd h h0
    · intro h
      rw [if_pos (h x (List.mem_cons_self ..))]
      exact (jobsGo_zero l).2 fun j hj => h j (List.mem_cons_of_mem _ hj)
theorem nor1 {a : Bool} (h : ¬ (!a) = true) : a = true := by cases a <;> simp_all
theorem nor2 {a b : Bool} (h : ¬ (!a || !b) = true) : a = true ∧ b = true := by cases a <;> cases b <;> simp_all
theorem nor3 {a b c : Bool} (h : ¬ (!a || (!b || !c)) = true) : a = true ∧ b = true ∧ c = true := by cases a <;> cases b <;> cases c <;> simp_all
theorem nor6 {a b : Bool} (h : ¬ (!a || b) = true) : a = true ∧ b = false := by cases a <;> cases b <;> simp_all
/-- nothing is wrong with a unit. -/
structure UFine (ks : List KV) (W : WV) (i : Nat) (u : UnV) (k : KV) : Prop where
  id1 : 1 ≤ u.id
  id2 : u.id ≤ W.next - 1
  up : notAbove W.us i u = false
  p : 0 ≤ u.player ∧ u.player < (W.gold.length : Int)
  k0 : 0 ≤ u.kind ∧ u.kind < (ks.length : Int)
  kk : ks[u.kind.toNat]? = some k
  life : 1 ≤ u.life ∧ u.life ≤ k.n0
  load : 0 ≤ u.load ∧ u.load ≤ k.n7
  task : 0 ≤ u.task ∧ u.task ≤ 2
  at_ : 0 ≤ u.at_ ∧ u.at_ < (W.gs.length : Int)
  goal : 0 ≤ u.goal ∧ u.goal < (W.gs.length : Int)
  opn : open_ W.gs (W.us.take i) u.at_ k.f = true
  rest : u.goal = 0 ∨ u.task ≠ 0
theorem unit_fine {ks : List KV} {W : WV} {i : Nat} {u : UnV} : unitFault ks W i u = 0 ↔ ∃ k, UFine ks W i u k := by
  constructor
  · intro h
    unfold unitFault at h
    split at h
    · cases h
    rename_i h1
    split at h
    · cases h
    rename_i h2
    split at h
    · cases h
    rename_i h3
    split at h
    · cases h
    rename_i k hk
    unfold kindPart at h
    split at h
    · cases h
    rename_i h4
    split at h
    · cases h
    rename_i h5
    split at h
    · cases h
    rename_i h6
    have g1 := of_decide_eq_true (nor1 h1)
    have g3 := nor2 h3
    have g4 := nor3 h4
    have g5 := nor2 h5
    have g6 := nor6 h6
    refine ⟨k, ⟨g1.1, g1.2, by simpa using h2, of_decide_eq_true g3.1, of_decide_eq_true g3.2, hk, of_decide_eq_true g4.1, of_decide_eq_true g4.2.1, of_decide_eq_true g4.2.2, of_decide_eq_true g5.1, of_decide_eq_true g5.2, g6.1, ?_⟩⟩
    have g7 := g6.2
    simp only [Bool.and_eq_false_iff, bne_eq_false_iff_eq, beq_eq_false_iff_ne] at g7
    exact g7
  · rintro ⟨k, h⟩
    unfold unitFault
    rw [if_neg (by simp [h.id1, h.id2]), if_neg (by simp [h.up]), if_neg (by simp [has, h.p.1, h.p.2, h.k0.1, h.k0.2]), h.kk]
    show kindPart W (W.us.take i) u k = 0
    unfold kindPart
    rw [if_neg (by simp [h.life.1, h.life.2, h.load.1, h.load.2, h.task.1, h.task.2]), if_neg (by simp [has, h.at_.1, h.at_.2, h.goal.1, h.goal.2]), if_neg]
    simp only [h.opn, Bool.not_true, Bool.false_or, Bool.and_eq_true, bne_iff_ne, beq_iff_eq, ne_eq, not_and]
    intro hg ht
    rcases h.rest with h1 | h1
    · exact hg h1
    · exact h1 ht
/-- a world with which nothing is wrong. -/
theorem wfault_zero {ks : List KV} {W : WV} (hk : Kd.kindsFault (ks.map KV.k) = 0) (hf : Fd.fault W.wide W.high W.gs W.os = 0) (hn : numsBad W = false) (hu : W.us.length ≤ 40) (hus : ∀ (i : Nat) (u : UnV), W.us[i]? = some u → ∃ k, UFine ks W i u k) (hq : W.qs.length ≤ 12) (hqs : ∀ j ∈ W.qs, jobFault ks W j = 0) : wfault ks W = 0 := by
  have h1 : ground ks W = 0 := by unfold ground; rw [if_pos hk, hf]
  have h2 : unitsGo ks W 0 W.us = 0 := (unitsGo_zero W.us 0).2 fun j u hj => by rw [Nat.zero_add]; exact unit_fine.2 (hus j u hj)
  unfold wfault
  rw [if_neg (by rw [h1]; simp), hn, if_neg (by simp), if_neg (by omega), if_neg (by rw [h2]; simp), if_neg (by omega)]
  exact (jobsGo_zero W.qs).2 hqs
end Wd
theorem WRight.fine {ks : List KV} {W : WV} (h : WRight ks W) {i : Nat} {u : UnV} (hu : W.us[i]? = some u) : ∃ k, Wd.UFine ks W i u k := by
  have := (Wd.unitsGo_zero W.us 0).1 h.units i u hu
  rw [Nat.zero_add] at this
  exact Wd.unit_fine.1 this
theorem WRight.job {ks : List KV} {W : WV} (h : WRight ks W) {j : JbV} (hj : j ∈ W.qs) : Wd.jobFault ks W j = 0 := (Wd.jobsGo_zero W.qs).1 h.jobs j hj
theorem WRight.zero {ks : List KV} {W : WV} (h : WRight ks W) : Wd.wfault ks W = 0 := by
  obtain ⟨Wn, Hn, e1, e2, G⟩ := h.good
  exact Wd.wfault_zero h.kinds (by rw [e1, e2]; exact Fd.fault_good G) h.nums h.ul (fun i u hu => h.fine hu) h.ql (fun j hj => h.job hj)
end Go.Proofs.YtplnhgllbhdfjaaDoor

namespace Go.Proofs.YtplnhgllbhdfjaaDoor
open Go.RowKit
set_option linter.unusedVariables false

theorem kgo_nums : ∀ {l acc : List Kd.K}, Kd.kindsGo acc l = 0 → ∀ k ∈ l, Kd.numsFault k.nums = 0
  | [], _, _, k, hk => by simp at hk
  | x :: l, acc, h, k, hk => by
    unfold Kd.kindsGo at h
    split at h
    · rename_i h0
      rcases List.mem_cons.1 hk with rfl | hk
      · unfold Kd.kindFault at h0
        split at h0
        · split at h0
          · omega
          · exact h0
        · omega
      · exact kgo_nums h k hk
    · rename_i h0
      exact absurd h h0
/-- kinds that are right. -/
theorem kinds_right {ks : List KV} (h : Kd.kindsFault (ks.map KV.k) = 0) : ks.length ≤ 8 ∧ ∀ k ∈ ks, 0 ≤ k.n5 ∧ k.n5 ≤ 1000 ∧ 0 < k.n0 ∧ k.n0 ≤ 1000 := by
  unfold Kd.kindsFault at h
  split at h
  · omega
  · rename_i h8
    refine ⟨by simpa using h8, fun k hk => ?_⟩
    have := kgo_nums h k.k (List.mem_map.2 ⟨k, hk, rfl⟩)
    unfold Kd.numsFault at this
    split at this
    · omega
    · rename_i h1
      rw [Bool.not_eq_true, List.any_eq_false] at h1
      have a := h1 k.n0 (by simp [KV.k])
      have b := h1 k.n5 (by simp [KV.k])
      simp only [decide_eq_true_eq] at a b
      split at this
      · omega
      · rename_i h2
        have : (k.k.nums).getD 0 0 = k.n0 := rfl
        omega

end Go.Proofs.YtplnhgllbhdfjaaDoor

namespace Go.Proofs.YtplnhgllbhdfjaaDoor
set_option linter.unusedVariables false

theorem kind_nums {ks : List KV} (h : Kd.kindsFault (ks.map KV.k) = 0) {k : KV} (hk : k ∈ ks) : 1 ≤ k.n0 ∧ 0 ≤ k.n7 ∧ 0 ≤ k.n4 ∧ k.n4 ≤ 4 ∧ 0 ≤ k.n1 ∧ k.n1 ≤ 1000 ∧ 0 ≤ k.n2 ∧ k.n2 ≤ 12 ∧ 0 ≤ k.n3 ∧ k.n3 ≤ 12 ∧ k.n0 ≤ 1000 ∧ k.n7 ≤ 1000 := by
  unfold Kd.kindsFault at h
  split at h
  · omega
  · have := kgo_nums h k.k (List.mem_map.2 ⟨k, hk, rfl⟩)
    unfold Kd.numsFault at this
    split at this
    · omega
    · rename_i h1
      rw [Bool.not_eq_true, List.any_eq_false] at h1
      have a := h1 k.n0 (by simp [KV.k])
      have b := h1 k.n7 (by simp [KV.k])
      have c := h1 k.n4 (by simp [KV.k])
      have d := h1 k.n1 (by simp [KV.k])
      have e := h1 k.n2 (by simp [KV.k])
      have f := h1 k.n3 (by simp [KV.k])
      simp only [decide_eq_true_eq] at a b c d e f
      split at this
      · omega
      · rename_i h2
        have e0 : (k.k.nums).getD 0 0 = k.n0 := rfl
        have e4 : (k.k.nums).getD 4 0 = k.n4 := rfl
        have e2 : (k.k.nums).getD 2 0 = k.n2 := rfl
        have e3 : (k.k.nums).getD 3 0 = k.n3 := rfl
        omega
theorem find_more {us : List UnV} {n : UnV} {p : UnV → Bool} {u : UnV} (h : us.find? p = some u) : (us ++ [n]).find? p = some u := by
  rw [List.find?_append, h]; rfl
theorem put_right {ks : List KV} {W : WV} {pl kd at_ : Int} (h : WRight ks W) (hp : Wd.placeFault ks W pl kd at_ = 0) : Wd.wfault ks (Wd.put ks W pl kd at_) = 0 := by
  obtain ⟨h40, hpl, hat, kn, k, rfl, hkl, hkk, hop⟩ := pf_zero hp
  have hnu : Wd.newUnit ks W pl (kn : Nat) at_ = ⟨W.next, pl, (kn : Nat), at_, k.n0, 0, 0, 0⟩ := by unfold Wd.newUnit; rw [Int.toNat_natCast, hkk]
  have hn1 : 1 ≤ W.next := by
    have := (nums_ok h.nums).1
    unfold Wd.off at this
    simp at this
    omega
  have hk := kind_nums h.kinds (List.mem_of_getElem? hkk)
  obtain ⟨Wn, Hn, e1, e2, G⟩ := h.good
  unfold Wd.put
  rw [hnu]
  refine Wd.wfault_zero h.kinds (by show Fd.fault W.wide W.high W.gs W.os = 0; rw [e1, e2]; exact Fd.fault_good G) ?_ ?_ ?_ h.ql ?_
  · have hn := h.nums
    unfold Wd.numsBad at hn ⊢
    simp only [Bool.or_eq_false_iff] at hn ⊢
    refine ⟨hn.1, ?_, hn.2.2⟩
    unfold Wd.off
    simp
    omega
  · show (W.us ++ [_]).length ≤ 40
    rw [List.length_append]
    have := h40
    simp only [List.length_cons, List.length_nil]
    omega
  · intro i u hu
    have hu' : (W.us ++ [(⟨W.next, pl, (kn : Nat), at_, k.n0, 0, 0, 0⟩ : UnV)])[i]? = some u := hu
    rcases Nat.lt_or_ge i W.us.length with hi | hi
    · rw [List.getElem?_append_left hi] at hu'
      obtain ⟨k0, f⟩ := h.fine hu'
      refine ⟨k0, ⟨f.id1, ?_, ?_, f.p, f.k0, f.kk, f.life, f.load, f.task, f.at_, f.goal, ?_, f.rest⟩⟩
      · have := f.id2
        show u.id ≤ W.next + 1 - 1
        omega
      · have := f.up
        show Wd.notAbove (W.us ++ [_]) i u = false
        unfold Wd.notAbove at this ⊢
        cases i with
        | zero => rfl
        | succ j =>
          simp only at this ⊢
          rw [List.getElem?_append_left (by omega)]
          exact this
      · show Wd.open_ W.gs ((W.us ++ [_]).take i) u.at_ k0.f = true
        rw [List.take_append_of_le_length (by omega)]
        exact f.opn
    · rw [List.getElem?_append_right hi] at hu'
      have hil : i = W.us.length := by
        rcases Nat.eq_zero_or_pos (i - W.us.length) with h0 | h0
        · omega
        · rw [List.getElem?_eq_none (by simp; omega)] at hu'; cases hu'
      subst hil
      rw [Nat.sub_self] at hu'
      injection hu' with hu'
      subst hu'
      refine ⟨k, ⟨hn1, ?_, ?_, hpl, ⟨by simp, by simp; omega⟩, by simpa using hkk, ⟨hk.1, Int.le_refl _⟩, ⟨Int.le_refl _, hk.2.1⟩, ⟨by simp, by simp⟩, hat, ⟨by simp, Int.lt_of_le_of_lt hat.1 hat.2⟩, ?_, .inl rfl⟩⟩
      · show W.next ≤ W.next + 1 - 1
        omega
      · show Wd.notAbove (W.us ++ [_]) W.us.length _ = false
        unfold Wd.notAbove
        cases hl : W.us.length with
        | zero => rfl
        | succ j =>
          simp only
          rw [List.getElem?_append_left (by omega)]
          cases hx : W.us[j]? with
          | none => rfl
          | some x =>
            obtain ⟨k0, f⟩ := h.fine hx
            have := f.id2
            simp
            omega
      · show Wd.open_ W.gs ((W.us ++ [_]).take W.us.length) at_ k.f = true
        rw [List.take_left]
        exact hop
  · intro j hj
    have := h.job hj
    unfold Wd.jobFault at this ⊢
    cases hx : W.us.find? (fun u => u.id == j.unit) with
    | none => rw [hx] at this; cases this
    | some u =>
      rw [hx] at this
      have hm := find_more (n := (⟨W.next, pl, (kn : Nat), at_, k.n0, 0, 0, 0⟩ : UnV)) hx
      simp only [hm]
      exact this
/-- whoever comes next finds the cell taken. -/
theorem put_taken {ks : List KV} {W : WV} {pl kd at_ : Int} (h : WRight ks W) (hp : Wd.placeFault ks W pl kd at_ = 0) : Wd.putFault ks (Wd.put ks W pl kd at_) pl kd at_ ≠ 0 := by
  unfold Wd.putFault
  rw [if_pos (put_right h hp)]
  intro h0
  obtain ⟨-, -, -, kn, k, hkd, -, -, hop⟩ := pf_zero h0
  unfold Wd.open_ at hop
  have : (Wd.put ks W pl kd at_).us.any (fun u => u.at_ == at_) = true := by
    refine List.any_eq_true.2 ⟨Wd.newUnit ks W pl kd at_, ?_, by simp [Wd.newUnit]⟩
    show _ ∈ W.us ++ [_]
    simp
  rw [this] at hop
  simp at hop
end Go.Proofs.YtplnhgllbhdfjaaDoor

namespace Go.Proofs.YtplnhgllbhdfjaaDoor
open Go.RowKit Wy
set_option linter.unusedVariables false

/-- the cell onto which a unit would go next. -/
def WishSays (ks : List KV) (X : WV) (Wn Hn : Nat) (u : UnV) (k : KV) (c : Nat) : Prop :=
  ∃ (an bn : Nat) (l : List Int), u.at_ = an ∧ AimSays ks X Wn Hn u k (bn : Nat) ∧ bn < Wn * Hn ∧ (IsFar (Fd.near Wn Hn) (fun _ j => (X.gs.map fun g => Fd.onto g k.f).getD j 0) bn (Wn * Hn) l ∧ Flat l) ∧
    ((l.getD an 0 < 0 ∧ c = an) ∨ (0 ≤ l.getD an 0 ∧ Nxt (Fd.near Wn Hn) (X.gs.map fun g => Fd.onto g k.f) l bn an c))
theorem nxt_in {Wn Hn : Nat} {gs : List Int} {fl : Bool} {l : List Int} {t i j : Nat} (hW : 0 < Wn) (h : Nxt (Fd.near Wn Hn) (gs.map fun g => Fd.onto g fl) l t i j) (hi : i < Wn * Hn) : j < Wn * Hn := by
  rcases h with ⟨-, rfl⟩ | ⟨-, h⟩
  · exact hi
  · exact (even_to hW gs fl).lt i j hi h.is.1
theorem aim_in {ks : List KV} {X : WV} {Wn Hn : Nat} {u : UnV} {k : KV} {c : Int} (h : AimSays ks X Wn Hn u k c) (hu : Fit ks (Wn * Hn) u) (hus : ∀ h ∈ X.us, Fit ks (Wn * Hn) h) (hg : 0 ≤ u.goal ∧ u.goal < (Wn * Hn : Nat)) : ∃ bn : Nat, c = bn ∧ bn < Wn * Hn := by
  have key : 0 ≤ c ∧ c < (Wn * Hn : Nat) := by
    rcases h with ⟨-, rfl⟩ | ⟨-, -, rfl⟩ | ⟨-, -, l, -, rfl⟩
    · exact hu.2
    · exact hg
    · unfold homeAt
      cases hh : homes ks X.us l u.player with
      | nil => exact hu.2
      | cons x0 tl =>
        have hm := minU_mem (fun h => l.getD h.at_.toNat 0) tl x0
        rw [← hh] at hm
        exact (hus _ (List.mem_filter.1 hm).1).2
  exact ⟨c.toNat, by omega, by omega⟩
set_option maxRecDepth 100000 in
set_option maxHeartbeats 4000000 in
theorem wish_any (vk vw : Value) (ks : List KV) (X : WV) (u : UnV) (Wn Hn : Nat) (k : KV) (w : World) (hk : Kl w vk ks) (hw : Wl w vw X) (hs : Sd w) (G : Fd.Good Wn Hn X.gs X.os) (e1 : X.wide = (Wn : Nat)) (e2 : X.high = (Hn : Nat)) (hl : X.us.length ≤ 1000000)
    (hu : Fit ks (Wn * Hn) u) (hk' : ks[u.kind.toNat]? = some k) (hus : ∀ h ∈ X.us, Fit ks (Wn * Hn) h) (hg : 0 ≤ u.goal ∧ u.goal < (Wn * Hn : Nat)) :
    Calls Tryd.prog 23 #[vk, vw, u.val] w fun e w' => ∃ c : Nat, e = .returned (.int .i64 (c : Nat)) ∧ WishSays ks X Wn Hn u k c ∧ c < Wn * Hn ∧ Below w.heap.size w w' := by
  obtain ⟨kn, hkn⟩ : ∃ n : Nat, u.kind = n := ⟨u.kind.toNat, by have := hu.1; omega⟩
  obtain ⟨an, han⟩ : ∃ n : Nat, u.at_ = n := ⟨u.at_.toNat, by have := hu.2; omega⟩
  have hkl : kn < ks.length := by have := hu.1; omega
  have hkk : ks[kn]? = some k := by rw [hkn, Int.toNat_natCast] at hk'; exact hk'
  have H : Hid (Wl w vw X) := hw
  have K : Hid (Kl w vk ks) := hk
  have S : Hid (Sd w) := hs
  have GD : Hid (Fd.Good Wn Hn X.gs X.os ∧ X.wide = (Wn : Nat) ∧ X.high = (Hn : Nat) ∧ X.us.length ≤ 1000000 ∧ Fit ks (Wn * Hn) u ∧ ks[u.kind.toNat]? = some k ∧ (∀ h ∈ X.us, Fit ks (Wn * Hn) h) ∧ (0 ≤ u.goal ∧ u.goal < (Wn * Hn : Nat)) ∧ an < Wn * Hn) := ⟨G, e1, e2, hl, hu, hk', hus, hg, by have := hu.2; omega⟩
  obtain ⟨p1, q1, p2, q2, p3, q3, p4, q4, p5, q5, rfl⟩ := wl_shape9 hw
  obtain ⟨pk, qk, rfl, ck1, ck2, kc⟩ := hk
  obtain ⟨xk, rfl, hxl, hxc⟩ := kc (by intro h; subst h; simp at hkl)
  have KK : Hid (Kc w (xk.add (kn * 11)) k ∧ (xk.add (kn * 11)).block < w.heap.size) := ⟨hxc kn k hkk, by rw [add_block]; exact hxl⟩
  have HE : Hid (u.kind = (kn : Nat) ∧ u.at_ = (an : Nat)) := ⟨hkn, han⟩
  clear hw hs G e1 e2 hl hu hk' hus hg hkn han kc hxc hxl hkk
  have UV : Hid (u.val = .agg #[.int .i64 u.id, .int .i64 u.player, .int .i64 u.kind, .int .i64 u.at_, .int .i64 u.life, .int .i64 u.load, .int .i64 u.task, .int .i64 u.goal]) := rfl
  rw [UV.out]
  go_enter Tryd.func23, Tryd.ntmps23
  go_upto_region 1 with fail
  have A0 : Hid (Am w ((w.alloc (Obj.cells #[.int .i64 X.turn, .int .i64 X.next, .int .i64 X.wide, .int .i64 X.high, .slice p1 X.gs.length q1, .slice p2 X.os.length q2, .slice p3 X.gold.length q3, .slice p4 X.us.length q4, .slice p5 X.qs.length q5] 29)).alloc (Obj.cells #[.int .i64 u.id, .int .i64 u.player, .int .i64 u.kind, .int .i64 u.at_, .int .i64 u.life, .int .i64 u.load, .int .i64 u.task, .int .i64 u.goal] 38)) X (.slice p1 X.gs.length q1) (.slice p2 X.os.length q2) (.slice p3 X.gold.length q3) (.slice p4 X.us.length q4) (.slice p5 X.qs.length q5) u) := Am.new X _ _ _ _ _ u
  generalize ((w.alloc (Obj.cells #[.int .i64 X.turn, .int .i64 X.next, .int .i64 X.wide, .int .i64 X.high, .slice p1 X.gs.length q1, .slice p2 X.os.length q2, .slice p3 X.gold.length q3, .slice p4 X.us.length q4, .slice p5 X.qs.length q5] 29)).alloc (Obj.cells #[.int .i64 u.id, .int .i64 u.player, .int .i64 u.kind, .int .i64 u.at_, .int .i64 u.life, .int .i64 u.load, .int .i64 u.task, .int .i64 u.goal] 38)) = w0 at *
  have CB : Hid (∀ V, Am w V X (.slice p1 X.gs.length q1) (.slice p2 X.os.length q2) (.slice p3 X.gold.length q3) (.slice p4 X.us.length q4) (.slice p5 X.qs.length q5) u → (Am w V X (.slice p1 X.gs.length q1) (.slice p2 X.os.length q2) (.slice p3 X.gold.length q3) (.slice p4 X.us.length q4) (.slice p5 X.qs.length q5) u ∧ V.cell? ⟨w.heap.size + 1, 3, none⟩ = some (.int .i64 (an : Nat)) ∧ V.cell? ⟨w.heap.size + 1, 2, none⟩ = some (.int .i64 (kn : Nat)) ∧ V.cell? ⟨(xk.add (kn * 11)).block, (xk.add (kn * 11)).off + 9, none⟩ = some (.bool k.f))) := fun V h => ⟨h, by have := h.u.c3; rw [Nat.zero_add, HE.out.2] at this; exact this, by have := h.u.c2; rw [Nat.zero_add, HE.out.1] at this; exact this, (KK.out.1.below h.b KK.out.2).c9⟩
  refine wp_region_two [(true, 0), (true, 1), (true, 2), (true, 3), (true, 4), (true, 5), (true, 6), (true, 8), (true, 9), (true, 10), (true, 11), (true, 12), (true, 13), (false, 7), (false, 14)] [(true, 15), (true, 16), (true, 17), (true, 18), (false, 19)] (fun V => Am w V X (.slice p1 X.gs.length q1) (.slice p2 X.os.length q2) (.slice p3 X.gold.length q3) (.slice p4 X.us.length q4) (.slice p5 X.qs.length q5) u ∧ V.cell? ⟨w.heap.size + 1, 3, none⟩ = some (.int .i64 (an : Nat)) ∧ V.cell? ⟨w.heap.size + 1, 2, none⟩ = some (.int .i64 (kn : Nat)) ∧ V.cell? ⟨(xk.add (kn * 11)).block, (xk.add (kn * 11)).off + 9, none⟩ = some (.bool k.f)) (by kernel_rfl) (by kernel_rfl) (by kernel_rfl) (by decide +kernel) (by decide +kernel) (CB.out _ (A0.out.below ((Below.refl _ _).drew))) ?_
  have A1 : Hid (Am w { w0 with drawn := w0.drawn + 1 } X (.slice p1 X.gs.length q1) (.slice p2 X.os.length q2) (.slice p3 X.gold.length q3) (.slice p4 X.us.length q4) (.slice p5 X.qs.length q5) u) := A0.out.below ((Below.refl _ _).drew)
  generalize ({ w0 with drawn := w0.drawn + 1 } : World) = w1 at *
  clear A0
  refine headT_read rfl (.pointer (some ⟨w.heap.size, 2, none⟩)) (by go_simp) (fun V hV => by go_simp) ?_
  go_simp
  refine headT_read rfl (.agg #[.int .i64 X.wide, .int .i64 X.high, .slice p1 X.gs.length q1, .slice p2 X.os.length q2]) (by go_simp) (fun V hV => by obtain ⟨⟨-, ⟨x0, x1, x2, x3, x4, x5, x6, x7, x8⟩, ⟨y0, y1, y2, y3, y4, y5, y6, y7⟩⟩, ca, ckn, ckf⟩ := hV; go_simp) ?_
  go_simp
  refine headT_read rfl (.pointer (some ⟨w.heap.size + 1, 3, none⟩)) (by go_simp) (fun V hV => by go_simp) ?_
  go_simp
  refine headT_read rfl (.int .i64 (an : Nat)) (by go_simp) (fun V hV => by obtain ⟨-, ca, ckn, ckf⟩ := hV; go_simp) ?_
  go_simp
  refine headT_read rfl (.slice (some xk) ks.length qk) (by go_simp) (fun V hV => by go_simp) ?_
  go_simp
  refine headT_read rfl (.agg #[.int .i64 X.turn, .int .i64 X.next, .int .i64 X.wide, .int .i64 X.high, .slice p1 X.gs.length q1, .slice p2 X.os.length q2, .slice p3 X.gold.length q3, .slice p4 X.us.length q4, .slice p5 X.qs.length q5]) (by go_simp) (fun V hV => by obtain ⟨⟨-, ⟨x0, x1, x2, x3, x4, x5, x6, x7, x8⟩, ⟨y0, y1, y2, y3, y4, y5, y6, y7⟩⟩, ca, ckn, ckf⟩ := hV; go_simp) ?_
  go_simp
  refine headT_read rfl (.agg #[.int .i64 u.id, .int .i64 u.player, .int .i64 u.kind, .int .i64 u.at_, .int .i64 u.life, .int .i64 u.load, .int .i64 u.task, .int .i64 u.goal]) (by go_simp) (fun V hV => by obtain ⟨⟨-, ⟨x0, x1, x2, x3, x4, x5, x6, x7, x8⟩, ⟨y0, y1, y2, y3, y4, y5, y6, y7⟩⟩, ca, ckn, ckf⟩ := hV; go_simp) ?_
  go_simp
  refine headT_read rfl (.slice (some xk) ks.length qk) (by go_simp) (fun V hV => by go_simp) ?_
  go_simp
  refine headT_read rfl (.pointer (some ⟨w.heap.size + 1, 2, none⟩)) (by go_simp) (fun V hV => by go_simp) ?_
  go_simp
  refine headT_read rfl (.int .i64 (kn : Nat)) (by go_simp) (fun V hV => by obtain ⟨-, ca, ckn, ckf⟩ := hV; go_simp) ?_
  go_simp
  refine headT_read rfl (.pointer (some (xk.add (kn * 11)))) (by go_simp) (fun V hV => by go_simp) ?_
  go_simp
  refine headT_read rfl (.pointer (some ⟨(xk.add (kn * 11)).block, (xk.add (kn * 11)).off + 9, none⟩)) (by go_simp) (fun V hV => by go_simp) ?_
  go_simp
  refine headT_read rfl (.bool k.f) (by go_simp) (fun V hV => by obtain ⟨-, ca, ckn, ckf⟩ := hV; go_simp) ?_
  go_simp
  refine headT_call rfl 40 #[.slice (some xk) ks.length qk, .agg #[.int .i64 X.turn, .int .i64 X.next, .int .i64 X.wide, .int .i64 X.high, .slice p1 X.gs.length q1, .slice p2 X.os.length q2, .slice p3 X.gold.length q3, .slice p4 X.us.length q4, .slice p5 X.qs.length q5], .agg #[.int .i64 u.id, .int .i64 u.player, .int .i64 u.kind, .int .i64 u.at_, .int .i64 u.life, .int .i64 u.load, .int .i64 u.task, .int .i64 u.goal]] (by go_simp) (by go_simp) ?_
  have AIM : Hid (Calls Tryd.prog 40 #[.slice (some xk) ks.length qk, .agg #[.int .i64 X.turn, .int .i64 X.next, .int .i64 X.wide, .int .i64 X.high, .slice p1 X.gs.length q1, .slice p2 X.os.length q2, .slice p3 X.gold.length q3, .slice p4 X.us.length q4, .slice p5 X.qs.length q5], .agg #[.int .i64 u.id, .int .i64 u.player, .int .i64 u.kind, .int .i64 u.at_, .int .i64 u.life, .int .i64 u.load, .int .i64 u.task, .int .i64 u.goal]] w1 fun e w' => ∃ c, e = .returned (.int .i64 c) ∧ AimSays ks X Wn Hn u k c ∧ Below w1.heap.size w1 w') := by
    have h := aim_any _ _ ks X u Wn Hn k w1 (K.out.below A1.out.b) (H.out.below A1.out.b) (S.out.below A1.out.b) GD.out.1 GD.out.2.1 GD.out.2.2.1 GD.out.2.2.2.1 GD.out.2.2.2.2.1 GD.out.2.2.2.2.2.1 GD.out.2.2.2.2.2.2.1 GD.out.2.2.2.2.2.2.2.1
    rw [UV.out] at h
    exact h
  refine Calls.mono AIM.out ?_
  rintro e w2 ⟨c0, rfl, ha, hb⟩
  obtain ⟨bn, rfl, hbn⟩ := aim_in ha GD.out.2.2.2.2.1 GD.out.2.2.2.2.2.2.1 GD.out.2.2.2.2.2.2.2.1
  have A2 : Hid (Am w w2 X (.slice p1 X.gs.length q1) (.slice p2 X.os.length q2) (.slice p3 X.gold.length q3) (.slice p4 X.us.length q4) (.slice p5 X.qs.length q5) u) := A1.out.below hb
  have AS : Hid (AimSays ks X Wn Hn u k (bn : Nat) ∧ bn < Wn * Hn) := ⟨ha, hbn⟩
  refine ⟨_, rfl, CB.out _ A2.out, ?_⟩
  clear hb ha hbn AIM A1
  go_simp
  refine headT_call rfl 39 #[.agg #[.int .i64 X.wide, .int .i64 X.high, .slice p1 X.gs.length q1, .slice p2 X.os.length q2], .int .i64 (an : Nat), .int .i64 (bn : Nat), .bool k.f] (by go_simp) (by go_simp) ?_
  have FL : Hid (Fl w2 (.agg #[.int .i64 X.wide, .int .i64 X.high, .slice p1 X.gs.length q1, .slice p2 X.os.length q2]) (Wn : Nat) (Hn : Nat) X.gs X.os) := by
    have := fl_of (H.out.below A2.out.b)
    rw [GD.out.2.1, GD.out.2.2.1] at this
    rw [GD.out.2.1, GD.out.2.2.1]
    exact this
  refine (Next_ok _ Wn Hn X.gs X.os an bn k.f w2 FL.out (S.out.below A2.out.b) GD.out.1 GD.out.2.2.2.2.2.2.2.2 AS.out.2).mono ?_
  rintro e w3 ⟨l, hl, hn, hb⟩
  have A3 : Hid (Am w w3 X (.slice p1 X.gs.length q1) (.slice p2 X.os.length q2) (.slice p3 X.gold.length q3) (.slice p4 X.us.length q4) (.slice p5 X.qs.length q5) u) := A2.out.below hb
  clear hb FL A2
  have NS : Hid (IsFar (Fd.near Wn Hn) (fun _ j => (X.gs.map fun g => Fd.onto g k.f).getD j 0) bn (Wn * Hn) l ∧ Flat l) := hl
  clear hl
  rcases hn with ⟨hlt, rfl⟩ | ⟨hge, j, rfl, hnx⟩
  · have WS : Hid (WishSays ks X Wn Hn u k an) := ⟨an, bn, l, HE.out.2, AS.out.1, AS.out.2, NS.out, .inl ⟨hlt, rfl⟩⟩
    refine ⟨_, rfl, CB.out _ A3.out, ?_⟩
    clear hlt
    go_simp
    refine sched_read rfl (.tuple #[.int .i64 0, .iface 62 (.int .i64 7)]) (by go_simp) (fun V hV => by go_simp) ?_
    go_simp
    refine sched_read rfl (.int .i64 0) (by go_simp) (fun V hV => by go_simp) ?_
    go_simp
    refine sched_read rfl (.iface 62 (.int .i64 7)) (by go_simp) (fun V hV => by go_simp) ?_
    go_simp
    refine sched_read rfl (.int .i64 0) (by go_simp) (fun V hV => by go_simp) ?_
    go_simp
    refine sched_value rfl (.iface 62 (.int .i64 7)) w3 (by go_simp) (by go_simp) trivial ?_
    go_simp
    unfold wpSched
    obtain ⟨-, ca, -, -⟩ := CB.out _ A3.out
    go_wp2
    go_ret
    exact ⟨an, rfl, WS.out, GD.out.2.2.2.2.2.2.2.2, A3.out.b⟩
  · have WS : Hid (WishSays ks X Wn Hn u k j ∧ j < Wn * Hn) := ⟨⟨an, bn, l, HE.out.2, AS.out.1, AS.out.2, NS.out, .inr ⟨hge, hnx⟩⟩, nxt_in GD.out.1.w1 hnx GD.out.2.2.2.2.2.2.2.2⟩
    refine ⟨_, rfl, CB.out _ A3.out, ?_⟩
    clear hge hnx
    go_simp
    refine sched_read rfl (.tuple #[.int .i64 (j : Nat), .nilIface]) (by go_simp) (fun V hV => by go_simp) ?_
    go_simp
    refine sched_read rfl (.int .i64 (j : Nat)) (by go_simp) (fun V hV => by go_simp) ?_
    go_simp
    refine sched_read rfl .nilIface (by go_simp) (fun V hV => by go_simp) ?_
    go_simp
    refine sched_read rfl (.int .i64 (j : Nat)) (by go_simp) (fun V hV => by go_simp) ?_
    go_simp
    refine sched_value rfl .nilIface w3 (by go_simp) (by go_simp) trivial ?_
    go_simp
    unfold wpSched
    go_wp2
    go_ret
    exact ⟨j, rfl, WS.out.1, WS.out.2, A3.out.b⟩
set_option maxHeartbeats 1000000 in
theorem mat_any (u : UnV) (at_ : Int) (b : Nat) (w : World) (hc : w.cell? ⟨b, 0, none⟩ = some (.int .i64 at_)) :
    Calls Tryd.prog 68 #[u.val, .pointer (some ⟨b, 0, none⟩)] w fun e w' => e = .returned (.bool (u.at_ == at_)) ∧ Below w.heap.size w w' := by
  have hb : b < w.heap.size := cell_lt hc
  have hne : b ≠ w.heap.size := by omega
  unfold UnV.val
  go_enter Tryd.func68, Tryd.ntmps68
  go_wp2
  go_ret
  exact ⟨rfl, (Below.refl _ _).alloc (Nat.le_refl _) _⟩
set_option maxRecDepth 100000 in
set_option maxHeartbeats 2000000 in
theorem taken_any (vw : Value) (X : WV) (at_ : Int) (w : World) (hw : Wl w vw X) :
    Calls Tryd.prog 49 #[vw, .int .i64 at_] w fun e w' => e = .returned (.bool (X.us.any (fun u => u.at_ == at_))) ∧ Below w.heap.size w w' := by
  have H : Hid (Wl w vw X) := hw
  obtain ⟨p1, q1, p2, q2, p3, q3, p4, q4, p5, q5, rfl⟩ := wl_shape9 hw
  clear hw
  go_enter Tryd.func49, Tryd.ntmps49
  go_upto_region 1 with fail
  have B0 : Hid (Below w.heap.size w ((w.alloc (Obj.cells #[.int .i64 X.turn, .int .i64 X.next, .int .i64 X.wide, .int .i64 X.high, .slice p1 X.gs.length q1, .slice p2 X.os.length q2, .slice p3 X.gold.length q3, .slice p4 X.us.length q4, .slice p5 X.qs.length q5] 29)).alloc (Obj.cells #[.int .i64 at_] 3))) := ((Below.refl _ _).alloc (Nat.le_refl _) _).alloc (by simp) _
  have C0 : Hid (((w.alloc (Obj.cells #[.int .i64 X.turn, .int .i64 X.next, .int .i64 X.wide, .int .i64 X.high, .slice p1 X.gs.length q1, .slice p2 X.os.length q2, .slice p3 X.gold.length q3, .slice p4 X.us.length q4, .slice p5 X.qs.length q5] 29)).alloc (Obj.cells #[.int .i64 at_] 3)).cell? ⟨w.heap.size + 1, 0, none⟩ = some (.int .i64 at_)) := cell_of_new (by simp) rfl
  have X0 : Hid (Bw ((w.alloc (Obj.cells #[.int .i64 X.turn, .int .i64 X.next, .int .i64 X.wide, .int .i64 X.high, .slice p1 X.gs.length q1, .slice p2 X.os.length q2, .slice p3 X.gold.length q3, .slice p4 X.us.length q4, .slice p5 X.qs.length q5] 29)).alloc (Obj.cells #[.int .i64 at_] 3)) w.heap.size X (.slice p1 X.gs.length q1) (.slice p2 X.os.length q2) (.slice p3 X.gold.length q3) (.slice p4 X.us.length q4) (.slice p5 X.qs.length q5)) := (Bw.mk' X _ _ _ _ _ rfl).below ((Below.refl _ _).alloc (Nat.le_refl _) _) (by simp)
  generalize ((w.alloc (Obj.cells #[.int .i64 X.turn, .int .i64 X.next, .int .i64 X.wide, .int .i64 X.high, .slice p1 X.gs.length q1, .slice p2 X.os.length q2, .slice p3 X.gold.length q3, .slice p4 X.us.length q4, .slice p5 X.qs.length q5] 29)).alloc (Obj.cells #[.int .i64 at_] 3)) = w0 at *
  have c7 := X0.out.c7
  have US : Hid (Unl w (.slice p4 X.us.length q4) X.us) := H.out.slices.2.2.2.1
  go_wp2_with fail
  refine (hasu_any 68 (by intro args w; go_simp) _ #[.pointer (some ⟨w.heap.size + 1, 0, none⟩)] X.us (fun u => u.at_ == at_) w0 (US.out.below B0.out) (fun V hV k => mat_any k at_ (w.heap.size + 1) V (by rw [hV.cell (p := ⟨w.heap.size + 1, 0, none⟩) (cell_lt C0.out)]; exact C0.out))).mono ?_
  rintro e w1 ⟨rfl, hb1⟩
  have B1 : Hid (Below w.heap.size w w1) := B0.out.trans (hb1.mono B0.out.size)
  obtain ⟨m, hm⟩ : ∃ m, X.us.any (fun u => u.at_ == at_) = m := ⟨_, rfl⟩
  have HM : Hid (X.us.any (fun u => u.at_ == at_) = m) := hm
  rw [hm]
  clear hb1 hm c7
  go_wp2
  go_ret
  exact ⟨by rw [HM.out]; rfl, B1.out⟩
/-- what Wish tells. -/
def WisSays (ks : List KV) (X : WV) (i c F : Int) : Prop :=
  (Wd.wfault ks X ≠ 0 ∧ F = Wd.wfault ks X ∧ c = 0) ∨ (Wd.wfault ks X = 0 ∧ ¬ (0 ≤ i ∧ i < (X.us.length : Int)) ∧ F = 6 ∧ c = 0)
  ∨ (Wd.wfault ks X = 0 ∧ F = 0 ∧ ∃ (n cn Wn Hn : Nat) (u : UnV) (k : KV), i = n ∧ c = cn ∧ X.us[n]? = some u ∧ X.wide = (Wn : Nat) ∧ X.high = (Hn : Nat) ∧ Fd.Good Wn Hn X.gs X.os ∧ ks[u.kind.toNat]? = some k ∧ WishSays ks X Wn Hn u k cn ∧ cn < Wn * Hn)
theorem right_fits {ks : List KV} {X : WV} (h : WRight ks X) {Wn Hn : Nat} (G : Fd.Good Wn Hn X.gs X.os) : ∀ u ∈ X.us, Fit ks (Wn * Hn) u ∧ (0 ≤ u.goal ∧ u.goal < (Wn * Hn : Nat)) := by
  intro u hu
  obtain ⟨i, hi⟩ := List.mem_iff_getElem?.1 hu
  obtain ⟨k, f⟩ := h.fine hi
  have h1 := f.at_
  have h2 := f.goal
  rw [G.gl] at h1 h2
  exact ⟨⟨f.k0, h1⟩, h2⟩
set_option maxRecDepth 100000 in
set_option maxHeartbeats 4000000 in
theorem Wish_any (vk vw : Value) (ks : List KV) (X : WV) (i : Int) (w : World) (hk : Kl w vk ks) (hb : ∀ k ∈ ks, k.b.size ≤ 9223372036854775807) (hw : Wl w vw X) (hs : Sd w) :
    Calls Tryd.prog 6 #[vk, vw, .int .i64 i] w fun e w' => ∃ t r F, e = .returned (.tuple #[.int .i64 t, r]) ∧ Er r F ∧ WisSays ks X i t F ∧ Below w.heap.size w w' := by
  have K : Hid (Kl w vk ks ∧ ∀ k ∈ ks, k.b.size ≤ 9223372036854775807) := ⟨hk, hb⟩
  have H : Hid (Wl w vw X) := hw
  have S : Hid (Sd w) := hs
  obtain ⟨p1, q1, p2, q2, p3, q3, p4, q4, p5, q5, rfl⟩ := wl_shape9 hw
  obtain ⟨pk, qk, rfl, ck1, ck2, kc⟩ := hk
  clear hb hw hs kc
  go_enter Tryd.func6, Tryd.ntmps6
  go_upto_region 1 with fail
  have B0 : Hid (Below w.heap.size w (w.alloc (Obj.cells #[.int .i64 X.turn, .int .i64 X.next, .int .i64 X.wide, .int .i64 X.high, .slice p1 X.gs.length q1, .slice p2 X.os.length q2, .slice p3 X.gold.length q3, .slice p4 X.us.length q4, .slice p5 X.qs.length q5] 29))) := (Below.refl _ _).alloc (Nat.le_refl _) _
  have X0 : Hid (Bw (w.alloc (Obj.cells #[.int .i64 X.turn, .int .i64 X.next, .int .i64 X.wide, .int .i64 X.high, .slice p1 X.gs.length q1, .slice p2 X.os.length q2, .slice p3 X.gold.length q3, .slice p4 X.us.length q4, .slice p5 X.qs.length q5] 29)) w.heap.size X (.slice p1 X.gs.length q1) (.slice p2 X.os.length q2) (.slice p3 X.gold.length q3) (.slice p4 X.us.length q4) (.slice p5 X.qs.length q5)) := Bw.mk' X _ _ _ _ _ rfl
  generalize (w.alloc (Obj.cells #[.int .i64 X.turn, .int .i64 X.next, .int .i64 X.wide, .int .i64 X.high, .slice p1 X.gs.length q1, .slice p2 X.os.length q2, .slice p3 X.gold.length q3, .slice p4 X.us.length q4, .slice p5 X.qs.length q5] 29)) = w0 at *
  obtain ⟨x0, x1, x2, x3, x4, x5, x6, x7, x8⟩ := X0.out
  go_wp2_with fail
  refine (wcheck_any _ _ ks X w0 (K.out.1.below B0.out) K.out.2 (H.out.below B0.out)).mono ?_
  rintro e w1 ⟨r, rfl, hr, hb⟩
  obtain ⟨fw, hfw⟩ : ∃ f, Wd.wfault ks X = f := ⟨_, rfl⟩
  have FW : Hid (Wd.wfault ks X = fw) := hfw
  rw [hfw] at hr
  have B1 : Hid (Below w.heap.size w w1) := B0.out.trans (hb.mono B0.out.size)
  have X1 : Hid (Bw w1 w.heap.size X (.slice p1 X.gs.length q1) (.slice p2 X.os.length q2) (.slice p3 X.gold.length q3) (.slice p4 X.us.length q4) (.slice p5 X.qs.length q5)) := X0.out.below hb X0.out.lt
  clear hb hfw x0 x1 x2 x3 x4 x5 x6 x7 x8 X0 B0
  rcases hr with ⟨rfl, rfl⟩ | ⟨hf, rfl⟩
  case inr =>
    have HF : Hid (fw ≠ 0) := hf
    clear hf
    go_wp2
    go_ret2
    exact ⟨0, _, fw, rfl, Er.no HF.out, .inl (by rw [FW.out]; exact ⟨HF.out, rfl, rfl⟩), B1.out⟩
  obtain ⟨x0, x1, x2, x3, x4, x5, x6, x7, x8⟩ := X1.out
  by_cases hi0 : i < 0
  · go_wp2
    go_ret2
    exact ⟨0, _, 6, rfl, Er.no (by decide), .inr (.inl ⟨FW.out, by omega, rfl, rfl⟩), B1.out⟩
  by_cases hi1 : (X.us.length : Int) ≤ i
  · go_wp2
    go_ret2
    exact ⟨0, _, 6, rfl, Er.no (by decide), .inr (.inl ⟨FW.out, by omega, rfl, rfl⟩), B1.out⟩
  obtain ⟨i, rfl⟩ : ∃ n : Nat, i = n := ⟨i.toNat, by omega⟩
  have hil : i < X.us.length := by omega
  obtain ⟨u, hu⟩ : ∃ u, X.us[i]? = some u := ⟨_, List.getElem?_eq_getElem hil⟩
  have UI : Hid (X.us[i]? = some u) := hu
  have WR : Hid (WRight ks X) := wright_of FW.out
  obtain ⟨Wn, Hn, e1, e2, G⟩ := WR.out.good
  obtain ⟨k, fu⟩ := WR.out.fine hu
  have GD : Hid (X.wide = (Wn : Nat) ∧ X.high = (Hn : Nat) ∧ Fd.Good Wn Hn X.gs X.os ∧ ks[u.kind.toNat]? = some k) := ⟨e1, e2, G, fu.kk⟩
  have FT : Hid (∀ h ∈ X.us, Fit ks (Wn * Hn) h ∧ (0 ≤ h.goal ∧ h.goal < (Wn * Hn : Nat))) := right_fits WR.out G
  obtain ⟨pa, pc, he, -, -, hus⟩ := H.out.slices.2.2.2.1
  obtain ⟨xu, hxu, hxul, hxuc⟩ := hus (by intro h; rw [h] at hil; simp at hil)
  injection he with he1 he2 he3
  subst he1
  subst hxu
  have UK : Hid (Unc w (xu.add (i * 8)) u ∧ (xu.add (i * 8)).block < w.heap.size) := ⟨hxuc i u hu, by rw [add_block]; exact hxul⟩
  clear hus he2 he3 hxul hxuc e1 e2 G fu hu x0 x1 x2 x3 x4 x5 x6 x8 hi0 hi1
  go_upto_region 6 with fail
  clear x7
  have CB : Hid (∀ V, Below w.heap.size w V → Bw V w.heap.size X (.slice p1 X.gs.length q1) (.slice p2 X.os.length q2) (.slice p3 X.gold.length q3) (.slice (some xu) X.us.length q4) (.slice p5 X.qs.length q5) → Bw V w.heap.size X (.slice p1 X.gs.length q1) (.slice p2 X.os.length q2) (.slice p3 X.gold.length q3) (.slice (some xu) X.us.length q4) (.slice p5 X.qs.length q5) ∧ Unc V (xu.add (i * 8)) u) := fun V hb hx => ⟨hx, UK.out.1.below hb UK.out.2⟩
  refine wp_region_two [(true, 0), (true, 1), (true, 2), (true, 3), (true, 4), (true, 5), (true, 6), (false, 7)] [(true, 8), (false, 9)] (fun V => Bw V w.heap.size X (.slice p1 X.gs.length q1) (.slice p2 X.os.length q2) (.slice p3 X.gold.length q3) (.slice (some xu) X.us.length q4) (.slice p5 X.qs.length q5) ∧ Unc V (xu.add (i * 8)) u) (by kernel_rfl) (by kernel_rfl) (by kernel_rfl) (by decide +kernel) (by decide +kernel) (CB.out _ B1.out.drew (X1.out.below ((Below.refl _ _).drew) X1.out.lt)) ?_
  have X2 : Hid (Bw { w1 with drawn := w1.drawn + 1 } w.heap.size X (.slice p1 X.gs.length q1) (.slice p2 X.os.length q2) (.slice p3 X.gold.length q3) (.slice (some xu) X.us.length q4) (.slice p5 X.qs.length q5)) := X1.out.below ((Below.refl _ _).drew) X1.out.lt
  have B2 : Hid (Below w.heap.size w { w1 with drawn := w1.drawn + 1 }) := B1.out.drew
  generalize ({ w1 with drawn := w1.drawn + 1 } : World) = w2 at *
  clear X1 B1
  refine headT_read rfl (.slice pk ks.length qk) (by go_simp) (fun V hV => by go_simp) ?_
  go_simp
  refine headT_read rfl (.agg #[.int .i64 X.turn, .int .i64 X.next, .int .i64 X.wide, .int .i64 X.high, .slice p1 X.gs.length q1, .slice p2 X.os.length q2, .slice p3 X.gold.length q3, .slice (some xu) X.us.length q4, .slice p5 X.qs.length q5]) (by go_simp) (fun V hV => by obtain ⟨⟨x0, x1, x2, x3, x4, x5, x6, x7, x8⟩, ⟨y0, y1, y2, y3, y4, y5, y6, y7⟩⟩ := hV; go_simp) ?_
  go_simp
  refine headT_read rfl (.pointer (some ⟨w.heap.size, 7, none⟩)) (by go_simp) (fun V hV => by go_simp) ?_
  go_simp
  refine headT_read rfl (.slice (some xu) X.us.length q4) (by go_simp) (fun V hV => by obtain ⟨⟨x0, x1, x2, x3, x4, x5, x6, x7, x8⟩, ⟨y0, y1, y2, y3, y4, y5, y6, y7⟩⟩ := hV; go_simp) ?_
  go_simp
  refine headT_read rfl (.int .i64 (i : Nat)) (by go_simp) (fun V hV => by go_simp) ?_
  go_simp
  refine headT_read rfl (.pointer (some (xu.add (i * 8)))) (by go_simp) (fun V hV => by go_simp) ?_
  go_simp
  refine headT_read rfl (.agg #[.int .i64 u.id, .int .i64 u.player, .int .i64 u.kind, .int .i64 u.at_, .int .i64 u.life, .int .i64 u.load, .int .i64 u.task, .int .i64 u.goal]) (by go_simp) (fun V hV => by obtain ⟨⟨x0, x1, x2, x3, x4, x5, x6, x7, x8⟩, ⟨y0, y1, y2, y3, y4, y5, y6, y7⟩⟩ := hV; go_simp) ?_
  go_simp
  refine headT_call rfl 23 #[.slice pk ks.length qk, .agg #[.int .i64 X.turn, .int .i64 X.next, .int .i64 X.wide, .int .i64 X.high, .slice p1 X.gs.length q1, .slice p2 X.os.length q2, .slice p3 X.gold.length q3, .slice (some xu) X.us.length q4, .slice p5 X.qs.length q5], .agg #[.int .i64 u.id, .int .i64 u.player, .int .i64 u.kind, .int .i64 u.at_, .int .i64 u.life, .int .i64 u.load, .int .i64 u.task, .int .i64 u.goal]] (by go_simp) (by go_simp) ?_
  have hum := List.mem_of_getElem? UI.out
  refine (wish_any _ _ ks X u Wn Hn k w2 (K.out.1.below B2.out) (H.out.below B2.out) (S.out.below B2.out) GD.out.2.2.1 GD.out.1 GD.out.2.1 (by have := WR.out.ul; omega) (FT.out u hum).1 GD.out.2.2.2 (fun h hh => (FT.out h hh).1) (FT.out u hum).2).mono ?_
  rintro e w3 ⟨t, rfl, ht, htn, hb⟩
  have TS : Hid (WishSays ks X Wn Hn u k t ∧ t < Wn * Hn) := ⟨ht, htn⟩
  have B3 : Hid (Below w.heap.size w w3) := B2.out.trans (hb.mono B2.out.size)
  refine ⟨_, rfl, CB.out _ B3.out (X2.out.below hb X2.out.lt), ?_⟩
  clear hb ht htn hum X2 B2
  go_simp
  refine sched_read rfl (.int .i64 (t : Nat)) (by go_simp) (fun V hV => by go_simp) ?_
  go_simp
  refine sched_value rfl .nilIface w3 (by go_simp) (by go_simp) trivial ?_
  go_simp
  unfold wpSched
  go_wp2
  go_ret2
  exact ⟨t, _, 0, rfl, .inl ⟨rfl, rfl⟩, .inr (.inr ⟨FW.out, rfl, i, t, Wn, Hn, u, k, rfl, rfl, UI.out, GD.out.1, GD.out.2.1, GD.out.2.2.1, GD.out.2.2.2, TS.out.1, TS.out.2⟩), B3.out⟩
end Go.Proofs.YtplnhgllbhdfjaaDoor

namespace Go.Proofs.YtplnhgllbhdfjaaDoor
open Go.RowKit
set_option linter.unusedVariables false

structure EvV where
  what : Int
  unit : Int
  arg : Int
def EvV.val (k : EvV) : Value := .agg #[.int .i64 k.what, .int .i64 k.unit, .int .i64 k.arg]
/-- its cells, from an address on. -/
structure Evc (w : World) (y : Addr) (k : EvV) : Prop where
  c0 : w.cell? y = some (.int .i64 k.what)
  c1 : w.cell? ⟨y.block, y.off + 1, none⟩ = some (.int .i64 k.unit)
  c2 : w.cell? ⟨y.block, y.off + 2, none⟩ = some (.int .i64 k.arg)
theorem Evc.lt {w : World} {y : Addr} {k : EvV} (h : Evc w y k) : y.block < w.heap.size := cell_lt h.c0
theorem Evc.below {w w' : World} {y : Addr} {k : EvV} {B : Nat} (h : Evc w y k) (hb : Below B w w') (hy : y.block < B) : Evc w' y k :=
  ⟨by rw [hb.cell (p := y) hy]; exact h.c0, by rw [hb.cell (p := ⟨y.block, y.off + 1, none⟩) hy]; exact h.c1, by rw [hb.cell (p := ⟨y.block, y.off + 2, none⟩) hy]; exact h.c2⟩
/-- v is a slice of them. -/
def Evl (w : World) (v : Value) (ks : List EvV) : Prop := ∃ a c, v = .slice a ks.length c ∧ ks.length ≤ c ∧ c ≤ 9223372036854775807 ∧ (ks ≠ [] → ∃ x, a = some x ∧ x.block < w.heap.size ∧ ∀ (i : Nat) k, ks[i]? = some k → Evc w (x.add (i * 3)) k)
theorem Evl.below {w w' : World} {v : Value} {ks : List EvV} (h : Evl w v ks) (hb : Below w.heap.size w w') : Evl w' v ks := by
  obtain ⟨a, c, h1, h2, h3, h4⟩ := h
  refine ⟨a, c, h1, h2, h3, fun hn => ?_⟩
  obtain ⟨x, e, hx, hk⟩ := h4 hn
  exact ⟨x, e, Nat.lt_of_lt_of_le hx hb.size, fun i k hi => (hk i k hi).below hb (by rw [add_block]; exact hx)⟩
theorem Evc.mk' {w : World} {z : Nat} (k : EvV) (hz : w.heap.size = z) : Evc (w.alloc (.cells #[.int .i64 k.what, .int .i64 k.unit, .int .i64 k.arg] 51)) ⟨z, 0, none⟩ k := by
  subst hz
  constructor <;> simp
end Go.Proofs.YtplnhgllbhdfjaaDoor

namespace Go.Proofs.YtplnhgllbhdfjaaDoor
open Go.RowKit
set_option linter.unusedVariables false

theorem info_ev : (Tryd.prog.info? 51).map (fun i => (i.zero, i.size, i.bytes)) = some (some (.agg #[.int .i64 0, .int .i64 0, .int .i64 0]), 3, 24) := by kernel_rfl
def EvV.cs (k : EvV) : List Value := [.int .i64 k.what, .int .i64 k.unit, .int .i64 k.arg]
theorem flat_ev : ∀ (ks : List EvV) (i j : Nat) (k : EvV), ks[i]? = some k → j < 3 → (ks.flatMap EvV.cs)[i * 3 + j]? = k.cs[j]?
  | [], i, j, k, h, _ => by simp at h
  | x :: ks, 0, j, k, h, hj => by
    simp at h
    subst h
    rw [List.flatMap_cons, List.getElem?_append_left (by simp [EvV.cs]; omega)]
    simp
  | x :: ks, i + 1, j, k, h, hj => by
    rw [List.flatMap_cons, List.getElem?_append_right (by simp [EvV.cs]; omega)]
    have : (i + 1) * 3 + j - (EvV.cs x).length = i * 3 + j := by simp [EvV.cs]; omega
    rw [this]
    exact flat_ev ks i j k (by simpa using h) hj
/-- v is a slice of them, in a block of its own from base on. -/
def Evo (w : World) (base : Nat) (v : Value) (ks : List EvV) : Prop := w.ownsRow base 51 3 v ks.length (ks.flatMap EvV.cs)
theorem Evo.nil (w : World) (base : Nat) : Evo w base (.slice none 0 0) [] := World.ownsRow_nil _ _ _ _
theorem Evo.below {w w' : World} {base : Nat} {v : Value} {ks : List EvV} (h : Evo w base v ks) (hb : Below w.heap.size w w') : Evo w' base v ks :=
  World.ownsRow.kept h (row := none) ⟨hb.os, hb.tape, hb.output, hb.size, fun k hk _ => hb.block k hk⟩ (by cases v.ownBlock <;> simp)
theorem Evo.kept {w w' : World} {base : Nat} {v : Value} {ks : List EvV} {row : Option Nat} (h : Evo w base v ks) (hg : w.grownBy w' row) (hne : v.ownBlock = none ∨ v.ownBlock ≠ row) : Evo w' base v ks := World.ownsRow.kept h hg hne
theorem Evo.alloc {w : World} {base : Nat} {v : Value} {ks : List EvV} (h : Evo w base v ks) (o : Obj) : Evo (w.alloc o) base v ks := World.ownsRow.alloc h o
theorem Evo.block {w : World} {base : Nat} {v : Value} {ks : List EvV} (h : Evo w base v ks) : ∀ k, v.ownBlock = some k → base ≤ k ∧ k < w.heap.size := World.ownsRow.lt h
theorem Evo.mono {w : World} {base base' : Nat} {v : Value} {ks : List EvV} (h : Evo w base v ks) (hb : base' ≤ base) : Evo w base' v ks := by
  refine ⟨h.1, ?_⟩
  rcases h.2 with h1 | ⟨g, cap, cur, h1, h2, h3⟩
  · exact .inl h1
  · exact .inr ⟨g, cap, cur, h1, Nat.le_trans hb h2, h3⟩
theorem Evo.l {w : World} {base : Nat} {v : Value} {ks : List EvV} (h : Evo w base v ks) : Evl w v ks := by
  rcases h.2 with ⟨hv, h0⟩ | ⟨g, cap, cur, hv, hb, hg, h1, h2, h3, h4⟩
  · exact ⟨none, 0, by rw [hv, h0], by omega, by omega, fun hn => absurd (List.length_eq_zero_iff.1 h0) hn⟩
  · refine ⟨_, cap, hv, h1, by unfold maxLen at h2; omega, fun _ => ⟨_, rfl, lt_of_block hg, fun i k hi => ?_⟩⟩
    have hil : i < ks.length := (List.getElem?_eq_some_iff.1 hi).1
    have h5 : w.ownsRow base 51 3 (.slice (some ⟨g, 0, none⟩) ks.length cap) ks.length (ks.flatMap EvV.cs) := by rw [← hv]; exact h
    have hc : ∀ j u, j < 3 → k.cs[j]? = some u → w.cell? ⟨g, i * 3 + j, none⟩ = some u := fun j u hj hu => by
      rw [h5.cellAt (i * 3 + j) (by omega), flat_ev ks i j k hi hj, hu]
    rw [Addr.add_lit, Nat.zero_add]
    exact ⟨hc 0 _ (by decide) rfl, hc 1 _ (by decide) rfl, hc 2 _ (by decide) rfl⟩
theorem Evo.len {w : World} {base : Nat} {v : Value} {ks : List EvV} (h : Evo w base v ks) : ∃ a c, v = .slice a ks.length c := by
  obtain ⟨a, c, h1, -⟩ := h.l
  exact ⟨a, c, h1⟩

/-- one more. -/
theorem app_ev {ops : Array Oper} {rest : List Oper} {o : Oper} {a : Act} {Q : Exit → Act → World → Prop} (w : World) (hgd : o.guard = none) (s x : Operand)
    (ho : o.op = .call { callee := .builtin .append, args := #[s, x], argTypes := #[43, 43] }) (base : Nat) (v : Value) (ks : List EvV) (hs : a.eval s = v) (hown : Evo w base v ks)
    (b : Nat) (d : EvV) (hx : a.eval x = .slice (some ⟨b, 0, none⟩) 1 1) (hd : Evc w ⟨b, 0, none⟩ d) (hl : ks.length ≤ 1000000) (hbase : base ≤ w.heap.size)
    (h : ∀ g cap w', Evo w' base (.slice (some ⟨g, 0, none⟩) (ks.length + 1) cap) (ks ++ [d]) → w.grownBy w' v.ownBlock → (v.ownBlock = some g ∨ g = w.heap.size) → g < w'.heap.size → wpList Tryd.prog ops Q rest (a.put o.dst (.slice (some ⟨g, 0, none⟩) (ks.length + 1) cap)) w') :
    wpList Tryd.prog ops Q (o :: rest) a w := by
  obtain ⟨i0, hi, hz0, hz1, hz2⟩ := info_parts info_ev
  refine wpList_append_lies w hgd s x 43 ho base 51 i0 (.agg #[.int .i64 0, .int .i64 0, .int .i64 0]) 3 24 Tryd.underlying43 hi hz0 hz1 hz2 rfl (by decide) v ks.length _ hs hown ⟨b, 0, none⟩ 1 1 d.cs hx rfl ?_ ?_ (by decide) (by unfold maxLen; omega) (by omega) hbase _ rfl ?_
  · intro j u hj
    have hjn : j < 3 := (List.getElem?_eq_some_iff.1 hj).1
    rw [Addr.add_lit, Nat.zero_add]
    match j, hjn, hj with
    | 0, _, hj => simp [EvV.cs] at hj; subst hj; exact hd.c0
    | 1, _, hj => simp [EvV.cs] at hj; subst hj; exact hd.c1
    | 2, _, hj => simp [EvV.cs] at hj; subst hj; exact hd.c2
  · intro u hu
    simp [EvV.cs] at hu
    rcases hu with rfl | rfl | rfl <;> rfl
  · intro g cap w' h1 h2 h3 h4
    refine h g cap w' ?_ h2 h3 h4
    unfold Evo
    rw [List.length_append, List.flatMap_append]
    simpa using h1
end Go.Proofs.YtplnhgllbhdfjaaDoor

namespace Go.Proofs.YtplnhgllbhdfjaaDoor
open Go.RowKit
set_option linter.unusedVariables false

theorem gb_trans {a b c : World} {r : Option Nat} (h : a.grownBy b r) (k : b.grownBy c r) : a.grownBy c r :=
  ⟨k.os.trans h.os, k.tape.trans h.tape, k.output.trans h.output, Nat.le_trans h.size k.size, fun i hi hr => (k.block i (Nat.lt_of_lt_of_le hi h.size) hr).trans (h.block i hi hr)⟩
theorem gb_below {a b : World} {r : Option Nat} (h : Below a.heap.size a b) : a.grownBy b r := ⟨h.os, h.tape, h.output, h.size, fun k hk _ => h.block k hk⟩
theorem gb_kp {a b : World} {z : Nat} (h : Kp z a b) : a.grownBy b (some z) := ⟨h.os, h.tape, h.output, h.size, fun k hk hn => h.block k hk (fun e => hn (by rw [e]))⟩
theorem kp_gb {z : Nat} {a b c : World} {r : Option Nat} (h : Kp z a b) (g : b.grownBy c r) (hr : ∀ k, r = some k → a.heap.size ≤ k) : Kp z a c :=
  ⟨g.os.trans h.os, g.tape.trans h.tape, g.output.trans h.output, Nat.le_trans h.size g.size, fun i hi hz => (g.block i (Nat.lt_of_lt_of_le hi h.size) (fun e => by have := hr i e.symm; omega)).trans (h.block i hi hz)⟩
theorem Evo.kp9 {w w' : World} {base z : Nat} {v : Value} {ks : List EvV} (h : Evo w base v ks) (k : Kp z w w') (hz : z < base) : Evo w' base v ks := owns_kp h k hz
theorem cell_kp9 {w w' : World} {z : Nat} {p : Addr} {u : Value} (h : w.cell? p = some u) (k : Kp z w w') (hz : p.block ≠ z) : w'.cell? p = some u := by
  rw [World.cell?_of_block (k.block p.block (cell_lt h) hz)]; exact h
theorem Bw.kp9 {w w' : World} {z y : Nat} {W : WV} {u1 u2 u3 u4 u5 : Value} (h : Bw w z W u1 u2 u3 u4 u5) (k : Kp y w w') (hn : z ≠ y) : Bw w' z W u1 u2 u3 u4 u5 :=
  ⟨cell_kp9 h.c0 k hn, cell_kp9 h.c1 k hn, cell_kp9 h.c2 k hn, cell_kp9 h.c3 k hn, cell_kp9 h.c4 k hn, cell_kp9 h.c5 k hn, cell_kp9 h.c6 k hn, cell_kp9 h.c7 k hn, cell_kp9 h.c8 k hn⟩
theorem Unc.kp9 {w w' : World} {z : Nat} {y : Addr} {u : UnV} (h : Unc w y u) (k : Kp z w w') (hn : y.block ≠ z) : Unc w' y u :=
  ⟨cell_kp9 h.c0 k hn, cell_kp9 h.c1 k hn, cell_kp9 h.c2 k hn, cell_kp9 h.c3 k hn, cell_kp9 h.c4 k hn, cell_kp9 h.c5 k hn, cell_kp9 h.c6 k hn, cell_kp9 h.c7 k hn⟩
theorem cell_gb {w w' : World} {r : Option Nat} {p : Addr} {u : Value} (h : w.cell? p = some u) (k : w.grownBy w' r) (hz : r ≠ some p.block) : w'.cell? p = some u := by
  rw [World.cell?_of_block (k.block p.block (cell_lt h) (fun e => hz e.symm))]; exact h
theorem Unc.gb {w w' : World} {r : Option Nat} {y : Addr} {u : UnV} (h : Unc w y u) (k : w.grownBy w' r) (hn : r ≠ some y.block) : Unc w' y u :=
  ⟨cell_gb h.c0 k hn, cell_gb h.c1 k hn, cell_gb h.c2 k hn, cell_gb h.c3 k hn, cell_gb h.c4 k hn, cell_gb h.c5 k hn, cell_gb h.c6 k hn, cell_gb h.c7 k hn⟩
theorem wx_bw {w : World} {z : Nat} {X : WV} {u1 u2 u3 u4 u5 : Value} (h : Wx w z (.int .i64 X.turn) (.int .i64 X.next) (.int .i64 X.wide) (.int .i64 X.high) u1 u2 u3 u4 u5) : Bw w z X u1 u2 u3 u4 u5 := by
  obtain ⟨h0, h1, h2, h3, h4, h5, h6, h7, h8⟩ := h.cells
  exact ⟨h0, h1, h2, h3, h4, h5, h6, h7, h8⟩
theorem own_low {w w' : World} {B base : Nat} {T : TypeId} {size : Nat} {u : Value} {n : Nat} {cs : List Value} (h : w.ownsRow base T size u n cs) (k : Below B w w') (hz : ∀ b, u.ownBlock = some b → b < B) : w'.ownsRow base T size u n cs := by
  refine ⟨h.1, ?_⟩
  rcases h.2 with h1 | ⟨g, cap, cur, h1, h2, h3, h4⟩
  · exact .inl h1
  · exact .inr ⟨g, cap, cur, h1, h2, (k.block g (hz g (by rw [h1]; rfl))).trans h3, h4⟩
theorem own_gb {w w' : World} {base : Nat} {T : TypeId} {size : Nat} {u : Value} {n : Nat} {cs : List Value} {r : Option Nat} (h : w.ownsRow base T size u n cs) (k : w.grownBy w' r) (hz : ∀ b, u.ownBlock = some b → r ≠ some b) : w'.ownsRow base T size u n cs := by
  refine ⟨h.1, ?_⟩
  rcases h.2 with h1 | ⟨g, cap, cur, h1, h2, h3, h4⟩
  · exact .inl h1
  · exact .inr ⟨g, cap, cur, h1, h2, (k.block g (lt_of_block h3) (fun e => hz g (by rw [h1]; rfl) e.symm)).trans h3, h4⟩
theorem kind_new {w : World} {z : Nat} (k : KV) (hz : w.heap.size = z) : Kc (w.alloc (Obj.cells #[.string k.b, .int .i64 k.n0, .int .i64 k.n1, .int .i64 k.n2, .int .i64 k.n3, .int .i64 k.n4, .int .i64 k.n5, .int .i64 k.n6, .int .i64 k.n7, .bool k.f, .bool k.t] 42)) ⟨z, 0, none⟩ k := by
  subst hz
  exact ⟨by simp, by simp, by simp, by simp, by simp, by simp, by simp, by simp, by simp, by simp, by simp⟩
theorem Kc.kp9 {w w' : World} {z : Nat} {y : Addr} {k : KV} (h : Kc w y k) (q : Kp z w w') (hn : y.block ≠ z) : Kc w' y k :=
  ⟨cell_kp9 h.c0 q hn, cell_kp9 h.c1 q hn, cell_kp9 h.c2 q hn, cell_kp9 h.c3 q hn, cell_kp9 h.c4 q hn, cell_kp9 h.c5 q hn, cell_kp9 h.c6 q hn, cell_kp9 h.c7 q hn, cell_kp9 h.c8 q hn, cell_kp9 h.c9 q hn, cell_kp9 h.c10 q hn⟩
theorem kc_of {w : World} {xk : Addr} {n q kn : Nat} {ks : List KV} {k : KV} (h : Kl w (.slice (some xk) n q) ks) (hk : ks[kn]? = some k) : Kc w (xk.add (kn * 11)) k := by
  obtain ⟨a, c, he, -, -, hc⟩ := h
  obtain ⟨x, hx, -, hxc⟩ := hc (by intro h; rw [h] at hk; simp at hk)
  injection he with he
  rw [← he] at hx
  injection hx with hx
  rw [hx]
  exact hxc kn k hk
end Go.Proofs.YtplnhgllbhdfjaaDoor

namespace Go.Proofs.YtplnhgllbhdfjaaDoor
open Go.RowKit Wy
set_option linter.unusedVariables false

/-- a unit goes as far as it can: what it has left, the cells, and all units then. -/
inductive Goes (ks : List KV) (X : WV) (Wn Hn : Nat) (k : KV) (i : Nat) : List UnV → Int → List Int → List UnV → Prop where
  | stop {us : List UnV} {left : Int} {u : UnV} {c : Nat} {gg : Int} (hu : us[i]? = some u) (hw : WishSays ks { X with us := us } Wn Hn u k c) (hg : X.gs[c]? = some gg) (h : left < Fd.onto gg k.f ∨ us.any (fun o => o.at_ == (c : Int)) = true) : Goes ks X Wn Hn k i us left [] us
  | step {us us' : List UnV} {left : Int} {u : UnV} {c : Nat} {gg : Int} {cells : List Int} (hu : us[i]? = some u) (hw : WishSays ks { X with us := us } Wn Hn u k c) (hg : X.gs[c]? = some gg) (h1 : ¬ left < Fd.onto gg k.f) (h2 : us.any (fun o => o.at_ == (c : Int)) = false) (h3 : Goes ks X Wn Hn k i (us.set i { u with at_ := (c : Nat) }) (left - Fd.onto gg k.f) cells us') : Goes ks X Wn Hn k i us left ((c : Int) :: cells) us'
theorem wish_pos {ks : List KV} {X : WV} {Wn Hn : Nat} {u : UnV} {k : KV} {c : Nat} {gg : Int} (h : WishSays ks X Wn Hn u k c) (hg : X.gs[c]? = some gg) (hc : u.at_ ≠ (c : Nat)) : 0 < Fd.onto gg k.f := by
  obtain ⟨an, bn, l, ha, -, -, -, hh⟩ := h
  rcases hh with ⟨-, rfl⟩ | ⟨-, h⟩
  · exact absurd ha hc
  · rcases h with ⟨-, rfl⟩ | ⟨-, h⟩
    · exact absurd ha hc
    · have := h.is.2.1
      rw [List.getD_eq_getElem?_getD, List.getElem?_map, hg] at this
      exact this
set_option maxRecDepth 100000 in
set_option maxHeartbeats 16000000 in
theorem walk_any (vk : Value) (ks : List KV) (X : WV) (us : List UnV) (g1 g2 g3 g5 : Value) (g cap i : Nat) (rest : List Value) (u : UnV) (k : KV) (Wn Hn : Nat) (w : World) (hk : Kl w vk ks) (hs : Sd w) (G : Fd.Good Wn Hn X.gs X.os) (e1 : X.wide = (Wn : Nat)) (e2 : X.high = (Hn : Nat))
    (hst : ∀ V us', us'.length = us.length → Kp g w V → Ub V g us' rest → Wl V (.agg #[.int .i64 X.turn, .int .i64 X.next, .int .i64 X.wide, .int .i64 X.high, g1, g2, g3, .slice (some ⟨g, 0, none⟩) us.length cap, g5]) { X with us := us' } ∧ Kl V vk ks ∧ Sd V) (hub : Ub w g us rest) (hui : us[i]? = some u) (hkk : ks[u.kind.toNat]? = some k) (hul : us.length ≤ 40) (hus : ∀ h ∈ us, Fit ks (Wn * Hn) h) (hg : 0 ≤ u.goal ∧ u.goal < (Wn * Hn : Nat)) (hsp : 0 ≤ k.n4 ∧ k.n4 ≤ 4) :
    Calls Tryd.prog 27 #[vk, .agg #[.int .i64 X.turn, .int .i64 X.next, .int .i64 X.wide, .int .i64 X.high, g1, g2, g3, .slice (some ⟨g, 0, none⟩) us.length cap, g5], .pointer (some ⟨g, i * 8, none⟩)] w fun e w' => ∃ v us' cells, e = .returned v ∧ Ow w' w.heap.size v cells ∧ Goes ks X Wn Hn k i us k.n4 cells us' ∧ Ub w' g us' rest ∧ Kp g w w' ∧ cells.length ≤ 4 ∧ (∃ a, us' = us.set i { u with at_ := a } ∧ 0 ≤ a ∧ a < (Wn * Hn : Nat)) := by
  have hil : i < us.length := (List.getElem?_eq_some_iff.1 hui).1
  have hfu := hus u (List.mem_of_getElem? hui)
  obtain ⟨kn, hkn⟩ : ∃ n : Nat, u.kind = n := ⟨u.kind.toNat, by have := hfu.1; omega⟩
  have hkk' : ks[kn]? = some k := by rw [hkn, Int.toNat_natCast] at hkk; exact hkk
  have hkl : kn < ks.length := (List.getElem?_eq_some_iff.1 hkk').1
  have K : Hid (Kl w vk ks) := hk
  have S : Hid (Sd w) := hs
  have GD : Hid (Fd.Good Wn Hn X.gs X.os ∧ X.wide = (Wn : Nat) ∧ X.high = (Hn : Nat) ∧ ks[u.kind.toNat]? = some k ∧ us.length ≤ 40 ∧ (∀ h ∈ us, Fit ks (Wn * Hn) h) ∧ (0 ≤ u.goal ∧ u.goal < (Wn * Hn : Nat)) ∧ us[i]? = some u ∧ Fit ks (Wn * Hn) u ∧ i < us.length) := ⟨G, e1, e2, hkk, hul, hus, hg, hui, hfu, hil⟩
  have ST : Hid (∀ V us', us'.length = us.length → Kp g w V → Ub V g us' rest → Wl V (.agg #[.int .i64 X.turn, .int .i64 X.next, .int .i64 X.wide, .int .i64 X.high, g1, g2, g3, .slice (some ⟨g, 0, none⟩) us.length cap, g5]) { X with us := us' } ∧ Kl V vk ks ∧ Sd V) := hst
  have UB : Hid (Ub w g us rest ∧ g < w.heap.size) := ⟨hub, hub.lt⟩
  obtain ⟨pk, qk, rfl, ck1, ck2, kc⟩ := hk
  obtain ⟨xk, rfl, hxl, hxc⟩ := kc (by intro h; subst h; simp at hkl)
  have KK : Hid (Kc w (xk.add (kn * 11)) k ∧ (xk.add (kn * 11)).block < w.heap.size) := ⟨hxc kn k hkk', by rw [add_block]; exact hxl⟩
  have HE : Hid (u.kind = (kn : Nat)) := hkn
  have SP : Hid (0 ≤ k.n4 ∧ k.n4 ≤ 4) := hsp
  clear hs G e1 e2 hst hub hui hkk hus hg hsp hkn hkk' kc hxc hxl hfu
  go_enter Tryd.func27, Tryd.ntmps27
  go_upto_region 2 with fail
  have B0 : Hid (Below w.heap.size w (w.alloc (Obj.cells #[.int .i64 X.turn, .int .i64 X.next, .int .i64 X.wide, .int .i64 X.high, g1, g2, g3, .slice (some ⟨g, 0, none⟩) us.length cap, g5] 29))) := (Below.refl _ _).alloc (Nat.le_refl _) _
  have X0 : Hid (Bw (w.alloc (Obj.cells #[.int .i64 X.turn, .int .i64 X.next, .int .i64 X.wide, .int .i64 X.high, g1, g2, g3, .slice (some ⟨g, 0, none⟩) us.length cap, g5] 29)) w.heap.size X (g1) (g2) (g3) (.slice (some ⟨g, 0, none⟩) us.length cap) (g5)) := Bw.mk' X _ _ _ _ _ rfl
  have Z0 : Hid ((w.alloc (Obj.cells #[.int .i64 X.turn, .int .i64 X.next, .int .i64 X.wide, .int .i64 X.high, g1, g2, g3, .slice (some ⟨g, 0, none⟩) us.length cap, g5] 29)).heap.size = w.heap.size + 1) := by unfold Hid; simp
  generalize (w.alloc (Obj.cells #[.int .i64 X.turn, .int .i64 X.next, .int .i64 X.wide, .int .i64 X.high, g1, g2, g3, .slice (some ⟨g, 0, none⟩) us.length cap, g5] 29)) = w0 at *
  have U0 : Hid (Ub w0 g us rest) := UB.out.1.below B0.out UB.out.2
  obtain ⟨z0, z1, z2, z3, z4, z5, z6, z7, z8, z9, z10⟩ := KK.out.1.below B0.out KK.out.2
  have y2 : w0.cell? ⟨g, i * 8 + 2, none⟩ = some (.int .i64 (kn : Nat)) := by have := (U0.out.unc GD.out.2.2.2.2.2.2.2.1).c2; rw [HE.out] at this; exact this
  go_upto_region 3 with fail
  have BK : Hid (Below w0.heap.size w0 (w0.alloc (Obj.cells #[.string k.b, .int .i64 k.n0, .int .i64 k.n1, .int .i64 k.n2, .int .i64 k.n3, .int .i64 k.n4, .int .i64 k.n5, .int .i64 k.n6, .int .i64 k.n7, .bool k.f, .bool k.t] 42))) := (Below.refl _ _).alloc (Nat.le_refl _) _
  have K1 : Hid (Kc (w0.alloc (Obj.cells #[.string k.b, .int .i64 k.n0, .int .i64 k.n1, .int .i64 k.n2, .int .i64 k.n3, .int .i64 k.n4, .int .i64 k.n5, .int .i64 k.n6, .int .i64 k.n7, .bool k.f, .bool k.t] 42)) ⟨w.heap.size + 1, 0, none⟩ k) := kind_new k Z0.out
  have Z1 : Hid ((w0.alloc (Obj.cells #[.string k.b, .int .i64 k.n0, .int .i64 k.n1, .int .i64 k.n2, .int .i64 k.n3, .int .i64 k.n4, .int .i64 k.n5, .int .i64 k.n6, .int .i64 k.n7, .bool k.f, .bool k.t] 42)).heap.size = w.heap.size + 2) := by have := Z0.out; unfold Hid; simp; omega
  rw [Z0.out]
  generalize (w0.alloc (Obj.cells #[.string k.b, .int .i64 k.n0, .int .i64 k.n1, .int .i64 k.n2, .int .i64 k.n3, .int .i64 k.n4, .int .i64 k.n5, .int .i64 k.n6, .int .i64 k.n7, .bool k.f, .bool k.t] 42)) = w1 at *
  have B1 : Hid (Below w.heap.size w w1) := B0.out.trans (BK.out.mono B0.out.size)
  have X1 : Hid (Bw w1 w.heap.size X (g1) (g2) (g3) (.slice (some ⟨g, 0, none⟩) us.length cap) (g5)) := X0.out.below BK.out X0.out.lt
  have U1 : Hid (Ub w1 g us rest) := U0.out.below BK.out U0.out.lt
  clear z0 z1 z2 z3 z4 z5 z6 z7 z8 z9 z10 y2 B0 X0 Z0 U0 BK
  have c5 : w1.cell? ⟨w.heap.size + 1, 5, none⟩ = some (.int .i64 k.n4) := by have := K1.out.c5; rw [Nat.zero_add] at this; exact this
  go_upto_region 4 with fail
  clear c5
  go_loopw [7, 9] (fun v7 v9 V => ∃ (a left : Int) (cells : List Int) (cv : Value), cv = v7 ∧ v9 = .int .i64 left ∧ 0 ≤ left ∧ (cells.length : Int) + left ≤ 4 ∧ (0 ≤ a ∧ a < (Wn * Hn : Nat)) ∧ Ub V g (us.set i { u with at_ := a }) rest ∧ Ow V w1.heap.size cv cells ∧ Kp g w1 V ∧ (∀ cells' us', Goes ks X Wn Hn k i (us.set i { u with at_ := a }) left cells' us' → Goes ks X Wn Hn k i us k.n4 (cells ++ cells') us')) (fun _ v9 _ => (intOf v9).toNat)
  case atStart =>
    have hset : us.set i { u with at_ := u.at_ } = us := by
      have h1 := GD.out.2.2.2.2.2.2.2.1
      obtain ⟨h2, h3⟩ := List.getElem?_eq_some_iff.1 h1
      have : ({ u with at_ := u.at_ } : UnV) = us[i] := by rw [h3]
      rw [this, List.set_getElem_self]
    exact ⟨u.at_, k.n4, [], _, rfl, rfl, SP.out.1, by have := SP.out.2; simp; omega, GD.out.2.2.2.2.2.2.2.2.1.2, by rw [hset]; exact U1.out, Ow.nil _ _, Kp.refl _ _, fun cells' us' h => by rw [hset] at h; exact h⟩
  case round =>
    obtain ⟨a, left, cells, cv, rfl, rfl, hl0, hcl, hab, hub, how, hkp, hgo⟩ := hrel
    obtain ⟨us1, hus1⟩ : ∃ l, us.set i { u with at_ := a } = l := ⟨_, rfl⟩
    obtain ⟨u1, hu1⟩ : ∃ v : UnV, { u with at_ := a } = v := ⟨_, rfl⟩
    have hi1 : us1[i]? = some u1 := by rw [← hus1, hu1, List.getElem?_set_self GD.out.2.2.2.2.2.2.2.2.2]
    have hln : us1.length = us.length := by rw [← hus1, List.length_set]
    have F1 : Hid (us1[i]? = some u1 ∧ us1.length = us.length ∧ { u with at_ := a } = u1 ∧ us.set i { u with at_ := a } = us1 ∧ Fit ks (Wn * Hn) u1 ∧ (∀ h ∈ us1, Fit ks (Wn * Hn) h) ∧ ks[u1.kind.toNat]? = some k ∧ (0 ≤ u1.goal ∧ u1.goal < (Wn * Hn : Nat))) := by
      have hf : Fit ks (Wn * Hn) u1 := by rw [← hu1]; exact ⟨GD.out.2.2.2.2.2.2.2.2.1.1, hab⟩
      refine ⟨hi1, hln, hu1, hus1, hf, fun h hh => ?_, by rw [← hu1]; exact GD.out.2.2.2.1, by rw [← hu1]; exact GD.out.2.2.2.2.2.2.1⟩
      rw [← hus1] at hh
      rcases List.mem_or_eq_of_mem_set hh with hh | hh
      · exact GD.out.2.2.2.2.2.1 h hh
      · rw [hh, hu1]; exact hf
    rw [hus1] at hub hgo
    have UB1 : Hid (Ub wr g us1 rest) := hub
    have OC : Hid (Ow wr w1.heap.size cv cells) := how
    have KP : Hid (Kp g w1 wr) := hkp
    have KW : Hid (Kp g w wr) := (Kp.of B1.out).trans hkp
    have HG : Hid (∀ cells' us', Goes ks X Wn Hn k i us1 left cells' us' → Goes ks X Wn Hn k i us k.n4 (cells ++ cells') us') := hgo
    have XR : Hid (Bw wr w.heap.size X (g1) (g2) (g3) (.slice (some ⟨g, 0, none⟩) us.length cap) (g5)) := X1.out.kp9 hkp (by have := UB.out.2; omega)
    have KR : Hid (Kc wr ⟨w.heap.size + 1, 0, none⟩ k) := K1.out.kp9 hkp (by have := UB.out.2; show w.heap.size + 1 ≠ g; omega)
    clear hub how hkp hgo hus1 hu1 hi1 hln hab
    have hcl3 : cells.length ≤ 4 := by omega
    have WL : Hid (∀ V, Below wr.heap.size wr V → Wl V (.agg #[.int .i64 X.turn, .int .i64 X.next, .int .i64 X.wide, .int .i64 X.high, g1, g2, g3, .slice (some ⟨g, 0, none⟩) us.length cap, g5]) { X with us := us1 } ∧ Kl V (.slice (some xk) ks.length qk) ks ∧ Sd V) := fun V hb => by
      have hkv : Kp g w V := KW.out.trans (Kp.of hb)
      exact ST.out V us1 F1.out.2.1 hkv (UB1.out.below hb UB1.out.lt)
    have C4 : Hid (∀ V, Below wr.heap.size wr V → (Bw V w.heap.size X (g1) (g2) (g3) (.slice (some ⟨g, 0, none⟩) us.length cap) (g5) ∧ Unc V ⟨g, i * 8, none⟩ u1)) := fun V hb => ⟨XR.out.below hb XR.out.lt, (UB1.out.below hb UB1.out.lt).unc F1.out.1⟩
    have DR : Hid (Below wr.heap.size wr { wr with drawn := wr.drawn + 1 }) := (Below.refl _ _).drew
    go_upto_region 4 with fail
    refine wp_region_two [(true, 0), (true, 1), (true, 2), (true, 3), (true, 4), (false, 5)] [(false, 6)] (fun V => Bw V w.heap.size X (g1) (g2) (g3) (.slice (some ⟨g, 0, none⟩) us.length cap) (g5) ∧ Unc V ⟨g, i * 8, none⟩ u1) (by kernel_rfl) (by kernel_rfl) (by kernel_rfl) (by decide +kernel) (by decide +kernel) (C4.out _ DR.out) ?_
    generalize ({ wr with drawn := wr.drawn + 1 } : World) = v1 at *
    refine headT_read rfl (.slice (some xk) ks.length qk) (by go_simp) (fun V hV => by go_simp) ?_
    go_simp
    refine headT_read rfl (.agg #[.int .i64 X.turn, .int .i64 X.next, .int .i64 X.wide, .int .i64 X.high, g1, g2, g3, .slice (some ⟨g, 0, none⟩) us.length cap, g5]) (by go_simp) (fun V hV => by obtain ⟨⟨x0, x1, x2, x3, x4, x5, x6, x7, x8⟩, ⟨y0, y1, y2, y3, y4, y5, y6, y7⟩⟩ := hV; go_simp) ?_
    go_simp
    refine headT_read rfl (.pointer (some ⟨g, i * 8, none⟩)) (by go_simp) (fun V hV => by go_simp) ?_
    go_simp
    refine headT_read rfl (.pointer (some ⟨g, i * 8, none⟩)) (by go_simp) (fun V hV => by go_simp) ?_
    go_simp
    refine headT_read rfl (.agg #[.int .i64 u1.id, .int .i64 u1.player, .int .i64 u1.kind, .int .i64 u1.at_, .int .i64 u1.life, .int .i64 u1.load, .int .i64 u1.task, .int .i64 u1.goal]) (by go_simp) (fun V hV => by obtain ⟨⟨x0, x1, x2, x3, x4, x5, x6, x7, x8⟩, ⟨y0, y1, y2, y3, y4, y5, y6, y7⟩⟩ := hV; go_simp) ?_
    go_simp
    refine headT_call rfl 23 #[.slice (some xk) ks.length qk, .agg #[.int .i64 X.turn, .int .i64 X.next, .int .i64 X.wide, .int .i64 X.high, g1, g2, g3, .slice (some ⟨g, 0, none⟩) us.length cap, g5], .agg #[.int .i64 u1.id, .int .i64 u1.player, .int .i64 u1.kind, .int .i64 u1.at_, .int .i64 u1.life, .int .i64 u1.load, .int .i64 u1.task, .int .i64 u1.goal]] (by go_simp) (by go_simp) ?_
    have WI : Hid (Calls Tryd.prog 23 #[.slice (some xk) ks.length qk, .agg #[.int .i64 X.turn, .int .i64 X.next, .int .i64 X.wide, .int .i64 X.high, g1, g2, g3, .slice (some ⟨g, 0, none⟩) us.length cap, g5], .agg #[.int .i64 u1.id, .int .i64 u1.player, .int .i64 u1.kind, .int .i64 u1.at_, .int .i64 u1.life, .int .i64 u1.load, .int .i64 u1.task, .int .i64 u1.goal]] v1 fun e w' => ∃ c : Nat, e = .returned (.int .i64 (c : Nat)) ∧ WishSays ks { X with us := us1 } Wn Hn u1 k c ∧ c < Wn * Hn ∧ Below v1.heap.size v1 w') :=
      wish_any _ _ ks { X with us := us1 } u1 Wn Hn k v1 (WL.out v1 DR.out).2.1 (WL.out v1 DR.out).1 (WL.out v1 DR.out).2.2 GD.out.1 GD.out.2.1 GD.out.2.2.1 (by show us1.length ≤ 1000000; rw [F1.out.2.1]; omega) F1.out.2.2.2.2.1 F1.out.2.2.2.2.2.2.1 F1.out.2.2.2.2.2.1 F1.out.2.2.2.2.2.2.2
    refine Calls.mono WI.out ?_
    rintro e v2 ⟨c, rfl, hws, hcn, hb⟩
    have B2 : Hid (Below wr.heap.size wr v2) := DR.out.trans (hb.mono DR.out.size)
    have hgl := GD.out.1.gl
    obtain ⟨gg, hgg⟩ : ∃ x, X.gs[c]? = some x := ⟨_, List.getElem?_eq_getElem (by omega)⟩
    have WS : Hid (WishSays ks { X with us := us1 } Wn Hn u1 k c ∧ c < Wn * Hn ∧ X.gs[c]? = some gg) := ⟨hws, hcn, hgg⟩
    refine ⟨_, rfl, C4.out _ B2.out, ?_⟩
    clear hb hws hcn hgl hgg DR WI
    go_simp
    refine sched_value rfl (.int .i64 (c : Nat)) v2 (by go_simp) (by go_simp) trivial ?_
    go_simp
    unfold wpSched
    obtain ⟨⟨x0, x1, x2, x3, x4, x5, x6, x7, x8⟩, -⟩ := C4.out _ B2.out
    have c9 : v2.cell? ⟨w.heap.size + 1, 9, none⟩ = some (.bool k.f) := by have := (KR.out.below B2.out KR.out.lt).c9; rw [Nat.zero_add] at this; exact this
    have FL : Hid (Fl v2 (.agg #[.int .i64 X.wide, .int .i64 X.high, g1, g2]) (Wn : Nat) (Hn : Nat) X.gs X.os) := by
      have h9 := (WL.out v2 B2.out).1
      have := fl_of (X := { X with us := us1 }) h9
      have e1 : ({ X with us := us1 } : WV).wide = (Wn : Nat) := GD.out.2.1
      have e2 : ({ X with us := us1 } : WV).high = (Hn : Nat) := GD.out.2.2.1
      rw [e1, e2] at this
      rw [GD.out.2.1, GD.out.2.2.1]
      exact this
    go_wp2_with fail
    refine (Step_ok _ Wn Hn X.gs X.os c gg k.f v2 FL.out GD.out.1 WS.out.2.1 WS.out.2.2).mono ?_
    rintro e v3 ⟨rfl, hb⟩
    obtain ⟨s, hs⟩ : ∃ s, Fd.onto gg k.f = s := ⟨_, rfl⟩
    have SS : Hid (Fd.onto gg k.f = s) := hs
    rw [hs]
    have B3 : Hid (Below wr.heap.size wr v3) := B2.out.trans (hb.mono B2.out.size)
    clear hb hs x0 x1 x2 x3 x4 x5 x6 x7 x8 c9 FL B2
    by_cases hsl : left < s
    · have FIN : Hid (Goes ks X Wn Hn k i us k.n4 cells us1) := by
        have := HG.out [] us1 (.stop F1.out.1 WS.out.1 WS.out.2.2 (.inl (by rw [SS.out]; exact hsl)))
        rw [List.append_nil] at this
        exact this
      go_wp2
      go_ret
      exact ⟨cv, us1, cells, rfl, (OC.out.below B3.out).mono (by have := Z1.out; omega), FIN.out, UB1.out.below B3.out UB1.out.lt, KW.out.trans (Kp.of B3.out), hcl3, a, F1.out.2.2.2.1.symm, by have := F1.out.2.2.2.2.1.2; rw [← F1.out.2.2.1] at this; exact this⟩
    obtain ⟨⟨x0, x1, x2, x3, x4, x5, x6, x7, x8⟩, -⟩ := C4.out _ B3.out
    go_wp2_with fail
    refine (taken_any _ { X with us := us1 } (c : Nat) v3 (WL.out v3 B3.out).1).mono ?_
    rintro e v4 ⟨rfl, hb⟩
    have B4 : Hid (Below wr.heap.size wr v4) := B3.out.trans (hb.mono B3.out.size)
    obtain ⟨tk, htk⟩ : ∃ t, us1.any (fun u => u.at_ == (c : Int)) = t := ⟨_, rfl⟩
    have TK : Hid (us1.any (fun u => u.at_ == (c : Int)) = tk) := htk
    have hx1 : ({ X with us := us1 } : WV).us.any (fun u => u.at_ == (c : Int)) = tk := htk
    rw [hx1]
    clear hb htk hx1 x0 x1 x2 x3 x4 x5 x6 x7 x8 B3
    cases tk with
    | true =>
      have FIN : Hid (Goes ks X Wn Hn k i us k.n4 cells us1) := by
        have := HG.out [] us1 (.stop F1.out.1 WS.out.1 WS.out.2.2 (.inr TK.out))
        rw [List.append_nil] at this
        exact this
      go_wp2
      go_ret
      exact ⟨cv, us1, cells, rfl, (OC.out.below B4.out).mono (by have := Z1.out; omega), FIN.out, UB1.out.below B4.out UB1.out.lt, KW.out.trans (Kp.of B4.out), hcl3, a, F1.out.2.2.2.1.symm, by have := F1.out.2.2.2.2.1.2; rw [← F1.out.2.2.1] at this; exact this⟩
    | false =>
      have hne : u1.at_ ≠ (c : Nat) := by
        have := List.any_eq_false.1 TK.out u1 (List.mem_of_getElem? F1.out.1)
        simpa using this
      have hs1 : 0 < s := by rw [← SS.out]; exact wish_pos WS.out.1 WS.out.2.2 hne
      have U4 : Hid (Ub v4 g us1 rest) := UB1.out.below B4.out UB1.out.lt
      have c3 := (U4.out.unc F1.out.1).c3
      have t3 := U4.out.thaw (i * 8 + 3)
      have U5 : Hid (Ub (v4.setCell ⟨g, i * 8 + 3, none⟩ (.int .i64 (c : Nat))) g (us1.set i { u1 with at_ := (c : Nat) }) rest) := U4.out.set3 F1.out.1 _
      have K5 : Hid (Kp g v4 (v4.setCell ⟨g, i * 8 + 3, none⟩ (.int .i64 (c : Nat)))) := Kp.set _ _ _
      have wsub : IntKind.i64.wrap (left - s) = left - s := by rw [IntKind.wrap_i64]; omega
      go_upto_region 9 with fail
      clear c3 t3 hne
      generalize (v4.setCell ⟨g, i * 8 + 3, none⟩ (.int .i64 (c : Nat))) = v5 at *
      have P5 : Hid (Kp g w1 v5) := (KP.out.trans (Kp.of B4.out)).trans K5.out
      have O5 : Hid (Ow v5 w1.heap.size cv cells) := (OC.out.below B4.out).kp K5.out (by have := UB.out.2; have := Z1.out; omega)
      go_upto_region 10 with fail
      have BA : Hid (Below v5.heap.size v5 (v5.alloc (Obj.cells #[.int .i64 (c : Nat)] 3))) := (Below.refl _ _).alloc (Nat.le_refl _) _
      have C6 : Hid ((v5.alloc (Obj.cells #[.int .i64 (c : Nat)] 3)).cell? ⟨v5.heap.size, 0, none⟩ = some (.int .i64 (c : Nat))) := cell_of_new rfl rfl
      have O6 : Hid (Ow (v5.alloc (Obj.cells #[.int .i64 (c : Nat)] 3)) w1.heap.size cv cells) := O5.out.below BA.out
      have S6 : Hid (w1.heap.size ≤ (v5.alloc (Obj.cells #[.int .i64 (c : Nat)] 3)).heap.size) := Nat.le_trans P5.out.size BA.out.size
      go_wp2_with (at_builtin; refine app_int _ rfl _ _ rfl w1.heap.size _ cells rfl O6.out _ (c : Nat) rfl C6.out (by omega) S6.out ?_)
      intro gg' gc v7 o7 g7 _ _
      have O7 : Hid (Ow v7 w1.heap.size (.slice (some ⟨gg', 0, none⟩) (cells.length + 1) gc) (cells ++ [(c : Int)])) := o7
      have P7 : Hid (Kp g w1 v7) := kp_gb (P5.out.trans (Kp.of BA.out)) g7 (fun b hb => (O6.out.block b hb).1)
      have U7 : Hid (Ub v7 g (us1.set i { u1 with at_ := (c : Nat) }) rest) := by
        have h6 := U5.out.below BA.out U5.out.lt
        unfold Ub at h6
        unfold Hid Ub
        rw [g7.block g (lt_of_block h6) (fun e => by have := (O6.out.block g e.symm).1; have := UB.out.2; have := Z1.out; omega)]
        exact h6
      have US2 : Hid (us1.set i { u1 with at_ := (c : Nat) } = us.set i { u with at_ := (c : Nat) }) := by
        unfold Hid
        rw [← F1.out.2.2.2.1, List.set_set, ← F1.out.2.2.1]
      have HG2 : Hid (∀ cells' us', Goes ks X Wn Hn k i (us.set i { u with at_ := (c : Nat) }) (left - s) cells' us' → Goes ks X Wn Hn k i us k.n4 ((cells ++ [(c : Int)]) ++ cells') us') := fun cells' us' h => by
        have h9 := HG.out ((c : Int) :: cells') us' (.step F1.out.1 WS.out.1 WS.out.2.2 (by rw [SS.out]; omega) TK.out (by rw [US2.out, SS.out]; exact h))
        rw [List.append_assoc]
        exact h9
      clear o7 g7 BA C6 O6 S6 O5 P5 U5 K5 U4
      go_wp2
      go_round
      case rel => exact ⟨(c : Nat), left - s, cells ++ [(c : Int)], _, rfl, rfl, by omega, by rw [List.length_append]; simp; omega, ⟨by omega, by have := WS.out.2.1; omega⟩, by rw [← US2.out]; exact U7.out, O7.out, P7.out, HG2.out⟩
      case measure => simp [intOf]; omega
end Go.Proofs.YtplnhgllbhdfjaaDoor

namespace Go.Proofs.YtplnhgllbhdfjaaDoor
open Go.RowKit
set_option linter.unusedVariables false

theorem made_ints (n : Nat) : madeCells #[Value.int .i64 0] n = (intCells (List.replicate n 0)).toArray := by
  apply Array.ext_getElem?
  intro i
  unfold madeCells intCells
  by_cases h : i < n
  · simp [h, Nat.mod_one]
  · simp [h]
theorem makeI (n : Nat) (w : World) (h : n ≤ 1000000) : ∃ w', (Instr.makeSlice 23 (.int .i64 (n : Nat)) (.int .i64 (n : Nat))).run Tryd.prog w = .ok (.slice (some ⟨w.heap.size, 0, none⟩) n n) w' ∧ Bk w' w.heap.size (List.replicate n 0) #[] ∧ Below w.heap.size w w' ∧ w'.heap.size = w.heap.size + 1 := by
  obtain ⟨i0, hi, hz0, hz1, hz2⟩ := info_parts info_int
  have hr := run_make (P := Tryd.prog) w 23 3 i0 (.int .i64 0) Tryd.underlying23 hi hz0 .i64 .i64 (n : Nat) (n : Nat) (by omega) (Int.le_refl _) (by rw [hz2]; omega) (by omega)
  refine ⟨_, hr, ?_, (Below.refl _ _).alloc (Nat.le_refl _) _, by simp⟩
  unfold Bk
  rw [hz1, Int.toNat_natCast, Nat.mul_one, heap_alloc_new]
  have e : (Value.int .i64 0).cells = #[Value.int .i64 0] := rfl
  rw [e, made_ints, Array.append_empty]
/-- one more event: the run itself. -/
theorem run_ev (w : World) (ty : TypeId) (base : Nat) (v : Value) (ks : List EvV) (hown : Evo w base v ks) (b : Nat) (d : EvV) (hd : Evc w ⟨b, 0, none⟩ d) (hl : ks.length ≤ 1000000) (hbase : base ≤ w.heap.size) :
    ∃ g cap w', (Builtin.append_ #[43, 43] ty #[v, .slice (some ⟨b, 0, none⟩) 1 1]).run Tryd.prog w = .ok (.slice (some ⟨g, 0, none⟩) (ks.length + 1) cap) w' ∧ Evo w' base (.slice (some ⟨g, 0, none⟩) (ks.length + 1) cap) (ks ++ [d]) ∧ w.grownBy w' v.ownBlock ∧ (v.ownBlock = some g ∨ g = w.heap.size) ∧ g < w'.heap.size := by
  obtain ⟨i0, hi, hz0, hz1, hz2⟩ := info_parts info_ev
  obtain ⟨g, cap, w6, hr, ho6, hg6, ha6, hl6⟩ := run_append_lies (P := Tryd.prog) w 43 43 base 51 i0 _ 3 24 Tryd.underlying43 hi hz0 hz1 hz2 rfl (by decide) v ks.length _ hown ⟨b, 0, none⟩ 1 1 (EvV.cs d) rfl (fun j u hj => by
    have hjn : j < 3 := (List.getElem?_eq_some_iff.1 hj).1
    rw [Addr.add_lit, Nat.zero_add]
    match j, hjn, hj with
    | 0, _, hj => simp [EvV.cs] at hj; subst hj; exact hd.c0
    | 1, _, hj => simp [EvV.cs] at hj; subst hj; exact hd.c1
    | 2, _, hj => simp [EvV.cs] at hj; subst hj; exact hd.c2) (fun u hu => by
    simp [EvV.cs] at hu
    rcases hu with rfl | rfl | rfl <;> rfl) (by decide) (by unfold maxLen; omega) (by omega) hbase _ rfl
  refine ⟨g, cap, w6, hr, ?_, hg6, ha6, hl6⟩
  unfold Evo
  rw [List.length_append, List.flatMap_append]
  simpa using ho6
end Go.Proofs.YtplnhgllbhdfjaaDoor

