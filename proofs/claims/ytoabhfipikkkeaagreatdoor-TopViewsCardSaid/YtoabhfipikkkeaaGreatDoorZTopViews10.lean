/- slices.swapRangeCmpFunc of orders, by places. · slices.rotateCmpFunc of orders, by places. · slices.symMergeCmpFunc of orders: one in front. · slices.symMergeCmpFunc of orders: one behind. · slices.symMergeCmpFunc: where two rising lists are cut. · slices.symMergeCmpFunc: where the search has ended, the two lists are cut. · slices.symMergeCmpFunc of orders: what both ways share. · slices.symMergeCmpFunc of orders: mid < m. · slices.symMergeCmpFunc of orders: m <= mid. · slices.symMergeCmpFunc of orders. · slices.stableCmpFunc, slices.SortStableFunc of at most 60 orders by compare. · slices.stableCmpFunc of at most 60 orders: stab_a. · slices.stableCmpFunc of at most 60 orders: stab_b0. · slices.stableCmpFunc of at most 60 orders: stab_b1. · slices.stableCmpFunc of at most 60 orders: stab_c0. · slices.stableCmpFunc of at most 60 orders: stab_c1. · slices.stableCmpFunc of at most 60 orders: stab_d. · slices.SortStableFunc of at most 60 orders by compare. -/
import Derived.Test.YtoabhfipikkkeaaGreatDoorZTopViews9
namespace Go.Proofs.YtoabhfipikkkeaaGreatDoor
open Go.RowKit Go.Proofs.YtoabhfipikkkeaaGreatDoor.So
set_option linter.unusedVariables false

theorem swap_far {α : Type} : ∀ (U V Z : List α) (x y : α), ((U ++ x :: (V ++ y :: Z)).set U.length y).set (U.length + 1 + V.length) x = U ++ y :: (V ++ x :: Z)
  | [], V, Z, x, y => by
    have : ∀ (V : List α), (V ++ y :: Z).set V.length x = V ++ x :: Z := fun V => by simp
    simp only [List.nil_append, List.length_nil, List.set_cons_zero, Nat.zero_add]
    rw [Nat.add_comm, List.set_cons_succ, this]
  | u :: U, V, Z, x, y => by
    have h := swap_far U V Z x y
    have e : (u :: U).length + 1 + V.length = (U.length + 1 + V.length) + 1 := by simp; omega
    rw [e]
    simp only [List.cons_append, List.length_cons, List.set_cons_succ]
    rw [h]
theorem at_far {α : Type} (U V Z : List α) (x y : α) : (U ++ x :: (V ++ y :: Z))[U.length]? = some x ∧ (U ++ x :: (V ++ y :: Z))[U.length + 1 + V.length]? = some y := by
  refine ⟨by simp, ?_⟩
  rw [List.getElem?_append_right (by omega)]
  have : U.length + 1 + V.length - U.length = V.length + 1 := by omega
  rw [this]
  simp
/-- between two rounds of swapRange's loop. -/
def SwI (P X M Y Q : List OrV) (g : Nat) (rest : List Value) (w : World) (n : Nat) (iv : Value) (W : World) : Prop := ∃ (X1 X2 Y1 Y2 : List OrV), iv = .int .i64 (X1.length : Nat) ∧ X1 ++ X2 = X ∧ Y1 ++ Y2 = Y ∧ X1.length = Y1.length ∧ X1.length ≤ n ∧ Rb W g (P ++ Y1 ++ (X2 ++ (M ++ X1) ++ (Y2 ++ Q))) rest ∧ Kp g w W
set_option maxRecDepth 100000 in
set_option maxHeartbeats 8000000 in
theorem swaps_any (P X M Y Q : List OrV) (fv : Value) (g cap L a b n : Nat) (rest : List Value) (w : World) (hr : Rb w g (P ++ X ++ M ++ Y ++ Q) rest) (hL : (P ++ X ++ M ++ Y ++ Q).length = L) (hn : L ≤ 1000) (hX : X.length = n) (hY : Y.length = n) (ha : P.length = a) (hb : (P ++ X ++ M).length = b) :
    Calls Tryz.prog 229 #[.slice (some ⟨g, 0, none⟩) L cap, .int .i64 (a : Nat), .int .i64 (b : Nat), .int .i64 (n : Nat), fv] w
      (fun e w' => e = .returned (.tuple #[]) ∧ Rb w' g (P ++ Y ++ M ++ X ++ Q) rest ∧ Kp g w w') := by
  have R0 : Hid (Rb w g (P ++ X ++ M ++ Y ++ Q) rest) := hr
  have HL : Hid ((P ++ X ++ M ++ Y ++ Q).length = L) := hL
  have HX : Hid (X.length = n) := hX
  have HY : Hid (Y.length = n) := hY
  have Ha : Hid (P.length = a) := ha
  have Hb : Hid (a + n + M.length = b) := by unfold Hid; rw [← hb, ← ha, ← hX]; simp; omega
  have HL2 : Hid (b + n ≤ L) := by unfold Hid; rw [← hL, ← hb, ← hY]; simp; omega
  clear hr hL hX hY ha hb
  have HA2 : Hid (a + n ≤ b) := by unfold Hid; have := Hb.out; omega
  go_enter Tryz.func229, Tryz.ntmps229
  go_wp2
  go_loopw [10] (fun iv W => SwI P X M Y Q g rest w n iv W) (fun iv _ => n - (intOf iv).toNat)
  case atStart =>
    refine ⟨[], X, [], Y, rfl, rfl, rfl, rfl, by simp, ?_, Kp.refl _ _⟩
    have := R0.out
    simpa using this
  case round =>
    obtain ⟨X1, X2, Y1, Y2, rfl, hx, hy, hxy, hle, hrb, hk⟩ := hrel
    have RB : Hid (Rb wr g (P ++ Y1 ++ (X2 ++ (M ++ X1) ++ (Y2 ++ Q))) rest) := hrb
    have K1 : Hid (Kp g w wr) := hk
    have H1 : Hid (X1 ++ X2 = X ∧ Y1 ++ Y2 = Y ∧ X1.length = Y1.length) := ⟨hx, hy, hxy⟩
    have l1 : X1.length + X2.length = n := by have := congrArg List.length hx; simp at this; rw [this]; exact HX.out
    have l2 : Y1.length + Y2.length = n := by have := congrArg List.length hy; simp at this; rw [this]; exact HY.out
    obtain ⟨i, hi⟩ : ∃ i, X1.length = i := ⟨_, rfl⟩
    have Hi : Hid (X1.length = i) := hi
    rw [hi] at l1 hxy hle
    rw [hi]
    clear hrb hk hx hy hi
    by_cases he : i = n
    · have hlt : ¬ ((i : Nat) : Int) < ((n : Nat) : Int) := by omega
      have FIN : Hid (Rb wr g (P ++ (Y ++ (M ++ (X ++ Q)))) rest) := by
        unfold Hid
        have e1 : X2 = [] := List.length_eq_zero_iff.1 (by omega)
        have e2 : Y2 = [] := List.length_eq_zero_iff.1 (by omega)
        obtain ⟨q1, q2, q3⟩ := H1.out
        have := RB.out
        rw [e1] at q1 this
        rw [e2] at q2 this
        simp only [List.append_nil] at q1 q2
        rw [q1, q2] at this
        simpa using this
      clear l1 l2 hxy he
      go_wp2
      go_end0
      exact ⟨rfl, FIN.out, K1.out⟩
    · have hlt : ((i : Nat) : Int) < ((n : Nat) : Int) := by omega
      obtain ⟨x, X3, hx3⟩ : ∃ x X3, X2 = x :: X3 := by
        cases X2 with
        | nil => simp at l1; omega
        | cons x X3 => exact ⟨x, X3, rfl⟩
      obtain ⟨y, Y3, hy3⟩ : ∃ y Y3, Y2 = y :: Y3 := by
        cases Y2 with
        | nil => simp at l2; omega
        | cons y Y3 => exact ⟨y, Y3, rfl⟩
      subst hx3 hy3
      have l3 : i + X3.length + 1 = n := by simp at l1; omega
      obtain ⟨p, hp⟩ : ∃ p, a + i = p := ⟨_, rfl⟩
      obtain ⟨r, hr⟩ : ∃ r, b + i = r := ⟨_, rfl⟩
      have hpr : p < r := by have := HA2.out; omega
      have hrL : r < L := by have := HL2.out; omega
      have ep : (P ++ Y1).length = p := by rw [← hp, List.length_append, Ha.out, hxy]
      have er : (P ++ Y1).length + 1 + (X3 ++ (M ++ X1)).length = r := by
        have h1 := Hb.out
        have h2 := Hi.out
        rw [ep]
        simp
        omega
      have EL : Hid (P ++ Y1 ++ (x :: X3 ++ (M ++ X1) ++ (y :: Y3 ++ Q)) = (P ++ Y1) ++ x :: ((X3 ++ (M ++ X1)) ++ y :: (Y3 ++ Q))) := by unfold Hid; simp
      have RC : Hid (Rb wr g ((P ++ Y1) ++ x :: ((X3 ++ (M ++ X1)) ++ y :: (Y3 ++ Q))) rest) := by unfold Hid; rw [← EL.out]; exact RB.out
      have AF := at_far (P ++ Y1) (X3 ++ (M ++ X1)) (Y3 ++ Q) x y
      rw [er, ep] at AF
      obtain ⟨x0, x1, x2, x3⟩ := RC.out.cells AF.1
      obtain ⟨y0, y1, y2, y3⟩ := RC.out.cells AF.2
      have SW := swap_far (P ++ Y1) (X3 ++ (M ++ X1)) (Y3 ++ Q) x y
      rw [er, ep] at SW
      have HSW : Hid (_ = _) := SW
      have f0 := RC.out.thaw (p * 4)
      have f1 := RC.out.thaw (p * 4 + 1)
      have f2 := RC.out.thaw (p * 4 + 2)
      have f3 := RC.out.thaw (p * 4 + 3)
      have f4 := RC.out.thaw (r * 4)
      have f5 := RC.out.thaw (r * 4 + 1)
      have f6 := RC.out.thaw (r * 4 + 2)
      have f7 := RC.out.thaw (r * 4 + 3)
      have sp : ((a : Nat) : Int) + (i : Int) = p := by omega
      have sr : ((b : Nat) : Int) + (i : Int) = r := by omega
      have pw : IntKind.i64.wrap ((p : Nat) : Int) = p := by rw [IntKind.wrap_i64]; omega
      have rw' : IntKind.i64.wrap ((r : Nat) : Int) = r := by rw [IntKind.wrap_i64]; omega
      have hpL : ((p : Nat) : Int) < (L : Int) := by omega
      have hrL' : ((r : Nat) : Int) < (L : Int) := by omega
      have n1 : ¬ p * 4 = r * 4 := by omega
      have LL : Hid (((P ++ Y1) ++ x :: ((X3 ++ (M ++ X1)) ++ y :: (Y3 ++ Q))).length = L) := by
        have h1 := HL.out
        have h2 := congrArg List.length H1.out.1
        have h3 := congrArg List.length H1.out.2.1
        unfold Hid
        simp at h1 h2 h3 ⊢
        omega
      have HP : Hid (p < r ∧ r < L) := ⟨hpr, hrL⟩
      have HM : Hid (i + 1 ≤ n ∧ i < n ∧ i = Y1.length) := ⟨by omega, by omega, hxy⟩
      clear SW AF EL ep er l1 l2 l3 hxy RB hp hr
      go_wp2_with fail
      go_region
      have rr := (RC.out.put (i := p) (by rw [LL.out]; have := HP.out; omega) y).put (i := r) (by rw [List.length_set, LL.out]; exact HP.out.2) x
      rw [HSW.out] at rr
      have RR : Hid (Rb _ g ((P ++ Y1) ++ y :: ((X3 ++ (M ++ X1)) ++ x :: (Y3 ++ Q))) rest) := rr
      have KR : Hid (Kp g w _) := (((((((K1.out.trans (Kp.set wr (p * 4) (.int .i64 y.player))).trans (Kp.set _ (p * 4 + 1) (.int .i64 y.unit))).trans (Kp.set _ (p * 4 + 2) (.int .i64 y.what))).trans (Kp.set _ (p * 4 + 3) (.int .i64 y.arg))).trans (Kp.set _ (r * 4) (.int .i64 x.player))).trans (Kp.set _ (r * 4 + 1) (.int .i64 x.unit))).trans (Kp.set _ (r * 4 + 2) (.int .i64 x.what))).trans (Kp.set _ (r * 4 + 3) (.int .i64 x.arg))
      clear rr
      go_wp2
      go_roundw
      case rel =>
        have h1 := H1.out
        have h2 := Hi.out
        have h3 := HM.out
        refine ⟨X1 ++ [x], X3, Y1 ++ [y], Y3, by simp [h2], by rw [← h1.1]; simp, by rw [← h1.2.1]; simp, by simp; omega, by simp; omega, ?_, KR.out.trans (Kp.of (Below.refl _ _).drew)⟩
        have h4 := RR.out.below (Below.refl _ _).drew RR.out.lt
        have e : P ++ (Y1 ++ [y]) ++ (X3 ++ (M ++ (X1 ++ [x])) ++ (Y3 ++ Q)) = (P ++ Y1) ++ y :: ((X3 ++ (M ++ X1)) ++ x :: (Y3 ++ Q)) := by simp
        rw [e]
        exact h4
      case measure => have := HM.out; simp [intOf]; omega
end Go.Proofs.YtoabhfipikkkeaaGreatDoor

namespace Go.Proofs.YtoabhfipikkkeaaGreatDoor
open Go.RowKit Go.Proofs.YtoabhfipikkkeaaGreatDoor.So
set_option linter.unusedVariables false

/-- between two rounds of rotate's loop. -/
def RoI (P u v Q : List OrV) (g : Nat) (rest : List Value) (w : World) (iv jv : Value) (W : World) : Prop := ∃ (F u' v' E : List OrV), iv = .int .i64 (u'.length : Nat) ∧ jv = .int .i64 (v'.length : Nat) ∧ u' ≠ [] ∧ v' ≠ [] ∧ F ++ (v' ++ u') ++ E = v ++ u ∧ F.length + u'.length = u.length ∧ Rb W g (P ++ F ++ u' ++ v' ++ (E ++ Q)) rest ∧ Kp g w W
set_option maxRecDepth 100000 in
set_option maxHeartbeats 8000000 in
theorem rotate_any (P u v Q : List OrV) (fv : Value) (g cap L a m b : Nat) (rest : List Value) (w : World) (hr : Rb w g (P ++ u ++ v ++ Q) rest) (hL : (P ++ u ++ v ++ Q).length = L) (hn : L ≤ 1000) (hu : u ≠ []) (hv : v ≠ []) (ha : P.length = a) (hm : a + u.length = m) (hb : m + v.length = b) :
    Calls Tryz.prog 222 #[.slice (some ⟨g, 0, none⟩) L cap, .int .i64 (a : Nat), .int .i64 (m : Nat), .int .i64 (b : Nat), fv] w
      (fun e w' => e = .returned (.tuple #[]) ∧ Rb w' g (P ++ v ++ u ++ Q) rest ∧ Kp g w w') := by
  have R0 : Hid (Rb w g (P ++ u ++ v ++ Q) rest) := hr
  have HL : Hid (a + u.length + v.length + Q.length = L) := by unfold Hid; rw [← hL, ← ha]; simp; omega
  have Ha : Hid (P.length = a) := ha
  have Hm : Hid (a + u.length = m) := hm
  have Hb : Hid (m + v.length = b) := hb
  have Hne : Hid (u ≠ [] ∧ v ≠ []) := ⟨hu, hv⟩
  have hbL : b ≤ L := by have := HL.out; omega
  have smi : ((m : Nat) : Int) - (a : Int) = (u.length : Nat) := by omega
  have sbm : ((b : Nat) : Int) - (m : Int) = (v.length : Nat) := by omega
  have wmi : IntKind.i64.wrap ((u.length : Nat) : Int) = (u.length : Nat) := by rw [IntKind.wrap_i64]; omega
  have wbm : IntKind.i64.wrap ((v.length : Nat) : Int) = (v.length : Nat) := by rw [IntKind.wrap_i64]; omega
  clear hr hL hu hv ha hm hb
  go_enter Tryz.func222, Tryz.ntmps222
  go_wp2
  go_loopw [10, 11] (fun iv jv W => RoI P u v Q g rest w iv jv W) (fun iv jv _ => (intOf iv).toNat + (intOf jv).toNat)
  case atStart =>
    refine ⟨[], u, v, [], rfl, rfl, Hne.out.1, Hne.out.2, by simp, by simp, ?_, Kp.refl _ _⟩
    have := R0.out
    simpa using this
  case round =>
    obtain ⟨F, u', v', E, rfl, rfl, hu, hv, hF, hlen, hrb, hk⟩ := hrel
    have RB : Hid (Rb wr g (P ++ F ++ u' ++ v' ++ (E ++ Q)) rest) := hrb
    have K1 : Hid (Kp g w wr) := hk
    have HF : Hid (F ++ (v' ++ u') ++ E = v ++ u) := hF
    have HFl : Hid (F.length + u'.length = u.length) := hlen
    have hlF : F.length + v'.length + u'.length + E.length = v.length + u.length := by have := congrArg List.length hF; simp at this; omega
    obtain ⟨i, hi⟩ : ∃ i, u'.length = i := ⟨_, rfl⟩
    obtain ⟨j, hj⟩ : ∃ j, v'.length = j := ⟨_, rfl⟩
    have Hi : Hid (u'.length = i) := hi
    have Hj : Hid (v'.length = j) := hj
    have i1 : 1 ≤ i := by rw [← hi]; exact List.length_pos_iff.2 hu
    have j1 : 1 ≤ j := by rw [← hj]; exact List.length_pos_iff.2 hv
    obtain ⟨c, hc⟩ : ∃ c, a + F.length = c := ⟨_, rfl⟩
    have Hc : Hid ((P ++ F).length = c) := by unfold Hid; rw [← hc, List.length_append, Ha.out]
    have hci : c + i = m := by have := Hm.out; omega
    have hjb : m + j ≤ b := by have := Hm.out; have := Hb.out; omega
    have HLL : Hid ((P ++ F ++ u' ++ v' ++ (E ++ Q)).length = L) := by
      have h1 := HL.out
      have h2 := Ha.out
      unfold Hid
      simp
      omega
    rw [hi, hj]
    have smc : ((m : Nat) : Int) - (i : Int) = (c : Nat) := by omega
    have wc : IntKind.i64.wrap ((c : Nat) : Int) = (c : Nat) := by rw [IntKind.wrap_i64]; omega
    clear hrb hk hF hlen hlF hu hv hc smi sbm wmi wbm
    by_cases he : i = j
    · subst he
      have CL := swaps_any (P ++ F) u' [] v' (E ++ Q) fv g cap L c m i rest wr (by simpa using RB.out) (by simpa using HLL.out) hn Hi.out Hj.out Hc.out (by have := Hc.out; have := Hi.out; simp at *; omega)
      have hne : ¬ ((i : Nat) : Int) ≠ (i : Int) := by simp
      clear hi hj
      go_wp2_with fail
      refine Calls.mono CL ?_
      rintro e w1 ⟨rfl, hr1, hk1⟩
      have R1 : Hid (Rb w1 g (P ++ F ++ v' ++ [] ++ u' ++ (E ++ Q)) rest) := hr1
      have K2 : Hid (Kp g wr w1) := hk1
      clear hr1 hk1
      go_wp2
      go_end0
      refine ⟨rfl, ?_, K1.out.trans K2.out⟩
      have h := R1.out
      have e : P ++ F ++ v' ++ [] ++ u' ++ (E ++ Q) = P ++ (v ++ u) ++ Q := by rw [← HF.out]; simp
      rw [e] at h
      simpa using h
    · by_cases hgt : j < i
      · obtain ⟨x, y, hxy, hx⟩ : ∃ x y, u' = x ++ y ∧ x.length = j := ⟨u'.take j, u'.drop j, (List.take_append_drop _ _).symm, by rw [List.length_take]; omega⟩
        have hy : y.length = i - j := by have := congrArg List.length hxy; simp at this; omega
        subst hxy
        have CL := swaps_any (P ++ F) x y v' (E ++ Q) fv g cap L c m j rest wr (by simpa using RB.out) (by have := HLL.out; simp at this ⊢; omega) hn hx Hj.out Hc.out (by have := Hc.out; have := Hi.out; simp at *; omega)
        have HXY : Hid (x.length = j ∧ y.length = i - j) := ⟨hx, hy⟩
        have hne : ¬ ((i : Nat) : Int) = (j : Int) := by omega
        have hgi : ((j : Nat) : Int) < (i : Int) := by omega
        obtain ⟨d, hd⟩ : ∃ d, i - j = d := ⟨_, rfl⟩
        have Hd : Hid (1 ≤ d ∧ d + j = i ∧ y.length = d) := ⟨by omega, by omega, by omega⟩
        have sij : ((i : Nat) : Int) - (j : Int) = (d : Nat) := by omega
        have wd : IntKind.i64.wrap ((d : Nat) : Int) = (d : Nat) := by rw [IntKind.wrap_i64]; omega
        clear hi hj hx hy hd
        go_wp2_with fail
        refine Calls.mono CL ?_
        rintro e w1 ⟨rfl, hr1, hk1⟩
        have R1 : Hid (Rb w1 g (P ++ F ++ v' ++ y ++ x ++ (E ++ Q)) rest) := hr1
        have K2 : Hid (Kp g wr w1) := hk1
        clear hr1 hk1
        go_wp2
        go_roundw
        case rel =>
          obtain ⟨d1, d2, d3⟩ := Hd.out
          obtain ⟨e1, e2⟩ := HXY.out
          have e3 := Hj.out
          have e4 := HFl.out
          refine ⟨F ++ v', y, x, E, by rw [d3], by rw [e1], by intro h; rw [h] at d3; simp at d3; omega, by intro h; rw [h] at e1; simp at e1; omega, by rw [← HF.out]; simp, ?_, ?_, K1.out.trans K2.out⟩
          · simp at e4 ⊢; omega
          · have h := R1.out
            simpa using h
        case measure => have := Hd.out; simp [intOf]; omega
      · obtain ⟨x, y, hxy, hx⟩ : ∃ x y, v' = x ++ y ∧ x.length = j - i := ⟨v'.take (j - i), v'.drop (j - i), (List.take_append_drop _ _).symm, by rw [List.length_take]; omega⟩
        have hy : y.length = i := by have := congrArg List.length hxy; simp at this; omega
        subst hxy
        obtain ⟨d, hd⟩ : ∃ d, j - i = d := ⟨_, rfl⟩
        obtain ⟨t, ht⟩ : ∃ t, m + d = t := ⟨_, rfl⟩
        have CL := swaps_any (P ++ F) u' x y (E ++ Q) fv g cap L c t i rest wr (by simpa using RB.out) (by have := HLL.out; simp at this ⊢; omega) hn Hi.out hy Hc.out (by have := Hc.out; have := Hi.out; simp at *; omega)
        have HXY : Hid (x.length = d ∧ y.length = i) := ⟨by omega, hy⟩
        have hne : ¬ ((i : Nat) : Int) = (j : Int) := by omega
        have hgi : ¬ ((j : Nat) : Int) < (i : Int) := by omega
        have Hd : Hid (1 ≤ d ∧ d + i = j ∧ 1 ≤ i) := ⟨by omega, by omega, i1⟩
        obtain ⟨mj, hmj⟩ : ∃ mj, m + j = mj := ⟨_, rfl⟩
        have smj : ((m : Nat) : Int) + (j : Int) = (mj : Nat) := by omega
        have wmj : IntKind.i64.wrap ((mj : Nat) : Int) = (mj : Nat) := by rw [IntKind.wrap_i64]; omega
        have smt : ((mj : Nat) : Int) - (i : Int) = (t : Nat) := by omega
        have wt : IntKind.i64.wrap ((t : Nat) : Int) = (t : Nat) := by rw [IntKind.wrap_i64]; omega
        have sij : ((j : Nat) : Int) - (i : Int) = (d : Nat) := by omega
        have wd : IntKind.i64.wrap ((d : Nat) : Int) = (d : Nat) := by rw [IntKind.wrap_i64]; omega
        clear hi hj hx hy hd ht hmj
        go_wp2_with fail
        refine Calls.mono CL ?_
        rintro e w1 ⟨rfl, hr1, hk1⟩
        have R1 : Hid (Rb w1 g (P ++ F ++ y ++ x ++ u' ++ (E ++ Q)) rest) := hr1
        have K2 : Hid (Kp g wr w1) := hk1
        clear hr1 hk1
        go_wp2
        go_roundw
        case rel =>
          obtain ⟨d1, d2, d3⟩ := Hd.out
          obtain ⟨e1, e2⟩ := HXY.out
          have e3 := Hi.out
          have e4 := HFl.out
          refine ⟨F, y, x, u' ++ E, by rw [e2], by rw [e1], by intro h; rw [h] at e2; simp at e2; omega, by intro h; rw [h] at e1; simp at e1; omega, by rw [← HF.out]; simp, ?_, ?_, K1.out.trans K2.out⟩
          · omega
          · have h := R1.out
            simpa using h
        case measure => have := Hd.out; simp [intOf]; omega
end Go.Proofs.YtoabhfipikkkeaaGreatDoor

namespace Go.Proofs.YtoabhfipikkkeaaGreatDoor
open Go.RowKit Go.Proofs.YtoabhfipikkkeaaGreatDoor.So
set_option linter.unusedVariables false

/-- what is looked for among the Y. -/
def BsX (A : List T) (x : T) (Y B : List T) (g : Nat) (rest : List Value) (w : World) (m : Nat) (iv jv : Value) (W : World) : Prop := ∃ (Y1 Y2 Y3 : List T), iv = .int .i64 ((m + Y1.length : Nat) : Int) ∧ jv = .int .i64 ((m + Y1.length + Y2.length : Nat) : Int) ∧ Y1 ++ Y2 ++ Y3 = Y ∧ (∀ z ∈ Y1, lt z x) ∧ (∀ z ∈ Y3, lt x z) ∧ Rb W g (fs (A ++ x :: (Y ++ B))) rest ∧ Kp g w W
/-- it goes up. -/
def UpX (A : List T) (x : T) (Y1 YB : List T) (g : Nat) (rest : List Value) (w : World) (a : Nat) (kv : Value) (W : World) : Prop := ∃ (U V : List T), kv = .int .i64 ((a + U.length : Nat) : Int) ∧ U ++ V = Y1 ∧ Rb W g (fs (A ++ U) ++ x.1 :: (fs V ++ fs YB)) rest ∧ Kp g w W
def MergeSays (A XY B : List T) (g : Nat) (rest : List Value) (w : World) (e : Ending) (w' : World) : Prop := e = .returned (.tuple #[]) ∧ ∃ Z : List T, Z.Perm XY ∧ Z.Pairwise lt ∧ Rb w' g (fs (A ++ Z ++ B)) rest ∧ Kp g w w'
theorem swap_up {α : Type} (P : List α) (x y : α) (R : List α) : ((P ++ x :: y :: R).set P.length y).set (P.length + 1) x = P ++ y :: x :: R := swap_far P [] R x y
set_option maxRecDepth 100000 in
set_option maxHeartbeats 8000000 in
theorem sym_one (A : List T) (x : T) (Y B : List T) (g cap L a m b : Nat) (rest : List Value) (w : World) (hY : Y.Pairwise lt) (hpl : ∀ y ∈ Y, x.2 < y.2) (hr : Rb w g (fs (A ++ x :: (Y ++ B))) rest) (hL : A.length + 1 + Y.length + B.length = L) (hn : L ≤ 1000) (ha : A.length = a) (hm : a + 1 = m) (hb : m + Y.length = b) :
    Calls Tryz.prog 207 #[.slice (some ⟨g, 0, none⟩) L cap, .int .i64 (a : Nat), .int .i64 (m : Nat), .int .i64 (b : Nat), .func (.func 141) #[] #[]] w
      (MergeSays A (x :: Y) B g rest w) := by
  have R0 : Hid (Rb w g (fs (A ++ x :: (Y ++ B))) rest) := hr
  have HL : Hid (A.length + 1 + Y.length + B.length = L) := hL
  have Ha : Hid (A.length = a) := ha
  have Hm : Hid (a + 1 = m) := hm
  have Hb : Hid (m + Y.length = b) := hb
  have HY : Hid (Y.Pairwise lt ∧ ∀ y ∈ Y, x.2 < y.2) := ⟨hY, hpl⟩
  have hbL : b ≤ L := by omega
  have smi : ((m : Nat) : Int) - (a : Int) = 1 := by omega
  have haL : ((a : Nat) : Int) < (L : Int) := by omega
  clear hr hL hY hpl ha hm hb
  go_enter Tryz.func207, Tryz.ntmps207
  go_wp2
  go_loopw [10, 11] (fun iv jv W => BsX A x Y B g rest w m iv jv W) (fun iv jv _ => (intOf jv).toNat - (intOf iv).toNat)
  case atStart =>
    refine ⟨[], Y, [], by simp, by have := Hb.out; simp; omega, by simp, by simp, by simp, R0.out, Kp.refl _ _⟩
  case round =>
    obtain ⟨Y1, Y2, Y3, rfl, rfl, h12, hlo, hhi, hrb, hk⟩ := hrel
    have RB : Hid (Rb wr g (fs (A ++ x :: (Y ++ B))) rest) := hrb
    have K1 : Hid (Kp g w wr) := hk
    have H12 : Hid (Y1 ++ Y2 ++ Y3 = Y) := h12
    have HLO : Hid (∀ z ∈ Y1, lt z x) := hlo
    have HHI : Hid (∀ z ∈ Y3, lt x z) := hhi
    have hlY : Y1.length + Y2.length + Y3.length = Y.length := by have := congrArg List.length h12; simp at this; omega
    obtain ⟨i, hi⟩ : ∃ i, m + Y1.length = i := ⟨_, rfl⟩
    obtain ⟨j, hj⟩ : ∃ j, i + Y2.length = j := ⟨_, rfl⟩
    rw [hi, hj]
    have hjb : j ≤ b := by have := Hb.out; omega
    clear hrb hk h12 hlo hhi
    by_cases he : i = j
    · have hlt : ¬ ((i : Nat) : Int) < (j : Int) := by omega
      have e2 : Y2 = [] := List.length_eq_zero_iff.1 (by omega)
      subst e2
      have HI : Hid (a + Y1.length + 1 = i) := by unfold Hid; have := Hm.out; omega
      have SI : Hid (((i : Nat) : Int) - 1 = ((a + Y1.length : Nat) : Int)) := by unfold Hid; have := HI.out; omega
      have hib : i ≤ b := by omega
      clear hlY hj he
      have si : ((i : Nat) : Int) - 1 = ((a + Y1.length : Nat) : Int) := SI.out
      obtain ⟨t, ht⟩ : ∃ t, a + Y1.length = t := ⟨_, rfl⟩
      have Ht : Hid (a + Y1.length = t) := ht
      have htL : t < L := by have := HI.out; omega
      rw [ht] at si
      have wt : IntKind.i64.wrap ((t : Nat) : Int) = (t : Nat) := by rw [IntKind.wrap_i64]; omega
      have e12 : Y1 ++ [] ++ Y3 = Y1 ++ Y3 := by simp
      have H13 : Hid (Y1 ++ Y3 = Y) := by unfold Hid; rw [← e12]; exact H12.out
      clear ht e12 hi SI
      go_wp2_with fail
      go_loopw [13] (fun kv W => UpX A x Y1 (Y3 ++ B) g rest w a kv W) (fun kv _ => t - (intOf kv).toNat)
      case atStart =>
        refine ⟨[], Y1, by simp, by simp, ?_, K1.out⟩
        have h := RB.out
        rw [← H13.out] at h
        simpa [fs] using h
      case round =>
        obtain ⟨U, V, rfl, hUV, hrb, hk⟩ := hrel
        have R1 : Hid (Rb wr g (fs (A ++ U) ++ x.1 :: (fs V ++ fs (Y3 ++ B))) rest) := hrb
        have K2 : Hid (Kp g w wr) := hk
        have HUV : Hid (U ++ V = Y1) := hUV
        have hl : U.length + V.length = Y1.length := by have := congrArg List.length hUV; simpa using this
        obtain ⟨k, hk'⟩ : ∃ k, a + U.length = k := ⟨_, rfl⟩
        have Hk : Hid (a + U.length = k) := hk'
        rw [hk']
        clear hrb hk hUV
        cases V with
        | nil =>
          have hnk : ¬ ((k : Nat) : Int) < (t : Int) := by have := Ht.out; simp at hl; omega
          clear hk' hl
          go_wp2
          go_end0
          refine ⟨rfl, Y1 ++ x :: Y3, ?_, ?_, ?_, K2.out⟩
          · rw [← H13.out]; exact List.perm_middle
          · exact put_rise (by rw [H13.out]; exact HY.out.1) HLO.out HHI.out
          · have h := R1.out
            have e := HUV.out
            simp only [List.append_nil] at e
            rw [e] at h
            simpa [fs] using h
        | cons y V' =>
          have hnk : ((k : Nat) : Int) < (t : Int) := by have := Ht.out; simp at hl; omega
          have hkt : k < t := by omega
          have HKT : Hid (k < t ∧ t < L) := ⟨hkt, htL⟩
          have hP : (fs (A ++ U)).length = k := by have := Ha.out; simp [fs]; omega
          have RC : Hid (Rb wr g (fs (A ++ U) ++ x.1 :: y.1 :: (fs V' ++ fs (Y3 ++ B))) rest) := by have := R1.out; simpa [fs, Hid] using this
          have AF := at_far (fs (A ++ U)) [] (fs V' ++ fs (Y3 ++ B)) x.1 y.1
          simp only [List.nil_append, List.length_nil, Nat.add_zero] at AF
          have SW : Hid (_ = _) := swap_up (fs (A ++ U)) x.1 y.1 (fs V' ++ fs (Y3 ++ B))
          rw [hP] at AF SW
          have LL : Hid ((fs (A ++ U) ++ x.1 :: y.1 :: (fs V' ++ fs (Y3 ++ B))).length = L) := by
            have h1 := HL.out
            have h2 := congrArg List.length H13.out
            have h3 := Ha.out
            have h4 := hP
            unfold Hid
            simp at h2 hl ⊢
            simp at h4
            omega
          obtain ⟨x0, x1, x2, x3⟩ := RC.out.cells AF.1
          obtain ⟨y0, y1, y2, y3⟩ := RC.out.cells AF.2
          have f0 := RC.out.thaw (k * 4)
          have f1 := RC.out.thaw (k * 4 + 1)
          have f2 := RC.out.thaw (k * 4 + 2)
          have f3 := RC.out.thaw (k * 4 + 3)
          have f4 := RC.out.thaw ((k + 1) * 4)
          have f5 := RC.out.thaw ((k + 1) * 4 + 1)
          have f6 := RC.out.thaw ((k + 1) * 4 + 2)
          have f7 := RC.out.thaw ((k + 1) * 4 + 3)
          have kpos : ¬ ((k : Nat) : Int) + 1 < 0 := by omega
          have hki : ((k : Nat) : Int) + 1 < (L : Int) := by omega
          have hki0 : ((k : Nat) : Int) < (L : Int) := by omega
          clear AF hP hl hk' R1
          go_wp2_with fail
          go_region
          have rr := (RC.out.put (i := k) (by rw [LL.out]; have := HKT.out; omega) y.1).put (i := k + 1) (by rw [List.length_set, LL.out]; have := HKT.out; omega) x.1
          rw [SW.out] at rr
          have RR : Hid (Rb _ g (fs (A ++ U) ++ y.1 :: x.1 :: (fs V' ++ fs (Y3 ++ B))) rest) := rr
          have KR : Hid (Kp g w _) := (((((((K2.out.trans (Kp.set wr (k * 4) (.int .i64 y.1.player))).trans (Kp.set _ (k * 4 + 1) (.int .i64 y.1.unit))).trans (Kp.set _ (k * 4 + 2) (.int .i64 y.1.what))).trans (Kp.set _ (k * 4 + 3) (.int .i64 y.1.arg))).trans (Kp.set _ ((k + 1) * 4) (.int .i64 x.1.player))).trans (Kp.set _ ((k + 1) * 4 + 1) (.int .i64 x.1.unit))).trans (Kp.set _ ((k + 1) * 4 + 2) (.int .i64 x.1.what))).trans (Kp.set _ ((k + 1) * 4 + 3) (.int .i64 x.1.arg))
          clear rr
          go_wp2
          go_roundw
          case rel =>
            have h1 := Hk.out
            refine ⟨U ++ [y], V', by rw [← h1]; simp; omega, by rw [← HUV.out]; simp, ?_, KR.out.trans (Kp.of (Below.refl _ _).drew)⟩
            have h4 := RR.out.below (Below.refl _ _).drew RR.out.lt
            have e : fs (A ++ (U ++ [y])) ++ x.1 :: (fs V' ++ fs (Y3 ++ B)) = fs (A ++ U) ++ y.1 :: x.1 :: (fs V' ++ fs (Y3 ++ B)) := by simp [fs]
            rw [e]
            exact h4
          case measure => have := HKT.out; simp [intOf]; omega
    · have hlt : ((i : Nat) : Int) < (j : Int) := by omega
      obtain ⟨s, hs⟩ : ∃ s, i + j = s := ⟨_, rfl⟩
      obtain ⟨h, hh⟩ : ∃ h, s / 2 = h := ⟨_, rfl⟩
      have ss : ((i : Nat) : Int) + (j : Int) = (s : Nat) := by omega
      have ws : IntKind.i64.wrap ((s : Nat) : Int) = (s : Nat) := by rw [IntKind.wrap_i64]; omega
      have sh : ((s : Nat) : Int) / 2 = (h : Nat) := by omega
      have hih : i ≤ h ∧ h < j := by omega
      obtain ⟨P, y, R, hY2, hPl⟩ : ∃ P y R, Y2 = P ++ y :: R ∧ P.length = h - i := by
        have h1 : h - i < Y2.length := by omega
        exact ⟨Y2.take (h - i), Y2[h - i], Y2.drop (h - i + 1), by rw [List.getElem_cons_drop, List.take_append_drop], by rw [List.length_take]; omega⟩
      subst hY2
      have hhL : h < L := by omega
      have Hy : Hid ((fs (A ++ x :: (Y ++ B)))[h]? = some y.1) := by
        have e : A ++ x :: (Y ++ B) = (A ++ x :: (Y1 ++ P)) ++ y :: (R ++ Y3 ++ B) := by rw [← H12.out]; simp
        have e2 : h = (fs (A ++ x :: (Y1 ++ P))).length := by have := Ha.out; have := Hm.out; simp [fs]; omega
        unfold Hid
        rw [e, e2]
        simp [fs]
      have Hx : Hid ((fs (A ++ x :: (Y ++ B)))[a]? = some x.1) := by
        have e2 : a = (fs A).length := by have := Ha.out; simp [fs]; omega
        unfold Hid
        rw [e2]
        simp [fs]
      have FC : Hid (∀ W, Below wr.heap.size wr W → W.cell? ⟨g, a * 4, none⟩ = some (.int .i64 x.1.player) ∧ W.cell? ⟨g, a * 4 + 1, none⟩ = some (.int .i64 x.1.unit) ∧ W.cell? ⟨g, a * 4 + 2, none⟩ = some (.int .i64 x.1.what) ∧ W.cell? ⟨g, a * 4 + 3, none⟩ = some (.int .i64 x.1.arg) ∧ W.cell? ⟨g, h * 4, none⟩ = some (.int .i64 y.1.player) ∧ W.cell? ⟨g, h * 4 + 1, none⟩ = some (.int .i64 y.1.unit) ∧ W.cell? ⟨g, h * 4 + 2, none⟩ = some (.int .i64 y.1.what) ∧ W.cell? ⟨g, h * 4 + 3, none⟩ = some (.int .i64 y.1.arg)) := fun W hW => by
        have r := RB.out.below hW RB.out.lt
        obtain ⟨x0, x1, x2, x3⟩ := r.cells Hx.out
        obtain ⟨y0, y1, y2, y3⟩ := r.cells Hy.out
        exact ⟨x0, x1, x2, x3, y0, y1, y2, y3⟩
      have CC : Hid (∀ W, Below wr.heap.size wr W → Calls Tryz.prog 141 #[.agg #[.int .i64 y.1.player, .int .i64 y.1.unit, .int .i64 y.1.what, .int .i64 y.1.arg], .agg #[.int .i64 x.1.player, .int .i64 x.1.unit, .int .i64 x.1.what, .int .i64 x.1.arg]] W fun e w' => e = .returned (.int .i64 (cmpo y.1 x.1)) ∧ Below wr.heap.size wr w') := fun W hW => (compare_any y.1 x.1 W).mono fun e w' ⟨h1, h2⟩ => ⟨h1, hW.trans (h2.mono hW.size)⟩
      have ec := ecmp
      have hhi : ((h : Nat) : Int) < (L : Int) := by omega
      have IX : Hid (x.2 < y.2) := HY.out.2 y (by rw [← H12.out]; simp)
      have PW : Hid ((Y1 ++ (P ++ y :: R) ++ Y3).Pairwise lt) := by unfold Hid; rw [H12.out]; exact HY.out.1
      have HN : Hid (m + Y1.length = i ∧ i + P.length = h ∧ h + 1 + R.length = j) := ⟨hi, by omega, by simp at hj; omega⟩
      clear hi hj hh hs hih hPl hlY
      go_upto_region 5 with fail
      refine wp_region_class 10 (fun W => Below wr.heap.size wr W) (by kernel_rfl) (by kernel_rfl) (Below.refl _ _).drew ?_
      simp only [List.take_succ_cons, List.take_zero, List.drop_succ_cons, List.drop_zero]
      refine head_step (.func (.func 141) #[] #[]) (by go_simp) (fun W hW => by go_simp) ?_
      go_simp
      refine head_step (.slice (some ⟨g, 0, none⟩) L cap) (by go_simp) (fun W hW => by go_simp) ?_
      go_simp
      refine head_step (.int .i64 (h : Int)) (by go_simp) (fun W hW => by go_simp) ?_
      go_simp
      refine head_step (.pointer (some ⟨g, h * 4, none⟩)) (by go_simp) (fun W hW => by go_simp) ?_
      go_simp
      refine head_step (.agg #[.int .i64 y.1.player, .int .i64 y.1.unit, .int .i64 y.1.what, .int .i64 y.1.arg]) (by go_simp) (fun W hW => by obtain ⟨-, -, -, -, y0, y1, y2, y3⟩ := FC.out W hW; go_simp) ?_
      go_simp
      refine head_step (.slice (some ⟨g, 0, none⟩) L cap) (by go_simp) (fun W hW => by go_simp) ?_
      go_simp
      refine head_step (.int .i64 (a : Int)) (by go_simp) (fun W hW => by go_simp) ?_
      go_simp
      refine head_step (.pointer (some ⟨g, a * 4, none⟩)) (by go_simp) (fun W hW => by go_simp) ?_
      go_simp
      refine head_step (.agg #[.int .i64 x.1.player, .int .i64 x.1.unit, .int .i64 x.1.what, .int .i64 x.1.arg]) (by go_simp) (fun W hW => by obtain ⟨x0, x1, x2, x3, -⟩ := FC.out W hW; go_simp) ?_
      go_simp
      refine head_call (.int .i64 (cmpo y.1 x.1)) 141 #[.agg #[.int .i64 y.1.player, .int .i64 y.1.unit, .int .i64 y.1.what, .int .i64 y.1.arg], .agg #[.int .i64 x.1.player, .int .i64 x.1.unit, .int .i64 x.1.what, .int .i64 x.1.arg]] (by go_simp) (fun W hW => by go_simp) (fun W hW => CC.out W hW) ?_
      go_simp
      intro W hW
      have RW : Hid (Rb W g (fs (A ++ x :: (Y ++ B))) rest) := RB.out.below hW RB.out.lt
      have KW : Hid (Kp g w W) := K1.out.trans (Kp.of hW)
      by_cases hc : cmpo y.1 x.1 < 0
      · have LX : Hid (lt y x) := (ask_lt IX.out).1 ((klt_iff _ _).1 hc)
        clear hW FC CC
        go_wp2
        go_roundw
        case rel =>
          obtain ⟨n1, n2, n3⟩ := HN.out
          refine ⟨Y1 ++ (P ++ [y]), R, Y3, ?_, ?_, by rw [← H12.out]; simp, fun z hz => ?_, HHI.out, RW.out, KW.out⟩
          · congr 1; simp; omega
          · congr 1; simp; omega
          · rcases List.mem_append.1 hz with hz | hz
            · exact HLO.out z hz
            · rcases List.mem_append.1 hz with hz | hz
              · have h1 := PW.out
                rw [List.append_assoc, List.pairwise_append] at h1
                have h2 := h1.2.1
                rw [List.append_assoc, List.pairwise_append] at h2
                exact lt_trans (h2.2.2 z hz y (by simp)) LX.out
              · simp at hz
                subst hz
                exact LX.out
        case measure => have := HN.out; simp [intOf]; omega
      · have LX : Hid (lt x y) := (ask_ge IX.out).1 (fun h => hc ((klt_iff _ _).2 h))
        clear hW FC CC
        go_wp2
        go_roundw
        case rel =>
          obtain ⟨n1, n2, n3⟩ := HN.out
          refine ⟨Y1, P, y :: (R ++ Y3), ?_, ?_, by rw [← H12.out]; simp, HLO.out, fun z hz => ?_, RW.out, KW.out⟩
          · congr 1; omega
          · congr 1; omega
          · rcases List.mem_cons.1 hz with rfl | hz
            · exact LX.out
            · have h1 := PW.out
              have e : Y1 ++ (P ++ y :: R) ++ Y3 = (Y1 ++ P) ++ y :: (R ++ Y3) := by simp
              rw [e, List.pairwise_append] at h1
              exact lt_trans LX.out ((List.pairwise_cons.1 h1.2.1).1 z hz)
        case measure => have := HN.out; simp [intOf]; omega
end Go.Proofs.YtoabhfipikkkeaaGreatDoor

namespace Go.Proofs.YtoabhfipikkkeaaGreatDoor
open Go.RowKit Go.Proofs.YtoabhfipikkkeaaGreatDoor.So
set_option linter.unusedVariables false

/-- what is looked for among the X. -/
def BsY (A X : List T) (y : T) (B : List T) (g : Nat) (rest : List Value) (w : World) (a : Nat) (iv jv : Value) (W : World) : Prop := ∃ (X1 X2 X3 : List T), iv = .int .i64 ((a + X1.length : Nat) : Int) ∧ jv = .int .i64 ((a + X1.length + X2.length : Nat) : Int) ∧ X1 ++ X2 ++ X3 = X ∧ (∀ z ∈ X1, lt z y) ∧ (∀ z ∈ X3, lt y z) ∧ Rb W g (fs (A ++ X ++ y :: B)) rest ∧ Kp g w W
/-- it goes down. -/
def DnY (AX : List T) (y : T) (X3 B : List T) (g : Nat) (rest : List Value) (w : World) (i : Nat) (kv : Value) (W : World) : Prop := ∃ (U V : List T), kv = .int .i64 ((i + U.length : Nat) : Int) ∧ U ++ V = X3 ∧ Rb W g (fs (AX ++ U) ++ y.1 :: (fs V ++ fs B)) rest ∧ Kp g w W
set_option maxRecDepth 100000 in
set_option maxHeartbeats 8000000 in
theorem sym_last (A X : List T) (y : T) (B : List T) (g cap L a m b : Nat) (rest : List Value) (w : World) (hX : X.Pairwise lt) (hpl : ∀ x ∈ X, x.2 < y.2) (hX1 : X.length ≠ 1) (hr : Rb w g (fs (A ++ X ++ y :: B)) rest) (hL : A.length + X.length + 1 + B.length = L) (hn : L ≤ 1000) (ha : A.length = a) (hm : a + X.length = m) (hb : m + 1 = b) :
    Calls Tryz.prog 207 #[.slice (some ⟨g, 0, none⟩) L cap, .int .i64 (a : Nat), .int .i64 (m : Nat), .int .i64 (b : Nat), .func (.func 141) #[] #[]] w
      (MergeSays A (X ++ [y]) B g rest w) := by
  have R0 : Hid (Rb w g (fs (A ++ X ++ y :: B)) rest) := hr
  have HL : Hid (A.length + X.length + 1 + B.length = L) := hL
  have Ha : Hid (A.length = a) := ha
  have Hm : Hid (a + X.length = m) := hm
  have Hb : Hid (m + 1 = b) := hb
  have HX : Hid (X.Pairwise lt ∧ ∀ x ∈ X, x.2 < y.2) := ⟨hX, hpl⟩
  have hbL : b ≤ L := by omega
  obtain ⟨d, hd⟩ : ∃ d, X.length = d := ⟨_, rfl⟩
  have smi : ((m : Nat) : Int) - (a : Int) = (d : Nat) := by omega
  have wd : IntKind.i64.wrap ((d : Nat) : Int) = (d : Nat) := by rw [IntKind.wrap_i64]; omega
  have d1 : (((d : Nat) : Int) == 1) = false := by have : ¬ ((d : Nat) : Int) = 1 := by omega
                                                   simpa using this
  have sbm : ((b : Nat) : Int) - (m : Int) = 1 := by omega
  have hmL : ((m : Nat) : Int) < (L : Int) := by omega
  clear hr hL hX hpl ha hm hb hd hX1
  go_enter Tryz.func207, Tryz.ntmps207
  go_wp2
  go_loopw [14, 15] (fun iv jv W => BsY A X y B g rest w a iv jv W) (fun iv jv _ => (intOf jv).toNat - (intOf iv).toNat)
  case atStart =>
    refine ⟨[], X, [], by simp, by have := Hm.out; simp; omega, by simp, by simp, by simp, R0.out, Kp.refl _ _⟩
  case round =>
    obtain ⟨X1, X2, X3, rfl, rfl, h12, hlo, hhi, hrb, hk⟩ := hrel
    have RB : Hid (Rb wr g (fs (A ++ X ++ y :: B)) rest) := hrb
    have K1 : Hid (Kp g w wr) := hk
    have H12 : Hid (X1 ++ X2 ++ X3 = X) := h12
    have HLO : Hid (∀ z ∈ X1, lt z y) := hlo
    have HHI : Hid (∀ z ∈ X3, lt y z) := hhi
    have hlY : X1.length + X2.length + X3.length = X.length := by have := congrArg List.length h12; simp at this; omega
    obtain ⟨i, hi⟩ : ∃ i, a + X1.length = i := ⟨_, rfl⟩
    obtain ⟨j, hj⟩ : ∃ j, i + X2.length = j := ⟨_, rfl⟩
    rw [hi, hj]
    have hjb : j ≤ m := by have := Hm.out; omega
    have hmL2 : m < L := by have := Hb.out; omega
    clear hrb hk h12 hlo hhi
    by_cases he : i = j
    · have hlt : ¬ ((i : Nat) : Int) < (j : Int) := by omega
      have e2 : X2 = [] := List.length_eq_zero_iff.1 (by omega)
      subst e2
      have HI : Hid (a + X1.length = i) := hi
      have e12 : X1 ++ [] ++ X3 = X1 ++ X3 := by simp
      have H13 : Hid (X1 ++ X3 = X) := by unfold Hid; rw [← e12]; exact H12.out
      have HM2 : Hid (i + X3.length = m) := by unfold Hid; have := Hm.out; simp at hlY; omega
      clear hlY hj he e12 hi
      go_wp2_with fail
      go_loopw [17] (fun kv W => DnY (A ++ X1) y X3 B g rest w i kv W) (fun kv _ => (intOf kv).toNat)
      case atStart =>
        refine ⟨X3, [], by rw [HM2.out], by simp, ?_, K1.out⟩
        have h := RB.out
        rw [← H13.out] at h
        simpa [fs] using h
      case round =>
        obtain ⟨U, V, rfl, hUV, hrb, hk⟩ := hrel
        have R1 : Hid (Rb wr g (fs ((A ++ X1) ++ U) ++ y.1 :: (fs V ++ fs B)) rest) := hrb
        have K2 : Hid (Kp g w wr) := hk
        have HUV : Hid (U ++ V = X3) := hUV
        have hl : U.length + V.length = X3.length := by have := congrArg List.length hUV; simpa using this
        clear hrb hk hUV
        rcases List.eq_nil_or_concat U with h0 | ⟨U', z, h0⟩
        · subst h0
          have hnk : ¬ ((i : Nat) : Int) < (i : Int) := by omega
          simp only [List.length_nil, Nat.add_zero]
          clear hl
          go_wp2
          go_end0
          refine ⟨rfl, X1 ++ y :: X3, ?_, ?_, ?_, K2.out⟩
          · rw [← H13.out]
            exact List.perm_middle.trans (List.perm_append_singleton y _).symm
          · exact put_rise (by rw [H13.out]; exact HX.out.1) HLO.out HHI.out
          · have h := R1.out
            have e := HUV.out
            simp only [List.nil_append] at e
            rw [e] at h
            simpa [fs] using h
        · subst h0
          obtain ⟨k, hk⟩ : ∃ k, i + U'.length = k := ⟨_, rfl⟩
          have hk1 : i + (U'.concat z).length = k + 1 := by rw [← hk]; simp; omega
          have HK : Hid (i + U'.length = k) := hk
          have hkm : k + 1 ≤ m := by have := HM2.out; omega
          have e1 : ((i + (U'.concat z).length : Nat) : Int) = (k : Int) + 1 := by rw [hk1]; rfl
          rw [e1]
          have hnk : ((i : Nat) : Int) < (k : Int) + 1 := by omega
          have HKT : Hid (k + 1 ≤ m ∧ m < L) := ⟨hkm, hmL2⟩
          have hP : (fs ((A ++ X1) ++ U')).length = k := by have := Ha.out; have := HI.out; simp [fs]; omega
          have RC : Hid (Rb wr g (fs ((A ++ X1) ++ U') ++ z.1 :: y.1 :: (fs V ++ fs B)) rest) := by have := R1.out; simpa [fs, Hid] using this
          have AF := at_far (fs ((A ++ X1) ++ U')) [] (fs V ++ fs B) z.1 y.1
          simp only [List.nil_append, List.length_nil, Nat.add_zero] at AF
          have SW : Hid (_ = _) := swap_two (fs ((A ++ X1) ++ U')) z.1 y.1 (fs V ++ fs B)
          rw [hP] at AF SW
          have LL : Hid ((fs ((A ++ X1) ++ U') ++ z.1 :: y.1 :: (fs V ++ fs B)).length = L) := by
            have h1 := HL.out
            have h2 := congrArg List.length H13.out
            have h3 := Ha.out
            have h4 := hP
            unfold Hid
            simp at h2 hl ⊢
            simp at h4
            omega
          obtain ⟨x0, x1, x2, x3⟩ := RC.out.cells AF.1
          obtain ⟨y0, y1, y2, y3⟩ := RC.out.cells AF.2
          have f0 := RC.out.thaw (k * 4)
          have f1 := RC.out.thaw (k * 4 + 1)
          have f2 := RC.out.thaw (k * 4 + 2)
          have f3 := RC.out.thaw (k * 4 + 3)
          have f4 := RC.out.thaw ((k + 1) * 4)
          have f5 := RC.out.thaw ((k + 1) * 4 + 1)
          have f6 := RC.out.thaw ((k + 1) * 4 + 2)
          have f7 := RC.out.thaw ((k + 1) * 4 + 3)
          have kpos : ¬ ((k : Nat) : Int) + 1 < 0 := by omega
          have hki : ((k : Nat) : Int) + 1 < (L : Int) := by omega
          have hki0 : ((k : Nat) : Int) < (L : Int) := by omega
          have kk1 : ((k : Nat) : Int) + 1 - 1 = k := by omega
          have kw : IntKind.i64.wrap ((k : Nat) : Int) = k := by rw [IntKind.wrap_i64]; omega
          clear AF hP hl hk hk1 R1 e1
          go_wp2_with fail
          go_region
          have rr := (RC.out.put (i := k + 1) (by rw [LL.out]; have := HKT.out; omega) z.1).put (i := k) (by rw [List.length_set, LL.out]; have := HKT.out; omega) y.1
          rw [SW.out] at rr
          have RR : Hid (Rb _ g (fs ((A ++ X1) ++ U') ++ y.1 :: z.1 :: (fs V ++ fs B)) rest) := rr
          have KR : Hid (Kp g w _) := (((((((K2.out.trans (Kp.set wr ((k + 1) * 4) (.int .i64 z.1.player))).trans (Kp.set _ ((k + 1) * 4 + 1) (.int .i64 z.1.unit))).trans (Kp.set _ ((k + 1) * 4 + 2) (.int .i64 z.1.what))).trans (Kp.set _ ((k + 1) * 4 + 3) (.int .i64 z.1.arg))).trans (Kp.set _ (k * 4) (.int .i64 y.1.player))).trans (Kp.set _ (k * 4 + 1) (.int .i64 y.1.unit))).trans (Kp.set _ (k * 4 + 2) (.int .i64 y.1.what))).trans (Kp.set _ (k * 4 + 3) (.int .i64 y.1.arg))
          clear rr
          go_wp2
          go_roundw
          case rel =>
            have h1 := HK.out
            refine ⟨U', z :: V, by rw [h1], by rw [← HUV.out]; simp, ?_, KR.out.trans (Kp.of (Below.refl _ _).drew)⟩
            have h4 := RR.out.below (Below.refl _ _).drew RR.out.lt
            exact h4
          case measure => simp [intOf]
    · have hlt : ((i : Nat) : Int) < (j : Int) := by omega
      obtain ⟨s, hs⟩ : ∃ s, i + j = s := ⟨_, rfl⟩
      obtain ⟨h, hh⟩ : ∃ h, s / 2 = h := ⟨_, rfl⟩
      have ss : ((i : Nat) : Int) + (j : Int) = (s : Nat) := by omega
      have ws : IntKind.i64.wrap ((s : Nat) : Int) = (s : Nat) := by rw [IntKind.wrap_i64]; omega
      have sh : ((s : Nat) : Int) / 2 = (h : Nat) := by omega
      have hih : i ≤ h ∧ h < j := by omega
      obtain ⟨P, x, R, hY2, hPl⟩ : ∃ P x R, X2 = P ++ x :: R ∧ P.length = h - i := by
        have h1 : h - i < X2.length := by omega
        exact ⟨X2.take (h - i), X2[h - i], X2.drop (h - i + 1), by rw [List.getElem_cons_drop, List.take_append_drop], by rw [List.length_take]; omega⟩
      subst hY2
      have hhL : h < L := by omega
      have Hx : Hid ((fs (A ++ X ++ y :: B))[h]? = some x.1) := by
        have e : A ++ X ++ y :: B = (A ++ (X1 ++ P)) ++ x :: (R ++ X3 ++ y :: B) := by rw [← H12.out]; simp
        have e2 : h = (fs (A ++ (X1 ++ P))).length := by have := Ha.out; simp [fs]; omega
        unfold Hid
        rw [e, e2]
        simp [fs]
      have Hy : Hid ((fs (A ++ X ++ y :: B))[m]? = some y.1) := by
        have e2 : m = (fs (A ++ X)).length := by have := Ha.out; have := Hm.out; simp [fs]; omega
        unfold Hid
        rw [e2]
        simp [fs]
      have FC : Hid (∀ W, Below wr.heap.size wr W → W.cell? ⟨g, h * 4, none⟩ = some (.int .i64 x.1.player) ∧ W.cell? ⟨g, h * 4 + 1, none⟩ = some (.int .i64 x.1.unit) ∧ W.cell? ⟨g, h * 4 + 2, none⟩ = some (.int .i64 x.1.what) ∧ W.cell? ⟨g, h * 4 + 3, none⟩ = some (.int .i64 x.1.arg) ∧ W.cell? ⟨g, m * 4, none⟩ = some (.int .i64 y.1.player) ∧ W.cell? ⟨g, m * 4 + 1, none⟩ = some (.int .i64 y.1.unit) ∧ W.cell? ⟨g, m * 4 + 2, none⟩ = some (.int .i64 y.1.what) ∧ W.cell? ⟨g, m * 4 + 3, none⟩ = some (.int .i64 y.1.arg)) := fun W hW => by
        have r := RB.out.below hW RB.out.lt
        obtain ⟨x0, x1, x2, x3⟩ := r.cells Hx.out
        obtain ⟨y0, y1, y2, y3⟩ := r.cells Hy.out
        exact ⟨x0, x1, x2, x3, y0, y1, y2, y3⟩
      have CC : Hid (∀ W, Below wr.heap.size wr W → Calls Tryz.prog 141 #[.agg #[.int .i64 y.1.player, .int .i64 y.1.unit, .int .i64 y.1.what, .int .i64 y.1.arg], .agg #[.int .i64 x.1.player, .int .i64 x.1.unit, .int .i64 x.1.what, .int .i64 x.1.arg]] W fun e w' => e = .returned (.int .i64 (cmpo y.1 x.1)) ∧ Below wr.heap.size wr w') := fun W hW => (compare_any y.1 x.1 W).mono fun e w' ⟨h1, h2⟩ => ⟨h1, hW.trans (h2.mono hW.size)⟩
      have ec := ecmp
      have hhi : ((h : Nat) : Int) < (L : Int) := by omega
      have IX : Hid (x.2 < y.2) := HX.out.2 x (by rw [← H12.out]; simp)
      have PW : Hid ((X1 ++ (P ++ x :: R) ++ X3).Pairwise lt) := by unfold Hid; rw [H12.out]; exact HX.out.1
      have HN : Hid (a + X1.length = i ∧ i + P.length = h ∧ h + 1 + R.length = j) := ⟨hi, by omega, by simp at hj; omega⟩
      clear hi hj hh hs hih hPl hlY
      go_upto_region 17 with fail
      refine wp_region_class 10 (fun W => Below wr.heap.size wr W) (by kernel_rfl) (by kernel_rfl) (Below.refl _ _).drew ?_
      simp only [List.take_succ_cons, List.take_zero, List.drop_succ_cons, List.drop_zero]
      refine head_step (.func (.func 141) #[] #[]) (by go_simp) (fun W hW => by go_simp) ?_
      go_simp
      refine head_step (.slice (some ⟨g, 0, none⟩) L cap) (by go_simp) (fun W hW => by go_simp) ?_
      go_simp
      refine head_step (.int .i64 (m : Int)) (by go_simp) (fun W hW => by go_simp) ?_
      go_simp
      refine head_step (.pointer (some ⟨g, m * 4, none⟩)) (by go_simp) (fun W hW => by go_simp) ?_
      go_simp
      refine head_step (.agg #[.int .i64 y.1.player, .int .i64 y.1.unit, .int .i64 y.1.what, .int .i64 y.1.arg]) (by go_simp) (fun W hW => by obtain ⟨-, -, -, -, y0, y1, y2, y3⟩ := FC.out W hW; go_simp) ?_
      go_simp
      refine head_step (.slice (some ⟨g, 0, none⟩) L cap) (by go_simp) (fun W hW => by go_simp) ?_
      go_simp
      refine head_step (.int .i64 (h : Int)) (by go_simp) (fun W hW => by go_simp) ?_
      go_simp
      refine head_step (.pointer (some ⟨g, h * 4, none⟩)) (by go_simp) (fun W hW => by go_simp) ?_
      go_simp
      refine head_step (.agg #[.int .i64 x.1.player, .int .i64 x.1.unit, .int .i64 x.1.what, .int .i64 x.1.arg]) (by go_simp) (fun W hW => by obtain ⟨x0, x1, x2, x3, -⟩ := FC.out W hW; go_simp) ?_
      go_simp
      refine head_call (.int .i64 (cmpo y.1 x.1)) 141 #[.agg #[.int .i64 y.1.player, .int .i64 y.1.unit, .int .i64 y.1.what, .int .i64 y.1.arg], .agg #[.int .i64 x.1.player, .int .i64 x.1.unit, .int .i64 x.1.what, .int .i64 x.1.arg]] (by go_simp) (fun W hW => by go_simp) (fun W hW => CC.out W hW) ?_
      go_simp
      intro W hW
      have RW : Hid (Rb W g (fs (A ++ X ++ y :: B)) rest) := RB.out.below hW RB.out.lt
      have KW : Hid (Kp g w W) := K1.out.trans (Kp.of hW)
      by_cases hc : cmpo y.1 x.1 < 0
      · have LX : Hid (lt y x) := (ask_lt IX.out).1 ((klt_iff _ _).1 hc)
        clear hW FC CC
        go_wp2
        go_roundw
        case rel =>
          obtain ⟨n1, n2, n3⟩ := HN.out
          refine ⟨X1, P, x :: (R ++ X3), ?_, ?_, by rw [← H12.out]; simp, HLO.out, fun z hz => ?_, RW.out, KW.out⟩
          · congr 1; omega
          · congr 1; omega
          · rcases List.mem_cons.1 hz with rfl | hz
            · exact LX.out
            · have h1 := PW.out
              have e : X1 ++ (P ++ x :: R) ++ X3 = (X1 ++ P) ++ x :: (R ++ X3) := by simp
              rw [e, List.pairwise_append] at h1
              exact lt_trans LX.out ((List.pairwise_cons.1 h1.2.1).1 z hz)
        case measure => have := HN.out; simp [intOf]; omega
      · have LX : Hid (lt x y) := (ask_ge IX.out).1 (fun h => hc ((klt_iff _ _).2 h))
        clear hW FC CC
        go_wp2
        go_roundw
        case rel =>
          obtain ⟨n1, n2, n3⟩ := HN.out
          refine ⟨X1 ++ (P ++ [x]), R, X3, ?_, ?_, by rw [← H12.out]; simp, fun z hz => ?_, HHI.out, RW.out, KW.out⟩
          · congr 1; simp; omega
          · congr 1; simp; omega
          · rcases List.mem_append.1 hz with hz | hz
            · exact HLO.out z hz
            · rcases List.mem_append.1 hz with hz | hz
              · have h1 := PW.out
                rw [List.append_assoc, List.pairwise_append] at h1
                have h2 := h1.2.1
                rw [List.append_assoc, List.pairwise_append] at h2
                exact lt_trans (h2.2.2 z hz x (by simp)) LX.out
              · simp at hz
                subst hz
                exact LX.out
        case measure => have := HN.out; simp [intOf]; omega
end Go.Proofs.YtoabhfipikkkeaaGreatDoor

namespace Go.Proofs.YtoabhfipikkkeaaGreatDoor
namespace So
theorem rise_lt {X : List T} (h : X.Pairwise lt) {i j : Nat} (hij : i < j) (hj : j < X.length) : lt (X[i]'(by omega)) X[j] := List.pairwise_iff_getElem.1 h i j (by omega) hj hij
theorem rise_le {X : List T} (h : X.Pairwise lt) {i j : Nat} (hij : i ≤ j) (hj : j < X.length) {z : T} (hz : lt X[j] z) : lt (X[i]'(by omega)) z := by
  rcases Nat.lt_or_ge i j with h1 | h1
  · exact lt_trans (rise_lt h h1 hj) hz
  · have : i = j := by omega
    subst this
    exact hz
theorem rise_ge {X : List T} (h : X.Pairwise lt) {i j : Nat} (hij : i ≤ j) (hj : j < X.length) {z : T} (hz : lt z (X[i]'(by omega))) : lt z X[j] := by
  rcases Nat.lt_or_ge i j with h1 | h1
  · exact lt_trans hz (rise_lt h h1 hj)
  · have : i = j := by omega
    subst this
    exact hz
/-- the front of both lies before the rest of both. -/
theorem cut_rise {X Y : List T} (hX : X.Pairwise lt) (hY : Y.Pairwise lt) {k l : Nat} (hk : k ≤ X.length) (hl : l ≤ Y.length)
    (h1 : 0 < k → l < Y.length → ∃ x y, X[k - 1]? = some x ∧ Y[l]? = some y ∧ lt x y) (h2 : k < X.length → 0 < l → ∃ x y, X[k]? = some x ∧ Y[l - 1]? = some y ∧ lt y x) :
    ∀ p ∈ X.take k ++ Y.take l, ∀ q ∈ X.drop k ++ Y.drop l, lt p q := by
  intro p hp q hq
  rcases List.mem_append.1 hp with hp | hp <;> rcases List.mem_append.1 hq with hq | hq
  · have := hX
    rw [← List.take_append_drop k X, List.pairwise_append] at this
    exact this.2.2 p hp q hq
  · obtain ⟨i, hi, rfl⟩ := List.mem_iff_getElem.1 hp
    obtain ⟨j, hj, rfl⟩ := List.mem_iff_getElem.1 hq
    simp at hi hj
    obtain ⟨x, y, e1, e2, h⟩ := h1 (by omega) (by omega)
    obtain ⟨g1, rfl⟩ := List.getElem?_eq_some_iff.1 e1
    obtain ⟨g2, rfl⟩ := List.getElem?_eq_some_iff.1 e2
    simp only [List.getElem_take, List.getElem_drop]
    exact rise_ge hY (by omega) (by omega) (rise_le hX (by omega) g1 h)
  · obtain ⟨i, hi, rfl⟩ := List.mem_iff_getElem.1 hp
    obtain ⟨j, hj, rfl⟩ := List.mem_iff_getElem.1 hq
    simp at hi hj
    obtain ⟨x, y, e1, e2, h⟩ := h2 (by omega) (by omega)
    obtain ⟨g1, rfl⟩ := List.getElem?_eq_some_iff.1 e1
    obtain ⟨g2, rfl⟩ := List.getElem?_eq_some_iff.1 e2
    simp only [List.getElem_take, List.getElem_drop]
    exact rise_ge hX (by omega) (by omega) (rise_le hY (by omega) g2 h)
  · have := hY
    rw [← List.take_append_drop l Y, List.pairwise_append] at this
    exact this.2.2 p hp q hq
/-- in the whole list. -/
theorem in_x (A X Y B : List T) {a i : Nat} (ha : A.length = a) (h0 : a ≤ i) (h1 : i < a + X.length) : (A ++ X ++ Y ++ B)[i]? = X[i - a]? := by
  subst ha
  rw [List.append_assoc, List.append_assoc, List.getElem?_append_right h0, List.getElem?_append_left (by omega)]
theorem in_y (A X Y B : List T) {m i : Nat} (hm : A.length + X.length = m) (h0 : m ≤ i) (h1 : i < m + Y.length) : (A ++ X ++ Y ++ B)[i]? = Y[i - m]? := by
  subst hm
  rw [List.append_assoc, List.getElem?_append_right (by simpa using h0), List.getElem?_append_left (by simp; omega)]
  simp
end So
end Go.Proofs.YtoabhfipikkkeaaGreatDoor

namespace Go.Proofs.YtoabhfipikkkeaaGreatDoor
namespace So
set_option linter.unusedVariables false
theorem cut_here (A X Y B : List T) {a m b n mid lo hi S : Nat} (hX : X.Pairwise lt) (hY : Y.Pairwise lt) (ha : A.length = a) (hm : a + X.length = m) (hb : m + Y.length = b) (hn : mid + m = n) (h1 : a ≤ lo) (h2 : lo ≤ S) (h3 : S ≤ hi) (h4 : hi ≤ m) (h5 : hi ≤ mid) (h6 : lo = a ∨ lo + b = n) (h7 : hi = m ∨ hi = mid) (h8 : n ≤ lo + b)
    (F1 : lo < S → ∃ x y, (A ++ X ++ Y ++ B)[S - 1]? = some x ∧ (A ++ X ++ Y ++ B)[n - S]? = some y ∧ lt x y) (F2 : S < hi → ∃ x y, (A ++ X ++ Y ++ B)[S]? = some x ∧ (A ++ X ++ Y ++ B)[n - 1 - S]? = some y ∧ lt y x) :
    ∃ X1 X2 Y1 Y2, X = X1 ++ X2 ∧ Y = Y1 ++ Y2 ∧ a + X1.length = S ∧ S + X2.length = m ∧ S + Y1.length = mid ∧ (m + Y1.length) + Y2.length = b ∧ ∀ p ∈ X1 ++ Y1, ∀ q ∈ X2 ++ Y2, lt p q := by
  refine ⟨X.take (S - a), X.drop (S - a), Y.take (mid - S), Y.drop (mid - S), (List.take_append_drop _ _).symm, (List.take_append_drop _ _).symm, ?_, ?_, ?_, ?_, ?_⟩
  · rw [List.length_take]; omega
  · rw [List.length_drop]; omega
  · rw [List.length_take]; omega
  · rw [List.length_take, List.length_drop]; omega
  · refine cut_rise hX hY (by omega) (by omega) (fun k0 l0 => ?_) (fun k0 l0 => ?_)
    · obtain ⟨x, y, e1, e2, h⟩ := F1 (by omega)
      rw [in_x A X Y B ha (by omega) (by omega)] at e1
      rw [in_y A X Y B (m := m) (by omega) (by omega) (by omega)] at e2
      exact ⟨x, y, by rw [← e1]; congr 1; omega, by rw [← e2]; congr 1; omega, h⟩
    · obtain ⟨x, y, e1, e2, h⟩ := F2 (by omega)
      rw [in_x A X Y B ha (by omega) (by omega)] at e1
      rw [in_y A X Y B (m := m) (by omega) (by omega) (by omega)] at e2
      exact ⟨x, y, e1, by rw [← e2]; congr 1; omega, h⟩
theorem rise_left {X1 X2 : List T} (h : (X1 ++ X2).Pairwise lt) : X1.Pairwise lt := (List.pairwise_append.1 h).1
theorem rise_right {X1 X2 : List T} (h : (X1 ++ X2).Pairwise lt) : X2.Pairwise lt := (List.pairwise_append.1 h).2.1
theorem end_rise {X1 X2 Y1 Y2 Z1 Z2 : List T} (p1 : Z1.Perm (X1 ++ Y1)) (p2 : Z2.Perm (X2 ++ Y2)) (r1 : Z1.Pairwise lt) (r2 : Z2.Pairwise lt) (h : ∀ p ∈ X1 ++ Y1, ∀ q ∈ X2 ++ Y2, lt p q) :
    (Z1 ++ Z2).Perm ((X1 ++ X2) ++ (Y1 ++ Y2)) ∧ (Z1 ++ Z2).Pairwise lt := by
  refine ⟨?_, cat_rise r1 r2 fun x hx y hy => h x (p1.mem_iff.1 hx) y (p2.mem_iff.1 hy)⟩
  refine (p1.append p2).trans ?_
  have e : (X1 ++ Y1 ++ (X2 ++ Y2)).Perm (X1 ++ (Y1 ++ X2) ++ Y2) := by simp
  refine e.trans ?_
  have e2 : (X1 ++ (Y1 ++ X2) ++ Y2).Perm (X1 ++ (X2 ++ Y1) ++ Y2) := ((List.perm_append_comm).append_left X1).append_right Y2
  refine e2.trans ?_
  simp
end So
end Go.Proofs.YtoabhfipikkkeaaGreatDoor

namespace Go.Proofs.YtoabhfipikkkeaaGreatDoor
open Go.RowKit Go.Proofs.YtoabhfipikkkeaaGreatDoor.So
set_option linter.unusedVariables false

/-- where the two are to be cut. -/
def SyI (D : List T) (g : Nat) (rest : List Value) (w : World) (n lo hi : Nat) (sv rv : Value) (W : World) : Prop := ∃ (st r : Nat), sv = .int .i64 (st : Nat) ∧ rv = .int .i64 (r : Nat) ∧ lo ≤ st ∧ st ≤ r ∧ r ≤ hi ∧ (lo < st → ∃ x y, D[st - 1]? = some x ∧ D[n - st]? = some y ∧ lt x y) ∧ (r < hi → ∃ x y, D[r]? = some x ∧ D[n - 1 - r]? = some y ∧ lt y x) ∧ Rb W g (fs D) rest ∧ Kp g w W
theorem fs_at {D : List T} {i : Nat} {x : T} (h : D[i]? = some x) : (fs D)[i]? = some x.1 := by simp [fs, h]
theorem combos (X1 X2 Y1 Y2 : List T) (h1 : 0 < X1.length + X2.length) (h2 : 0 < Y1.length + Y2.length) (h3 : 0 < X1.length + Y1.length) (h4 : 0 < X2.length + Y2.length) :
    (X1 ≠ [] ∧ X2 ≠ [] ∧ Y1 ≠ [] ∧ Y2 ≠ []) ∨ (X1 = [] ∧ X2 ≠ [] ∧ Y1 ≠ [] ∧ Y2 ≠ []) ∨ (X1 ≠ [] ∧ X2 = [] ∧ Y1 ≠ [] ∧ Y2 ≠ []) ∨ (X1 ≠ [] ∧ X2 ≠ [] ∧ Y1 = [] ∧ Y2 ≠ []) ∨ (X1 ≠ [] ∧ X2 ≠ [] ∧ Y1 ≠ [] ∧ Y2 = []) ∨ (X1 = [] ∧ X2 ≠ [] ∧ Y1 ≠ [] ∧ Y2 = []) ∨ (X1 ≠ [] ∧ X2 = [] ∧ Y1 = [] ∧ Y2 ≠ []) := by
  rcases X1 with _ | ⟨_, _⟩ <;> rcases X2 with _ | ⟨_, _⟩ <;> rcases Y1 with _ | ⟨_, _⟩ <;> rcases Y2 with _ | ⟨_, _⟩ <;> simp at *
def SymIH (N g cap L : Nat) (rest : List Value) : Prop := ∀ (A X Y B : List T) (a m b : Nat) (w : World), X.length + Y.length ≤ N → X ≠ [] → Y ≠ [] → X.Pairwise lt → Y.Pairwise lt → (∀ x ∈ X, ∀ y ∈ Y, x.2 < y.2) → Rb w g (fs (A ++ X ++ Y ++ B)) rest → A.length + X.length + Y.length + B.length = L → A.length = a → a + X.length = m → m + Y.length = b →
    Calls Tryz.prog 207 #[.slice (some ⟨g, 0, none⟩) L cap, .int .i64 (a : Nat), .int .i64 (m : Nat), .int .i64 (b : Nat), .func (.func 141) #[] #[]] w (MergeSays A (X ++ Y) B g rest w)
theorem pos_of_ne {l : List T} (h : l ≠ []) : 0 < l.length := List.length_pos_iff.2 h
end Go.Proofs.YtoabhfipikkkeaaGreatDoor

namespace Go.Proofs.YtoabhfipikkkeaaGreatDoor
open Go.RowKit Go.Proofs.YtoabhfipikkkeaaGreatDoor.So
set_option linter.unusedVariables false

set_option maxRecDepth 100000 in
set_option maxHeartbeats 64000000 in
theorem sym_lo (N : Nat) (A X Y B : List T) (g cap L a m b : Nat) (rest : List Value) (w : World) (ih : SymIH N g cap L rest) (hN : X.length + Y.length ≤ N + 1) (lx : 2 ≤ X.length) (ly : 2 ≤ Y.length) (hX : X.Pairwise lt) (hY : Y.Pairwise lt) (hpl : ∀ x ∈ X, ∀ y ∈ Y, x.2 < y.2) (hr : Rb w g (fs (A ++ X ++ Y ++ B)) rest) (hL : A.length + X.length + Y.length + B.length = L) (hn : L ≤ 1000) (ha : A.length = a) (hm : a + X.length = m) (hb : m + Y.length = b) (hmm : (a + b) / 2 < m) :
    Calls Tryz.prog 207 #[.slice (some ⟨g, 0, none⟩) L cap, .int .i64 (a : Nat), .int .i64 (m : Nat), .int .i64 (b : Nat), .func (.func 141) #[] #[]] w (MergeSays A (X ++ Y) B g rest w) := by
  have IH : Hid (SymIH N g cap L rest) := ih
  have R0 : Hid (Rb w g (fs (A ++ X ++ Y ++ B)) rest) := hr
  have HN : Hid (X.length + Y.length ≤ N + 1) := hN
  have HL : Hid (A.length + X.length + Y.length + B.length = L) := hL
  have HM : Hid (A.length = a ∧ a + X.length = m ∧ m + Y.length = b) := ⟨ha, hm, hb⟩
  have HXY : Hid (X.Pairwise lt ∧ Y.Pairwise lt ∧ ∀ x ∈ X, ∀ y ∈ Y, x.2 < y.2) := ⟨hX, hY, hpl⟩
  have HXL : Hid (2 ≤ X.length ∧ 2 ≤ Y.length) := ⟨lx, ly⟩
  have hbL : b ≤ L := by omega
  have ham : a + 2 ≤ m := by omega
  have hmb : m + 2 ≤ b := by omega
  obtain ⟨dx, hdx⟩ : ∃ d, m - a = d := ⟨_, rfl⟩
  obtain ⟨dy, hdy⟩ : ∃ d, b - m = d := ⟨_, rfl⟩
  obtain ⟨s, hs⟩ : ∃ s, a + b = s := ⟨_, rfl⟩
  rw [hs] at hmm
  obtain ⟨mid, hmid⟩ : ∃ d, s / 2 = d := ⟨_, rfl⟩
  rw [hmid] at hmm
  obtain ⟨n, hnn⟩ : ∃ n, mid + m = n := ⟨_, rfl⟩
  have smi : ((m : Nat) : Int) - (a : Int) = (dx : Nat) := by omega
  have wdx : IntKind.i64.wrap ((dx : Nat) : Int) = (dx : Nat) := by rw [IntKind.wrap_i64]; omega
  have dx1 : (((dx : Nat) : Int) == 1) = false := by
    have : ¬ ((dx : Nat) : Int) = 1 := by omega
    simpa using this
  have sbm : ((b : Nat) : Int) - (m : Int) = (dy : Nat) := by omega
  have wdy : IntKind.i64.wrap ((dy : Nat) : Int) = (dy : Nat) := by rw [IntKind.wrap_i64]; omega
  have dy1 : (((dy : Nat) : Int) == 1) = false := by
    have : ¬ ((dy : Nat) : Int) = 1 := by omega
    simpa using this
  have ss : ((a : Nat) : Int) + (b : Int) = (s : Nat) := by omega
  have ws : IntKind.i64.wrap ((s : Nat) : Int) = (s : Nat) := by rw [IntKind.wrap_i64]; omega
  have sm : ((s : Nat) : Int) / 2 = (mid : Nat) := by omega
  have sn : ((mid : Nat) : Int) + (m : Int) = (n : Nat) := by omega
  have wn : IntKind.i64.wrap ((n : Nat) : Int) = (n : Nat) := by rw [IntKind.wrap_i64]; omega
  have HS : Hid (a < mid ∧ mid < b ∧ mid + m = n ∧ mid + mid ≤ a + b ∧ a + b ≤ mid + mid + 1 ∧ a + 2 ≤ m ∧ m + 2 ≤ b ∧ b ≤ L) := ⟨by omega, by omega, by omega, by omega, by omega, ham, hmb, hbL⟩
  obtain ⟨p, hp⟩ : ∃ p, n - 1 = p := ⟨_, rfl⟩
  have sp : ((n : Nat) : Int) - 1 = (p : Nat) := by omega
  have wp' : IntKind.i64.wrap ((p : Nat) : Int) = (p : Nat) := by rw [IntKind.wrap_i64]; omega
  have HP : Hid (p + 1 = n) := by unfold Hid; omega
  clear hr hN hL hX hY hpl ha hm hb lx ly
  obtain ⟨lo, hlo⟩ : ∃ lo, n - b = lo := ⟨_, rfl⟩
  have HLH : Hid (a ≤ lo ∧ lo ≤ mid ∧ mid ≤ m ∧ mid ≤ mid ∧ (lo = a ∨ lo + b = n) ∧ (mid = m ∨ mid = mid) ∧ n ≤ lo + b) := by refine ⟨by omega, by omega, by omega, by omega, by omega, .inr rfl, by omega⟩
  have hgt : ((mid : Nat) : Int) < (m : Int) := by omega
  have slo : ((n : Nat) : Int) - (b : Int) = (lo : Nat) := by omega
  have wlo : IntKind.i64.wrap ((lo : Nat) : Int) = (lo : Nat) := by rw [IntKind.wrap_i64]; omega
  clear hdx hdy hs hmid hnn hp hmm hlo
  go_enter Tryz.func207, Tryz.ntmps207
  go_wp2
  clear smi wdx dx1 sbm wdy dy1 ss ws sm sn wn sp wp' hgt
  try clear slo wlo
  go_loopw [20, 21] (fun sv rv W => SyI (A ++ X ++ Y ++ B) g rest w n lo mid sv rv W) (fun sv rv _ => (intOf rv).toNat - (intOf sv).toNat)
  case atStart =>
    have h := HLH.out
    exact ⟨lo, mid, rfl, rfl, Nat.le_refl _, h.2.1, Nat.le_refl _, fun h => absurd h (Nat.lt_irrefl _), fun h => absurd h (Nat.lt_irrefl _), R0.out, Kp.refl _ _⟩
  case round =>
    obtain ⟨st, r, rfl, rfl, hst, hsr, hrh, hF1, hF2, hrb, hk⟩ := hrel
    have RB : Hid (Rb wr g (fs (A ++ X ++ Y ++ B)) rest) := hrb
    have K1 : Hid (Kp g w wr) := hk
    have F1 : Hid (lo < st → ∃ x y, (A ++ X ++ Y ++ B)[st - 1]? = some x ∧ (A ++ X ++ Y ++ B)[n - st]? = some y ∧ lt x y) := hF1
    have F2 : Hid (r < mid → ∃ x y, (A ++ X ++ Y ++ B)[r]? = some x ∧ (A ++ X ++ Y ++ B)[n - 1 - r]? = some y ∧ lt y x) := hF2
    have HSR : Hid (lo ≤ st ∧ st ≤ r ∧ r ≤ mid) := ⟨hst, hsr, hrh⟩
    clear hrb hk hF1 hF2
    by_cases he : st = r
    · subst he
      have hb1 := HLH.out
      have hb2 := HS.out
      have hb4 := HM.out
      have hb5 := HSR.out
      have hb6 := HN.out
      have hb7 := HL.out
      obtain ⟨X1, X2, Y1, Y2, hX12, hY12, l1, l2, l3, l4, hcut⟩ := cut_here A X Y B HXY.out.1 HXY.out.2.1 hb4.1 hb4.2.1 hb4.2.2 hb2.2.2.1 hb1.1 hb5.1 hb5.2.2 hb1.2.2.1 hb1.2.2.2.1 (by omega) (by omega) hb1.2.2.2.2.2.2 F1.out F2.out
      subst hX12
      subst hY12
      simp only [List.length_append] at hb4 hb6 hb7
      obtain ⟨e, hee⟩ : ∃ e, m + Y1.length = e := ⟨_, rfl⟩
      have sne : ((n : Nat) : Int) - (st : Int) = (e : Nat) := by omega
      have wne : IntKind.i64.wrap ((e : Nat) : Int) = (e : Nat) := by rw [IntKind.wrap_i64]; omega
      have hlt : ¬ ((st : Nat) : Int) < (st : Int) := by omega
      have CUT : Hid (∀ p ∈ X1 ++ Y1, ∀ q ∈ X2 ++ Y2, lt p q) := hcut
      have LEN : Hid (A.length = a ∧ a + X1.length = st ∧ st + X2.length = m ∧ st + Y1.length = mid ∧ m + Y1.length = e ∧ e + Y2.length = b ∧ mid + X2.length = e ∧ A.length + X1.length + X2.length + Y1.length + Y2.length + B.length = L ∧ X1.length + X2.length + Y1.length + Y2.length ≤ N + 1 ∧ L ≤ 1000) := by refine ⟨hb4.1, l1, l2, l3, hee, by omega, by omega, by omega, by omega, hn⟩
      have CB := combos X1 X2 Y1 Y2 (by have := HXL.out; simp only [List.length_append] at this; omega) (by have := HXL.out; simp only [List.length_append] at this; omega) (by omega) (by omega)
      have RX : Hid (Rb wr g (fs (A ++ (X1 ++ X2) ++ (Y1 ++ Y2) ++ B)) rest) := RB.out
      have hnum := LEN.out
      clear hb1 hb2 hb4 hb5 hb6 hb7 hcut l1 l2 l3 l4 hee hst hsr hrh F1 F2
      rcases CB with ⟨x1, x2, y1, y2⟩ | ⟨x1, x2, y1, y2⟩ | ⟨x1, x2, y1, y2⟩ | ⟨x1, x2, y1, y2⟩ | ⟨x1, x2, y1, y2⟩ | ⟨x1, x2, y1, y2⟩ | ⟨x1, x2, y1, y2⟩
      · have px1 := pos_of_ne x1
        have px2 := pos_of_ne x2
        have py1 := pos_of_ne y1
        have py2 := pos_of_ne y2
        have d1 : ((st : Nat) : Int) < (m : Int) := by omega
        have d2 : ((m : Nat) : Int) < (e : Int) := by omega
        have d3 : ((a : Nat) : Int) < (st : Int) := by omega
        have d4 : ((st : Nat) : Int) < (mid : Int) := by omega
        have d5 : ((mid : Nat) : Int) < (e : Int) := by omega
        have d6 : ((e : Nat) : Int) < (b : Int) := by omega
        clear hnum
        have CR := rotate_any (fs (A ++ X1)) (fs X2) (fs Y1) (fs (Y2 ++ B)) (.func (.func 141) #[] #[]) g cap L st m e rest wr (by have := RX.out; simpa [fs] using this) (by have := LEN.out; simp [fs] at this ⊢; omega) hn (by simpa [fs] using x2) (by simpa [fs] using y1) (by have := LEN.out; simp [fs] at this ⊢; omega) (by have := LEN.out; simp [fs] at this ⊢; omega) (by have := LEN.out; simp [fs] at this ⊢; omega)
        go_wp2_with fail
        refine Calls.mono CR ?_
        rintro er w1 ⟨rfl, hr1, hk1⟩
        have R1 : Hid (Rb w1 g (fs (A ++ X1 ++ Y1 ++ (X2 ++ Y2 ++ B))) rest) := by unfold Hid; simpa [fs] using hr1
        have K2 : Hid (Kp g w w1) := K1.out.trans hk1
        clear hr1 hk1 CR
        have C1 := IH.out A X1 Y1 (X2 ++ Y2 ++ B) a st mid w1 (by have := LEN.out; simp at this ⊢; have := px1; have := py1; have := px2; have := py2; omega) x1 y1 (rise_left HXY.out.1) (rise_left HXY.out.2.1) (fun x hx y hy => HXY.out.2.2 x (by simp [hx]) y (by simp [hy])) R1.out (by have := LEN.out; simp at this ⊢; omega) LEN.out.1 LEN.out.2.1 LEN.out.2.2.2.1
        go_wp2_with fail
        refine Calls.mono C1 ?_
        rintro er w2 ⟨rfl, Z1, z1p, z1r, hr1, hk1⟩
        have R2 : Hid (Rb w2 g (fs (A ++ Z1 ++ (X2 ++ Y2 ++ B))) rest) := hr1
        have K3 : Hid (Kp g w w2) := K2.out.trans hk1
        have P1 : Hid (Z1.Perm (X1 ++ Y1) ∧ Z1.Pairwise lt) := ⟨z1p, z1r⟩
        clear hr1 hk1 C1 z1p z1r
        have hz1 := P1.out.1.length_eq
        have C2 := IH.out (A ++ Z1) X2 Y2 B mid e b w2 (by have := LEN.out; simp at this ⊢; have := px1; have := py1; have := px2; have := py2; omega) x2 y2 (rise_right HXY.out.1) (rise_right HXY.out.2.1) (fun x hx y hy => HXY.out.2.2 x (by simp [hx]) y (by simp [hy])) (by have := R2.out; simpa [fs] using this) (by have := LEN.out; simp at this hz1 ⊢; omega) (by have := LEN.out; simp at this hz1 ⊢; omega) LEN.out.2.2.2.2.2.2.1 LEN.out.2.2.2.2.2.1
        go_wp2_with fail
        refine Calls.mono C2 ?_
        rintro er w3 ⟨rfl, Z2, z2p, z2r, hr1, hk1⟩
        have R3 : Hid (Rb w3 g (fs (A ++ Z1 ++ Z2 ++ B)) rest) := by unfold Hid; simpa [fs] using hr1
        have K4 : Hid (Kp g w w3) := K3.out.trans hk1
        have P2 : Hid (Z2.Perm (X2 ++ Y2) ∧ Z2.Pairwise lt) := ⟨z2p, z2r⟩
        clear hr1 hk1 C2 z2p z2r hz1
        go_wp2
        go_end0
        have ER := end_rise P1.out.1 P2.out.1 P1.out.2 P2.out.2 CUT.out
        exact ⟨rfl, Z1 ++ Z2, by simpa using ER.1, ER.2, by have := R3.out; simpa [fs] using this, K4.out⟩
      · subst x1
        have px2 := pos_of_ne x2
        have py1 := pos_of_ne y1
        have py2 := pos_of_ne y2
        simp only [List.length_nil] at hnum
        have d1 : ((st : Nat) : Int) < (m : Int) := by omega
        have d2 : ((m : Nat) : Int) < (e : Int) := by omega
        have d3 : ¬ ((a : Nat) : Int) < (st : Int) := by omega
        have d4 : ((st : Nat) : Int) < (mid : Int) := by omega
        have d5 : ((mid : Nat) : Int) < (e : Int) := by omega
        have d6 : ((e : Nat) : Int) < (b : Int) := by omega
        clear hnum
        have CR := rotate_any (fs (A ++ [])) (fs X2) (fs Y1) (fs (Y2 ++ B)) (.func (.func 141) #[] #[]) g cap L st m e rest wr (by have := RX.out; simpa [fs] using this) (by have := LEN.out; simp [fs] at this ⊢; omega) hn (by simpa [fs] using x2) (by simpa [fs] using y1) (by have := LEN.out; simp [fs] at this ⊢; omega) (by have := LEN.out; simp [fs] at this ⊢; omega) (by have := LEN.out; simp [fs] at this ⊢; omega)
        go_wp2_with fail
        refine Calls.mono CR ?_
        rintro er w1 ⟨rfl, hr1, hk1⟩
        have R1 : Hid (Rb w1 g (fs (A ++ [] ++ Y1 ++ (X2 ++ Y2 ++ B))) rest) := by unfold Hid; simpa [fs] using hr1
        have K2 : Hid (Kp g w w1) := K1.out.trans hk1
        clear hr1 hk1 CR
        obtain ⟨Z1, hZ1⟩ : ∃ Z, Y1 = Z := ⟨_, rfl⟩
        have R2 : Hid (Rb w1 g (fs (A ++ Z1 ++ (X2 ++ Y2 ++ B))) rest) := by have := R1.out; unfold Hid; rw [← hZ1]; simpa [fs] using this
        have K3 : Hid (Kp g w w1) := K2.out
        have P1 : Hid (Z1.Perm ([] ++ Y1) ∧ Z1.Pairwise lt) := by rw [← hZ1]; exact ⟨by simp, rise_left HXY.out.2.1⟩
        clear hZ1
        have hz1 := P1.out.1.length_eq
        have C2 := IH.out (A ++ Z1) X2 Y2 B mid e b w1 (by have := LEN.out; simp at this ⊢; have := py1; have := px2; have := py2; omega) x2 y2 (rise_right HXY.out.1) (rise_right HXY.out.2.1) (fun x hx y hy => HXY.out.2.2 x (by simp [hx]) y (by simp [hy])) (by have := R2.out; simpa [fs] using this) (by have := LEN.out; simp at this hz1 ⊢; omega) (by have := LEN.out; simp at this hz1 ⊢; omega) LEN.out.2.2.2.2.2.2.1 LEN.out.2.2.2.2.2.1
        go_wp2_with fail
        refine Calls.mono C2 ?_
        rintro er w3 ⟨rfl, Z2, z2p, z2r, hr1, hk1⟩
        have R3 : Hid (Rb w3 g (fs (A ++ Z1 ++ Z2 ++ B)) rest) := by unfold Hid; simpa [fs] using hr1
        have K4 : Hid (Kp g w w3) := K3.out.trans hk1
        have P2 : Hid (Z2.Perm (X2 ++ Y2) ∧ Z2.Pairwise lt) := ⟨z2p, z2r⟩
        clear hr1 hk1 C2 z2p z2r hz1
        go_wp2
        go_end0
        have ER := end_rise P1.out.1 P2.out.1 P1.out.2 P2.out.2 CUT.out
        exact ⟨rfl, Z1 ++ Z2, by simpa using ER.1, ER.2, by have := R3.out; simpa [fs] using this, K4.out⟩
      · have px1 := pos_of_ne x1
        subst x2
        have py1 := pos_of_ne y1
        have py2 := pos_of_ne y2
        simp only [List.length_nil] at hnum
        have d1 : ¬ ((st : Nat) : Int) < (m : Int) := by omega
        have d2 : ((m : Nat) : Int) < (e : Int) := by omega
        have d3 : ((a : Nat) : Int) < (st : Int) := by omega
        have d4 : ((st : Nat) : Int) < (mid : Int) := by omega
        have d5 : ¬ ((mid : Nat) : Int) < (e : Int) := by omega
        have d6 : ((e : Nat) : Int) < (b : Int) := by omega
        clear hnum
        have R1 : Hid (Rb wr g (fs (A ++ X1 ++ Y1 ++ ([] ++ Y2 ++ B))) rest) := by have := RX.out; unfold Hid; simpa [fs] using this
        have K2 : Hid (Kp g w wr) := K1.out
        have C1 := IH.out A X1 Y1 ([] ++ Y2 ++ B) a st mid wr (by have := LEN.out; simp at this ⊢; have := px1; have := py1; have := py2; omega) x1 y1 (rise_left HXY.out.1) (rise_left HXY.out.2.1) (fun x hx y hy => HXY.out.2.2 x (by simp [hx]) y (by simp [hy])) R1.out (by have := LEN.out; simp at this ⊢; omega) LEN.out.1 LEN.out.2.1 LEN.out.2.2.2.1
        go_wp2_with fail
        refine Calls.mono C1 ?_
        rintro er w2 ⟨rfl, Z1, z1p, z1r, hr1, hk1⟩
        have R2 : Hid (Rb w2 g (fs (A ++ Z1 ++ ([] ++ Y2 ++ B))) rest) := hr1
        have K3 : Hid (Kp g w w2) := K2.out.trans hk1
        have P1 : Hid (Z1.Perm (X1 ++ Y1) ∧ Z1.Pairwise lt) := ⟨z1p, z1r⟩
        clear hr1 hk1 C1 z1p z1r
        obtain ⟨Z2, hZ2⟩ : ∃ Z, Y2 = Z := ⟨_, rfl⟩
        have R3 : Hid (Rb w2 g (fs (A ++ Z1 ++ Z2 ++ B)) rest) := by have := R2.out; unfold Hid; rw [← hZ2]; simpa [fs] using this
        have K4 : Hid (Kp g w w2) := K3.out
        have P2 : Hid (Z2.Perm ([] ++ Y2) ∧ Z2.Pairwise lt) := by rw [← hZ2]; exact ⟨by simp, rise_right HXY.out.2.1⟩
        clear hZ2
        go_wp2
        go_end0
        have ER := end_rise P1.out.1 P2.out.1 P1.out.2 P2.out.2 CUT.out
        exact ⟨rfl, Z1 ++ Z2, by simpa using ER.1, ER.2, by have := R3.out; simpa [fs] using this, K4.out⟩
      · have px1 := pos_of_ne x1
        have px2 := pos_of_ne x2
        subst y1
        have py2 := pos_of_ne y2
        simp only [List.length_nil] at hnum
        have d1 : ((st : Nat) : Int) < (m : Int) := by omega
        have d2 : ¬ ((m : Nat) : Int) < (e : Int) := by omega
        have d3 : ((a : Nat) : Int) < (st : Int) := by omega
        have d4 : ¬ ((st : Nat) : Int) < (mid : Int) := by omega
        have d5 : ((mid : Nat) : Int) < (e : Int) := by omega
        have d6 : ((e : Nat) : Int) < (b : Int) := by omega
        clear hnum
        have R1 : Hid (Rb wr g (fs (A ++ X1 ++ [] ++ (X2 ++ Y2 ++ B))) rest) := by have := RX.out; unfold Hid; simpa [fs] using this
        have K2 : Hid (Kp g w wr) := K1.out
        obtain ⟨Z1, hZ1⟩ : ∃ Z, X1 = Z := ⟨_, rfl⟩
        have R2 : Hid (Rb wr g (fs (A ++ Z1 ++ (X2 ++ Y2 ++ B))) rest) := by have := R1.out; unfold Hid; rw [← hZ1]; simpa [fs] using this
        have K3 : Hid (Kp g w wr) := K2.out
        have P1 : Hid (Z1.Perm (X1 ++ []) ∧ Z1.Pairwise lt) := by rw [← hZ1]; exact ⟨by simp, rise_left HXY.out.1⟩
        clear hZ1
        have hz1 := P1.out.1.length_eq
        have C2 := IH.out (A ++ Z1) X2 Y2 B mid e b wr (by have := LEN.out; simp at this ⊢; have := px1; have := px2; have := py2; omega) x2 y2 (rise_right HXY.out.1) (rise_right HXY.out.2.1) (fun x hx y hy => HXY.out.2.2 x (by simp [hx]) y (by simp [hy])) (by have := R2.out; simpa [fs] using this) (by have := LEN.out; simp at this hz1 ⊢; omega) (by have := LEN.out; simp at this hz1 ⊢; omega) LEN.out.2.2.2.2.2.2.1 LEN.out.2.2.2.2.2.1
        go_wp2_with fail
        refine Calls.mono C2 ?_
        rintro er w3 ⟨rfl, Z2, z2p, z2r, hr1, hk1⟩
        have R3 : Hid (Rb w3 g (fs (A ++ Z1 ++ Z2 ++ B)) rest) := by unfold Hid; simpa [fs] using hr1
        have K4 : Hid (Kp g w w3) := K3.out.trans hk1
        have P2 : Hid (Z2.Perm (X2 ++ Y2) ∧ Z2.Pairwise lt) := ⟨z2p, z2r⟩
        clear hr1 hk1 C2 z2p z2r hz1
        go_wp2
        go_end0
        have ER := end_rise P1.out.1 P2.out.1 P1.out.2 P2.out.2 CUT.out
        exact ⟨rfl, Z1 ++ Z2, by simpa using ER.1, ER.2, by have := R3.out; simpa [fs] using this, K4.out⟩
      · have px1 := pos_of_ne x1
        have px2 := pos_of_ne x2
        have py1 := pos_of_ne y1
        subst y2
        simp only [List.length_nil] at hnum
        have d1 : ((st : Nat) : Int) < (m : Int) := by omega
        have d2 : ((m : Nat) : Int) < (e : Int) := by omega
        have d3 : ((a : Nat) : Int) < (st : Int) := by omega
        have d4 : ((st : Nat) : Int) < (mid : Int) := by omega
        have d5 : ((mid : Nat) : Int) < (e : Int) := by omega
        have d6 : ¬ ((e : Nat) : Int) < (b : Int) := by omega
        clear hnum
        have CR := rotate_any (fs (A ++ X1)) (fs X2) (fs Y1) (fs ([] ++ B)) (.func (.func 141) #[] #[]) g cap L st m e rest wr (by have := RX.out; simpa [fs] using this) (by have := LEN.out; simp [fs] at this ⊢; omega) hn (by simpa [fs] using x2) (by simpa [fs] using y1) (by have := LEN.out; simp [fs] at this ⊢; omega) (by have := LEN.out; simp [fs] at this ⊢; omega) (by have := LEN.out; simp [fs] at this ⊢; omega)
        go_wp2_with fail
        refine Calls.mono CR ?_
        rintro er w1 ⟨rfl, hr1, hk1⟩
        have R1 : Hid (Rb w1 g (fs (A ++ X1 ++ Y1 ++ (X2 ++ [] ++ B))) rest) := by unfold Hid; simpa [fs] using hr1
        have K2 : Hid (Kp g w w1) := K1.out.trans hk1
        clear hr1 hk1 CR
        have C1 := IH.out A X1 Y1 (X2 ++ [] ++ B) a st mid w1 (by have := LEN.out; simp at this ⊢; have := px1; have := py1; have := px2; omega) x1 y1 (rise_left HXY.out.1) (rise_left HXY.out.2.1) (fun x hx y hy => HXY.out.2.2 x (by simp [hx]) y (by simp [hy])) R1.out (by have := LEN.out; simp at this ⊢; omega) LEN.out.1 LEN.out.2.1 LEN.out.2.2.2.1
        go_wp2_with fail
        refine Calls.mono C1 ?_
        rintro er w2 ⟨rfl, Z1, z1p, z1r, hr1, hk1⟩
        have R2 : Hid (Rb w2 g (fs (A ++ Z1 ++ (X2 ++ [] ++ B))) rest) := hr1
        have K3 : Hid (Kp g w w2) := K2.out.trans hk1
        have P1 : Hid (Z1.Perm (X1 ++ Y1) ∧ Z1.Pairwise lt) := ⟨z1p, z1r⟩
        clear hr1 hk1 C1 z1p z1r
        obtain ⟨Z2, hZ2⟩ : ∃ Z, X2 = Z := ⟨_, rfl⟩
        have R3 : Hid (Rb w2 g (fs (A ++ Z1 ++ Z2 ++ B)) rest) := by have := R2.out; unfold Hid; rw [← hZ2]; simpa [fs] using this
        have K4 : Hid (Kp g w w2) := K3.out
        have P2 : Hid (Z2.Perm (X2 ++ []) ∧ Z2.Pairwise lt) := by rw [← hZ2]; exact ⟨by simp, rise_right HXY.out.1⟩
        clear hZ2
        go_wp2
        go_end0
        have ER := end_rise P1.out.1 P2.out.1 P1.out.2 P2.out.2 CUT.out
        exact ⟨rfl, Z1 ++ Z2, by simpa using ER.1, ER.2, by have := R3.out; simpa [fs] using this, K4.out⟩
      · subst x1
        have px2 := pos_of_ne x2
        have py1 := pos_of_ne y1
        subst y2
        simp only [List.length_nil] at hnum
        have d1 : ((st : Nat) : Int) < (m : Int) := by omega
        have d2 : ((m : Nat) : Int) < (e : Int) := by omega
        have d3 : ¬ ((a : Nat) : Int) < (st : Int) := by omega
        have d4 : ((st : Nat) : Int) < (mid : Int) := by omega
        have d5 : ((mid : Nat) : Int) < (e : Int) := by omega
        have d6 : ¬ ((e : Nat) : Int) < (b : Int) := by omega
        clear hnum
        have CR := rotate_any (fs (A ++ [])) (fs X2) (fs Y1) (fs ([] ++ B)) (.func (.func 141) #[] #[]) g cap L st m e rest wr (by have := RX.out; simpa [fs] using this) (by have := LEN.out; simp [fs] at this ⊢; omega) hn (by simpa [fs] using x2) (by simpa [fs] using y1) (by have := LEN.out; simp [fs] at this ⊢; omega) (by have := LEN.out; simp [fs] at this ⊢; omega) (by have := LEN.out; simp [fs] at this ⊢; omega)
        go_wp2_with fail
        refine Calls.mono CR ?_
        rintro er w1 ⟨rfl, hr1, hk1⟩
        have R1 : Hid (Rb w1 g (fs (A ++ [] ++ Y1 ++ (X2 ++ [] ++ B))) rest) := by unfold Hid; simpa [fs] using hr1
        have K2 : Hid (Kp g w w1) := K1.out.trans hk1
        clear hr1 hk1 CR
        obtain ⟨Z1, hZ1⟩ : ∃ Z, Y1 = Z := ⟨_, rfl⟩
        have R2 : Hid (Rb w1 g (fs (A ++ Z1 ++ (X2 ++ [] ++ B))) rest) := by have := R1.out; unfold Hid; rw [← hZ1]; simpa [fs] using this
        have K3 : Hid (Kp g w w1) := K2.out
        have P1 : Hid (Z1.Perm ([] ++ Y1) ∧ Z1.Pairwise lt) := by rw [← hZ1]; exact ⟨by simp, rise_left HXY.out.2.1⟩
        clear hZ1
        obtain ⟨Z2, hZ2⟩ : ∃ Z, X2 = Z := ⟨_, rfl⟩
        have R3 : Hid (Rb w1 g (fs (A ++ Z1 ++ Z2 ++ B)) rest) := by have := R2.out; unfold Hid; rw [← hZ2]; simpa [fs] using this
        have K4 : Hid (Kp g w w1) := K3.out
        have P2 : Hid (Z2.Perm (X2 ++ []) ∧ Z2.Pairwise lt) := by rw [← hZ2]; exact ⟨by simp, rise_right HXY.out.1⟩
        clear hZ2
        go_wp2
        go_end0
        have ER := end_rise P1.out.1 P2.out.1 P1.out.2 P2.out.2 CUT.out
        exact ⟨rfl, Z1 ++ Z2, by simpa using ER.1, ER.2, by have := R3.out; simpa [fs] using this, K4.out⟩
      · have px1 := pos_of_ne x1
        subst x2
        subst y1
        have py2 := pos_of_ne y2
        simp only [List.length_nil] at hnum
        have d1 : ¬ ((st : Nat) : Int) < (m : Int) := by omega
        have d2 : ¬ ((m : Nat) : Int) < (e : Int) := by omega
        have d3 : ((a : Nat) : Int) < (st : Int) := by omega
        have d4 : ¬ ((st : Nat) : Int) < (mid : Int) := by omega
        have d5 : ¬ ((mid : Nat) : Int) < (e : Int) := by omega
        have d6 : ((e : Nat) : Int) < (b : Int) := by omega
        clear hnum
        have R1 : Hid (Rb wr g (fs (A ++ X1 ++ [] ++ ([] ++ Y2 ++ B))) rest) := by have := RX.out; unfold Hid; simpa [fs] using this
        have K2 : Hid (Kp g w wr) := K1.out
        obtain ⟨Z1, hZ1⟩ : ∃ Z, X1 = Z := ⟨_, rfl⟩
        have R2 : Hid (Rb wr g (fs (A ++ Z1 ++ ([] ++ Y2 ++ B))) rest) := by have := R1.out; unfold Hid; rw [← hZ1]; simpa [fs] using this
        have K3 : Hid (Kp g w wr) := K2.out
        have P1 : Hid (Z1.Perm (X1 ++ []) ∧ Z1.Pairwise lt) := by rw [← hZ1]; exact ⟨by simp, rise_left HXY.out.1⟩
        clear hZ1
        obtain ⟨Z2, hZ2⟩ : ∃ Z, Y2 = Z := ⟨_, rfl⟩
        have R3 : Hid (Rb wr g (fs (A ++ Z1 ++ Z2 ++ B)) rest) := by have := R2.out; unfold Hid; rw [← hZ2]; simpa [fs] using this
        have K4 : Hid (Kp g w wr) := K3.out
        have P2 : Hid (Z2.Perm ([] ++ Y2) ∧ Z2.Pairwise lt) := by rw [← hZ2]; exact ⟨by simp, rise_right HXY.out.2.1⟩
        clear hZ2
        go_wp2
        go_end0
        have ER := end_rise P1.out.1 P2.out.1 P1.out.2 P2.out.2 CUT.out
        exact ⟨rfl, Z1 ++ Z2, by simpa using ER.1, ER.2, by have := R3.out; simpa [fs] using this, K4.out⟩
    · have hlt : ((st : Nat) : Int) < (r : Int) := by omega
      obtain ⟨t, ht⟩ : ∃ t, st + r = t := ⟨_, rfl⟩
      obtain ⟨c, hc⟩ : ∃ c, t / 2 = c := ⟨_, rfl⟩
      obtain ⟨q, hq⟩ : ∃ q, p - c = q := ⟨_, rfl⟩
      have hb1 := HLH.out
      have hb2 := HS.out
      have hb3 := HP.out
      have hb4 := HM.out
      have hcs : st ≤ c ∧ c < r := by omega
      have tt : ((st : Nat) : Int) + (r : Int) = (t : Nat) := by omega
      have wt : IntKind.i64.wrap ((t : Nat) : Int) = (t : Nat) := by rw [IntKind.wrap_i64]; omega
      have tc : ((t : Nat) : Int) / 2 = (c : Nat) := by omega
      have pq : ((p : Nat) : Int) - (c : Int) = (q : Nat) := by omega
      have wq : IntKind.i64.wrap ((q : Nat) : Int) = (q : Nat) := by rw [IntKind.wrap_i64]; omega
      have hqm : m ≤ q ∧ q < b := by omega
      have hcm : a ≤ c ∧ c < m := by omega
      obtain ⟨x, hx⟩ : ∃ x, X[c - a]? = some x := ⟨_, List.getElem?_eq_getElem (by omega)⟩
      obtain ⟨y, hy⟩ : ∃ y, Y[q - m]? = some y := ⟨_, List.getElem?_eq_getElem (by omega)⟩
      have Hx : Hid ((A ++ X ++ Y ++ B)[c]? = some x) := by unfold Hid; rw [in_x A X Y B hb4.1 hcm.1 (by omega)]; exact hx
      have Hy : Hid ((A ++ X ++ Y ++ B)[q]? = some y) := by unfold Hid; rw [in_y A X Y B (m := m) (by omega) hqm.1 (by omega)]; exact hy
      have IX : Hid (x.2 < y.2) := HXY.out.2.2 x (List.mem_of_getElem? hx) y (List.mem_of_getElem? hy)
      have FC : Hid (∀ W, Below wr.heap.size wr W → W.cell? ⟨g, c * 4, none⟩ = some (.int .i64 x.1.player) ∧ W.cell? ⟨g, c * 4 + 1, none⟩ = some (.int .i64 x.1.unit) ∧ W.cell? ⟨g, c * 4 + 2, none⟩ = some (.int .i64 x.1.what) ∧ W.cell? ⟨g, c * 4 + 3, none⟩ = some (.int .i64 x.1.arg) ∧ W.cell? ⟨g, q * 4, none⟩ = some (.int .i64 y.1.player) ∧ W.cell? ⟨g, q * 4 + 1, none⟩ = some (.int .i64 y.1.unit) ∧ W.cell? ⟨g, q * 4 + 2, none⟩ = some (.int .i64 y.1.what) ∧ W.cell? ⟨g, q * 4 + 3, none⟩ = some (.int .i64 y.1.arg)) := fun W hW => by
        have r := RB.out.below hW RB.out.lt
        obtain ⟨x0, x1, x2, x3⟩ := r.cells (fs_at Hx.out)
        obtain ⟨y0, y1, y2, y3⟩ := r.cells (fs_at Hy.out)
        exact ⟨x0, x1, x2, x3, y0, y1, y2, y3⟩
      have CC : Hid (∀ W, Below wr.heap.size wr W → Calls Tryz.prog 141 #[.agg #[.int .i64 y.1.player, .int .i64 y.1.unit, .int .i64 y.1.what, .int .i64 y.1.arg], .agg #[.int .i64 x.1.player, .int .i64 x.1.unit, .int .i64 x.1.what, .int .i64 x.1.arg]] W fun e w' => e = .returned (.int .i64 (cmpo y.1 x.1)) ∧ Below wr.heap.size wr w') := fun W hW => (compare_any y.1 x.1 W).mono fun e w' ⟨h1, h2⟩ => ⟨h1, hW.trans (h2.mono hW.size)⟩
      have ec := ecmp
      have hcL : ((c : Nat) : Int) < (L : Int) := by omega
      have hqL : ((q : Nat) : Int) < (L : Int) := by omega
      have HC : Hid (st ≤ c ∧ c < r ∧ q + c = p) := ⟨hcs.1, hcs.2, by omega⟩
      clear hb1 hb2 hb3 hb4 ht hc hq hcs hqm hcm hx hy hst hsr hrh
      go_upto_region 35 with fail
      refine wp_region_class 12 (fun W => Below wr.heap.size wr W) (by kernel_rfl) (by kernel_rfl) (Below.refl _ _).drew ?_
      simp only [List.take_succ_cons, List.take_zero, List.drop_succ_cons, List.drop_zero]
      refine head_step (.func (.func 141) #[] #[]) (by go_simp) (fun W hW => by go_simp) ?_
      go_simp
      refine head_step (.slice (some ⟨g, 0, none⟩) L cap) (by go_simp) (fun W hW => by go_simp) ?_
      go_simp
      refine head_step (.int .i64 (p : Int)) (by go_simp) (fun W hW => by go_simp) ?_
      go_simp
      refine head_step (.int .i64 (c : Int)) (by go_simp) (fun W hW => by go_simp) ?_
      go_simp
      refine head_step (.int .i64 (q : Int)) (by go_simp) (fun W hW => by go_simp) ?_
      go_simp
      refine head_step (.pointer (some ⟨g, q * 4, none⟩)) (by go_simp) (fun W hW => by go_simp) ?_
      go_simp
      refine head_step (.agg #[.int .i64 y.1.player, .int .i64 y.1.unit, .int .i64 y.1.what, .int .i64 y.1.arg]) (by go_simp) (fun W hW => by obtain ⟨-, -, -, -, y0, y1, y2, y3⟩ := FC.out W hW; go_simp) ?_
      go_simp
      refine head_step (.slice (some ⟨g, 0, none⟩) L cap) (by go_simp) (fun W hW => by go_simp) ?_
      go_simp
      refine head_step (.int .i64 (c : Int)) (by go_simp) (fun W hW => by go_simp) ?_
      go_simp
      refine head_step (.pointer (some ⟨g, c * 4, none⟩)) (by go_simp) (fun W hW => by go_simp) ?_
      go_simp
      refine head_step (.agg #[.int .i64 x.1.player, .int .i64 x.1.unit, .int .i64 x.1.what, .int .i64 x.1.arg]) (by go_simp) (fun W hW => by obtain ⟨x0, x1, x2, x3, -⟩ := FC.out W hW; go_simp) ?_
      go_simp
      refine head_call (.int .i64 (cmpo y.1 x.1)) 141 #[.agg #[.int .i64 y.1.player, .int .i64 y.1.unit, .int .i64 y.1.what, .int .i64 y.1.arg], .agg #[.int .i64 x.1.player, .int .i64 x.1.unit, .int .i64 x.1.what, .int .i64 x.1.arg]] (by go_simp) (fun W hW => by go_simp) (fun W hW => CC.out W hW) ?_
      go_simp
      intro W hW
      have RW : Hid (Rb W g (fs (A ++ X ++ Y ++ B)) rest) := RB.out.below hW RB.out.lt
      have KW : Hid (Kp g w W) := K1.out.trans (Kp.of hW)
      by_cases hcm : cmpo y.1 x.1 < 0
      · have LX : Hid (lt y x) := (ask_lt IX.out).1 ((klt_iff _ _).1 hcm)
        clear hW FC CC
        go_wp2
        go_roundw
        case rel =>
          obtain ⟨c1, c2, c3⟩ := HC.out
          obtain ⟨s1, s2, s3⟩ := HSR.out
          have hp := HP.out
          have eq : n - 1 - c = q := by omega
          exact ⟨st, c, rfl, rfl, s1, c1, by omega, F1.out, fun _ => ⟨x, y, Hx.out, by rw [eq]; exact Hy.out, LX.out⟩, RW.out, KW.out⟩
        case measure => have := HC.out; simp [intOf]; omega
      · have LX : Hid (lt x y) := (ask_ge IX.out).1 (fun h => hcm ((klt_iff _ _).2 h))
        clear hW FC CC
        go_wp2
        go_roundw
        case rel =>
          obtain ⟨c1, c2, c3⟩ := HC.out
          obtain ⟨s1, s2, s3⟩ := HSR.out
          have hp := HP.out
          have eq : n - (c + 1) = q := by omega
          exact ⟨c + 1, r, rfl, rfl, by omega, by omega, s3, fun _ => ⟨x, y, by rw [Nat.add_sub_cancel]; exact Hx.out, by rw [eq]; exact Hy.out, LX.out⟩, F2.out, RW.out, KW.out⟩
        case measure => have := HC.out; simp [intOf]; omega
end Go.Proofs.YtoabhfipikkkeaaGreatDoor

namespace Go.Proofs.YtoabhfipikkkeaaGreatDoor
open Go.RowKit Go.Proofs.YtoabhfipikkkeaaGreatDoor.So
set_option linter.unusedVariables false

set_option maxRecDepth 100000 in
set_option maxHeartbeats 64000000 in
theorem sym_hi (N : Nat) (A X Y B : List T) (g cap L a m b : Nat) (rest : List Value) (w : World) (ih : SymIH N g cap L rest) (hN : X.length + Y.length ≤ N + 1) (lx : 2 ≤ X.length) (ly : 2 ≤ Y.length) (hX : X.Pairwise lt) (hY : Y.Pairwise lt) (hpl : ∀ x ∈ X, ∀ y ∈ Y, x.2 < y.2) (hr : Rb w g (fs (A ++ X ++ Y ++ B)) rest) (hL : A.length + X.length + Y.length + B.length = L) (hn : L ≤ 1000) (ha : A.length = a) (hm : a + X.length = m) (hb : m + Y.length = b) (hmm : m ≤ (a + b) / 2) :
    Calls Tryz.prog 207 #[.slice (some ⟨g, 0, none⟩) L cap, .int .i64 (a : Nat), .int .i64 (m : Nat), .int .i64 (b : Nat), .func (.func 141) #[] #[]] w (MergeSays A (X ++ Y) B g rest w) := by
  have IH : Hid (SymIH N g cap L rest) := ih
  have R0 : Hid (Rb w g (fs (A ++ X ++ Y ++ B)) rest) := hr
  have HN : Hid (X.length + Y.length ≤ N + 1) := hN
  have HL : Hid (A.length + X.length + Y.length + B.length = L) := hL
  have HM : Hid (A.length = a ∧ a + X.length = m ∧ m + Y.length = b) := ⟨ha, hm, hb⟩
  have HXY : Hid (X.Pairwise lt ∧ Y.Pairwise lt ∧ ∀ x ∈ X, ∀ y ∈ Y, x.2 < y.2) := ⟨hX, hY, hpl⟩
  have HXL : Hid (2 ≤ X.length ∧ 2 ≤ Y.length) := ⟨lx, ly⟩
  have hbL : b ≤ L := by omega
  have ham : a + 2 ≤ m := by omega
  have hmb : m + 2 ≤ b := by omega
  obtain ⟨dx, hdx⟩ : ∃ d, m - a = d := ⟨_, rfl⟩
  obtain ⟨dy, hdy⟩ : ∃ d, b - m = d := ⟨_, rfl⟩
  obtain ⟨s, hs⟩ : ∃ s, a + b = s := ⟨_, rfl⟩
  rw [hs] at hmm
  obtain ⟨mid, hmid⟩ : ∃ d, s / 2 = d := ⟨_, rfl⟩
  rw [hmid] at hmm
  obtain ⟨n, hnn⟩ : ∃ n, mid + m = n := ⟨_, rfl⟩
  have smi : ((m : Nat) : Int) - (a : Int) = (dx : Nat) := by omega
  have wdx : IntKind.i64.wrap ((dx : Nat) : Int) = (dx : Nat) := by rw [IntKind.wrap_i64]; omega
  have dx1 : (((dx : Nat) : Int) == 1) = false := by
    have : ¬ ((dx : Nat) : Int) = 1 := by omega
    simpa using this
  have sbm : ((b : Nat) : Int) - (m : Int) = (dy : Nat) := by omega
  have wdy : IntKind.i64.wrap ((dy : Nat) : Int) = (dy : Nat) := by rw [IntKind.wrap_i64]; omega
  have dy1 : (((dy : Nat) : Int) == 1) = false := by
    have : ¬ ((dy : Nat) : Int) = 1 := by omega
    simpa using this
  have ss : ((a : Nat) : Int) + (b : Int) = (s : Nat) := by omega
  have ws : IntKind.i64.wrap ((s : Nat) : Int) = (s : Nat) := by rw [IntKind.wrap_i64]; omega
  have sm : ((s : Nat) : Int) / 2 = (mid : Nat) := by omega
  have sn : ((mid : Nat) : Int) + (m : Int) = (n : Nat) := by omega
  have wn : IntKind.i64.wrap ((n : Nat) : Int) = (n : Nat) := by rw [IntKind.wrap_i64]; omega
  have HS : Hid (a < mid ∧ mid < b ∧ mid + m = n ∧ mid + mid ≤ a + b ∧ a + b ≤ mid + mid + 1 ∧ a + 2 ≤ m ∧ m + 2 ≤ b ∧ b ≤ L) := ⟨by omega, by omega, by omega, by omega, by omega, ham, hmb, hbL⟩
  obtain ⟨p, hp⟩ : ∃ p, n - 1 = p := ⟨_, rfl⟩
  have sp : ((n : Nat) : Int) - 1 = (p : Nat) := by omega
  have wp' : IntKind.i64.wrap ((p : Nat) : Int) = (p : Nat) := by rw [IntKind.wrap_i64]; omega
  have HP : Hid (p + 1 = n) := by unfold Hid; omega
  clear hr hN hL hX hY hpl ha hm hb lx ly
  have HLH : Hid (a ≤ a ∧ a ≤ m ∧ m ≤ m ∧ m ≤ mid ∧ (a = a ∨ a + b = n) ∧ (m = m ∨ m = mid) ∧ n ≤ a + b) := by refine ⟨by omega, by omega, by omega, by omega, .inl rfl, .inl rfl, by omega⟩
  have hgt : ¬ ((mid : Nat) : Int) < (m : Int) := by omega
  clear hdx hdy hs hmid hnn hp hmm
  go_enter Tryz.func207, Tryz.ntmps207
  go_wp2
  clear smi wdx dx1 sbm wdy dy1 ss ws sm sn wn sp wp' hgt
  try clear slo wlo
  go_loopw [20, 21] (fun sv rv W => SyI (A ++ X ++ Y ++ B) g rest w n a m sv rv W) (fun sv rv _ => (intOf rv).toNat - (intOf sv).toNat)
  case atStart =>
    have h := HLH.out
    exact ⟨a, m, rfl, rfl, Nat.le_refl _, h.2.1, Nat.le_refl _, fun h => absurd h (Nat.lt_irrefl _), fun h => absurd h (Nat.lt_irrefl _), R0.out, Kp.refl _ _⟩
  case round =>
    obtain ⟨st, r, rfl, rfl, hst, hsr, hrh, hF1, hF2, hrb, hk⟩ := hrel
    have RB : Hid (Rb wr g (fs (A ++ X ++ Y ++ B)) rest) := hrb
    have K1 : Hid (Kp g w wr) := hk
    have F1 : Hid (a < st → ∃ x y, (A ++ X ++ Y ++ B)[st - 1]? = some x ∧ (A ++ X ++ Y ++ B)[n - st]? = some y ∧ lt x y) := hF1
    have F2 : Hid (r < m → ∃ x y, (A ++ X ++ Y ++ B)[r]? = some x ∧ (A ++ X ++ Y ++ B)[n - 1 - r]? = some y ∧ lt y x) := hF2
    have HSR : Hid (a ≤ st ∧ st ≤ r ∧ r ≤ m) := ⟨hst, hsr, hrh⟩
    clear hrb hk hF1 hF2
    by_cases he : st = r
    · subst he
      have hb1 := HLH.out
      have hb2 := HS.out
      have hb4 := HM.out
      have hb5 := HSR.out
      have hb6 := HN.out
      have hb7 := HL.out
      obtain ⟨X1, X2, Y1, Y2, hX12, hY12, l1, l2, l3, l4, hcut⟩ := cut_here A X Y B HXY.out.1 HXY.out.2.1 hb4.1 hb4.2.1 hb4.2.2 hb2.2.2.1 hb1.1 hb5.1 hb5.2.2 hb1.2.2.1 hb1.2.2.2.1 (by omega) (by omega) hb1.2.2.2.2.2.2 F1.out F2.out
      subst hX12
      subst hY12
      simp only [List.length_append] at hb4 hb6 hb7
      obtain ⟨e, hee⟩ : ∃ e, m + Y1.length = e := ⟨_, rfl⟩
      have sne : ((n : Nat) : Int) - (st : Int) = (e : Nat) := by omega
      have wne : IntKind.i64.wrap ((e : Nat) : Int) = (e : Nat) := by rw [IntKind.wrap_i64]; omega
      have hlt : ¬ ((st : Nat) : Int) < (st : Int) := by omega
      have CUT : Hid (∀ p ∈ X1 ++ Y1, ∀ q ∈ X2 ++ Y2, lt p q) := hcut
      have LEN : Hid (A.length = a ∧ a + X1.length = st ∧ st + X2.length = m ∧ st + Y1.length = mid ∧ m + Y1.length = e ∧ e + Y2.length = b ∧ mid + X2.length = e ∧ A.length + X1.length + X2.length + Y1.length + Y2.length + B.length = L ∧ X1.length + X2.length + Y1.length + Y2.length ≤ N + 1 ∧ L ≤ 1000) := by refine ⟨hb4.1, l1, l2, l3, hee, by omega, by omega, by omega, by omega, hn⟩
      have CB := combos X1 X2 Y1 Y2 (by have := HXL.out; simp only [List.length_append] at this; omega) (by have := HXL.out; simp only [List.length_append] at this; omega) (by omega) (by omega)
      have RX : Hid (Rb wr g (fs (A ++ (X1 ++ X2) ++ (Y1 ++ Y2) ++ B)) rest) := RB.out
      have hnum := LEN.out
      clear hb1 hb2 hb4 hb5 hb6 hb7 hcut l1 l2 l3 l4 hee hst hsr hrh F1 F2
      rcases CB with ⟨x1, x2, y1, y2⟩ | ⟨x1, x2, y1, y2⟩ | ⟨x1, x2, y1, y2⟩ | ⟨x1, x2, y1, y2⟩ | ⟨x1, x2, y1, y2⟩ | ⟨x1, x2, y1, y2⟩ | ⟨x1, x2, y1, y2⟩
      · have px1 := pos_of_ne x1
        have px2 := pos_of_ne x2
        have py1 := pos_of_ne y1
        have py2 := pos_of_ne y2
        have d1 : ((st : Nat) : Int) < (m : Int) := by omega
        have d2 : ((m : Nat) : Int) < (e : Int) := by omega
        have d3 : ((a : Nat) : Int) < (st : Int) := by omega
        have d4 : ((st : Nat) : Int) < (mid : Int) := by omega
        have d5 : ((mid : Nat) : Int) < (e : Int) := by omega
        have d6 : ((e : Nat) : Int) < (b : Int) := by omega
        clear hnum
        have CR := rotate_any (fs (A ++ X1)) (fs X2) (fs Y1) (fs (Y2 ++ B)) (.func (.func 141) #[] #[]) g cap L st m e rest wr (by have := RX.out; simpa [fs] using this) (by have := LEN.out; simp [fs] at this ⊢; omega) hn (by simpa [fs] using x2) (by simpa [fs] using y1) (by have := LEN.out; simp [fs] at this ⊢; omega) (by have := LEN.out; simp [fs] at this ⊢; omega) (by have := LEN.out; simp [fs] at this ⊢; omega)
        go_wp2_with fail
        refine Calls.mono CR ?_
        rintro er w1 ⟨rfl, hr1, hk1⟩
        have R1 : Hid (Rb w1 g (fs (A ++ X1 ++ Y1 ++ (X2 ++ Y2 ++ B))) rest) := by unfold Hid; simpa [fs] using hr1
        have K2 : Hid (Kp g w w1) := K1.out.trans hk1
        clear hr1 hk1 CR
        have C1 := IH.out A X1 Y1 (X2 ++ Y2 ++ B) a st mid w1 (by have := LEN.out; simp at this ⊢; have := px1; have := py1; have := px2; have := py2; omega) x1 y1 (rise_left HXY.out.1) (rise_left HXY.out.2.1) (fun x hx y hy => HXY.out.2.2 x (by simp [hx]) y (by simp [hy])) R1.out (by have := LEN.out; simp at this ⊢; omega) LEN.out.1 LEN.out.2.1 LEN.out.2.2.2.1
        go_wp2_with fail
        refine Calls.mono C1 ?_
        rintro er w2 ⟨rfl, Z1, z1p, z1r, hr1, hk1⟩
        have R2 : Hid (Rb w2 g (fs (A ++ Z1 ++ (X2 ++ Y2 ++ B))) rest) := hr1
        have K3 : Hid (Kp g w w2) := K2.out.trans hk1
        have P1 : Hid (Z1.Perm (X1 ++ Y1) ∧ Z1.Pairwise lt) := ⟨z1p, z1r⟩
        clear hr1 hk1 C1 z1p z1r
        have hz1 := P1.out.1.length_eq
        have C2 := IH.out (A ++ Z1) X2 Y2 B mid e b w2 (by have := LEN.out; simp at this ⊢; have := px1; have := py1; have := px2; have := py2; omega) x2 y2 (rise_right HXY.out.1) (rise_right HXY.out.2.1) (fun x hx y hy => HXY.out.2.2 x (by simp [hx]) y (by simp [hy])) (by have := R2.out; simpa [fs] using this) (by have := LEN.out; simp at this hz1 ⊢; omega) (by have := LEN.out; simp at this hz1 ⊢; omega) LEN.out.2.2.2.2.2.2.1 LEN.out.2.2.2.2.2.1
        go_wp2_with fail
        refine Calls.mono C2 ?_
        rintro er w3 ⟨rfl, Z2, z2p, z2r, hr1, hk1⟩
        have R3 : Hid (Rb w3 g (fs (A ++ Z1 ++ Z2 ++ B)) rest) := by unfold Hid; simpa [fs] using hr1
        have K4 : Hid (Kp g w w3) := K3.out.trans hk1
        have P2 : Hid (Z2.Perm (X2 ++ Y2) ∧ Z2.Pairwise lt) := ⟨z2p, z2r⟩
        clear hr1 hk1 C2 z2p z2r hz1
        go_wp2
        go_end0
        have ER := end_rise P1.out.1 P2.out.1 P1.out.2 P2.out.2 CUT.out
        exact ⟨rfl, Z1 ++ Z2, by simpa using ER.1, ER.2, by have := R3.out; simpa [fs] using this, K4.out⟩
      · subst x1
        have px2 := pos_of_ne x2
        have py1 := pos_of_ne y1
        have py2 := pos_of_ne y2
        simp only [List.length_nil] at hnum
        have d1 : ((st : Nat) : Int) < (m : Int) := by omega
        have d2 : ((m : Nat) : Int) < (e : Int) := by omega
        have d3 : ¬ ((a : Nat) : Int) < (st : Int) := by omega
        have d4 : ((st : Nat) : Int) < (mid : Int) := by omega
        have d5 : ((mid : Nat) : Int) < (e : Int) := by omega
        have d6 : ((e : Nat) : Int) < (b : Int) := by omega
        clear hnum
        have CR := rotate_any (fs (A ++ [])) (fs X2) (fs Y1) (fs (Y2 ++ B)) (.func (.func 141) #[] #[]) g cap L st m e rest wr (by have := RX.out; simpa [fs] using this) (by have := LEN.out; simp [fs] at this ⊢; omega) hn (by simpa [fs] using x2) (by simpa [fs] using y1) (by have := LEN.out; simp [fs] at this ⊢; omega) (by have := LEN.out; simp [fs] at this ⊢; omega) (by have := LEN.out; simp [fs] at this ⊢; omega)
        go_wp2_with fail
        refine Calls.mono CR ?_
        rintro er w1 ⟨rfl, hr1, hk1⟩
        have R1 : Hid (Rb w1 g (fs (A ++ [] ++ Y1 ++ (X2 ++ Y2 ++ B))) rest) := by unfold Hid; simpa [fs] using hr1
        have K2 : Hid (Kp g w w1) := K1.out.trans hk1
        clear hr1 hk1 CR
        obtain ⟨Z1, hZ1⟩ : ∃ Z, Y1 = Z := ⟨_, rfl⟩
        have R2 : Hid (Rb w1 g (fs (A ++ Z1 ++ (X2 ++ Y2 ++ B))) rest) := by have := R1.out; unfold Hid; rw [← hZ1]; simpa [fs] using this
        have K3 : Hid (Kp g w w1) := K2.out
        have P1 : Hid (Z1.Perm ([] ++ Y1) ∧ Z1.Pairwise lt) := by rw [← hZ1]; exact ⟨by simp, rise_left HXY.out.2.1⟩
        clear hZ1
        have hz1 := P1.out.1.length_eq
        have C2 := IH.out (A ++ Z1) X2 Y2 B mid e b w1 (by have := LEN.out; simp at this ⊢; have := py1; have := px2; have := py2; omega) x2 y2 (rise_right HXY.out.1) (rise_right HXY.out.2.1) (fun x hx y hy => HXY.out.2.2 x (by simp [hx]) y (by simp [hy])) (by have := R2.out; simpa [fs] using this) (by have := LEN.out; simp at this hz1 ⊢; omega) (by have := LEN.out; simp at this hz1 ⊢; omega) LEN.out.2.2.2.2.2.2.1 LEN.out.2.2.2.2.2.1
        go_wp2_with fail
        refine Calls.mono C2 ?_
        rintro er w3 ⟨rfl, Z2, z2p, z2r, hr1, hk1⟩
        have R3 : Hid (Rb w3 g (fs (A ++ Z1 ++ Z2 ++ B)) rest) := by unfold Hid; simpa [fs] using hr1
        have K4 : Hid (Kp g w w3) := K3.out.trans hk1
        have P2 : Hid (Z2.Perm (X2 ++ Y2) ∧ Z2.Pairwise lt) := ⟨z2p, z2r⟩
        clear hr1 hk1 C2 z2p z2r hz1
        go_wp2
        go_end0
        have ER := end_rise P1.out.1 P2.out.1 P1.out.2 P2.out.2 CUT.out
        exact ⟨rfl, Z1 ++ Z2, by simpa using ER.1, ER.2, by have := R3.out; simpa [fs] using this, K4.out⟩
      · have px1 := pos_of_ne x1
        subst x2
        have py1 := pos_of_ne y1
        have py2 := pos_of_ne y2
        simp only [List.length_nil] at hnum
        have d1 : ¬ ((st : Nat) : Int) < (m : Int) := by omega
        have d2 : ((m : Nat) : Int) < (e : Int) := by omega
        have d3 : ((a : Nat) : Int) < (st : Int) := by omega
        have d4 : ((st : Nat) : Int) < (mid : Int) := by omega
        have d5 : ¬ ((mid : Nat) : Int) < (e : Int) := by omega
        have d6 : ((e : Nat) : Int) < (b : Int) := by omega
        clear hnum
        have R1 : Hid (Rb wr g (fs (A ++ X1 ++ Y1 ++ ([] ++ Y2 ++ B))) rest) := by have := RX.out; unfold Hid; simpa [fs] using this
        have K2 : Hid (Kp g w wr) := K1.out
        have C1 := IH.out A X1 Y1 ([] ++ Y2 ++ B) a st mid wr (by have := LEN.out; simp at this ⊢; have := px1; have := py1; have := py2; omega) x1 y1 (rise_left HXY.out.1) (rise_left HXY.out.2.1) (fun x hx y hy => HXY.out.2.2 x (by simp [hx]) y (by simp [hy])) R1.out (by have := LEN.out; simp at this ⊢; omega) LEN.out.1 LEN.out.2.1 LEN.out.2.2.2.1
        go_wp2_with fail
        refine Calls.mono C1 ?_
        rintro er w2 ⟨rfl, Z1, z1p, z1r, hr1, hk1⟩
        have R2 : Hid (Rb w2 g (fs (A ++ Z1 ++ ([] ++ Y2 ++ B))) rest) := hr1
        have K3 : Hid (Kp g w w2) := K2.out.trans hk1
        have P1 : Hid (Z1.Perm (X1 ++ Y1) ∧ Z1.Pairwise lt) := ⟨z1p, z1r⟩
        clear hr1 hk1 C1 z1p z1r
        obtain ⟨Z2, hZ2⟩ : ∃ Z, Y2 = Z := ⟨_, rfl⟩
        have R3 : Hid (Rb w2 g (fs (A ++ Z1 ++ Z2 ++ B)) rest) := by have := R2.out; unfold Hid; rw [← hZ2]; simpa [fs] using this
        have K4 : Hid (Kp g w w2) := K3.out
        have P2 : Hid (Z2.Perm ([] ++ Y2) ∧ Z2.Pairwise lt) := by rw [← hZ2]; exact ⟨by simp, rise_right HXY.out.2.1⟩
        clear hZ2
        go_wp2
        go_end0
        have ER := end_rise P1.out.1 P2.out.1 P1.out.2 P2.out.2 CUT.out
        exact ⟨rfl, Z1 ++ Z2, by simpa using ER.1, ER.2, by have := R3.out; simpa [fs] using this, K4.out⟩
      · have px1 := pos_of_ne x1
        have px2 := pos_of_ne x2
        subst y1
        have py2 := pos_of_ne y2
        simp only [List.length_nil] at hnum
        have d1 : ((st : Nat) : Int) < (m : Int) := by omega
        have d2 : ¬ ((m : Nat) : Int) < (e : Int) := by omega
        have d3 : ((a : Nat) : Int) < (st : Int) := by omega
        have d4 : ¬ ((st : Nat) : Int) < (mid : Int) := by omega
        have d5 : ((mid : Nat) : Int) < (e : Int) := by omega
        have d6 : ((e : Nat) : Int) < (b : Int) := by omega
        clear hnum
        have R1 : Hid (Rb wr g (fs (A ++ X1 ++ [] ++ (X2 ++ Y2 ++ B))) rest) := by have := RX.out; unfold Hid; simpa [fs] using this
        have K2 : Hid (Kp g w wr) := K1.out
        obtain ⟨Z1, hZ1⟩ : ∃ Z, X1 = Z := ⟨_, rfl⟩
        have R2 : Hid (Rb wr g (fs (A ++ Z1 ++ (X2 ++ Y2 ++ B))) rest) := by have := R1.out; unfold Hid; rw [← hZ1]; simpa [fs] using this
        have K3 : Hid (Kp g w wr) := K2.out
        have P1 : Hid (Z1.Perm (X1 ++ []) ∧ Z1.Pairwise lt) := by rw [← hZ1]; exact ⟨by simp, rise_left HXY.out.1⟩
        clear hZ1
        have hz1 := P1.out.1.length_eq
        have C2 := IH.out (A ++ Z1) X2 Y2 B mid e b wr (by have := LEN.out; simp at this ⊢; have := px1; have := px2; have := py2; omega) x2 y2 (rise_right HXY.out.1) (rise_right HXY.out.2.1) (fun x hx y hy => HXY.out.2.2 x (by simp [hx]) y (by simp [hy])) (by have := R2.out; simpa [fs] using this) (by have := LEN.out; simp at this hz1 ⊢; omega) (by have := LEN.out; simp at this hz1 ⊢; omega) LEN.out.2.2.2.2.2.2.1 LEN.out.2.2.2.2.2.1
        go_wp2_with fail
        refine Calls.mono C2 ?_
        rintro er w3 ⟨rfl, Z2, z2p, z2r, hr1, hk1⟩
        have R3 : Hid (Rb w3 g (fs (A ++ Z1 ++ Z2 ++ B)) rest) := by unfold Hid; simpa [fs] using hr1
        have K4 : Hid (Kp g w w3) := K3.out.trans hk1
        have P2 : Hid (Z2.Perm (X2 ++ Y2) ∧ Z2.Pairwise lt) := ⟨z2p, z2r⟩
        clear hr1 hk1 C2 z2p z2r hz1
        go_wp2
        go_end0
        have ER := end_rise P1.out.1 P2.out.1 P1.out.2 P2.out.2 CUT.out
        exact ⟨rfl, Z1 ++ Z2, by simpa using ER.1, ER.2, by have := R3.out; simpa [fs] using this, K4.out⟩
      · have px1 := pos_of_ne x1
        have px2 := pos_of_ne x2
        have py1 := pos_of_ne y1
        subst y2
        simp only [List.length_nil] at hnum
        have d1 : ((st : Nat) : Int) < (m : Int) := by omega
        have d2 : ((m : Nat) : Int) < (e : Int) := by omega
        have d3 : ((a : Nat) : Int) < (st : Int) := by omega
        have d4 : ((st : Nat) : Int) < (mid : Int) := by omega
        have d5 : ((mid : Nat) : Int) < (e : Int) := by omega
        have d6 : ¬ ((e : Nat) : Int) < (b : Int) := by omega
        clear hnum
        have CR := rotate_any (fs (A ++ X1)) (fs X2) (fs Y1) (fs ([] ++ B)) (.func (.func 141) #[] #[]) g cap L st m e rest wr (by have := RX.out; simpa [fs] using this) (by have := LEN.out; simp [fs] at this ⊢; omega) hn (by simpa [fs] using x2) (by simpa [fs] using y1) (by have := LEN.out; simp [fs] at this ⊢; omega) (by have := LEN.out; simp [fs] at this ⊢; omega) (by have := LEN.out; simp [fs] at this ⊢; omega)
        go_wp2_with fail
        refine Calls.mono CR ?_
        rintro er w1 ⟨rfl, hr1, hk1⟩
        have R1 : Hid (Rb w1 g (fs (A ++ X1 ++ Y1 ++ (X2 ++ [] ++ B))) rest) := by unfold Hid; simpa [fs] using hr1
        have K2 : Hid (Kp g w w1) := K1.out.trans hk1
        clear hr1 hk1 CR
        have C1 := IH.out A X1 Y1 (X2 ++ [] ++ B) a st mid w1 (by have := LEN.out; simp at this ⊢; have := px1; have := py1; have := px2; omega) x1 y1 (rise_left HXY.out.1) (rise_left HXY.out.2.1) (fun x hx y hy => HXY.out.2.2 x (by simp [hx]) y (by simp [hy])) R1.out (by have := LEN.out; simp at this ⊢; omega) LEN.out.1 LEN.out.2.1 LEN.out.2.2.2.1
        go_wp2_with fail
        refine Calls.mono C1 ?_
        rintro er w2 ⟨rfl, Z1, z1p, z1r, hr1, hk1⟩
        have R2 : Hid (Rb w2 g (fs (A ++ Z1 ++ (X2 ++ [] ++ B))) rest) := hr1
        have K3 : Hid (Kp g w w2) := K2.out.trans hk1
        have P1 : Hid (Z1.Perm (X1 ++ Y1) ∧ Z1.Pairwise lt) := ⟨z1p, z1r⟩
        clear hr1 hk1 C1 z1p z1r
        obtain ⟨Z2, hZ2⟩ : ∃ Z, X2 = Z := ⟨_, rfl⟩
        have R3 : Hid (Rb w2 g (fs (A ++ Z1 ++ Z2 ++ B)) rest) := by have := R2.out; unfold Hid; rw [← hZ2]; simpa [fs] using this
        have K4 : Hid (Kp g w w2) := K3.out
        have P2 : Hid (Z2.Perm (X2 ++ []) ∧ Z2.Pairwise lt) := by rw [← hZ2]; exact ⟨by simp, rise_right HXY.out.1⟩
        clear hZ2
        go_wp2
        go_end0
        have ER := end_rise P1.out.1 P2.out.1 P1.out.2 P2.out.2 CUT.out
        exact ⟨rfl, Z1 ++ Z2, by simpa using ER.1, ER.2, by have := R3.out; simpa [fs] using this, K4.out⟩
      · subst x1
        have px2 := pos_of_ne x2
        have py1 := pos_of_ne y1
        subst y2
        simp only [List.length_nil] at hnum
        have d1 : ((st : Nat) : Int) < (m : Int) := by omega
        have d2 : ((m : Nat) : Int) < (e : Int) := by omega
        have d3 : ¬ ((a : Nat) : Int) < (st : Int) := by omega
        have d4 : ((st : Nat) : Int) < (mid : Int) := by omega
        have d5 : ((mid : Nat) : Int) < (e : Int) := by omega
        have d6 : ¬ ((e : Nat) : Int) < (b : Int) := by omega
        clear hnum
        have CR := rotate_any (fs (A ++ [])) (fs X2) (fs Y1) (fs ([] ++ B)) (.func (.func 141) #[] #[]) g cap L st m e rest wr (by have := RX.out; simpa [fs] using this) (by have := LEN.out; simp [fs] at this ⊢; omega) hn (by simpa [fs] using x2) (by simpa [fs] using y1) (by have := LEN.out; simp [fs] at this ⊢; omega) (by have := LEN.out; simp [fs] at this ⊢; omega) (by have := LEN.out; simp [fs] at this ⊢; omega)
        go_wp2_with fail
        refine Calls.mono CR ?_
        rintro er w1 ⟨rfl, hr1, hk1⟩
        have R1 : Hid (Rb w1 g (fs (A ++ [] ++ Y1 ++ (X2 ++ [] ++ B))) rest) := by unfold Hid; simpa [fs] using hr1
        have K2 : Hid (Kp g w w1) := K1.out.trans hk1
        clear hr1 hk1 CR
        obtain ⟨Z1, hZ1⟩ : ∃ Z, Y1 = Z := ⟨_, rfl⟩
        have R2 : Hid (Rb w1 g (fs (A ++ Z1 ++ (X2 ++ [] ++ B))) rest) := by have := R1.out; unfold Hid; rw [← hZ1]; simpa [fs] using this
        have K3 : Hid (Kp g w w1) := K2.out
        have P1 : Hid (Z1.Perm ([] ++ Y1) ∧ Z1.Pairwise lt) := by rw [← hZ1]; exact ⟨by simp, rise_left HXY.out.2.1⟩
        clear hZ1
        obtain ⟨Z2, hZ2⟩ : ∃ Z, X2 = Z := ⟨_, rfl⟩
        have R3 : Hid (Rb w1 g (fs (A ++ Z1 ++ Z2 ++ B)) rest) := by have := R2.out; unfold Hid; rw [← hZ2]; simpa [fs] using this
        have K4 : Hid (Kp g w w1) := K3.out
        have P2 : Hid (Z2.Perm (X2 ++ []) ∧ Z2.Pairwise lt) := by rw [← hZ2]; exact ⟨by simp, rise_right HXY.out.1⟩
        clear hZ2
        go_wp2
        go_end0
        have ER := end_rise P1.out.1 P2.out.1 P1.out.2 P2.out.2 CUT.out
        exact ⟨rfl, Z1 ++ Z2, by simpa using ER.1, ER.2, by have := R3.out; simpa [fs] using this, K4.out⟩
      · have px1 := pos_of_ne x1
        subst x2
        subst y1
        have py2 := pos_of_ne y2
        simp only [List.length_nil] at hnum
        have d1 : ¬ ((st : Nat) : Int) < (m : Int) := by omega
        have d2 : ¬ ((m : Nat) : Int) < (e : Int) := by omega
        have d3 : ((a : Nat) : Int) < (st : Int) := by omega
        have d4 : ¬ ((st : Nat) : Int) < (mid : Int) := by omega
        have d5 : ¬ ((mid : Nat) : Int) < (e : Int) := by omega
        have d6 : ((e : Nat) : Int) < (b : Int) := by omega
        clear hnum
        have R1 : Hid (Rb wr g (fs (A ++ X1 ++ [] ++ ([] ++ Y2 ++ B))) rest) := by have := RX.out; unfold Hid; simpa [fs] using this
        have K2 : Hid (Kp g w wr) := K1.out
        obtain ⟨Z1, hZ1⟩ : ∃ Z, X1 = Z := ⟨_, rfl⟩
        have R2 : Hid (Rb wr g (fs (A ++ Z1 ++ ([] ++ Y2 ++ B))) rest) := by have := R1.out; unfold Hid; rw [← hZ1]; simpa [fs] using this
        have K3 : Hid (Kp g w wr) := K2.out
        have P1 : Hid (Z1.Perm (X1 ++ []) ∧ Z1.Pairwise lt) := by rw [← hZ1]; exact ⟨by simp, rise_left HXY.out.1⟩
        clear hZ1
        obtain ⟨Z2, hZ2⟩ : ∃ Z, Y2 = Z := ⟨_, rfl⟩
        have R3 : Hid (Rb wr g (fs (A ++ Z1 ++ Z2 ++ B)) rest) := by have := R2.out; unfold Hid; rw [← hZ2]; simpa [fs] using this
        have K4 : Hid (Kp g w wr) := K3.out
        have P2 : Hid (Z2.Perm ([] ++ Y2) ∧ Z2.Pairwise lt) := by rw [← hZ2]; exact ⟨by simp, rise_right HXY.out.2.1⟩
        clear hZ2
        go_wp2
        go_end0
        have ER := end_rise P1.out.1 P2.out.1 P1.out.2 P2.out.2 CUT.out
        exact ⟨rfl, Z1 ++ Z2, by simpa using ER.1, ER.2, by have := R3.out; simpa [fs] using this, K4.out⟩
    · have hlt : ((st : Nat) : Int) < (r : Int) := by omega
      obtain ⟨t, ht⟩ : ∃ t, st + r = t := ⟨_, rfl⟩
      obtain ⟨c, hc⟩ : ∃ c, t / 2 = c := ⟨_, rfl⟩
      obtain ⟨q, hq⟩ : ∃ q, p - c = q := ⟨_, rfl⟩
      have hb1 := HLH.out
      have hb2 := HS.out
      have hb3 := HP.out
      have hb4 := HM.out
      have hcs : st ≤ c ∧ c < r := by omega
      have tt : ((st : Nat) : Int) + (r : Int) = (t : Nat) := by omega
      have wt : IntKind.i64.wrap ((t : Nat) : Int) = (t : Nat) := by rw [IntKind.wrap_i64]; omega
      have tc : ((t : Nat) : Int) / 2 = (c : Nat) := by omega
      have pq : ((p : Nat) : Int) - (c : Int) = (q : Nat) := by omega
      have wq : IntKind.i64.wrap ((q : Nat) : Int) = (q : Nat) := by rw [IntKind.wrap_i64]; omega
      have hqm : m ≤ q ∧ q < b := by omega
      have hcm : a ≤ c ∧ c < m := by omega
      obtain ⟨x, hx⟩ : ∃ x, X[c - a]? = some x := ⟨_, List.getElem?_eq_getElem (by omega)⟩
      obtain ⟨y, hy⟩ : ∃ y, Y[q - m]? = some y := ⟨_, List.getElem?_eq_getElem (by omega)⟩
      have Hx : Hid ((A ++ X ++ Y ++ B)[c]? = some x) := by unfold Hid; rw [in_x A X Y B hb4.1 hcm.1 (by omega)]; exact hx
      have Hy : Hid ((A ++ X ++ Y ++ B)[q]? = some y) := by unfold Hid; rw [in_y A X Y B (m := m) (by omega) hqm.1 (by omega)]; exact hy
      have IX : Hid (x.2 < y.2) := HXY.out.2.2 x (List.mem_of_getElem? hx) y (List.mem_of_getElem? hy)
      have FC : Hid (∀ W, Below wr.heap.size wr W → W.cell? ⟨g, c * 4, none⟩ = some (.int .i64 x.1.player) ∧ W.cell? ⟨g, c * 4 + 1, none⟩ = some (.int .i64 x.1.unit) ∧ W.cell? ⟨g, c * 4 + 2, none⟩ = some (.int .i64 x.1.what) ∧ W.cell? ⟨g, c * 4 + 3, none⟩ = some (.int .i64 x.1.arg) ∧ W.cell? ⟨g, q * 4, none⟩ = some (.int .i64 y.1.player) ∧ W.cell? ⟨g, q * 4 + 1, none⟩ = some (.int .i64 y.1.unit) ∧ W.cell? ⟨g, q * 4 + 2, none⟩ = some (.int .i64 y.1.what) ∧ W.cell? ⟨g, q * 4 + 3, none⟩ = some (.int .i64 y.1.arg)) := fun W hW => by
        have r := RB.out.below hW RB.out.lt
        obtain ⟨x0, x1, x2, x3⟩ := r.cells (fs_at Hx.out)
        obtain ⟨y0, y1, y2, y3⟩ := r.cells (fs_at Hy.out)
        exact ⟨x0, x1, x2, x3, y0, y1, y2, y3⟩
      have CC : Hid (∀ W, Below wr.heap.size wr W → Calls Tryz.prog 141 #[.agg #[.int .i64 y.1.player, .int .i64 y.1.unit, .int .i64 y.1.what, .int .i64 y.1.arg], .agg #[.int .i64 x.1.player, .int .i64 x.1.unit, .int .i64 x.1.what, .int .i64 x.1.arg]] W fun e w' => e = .returned (.int .i64 (cmpo y.1 x.1)) ∧ Below wr.heap.size wr w') := fun W hW => (compare_any y.1 x.1 W).mono fun e w' ⟨h1, h2⟩ => ⟨h1, hW.trans (h2.mono hW.size)⟩
      have ec := ecmp
      have hcL : ((c : Nat) : Int) < (L : Int) := by omega
      have hqL : ((q : Nat) : Int) < (L : Int) := by omega
      have HC : Hid (st ≤ c ∧ c < r ∧ q + c = p) := ⟨hcs.1, hcs.2, by omega⟩
      clear hb1 hb2 hb3 hb4 ht hc hq hcs hqm hcm hx hy hst hsr hrh
      go_upto_region 35 with fail
      refine wp_region_class 12 (fun W => Below wr.heap.size wr W) (by kernel_rfl) (by kernel_rfl) (Below.refl _ _).drew ?_
      simp only [List.take_succ_cons, List.take_zero, List.drop_succ_cons, List.drop_zero]
      refine head_step (.func (.func 141) #[] #[]) (by go_simp) (fun W hW => by go_simp) ?_
      go_simp
      refine head_step (.slice (some ⟨g, 0, none⟩) L cap) (by go_simp) (fun W hW => by go_simp) ?_
      go_simp
      refine head_step (.int .i64 (p : Int)) (by go_simp) (fun W hW => by go_simp) ?_
      go_simp
      refine head_step (.int .i64 (c : Int)) (by go_simp) (fun W hW => by go_simp) ?_
      go_simp
      refine head_step (.int .i64 (q : Int)) (by go_simp) (fun W hW => by go_simp) ?_
      go_simp
      refine head_step (.pointer (some ⟨g, q * 4, none⟩)) (by go_simp) (fun W hW => by go_simp) ?_
      go_simp
      refine head_step (.agg #[.int .i64 y.1.player, .int .i64 y.1.unit, .int .i64 y.1.what, .int .i64 y.1.arg]) (by go_simp) (fun W hW => by obtain ⟨-, -, -, -, y0, y1, y2, y3⟩ := FC.out W hW; go_simp) ?_
      go_simp
      refine head_step (.slice (some ⟨g, 0, none⟩) L cap) (by go_simp) (fun W hW => by go_simp) ?_
      go_simp
      refine head_step (.int .i64 (c : Int)) (by go_simp) (fun W hW => by go_simp) ?_
      go_simp
      refine head_step (.pointer (some ⟨g, c * 4, none⟩)) (by go_simp) (fun W hW => by go_simp) ?_
      go_simp
      refine head_step (.agg #[.int .i64 x.1.player, .int .i64 x.1.unit, .int .i64 x.1.what, .int .i64 x.1.arg]) (by go_simp) (fun W hW => by obtain ⟨x0, x1, x2, x3, -⟩ := FC.out W hW; go_simp) ?_
      go_simp
      refine head_call (.int .i64 (cmpo y.1 x.1)) 141 #[.agg #[.int .i64 y.1.player, .int .i64 y.1.unit, .int .i64 y.1.what, .int .i64 y.1.arg], .agg #[.int .i64 x.1.player, .int .i64 x.1.unit, .int .i64 x.1.what, .int .i64 x.1.arg]] (by go_simp) (fun W hW => by go_simp) (fun W hW => CC.out W hW) ?_
      go_simp
      intro W hW
      have RW : Hid (Rb W g (fs (A ++ X ++ Y ++ B)) rest) := RB.out.below hW RB.out.lt
      have KW : Hid (Kp g w W) := K1.out.trans (Kp.of hW)
      by_cases hcm : cmpo y.1 x.1 < 0
      · have LX : Hid (lt y x) := (ask_lt IX.out).1 ((klt_iff _ _).1 hcm)
        clear hW FC CC
        go_wp2
        go_roundw
        case rel =>
          obtain ⟨c1, c2, c3⟩ := HC.out
          obtain ⟨s1, s2, s3⟩ := HSR.out
          have hp := HP.out
          have eq : n - 1 - c = q := by omega
          exact ⟨st, c, rfl, rfl, s1, c1, by omega, F1.out, fun _ => ⟨x, y, Hx.out, by rw [eq]; exact Hy.out, LX.out⟩, RW.out, KW.out⟩
        case measure => have := HC.out; simp [intOf]; omega
      · have LX : Hid (lt x y) := (ask_ge IX.out).1 (fun h => hcm ((klt_iff _ _).2 h))
        clear hW FC CC
        go_wp2
        go_roundw
        case rel =>
          obtain ⟨c1, c2, c3⟩ := HC.out
          obtain ⟨s1, s2, s3⟩ := HSR.out
          have hp := HP.out
          have eq : n - (c + 1) = q := by omega
          exact ⟨c + 1, r, rfl, rfl, by omega, by omega, s3, fun _ => ⟨x, y, by rw [Nat.add_sub_cancel]; exact Hx.out, by rw [eq]; exact Hy.out, LX.out⟩, F2.out, RW.out, KW.out⟩
        case measure => have := HC.out; simp [intOf]; omega
end Go.Proofs.YtoabhfipikkkeaaGreatDoor

namespace Go.Proofs.YtoabhfipikkkeaaGreatDoor
open Go.RowKit Go.Proofs.YtoabhfipikkkeaaGreatDoor.So
set_option linter.unusedVariables false

theorem sym_any : ∀ (N : Nat) (A X Y B : List T) (g cap L a m b : Nat) (rest : List Value) (w : World), X.length + Y.length ≤ N → X ≠ [] → Y ≠ [] → X.Pairwise lt → Y.Pairwise lt → (∀ x ∈ X, ∀ y ∈ Y, x.2 < y.2) → Rb w g (fs (A ++ X ++ Y ++ B)) rest → A.length + X.length + Y.length + B.length = L → L ≤ 1000 → A.length = a → a + X.length = m → m + Y.length = b →
    Calls Tryz.prog 207 #[.slice (some ⟨g, 0, none⟩) L cap, .int .i64 (a : Nat), .int .i64 (m : Nat), .int .i64 (b : Nat), .func (.func 141) #[] #[]] w (MergeSays A (X ++ Y) B g rest w)
  | 0, A, X, Y, B, g, cap, L, a, m, b, rest, w, hN, hX0, hY0, hX, hY, hpl, hr, hL, hn, ha, hm, hb => by
    have : X.length = 0 := by omega
    exact absurd (List.length_eq_zero_iff.1 this) hX0
  | N + 1, A, X, Y, B, g, cap, L, a, m, b, rest, w, hN, hX0, hY0, hX, hY, hpl, hr, hL, hn, ha, hm, hb => by
    by_cases hx1 : X.length = 1
    · obtain ⟨x, rfl⟩ := List.length_eq_one_iff.1 hx1
      refine sym_one A x Y B g cap L a m b rest w hY (fun y hy => hpl x (by simp) y hy) (by simpa using hr) (by simpa using hL) hn ha (by simpa using hm) hb
    by_cases hy1 : Y.length = 1
    · obtain ⟨y, rfl⟩ := List.length_eq_one_iff.1 hy1
      refine sym_last A X y B g cap L a m b rest w hX (fun x hx => hpl x hx y (by simp)) hx1 (by simpa using hr) (by simpa using hL) hn ha hm (by simpa using hb)
    have lx : 2 ≤ X.length := by have := List.length_pos_iff.2 hX0; omega
    have ly : 2 ≤ Y.length := by have := List.length_pos_iff.2 hY0; omega
    have IH : SymIH N g cap L rest := fun A X Y B a m b w h1 h2 h3 h4 h5 h6 h7 h8 h9 h10 h11 => sym_any N A X Y B g cap L a m b rest w h1 h2 h3 h4 h5 h6 h7 h8 hn h9 h10 h11
    rcases Nat.lt_or_ge ((a + b) / 2) m with h | h
    · exact sym_lo N A X Y B g cap L a m b rest w IH hN lx ly hX hY hpl hr hL hn ha hm hb h
    · exact sym_hi N A X Y B g cap L a m b rest w IH hN lx ly hX hY hpl hr hL hn ha hm hb h
end Go.Proofs.YtoabhfipikkkeaaGreatDoor

namespace Go.Proofs.YtoabhfipikkkeaaGreatDoor
open Go.RowKit Go.Proofs.YtoabhfipikkkeaaGreatDoor.So
set_option linter.unusedVariables false
set_option linter.unusedSimpArgs false

theorem isort_i (A U B : List T) (g cap n : Nat) (ai bi : Int) (rest : List Value) (w : World) (hU : U.Pairwise (fun x y => x.2 < y.2)) (hr : Rb w g (fs (A ++ U ++ B)) rest) (hL : A.length + U.length + B.length = n) (hn : n ≤ 1000) (ha : ((A.length : Nat) : Int) = ai) (hb : ((A.length + U.length : Nat) : Int) = bi) :
    Calls Tryz.prog 206 #[.slice (some ⟨g, 0, none⟩) n cap, .int .i64 ai, .int .i64 bi, .func (.func 141) #[] #[]] w (SortSays A U B g rest w) := by
  have e : (A ++ U ++ B).length = n := by simp; omega
  have h := isort_any A U B g cap rest w hU hr (by omega)
  rw [e, ha, hb] at h
  exact h
theorem sym_i (A X Y B : List T) (g cap n : Nat) (ai mi bi : Int) (rest : List Value) (w : World) (hX0 : X ≠ []) (hY0 : Y ≠ []) (hX : X.Pairwise lt) (hY : Y.Pairwise lt) (hp : ∀ x ∈ X, ∀ y ∈ Y, x.2 < y.2) (hr : Rb w g (fs (A ++ X ++ Y ++ B)) rest) (hL : A.length + X.length + Y.length + B.length = n) (hn : n ≤ 1000) (ha : ((A.length : Nat) : Int) = ai) (hm : ((A.length + X.length : Nat) : Int) = mi) (hb : ((A.length + X.length + Y.length : Nat) : Int) = bi) :
    Calls Tryz.prog 207 #[.slice (some ⟨g, 0, none⟩) n cap, .int .i64 ai, .int .i64 mi, .int .i64 bi, .func (.func 141) #[] #[]] w (MergeSays A (X ++ Y) B g rest w) := by
  have h := sym_any (X.length + Y.length) A X Y B g cap n _ _ _ rest w (Nat.le_refl _) hX0 hY0 hX hY hp hr hL hn rfl rfl rfl
  rw [ha, hm, hb] at h
  exact h
theorem tag_of {X U V Y : List T} {Z : List T} (hU : (U ++ V).Pairwise (fun x y => x.2 < y.2)) (hX : X.Perm U) (hY : ∀ y ∈ Y, y ∈ V) : ∀ x ∈ X, ∀ y ∈ Y, x.2 < y.2 := fun x hx y hy => (List.pairwise_append.1 hU).2.2 x (hX.mem_iff.1 hx) y (hY y hy)
def StabSays (U : List T) (g : Nat) (rest : List Value) (w : World) (e : Ending) (w' : World) : Prop := e = .returned (.tuple #[]) ∧ ∃ S, S.Perm U ∧ S.Pairwise lt ∧ Rb w' g (fs S) rest ∧ Kp g w w'
theorem ne_of_pos {l : List T} (h : 0 < l.length) : l ≠ [] := List.length_pos_iff.1 h

end Go.Proofs.YtoabhfipikkkeaaGreatDoor

namespace Go.Proofs.YtoabhfipikkkeaaGreatDoor
open Go.RowKit Go.Proofs.YtoabhfipikkkeaaGreatDoor.So
set_option linter.unusedVariables false
set_option linter.unusedSimpArgs false


set_option maxRecDepth 100000 in
set_option maxHeartbeats 16000000 in
theorem stab_a (U1 : List T) (g cap n : Nat) (rest : List Value) (w : World) (h1 : U1.length = n) (hU : (U1).Pairwise (fun x y => x.2 < y.2)) (hr : Rb w g (fs (U1)) rest) (hn : n < 20) :
    Calls Tryz.prog 170 #[.slice (some ⟨g, 0, none⟩) n cap, .int .i64 (n : Nat), .func (.func 141) #[] #[]] w (StabSays (U1) g rest w) := by
  have R0 : Hid (Rb w g (fs (U1)) rest) := hr
  have HU : Hid ((U1).Pairwise (fun x y => x.2 < y.2)) := hU
  have HL : Hid (U1.length = n ∧ n ≤ 60) := ⟨h1, by omega⟩
  have le20 : ¬ (20 : Int) ≤ (n : Nat) := by omega
  have lt20 : ¬ (20 : Int) < (n : Nat) := by omega
  have le40 : ¬ (40 : Int) ≤ (n : Nat) := by omega
  have le80 : ¬ (80 : Int) ≤ (n : Nat) := by omega
  have HN : Hid (n < 20) := hn
  clear hn
  clear hr hU h1
  go_enter Tryz.func170, Tryz.ntmps170
  go_wp2_with fail
  refine wp_loop_rounds 1 ?_
  rw [rounds_succ]
  go_wp2_with fail
  have C : Calls _ _ _ _ _ := isort_i ([]) U1 ([]) g cap n 0 (n : Nat) rest w (HU.out) (by have := R0.out; simpa [fs] using this) (by have q1 := HL.out; have q2 := HN.out;  (try simp only [List.length_append, List.length_nil]); omega) (by have := HL.out; omega) (by have q1 := HL.out; have q2 := HN.out;  (try simp only [List.length_append, List.length_nil]); omega) (by have q1 := HL.out; have q2 := HN.out;  (try simp only [List.length_append, List.length_nil]); omega)
  refine Calls.mono C ?_
  clear C
  rintro er v1 ⟨rfl, S1, hp, hs, hr, hk⟩
  have R1 : Hid (Rb v1 g (fs (S1)) rest) := by unfold Hid; simpa [fs] using hr
  have P1 : Hid (S1.Perm U1 ∧ S1.Pairwise lt) := ⟨hp, hs⟩
  have K1 : Hid (Kp g w v1) := hk
  clear hp hs hr hk
  go_wp2_with fail
  refine wp_loop_rounds 1 ?_
  rw [rounds_succ]
  go_wp2_with fail
  go_wp2
  go_end0
  exact ⟨rfl, S1, P1.out.1, P1.out.2, R1.out, K1.out⟩
end Go.Proofs.YtoabhfipikkkeaaGreatDoor

namespace Go.Proofs.YtoabhfipikkkeaaGreatDoor
open Go.RowKit Go.Proofs.YtoabhfipikkkeaaGreatDoor.So
set_option linter.unusedVariables false
set_option linter.unusedSimpArgs false


set_option maxRecDepth 100000 in
set_option maxHeartbeats 16000000 in
theorem stab_b0 (U1 U2 : List T) (g cap n : Nat) (rest : List Value) (w : World) (h1 : U1.length = 20) (h2 : U2.length = 0) (hU : (U1 ++ U2).Pairwise (fun x y => x.2 < y.2)) (hr : Rb w g (fs (U1 ++ U2)) rest) (hn : n = 20) :
    Calls Tryz.prog 170 #[.slice (some ⟨g, 0, none⟩) n cap, .int .i64 (n : Nat), .func (.func 141) #[] #[]] w (StabSays (U1 ++ U2) g rest w) := by
  have R0 : Hid (Rb w g (fs (U1 ++ U2)) rest) := hr
  have HU : Hid ((U1 ++ U2).Pairwise (fun x y => x.2 < y.2)) := hU
  have HL : Hid (U1.length = 20 ∧ U2.length = 0 ∧ n ≤ 60) := ⟨h1, h2, by omega⟩
  have le20 : (20 : Int) ≤ (n : Nat) := by omega
  have le40 : ¬ (40 : Int) ≤ (n : Nat) := by omega
  have lt20 : ¬ (20 : Int) < (n : Nat) := by omega
  have le80 : ¬ (80 : Int) ≤ (n : Nat) := by omega
  have HN : Hid (n = 20) := hn
  clear hn
  clear hr hU h1 h2
  go_enter Tryz.func170, Tryz.ntmps170
  go_wp2_with fail
  refine wp_loop_rounds 2 ?_
  rw [rounds_succ]
  go_wp2_with fail
  have C : Calls _ _ _ _ _ := isort_i ([]) U1 (U2) g cap n 0 20 rest w ((List.pairwise_append.1 HU.out).1) (by have := R0.out; simpa [fs] using this) (by have q1 := HL.out; have q2 := HN.out;  (try simp only [List.length_append, List.length_nil]); omega) (by have := HL.out; omega) (by have q1 := HL.out; have q2 := HN.out;  (try simp only [List.length_append, List.length_nil]); omega) (by have q1 := HL.out; have q2 := HN.out;  (try simp only [List.length_append, List.length_nil]); omega)
  refine Calls.mono C ?_
  clear C
  rintro er v1 ⟨rfl, S1, hp, hs, hr, hk⟩
  have R1 : Hid (Rb v1 g (fs (S1 ++ U2)) rest) := by unfold Hid; simpa [fs] using hr
  have P1 : Hid (S1.Perm U1 ∧ S1.Pairwise lt) := ⟨hp, hs⟩
  have K1 : Hid (Kp g w v1) := hk
  clear hp hs hr hk
  go_wp2_with fail
  rw [rounds_succ]
  go_wp2_with fail
  have C : Calls _ _ _ _ _ := isort_i (S1) U2 ([]) g cap n 20 (n : Nat) rest v1 ((List.pairwise_append.1 HU.out).2.1) (by have := R1.out; simpa [fs] using this) (by have q1 := HL.out; have q2 := HN.out; have z1 := P1.out.1.length_eq; (try simp only [List.length_append, List.length_nil]); omega) (by have := HL.out; omega) (by have q1 := HL.out; have q2 := HN.out; have z1 := P1.out.1.length_eq; (try simp only [List.length_append, List.length_nil]); omega) (by have q1 := HL.out; have q2 := HN.out; have z1 := P1.out.1.length_eq; (try simp only [List.length_append, List.length_nil]); omega)
  refine Calls.mono C ?_
  clear C
  rintro er v2 ⟨rfl, S2, hp, hs, hr, hk⟩
  have R2 : Hid (Rb v2 g (fs (S1 ++ S2)) rest) := by unfold Hid; simpa [fs] using hr
  have P2 : Hid (S2.Perm U2 ∧ S2.Pairwise lt) := ⟨hp, hs⟩
  have K2 : Hid (Kp g w v2) := K1.out.trans hk
  clear hp hs hr hk
  go_wp2_with fail
  refine wp_loop_rounds 1 ?_
  rw [rounds_succ]
  go_wp2_with fail
  go_wp2
  go_end0
  have eS2 : S2 = [] := List.length_eq_zero_iff.1 (by have q1 := HL.out; have q2 := HN.out; have z := P2.out.1.length_eq; omega)
  have eU2 : U2 = [] := List.length_eq_zero_iff.1 (by have q1 := HL.out; have q2 := HN.out; omega)
  refine ⟨rfl, S1, ?_, P1.out.2, ?_, K2.out⟩
  · have h := P1.out.1
    simpa [eU2] using h
  · have h := R2.out
    rw [eS2] at h
    simpa using h
end Go.Proofs.YtoabhfipikkkeaaGreatDoor

namespace Go.Proofs.YtoabhfipikkkeaaGreatDoor
open Go.RowKit Go.Proofs.YtoabhfipikkkeaaGreatDoor.So
set_option linter.unusedVariables false
set_option linter.unusedSimpArgs false


set_option maxRecDepth 100000 in
set_option maxHeartbeats 16000000 in
theorem stab_b1 (U1 U2 : List T) (g cap n : Nat) (rest : List Value) (w : World) (h1 : U1.length = 20) (h2 : U2.length = n - 20) (hU : (U1 ++ U2).Pairwise (fun x y => x.2 < y.2)) (hr : Rb w g (fs (U1 ++ U2)) rest) (hn : 20 < n ∧ n < 40) :
    Calls Tryz.prog 170 #[.slice (some ⟨g, 0, none⟩) n cap, .int .i64 (n : Nat), .func (.func 141) #[] #[]] w (StabSays (U1 ++ U2) g rest w) := by
  have R0 : Hid (Rb w g (fs (U1 ++ U2)) rest) := hr
  have HU : Hid ((U1 ++ U2).Pairwise (fun x y => x.2 < y.2)) := hU
  have HL : Hid (U1.length = 20 ∧ U2.length = n - 20 ∧ n ≤ 60) := ⟨h1, h2, by omega⟩
  have le20 : (20 : Int) ≤ (n : Nat) := by omega
  have le40 : ¬ (40 : Int) ≤ (n : Nat) := by omega
  have lt20 : (20 : Int) < (n : Nat) := by omega
  have lt40 : ¬ (40 : Int) < (n : Nat) := by omega
  have le80 : ¬ (80 : Int) ≤ (n : Nat) := by omega
  have HN : Hid (20 < n ∧ n < 40) := hn
  clear hn
  clear hr hU h1 h2
  go_enter Tryz.func170, Tryz.ntmps170
  go_wp2_with fail
  refine wp_loop_rounds 2 ?_
  rw [rounds_succ]
  go_wp2_with fail
  have C : Calls _ _ _ _ _ := isort_i ([]) U1 (U2) g cap n 0 20 rest w ((List.pairwise_append.1 HU.out).1) (by have := R0.out; simpa [fs] using this) (by have q1 := HL.out; have q2 := HN.out;  (try simp only [List.length_append, List.length_nil]); omega) (by have := HL.out; omega) (by have q1 := HL.out; have q2 := HN.out;  (try simp only [List.length_append, List.length_nil]); omega) (by have q1 := HL.out; have q2 := HN.out;  (try simp only [List.length_append, List.length_nil]); omega)
  refine Calls.mono C ?_
  clear C
  rintro er v1 ⟨rfl, S1, hp, hs, hr, hk⟩
  have R1 : Hid (Rb v1 g (fs (S1 ++ U2)) rest) := by unfold Hid; simpa [fs] using hr
  have P1 : Hid (S1.Perm U1 ∧ S1.Pairwise lt) := ⟨hp, hs⟩
  have K1 : Hid (Kp g w v1) := hk
  clear hp hs hr hk
  go_wp2_with fail
  rw [rounds_succ]
  go_wp2_with fail
  have C : Calls _ _ _ _ _ := isort_i (S1) U2 ([]) g cap n 20 (n : Nat) rest v1 ((List.pairwise_append.1 HU.out).2.1) (by have := R1.out; simpa [fs] using this) (by have q1 := HL.out; have q2 := HN.out; have z1 := P1.out.1.length_eq; (try simp only [List.length_append, List.length_nil]); omega) (by have := HL.out; omega) (by have q1 := HL.out; have q2 := HN.out; have z1 := P1.out.1.length_eq; (try simp only [List.length_append, List.length_nil]); omega) (by have q1 := HL.out; have q2 := HN.out; have z1 := P1.out.1.length_eq; (try simp only [List.length_append, List.length_nil]); omega)
  refine Calls.mono C ?_
  clear C
  rintro er v2 ⟨rfl, S2, hp, hs, hr, hk⟩
  have R2 : Hid (Rb v2 g (fs (S1 ++ S2)) rest) := by unfold Hid; simpa [fs] using hr
  have P2 : Hid (S2.Perm U2 ∧ S2.Pairwise lt) := ⟨hp, hs⟩
  have K2 : Hid (Kp g w v2) := K1.out.trans hk
  clear hp hs hr hk
  go_wp2_with fail
  refine wp_loop_rounds 2 ?_
  rw [rounds_succ]
  go_wp2_with fail
  refine wp_loop_rounds 1 ?_
  rw [rounds_succ]
  go_wp2_with fail
  have TG : Hid (∀ x ∈ S1, ∀ y ∈ S2, x.2 < y.2) := fun x hx y hy => by have h1 := P1.out.1.mem_iff.1 hx; have h2 := P2.out.1.mem_iff.1 hy; have h3 := HU.out; have e : (U1) ++ (U2) ++ ([]) = U1 ++ U2 := (by simp); rw [← e, List.pairwise_append] at h3; exact (List.pairwise_append.1 h3.1).2.2 x h1 y h2
  have C : Calls _ _ _ _ _ := sym_i ([]) S1 S2 ([]) g cap n 0 20 (n : Nat) rest v2 (ne_of_pos (by have q1 := HL.out; have q2 := HN.out; have z0 := P1.out.1.length_eq; have z1 := P2.out.1.length_eq; (try simp only [List.length_append] at z0 z1); (try simp only [List.length_append, List.length_nil]); omega)) (ne_of_pos (by have q1 := HL.out; have q2 := HN.out; have z0 := P1.out.1.length_eq; have z1 := P2.out.1.length_eq; (try simp only [List.length_append] at z0 z1); (try simp only [List.length_append, List.length_nil]); omega)) P1.out.2 P2.out.2 TG.out (by have := R2.out; simpa [fs] using this) (by have q1 := HL.out; have q2 := HN.out; have z0 := P1.out.1.length_eq; have z1 := P2.out.1.length_eq; (try simp only [List.length_append] at z0 z1); (try simp only [List.length_append, List.length_nil]); omega) (by have := HL.out; omega) (by have q1 := HL.out; have q2 := HN.out; have z0 := P1.out.1.length_eq; have z1 := P2.out.1.length_eq; (try simp only [List.length_append] at z0 z1); (try simp only [List.length_append, List.length_nil]); omega) (by have q1 := HL.out; have q2 := HN.out; have z0 := P1.out.1.length_eq; have z1 := P2.out.1.length_eq; (try simp only [List.length_append] at z0 z1); (try simp only [List.length_append, List.length_nil]); omega) (by have q1 := HL.out; have q2 := HN.out; have z0 := P1.out.1.length_eq; have z1 := P2.out.1.length_eq; (try simp only [List.length_append] at z0 z1); (try simp only [List.length_append, List.length_nil]); omega)
  refine Calls.mono C ?_
  clear C
  rintro er v3 ⟨rfl, S3, hp, hs, hr, hk⟩
  have R3 : Hid (Rb v3 g (fs (S3)) rest) := by unfold Hid; simpa [fs] using hr
  have P3 : Hid (S3.Perm (U1 ++ U2) ∧ S3.Pairwise lt) := ⟨hp.trans (P1.out.1.append P2.out.1), hs⟩
  have K3 : Hid (Kp g w v3) := K2.out.trans hk
  clear hp hs hr hk TG
  go_wp2_with fail
  rw [rounds_succ]
  go_wp2_with fail
  go_wp2
  go_end0
  exact ⟨rfl, S3, P3.out.1, P3.out.2, R3.out, K3.out⟩
end Go.Proofs.YtoabhfipikkkeaaGreatDoor

namespace Go.Proofs.YtoabhfipikkkeaaGreatDoor
open Go.RowKit Go.Proofs.YtoabhfipikkkeaaGreatDoor.So
set_option linter.unusedVariables false
set_option linter.unusedSimpArgs false


set_option maxRecDepth 100000 in
set_option maxHeartbeats 16000000 in
theorem stab_c0 (U1 U2 U3 : List T) (g cap n : Nat) (rest : List Value) (w : World) (h1 : U1.length = 20) (h2 : U2.length = 20) (h3 : U3.length = 0) (hU : (U1 ++ U2 ++ U3).Pairwise (fun x y => x.2 < y.2)) (hr : Rb w g (fs (U1 ++ U2 ++ U3)) rest) (hn : n = 40) :
    Calls Tryz.prog 170 #[.slice (some ⟨g, 0, none⟩) n cap, .int .i64 (n : Nat), .func (.func 141) #[] #[]] w (StabSays (U1 ++ U2 ++ U3) g rest w) := by
  have R0 : Hid (Rb w g (fs (U1 ++ U2 ++ U3)) rest) := hr
  have HU : Hid ((U1 ++ U2 ++ U3).Pairwise (fun x y => x.2 < y.2)) := hU
  have HL : Hid (U1.length = 20 ∧ U2.length = 20 ∧ U3.length = 0 ∧ n ≤ 60) := ⟨h1, h2, h3, by omega⟩
  have le20 : (20 : Int) ≤ (n : Nat) := by omega
  have le40 : (40 : Int) ≤ (n : Nat) := by omega
  have le60 : ¬ (60 : Int) ≤ (n : Nat) := by omega
  have lt20 : (20 : Int) < (n : Nat) := by omega
  have lt40 : ¬ (40 : Int) < (n : Nat) := by omega
  have le80 : ¬ (80 : Int) ≤ (n : Nat) := by omega
  have HN : Hid (n = 40) := hn
  clear hn
  clear hr hU h1 h2 h3
  go_enter Tryz.func170, Tryz.ntmps170
  go_wp2_with fail
  refine wp_loop_rounds 3 ?_
  rw [rounds_succ]
  go_wp2_with fail
  have C : Calls _ _ _ _ _ := isort_i ([]) U1 (U2 ++ U3) g cap n 0 20 rest w ((List.pairwise_append.1 (List.pairwise_append.1 HU.out).1).1) (by have := R0.out; simpa [fs] using this) (by have q1 := HL.out; have q2 := HN.out;  (try simp only [List.length_append, List.length_nil]); omega) (by have := HL.out; omega) (by have q1 := HL.out; have q2 := HN.out;  (try simp only [List.length_append, List.length_nil]); omega) (by have q1 := HL.out; have q2 := HN.out;  (try simp only [List.length_append, List.length_nil]); omega)
  refine Calls.mono C ?_
  clear C
  rintro er v1 ⟨rfl, S1, hp, hs, hr, hk⟩
  have R1 : Hid (Rb v1 g (fs (S1 ++ U2 ++ U3)) rest) := by unfold Hid; simpa [fs] using hr
  have P1 : Hid (S1.Perm U1 ∧ S1.Pairwise lt) := ⟨hp, hs⟩
  have K1 : Hid (Kp g w v1) := hk
  clear hp hs hr hk
  go_wp2_with fail
  rw [rounds_succ]
  go_wp2_with fail
  have C : Calls _ _ _ _ _ := isort_i (S1) U2 (U3) g cap n 20 40 rest v1 ((List.pairwise_append.1 (List.pairwise_append.1 HU.out).1).2.1) (by have := R1.out; simpa [fs] using this) (by have q1 := HL.out; have q2 := HN.out; have z1 := P1.out.1.length_eq; (try simp only [List.length_append, List.length_nil]); omega) (by have := HL.out; omega) (by have q1 := HL.out; have q2 := HN.out; have z1 := P1.out.1.length_eq; (try simp only [List.length_append, List.length_nil]); omega) (by have q1 := HL.out; have q2 := HN.out; have z1 := P1.out.1.length_eq; (try simp only [List.length_append, List.length_nil]); omega)
  refine Calls.mono C ?_
  clear C
  rintro er v2 ⟨rfl, S2, hp, hs, hr, hk⟩
  have R2 : Hid (Rb v2 g (fs (S1 ++ S2 ++ U3)) rest) := by unfold Hid; simpa [fs] using hr
  have P2 : Hid (S2.Perm U2 ∧ S2.Pairwise lt) := ⟨hp, hs⟩
  have K2 : Hid (Kp g w v2) := K1.out.trans hk
  clear hp hs hr hk
  go_wp2_with fail
  rw [rounds_succ]
  go_wp2_with fail
  have C : Calls _ _ _ _ _ := isort_i (S1 ++ S2) U3 ([]) g cap n 40 (n : Nat) rest v2 ((List.pairwise_append.1 HU.out).2.1) (by have := R2.out; simpa [fs] using this) (by have q1 := HL.out; have q2 := HN.out; have z1 := P1.out.1.length_eq; have z2 := P2.out.1.length_eq; (try simp only [List.length_append, List.length_nil]); omega) (by have := HL.out; omega) (by have q1 := HL.out; have q2 := HN.out; have z1 := P1.out.1.length_eq; have z2 := P2.out.1.length_eq; (try simp only [List.length_append, List.length_nil]); omega) (by have q1 := HL.out; have q2 := HN.out; have z1 := P1.out.1.length_eq; have z2 := P2.out.1.length_eq; (try simp only [List.length_append, List.length_nil]); omega)
  refine Calls.mono C ?_
  clear C
  rintro er v3 ⟨rfl, S3, hp, hs, hr, hk⟩
  have R3 : Hid (Rb v3 g (fs (S1 ++ S2 ++ S3)) rest) := by unfold Hid; simpa [fs] using hr
  have P3 : Hid (S3.Perm U3 ∧ S3.Pairwise lt) := ⟨hp, hs⟩
  have K3 : Hid (Kp g w v3) := K2.out.trans hk
  clear hp hs hr hk
  go_wp2_with fail
  refine wp_loop_rounds 2 ?_
  rw [rounds_succ]
  go_wp2_with fail
  refine wp_loop_rounds 2 ?_
  rw [rounds_succ]
  go_wp2_with fail
  have TG : Hid (∀ x ∈ S1, ∀ y ∈ S2, x.2 < y.2) := fun x hx y hy => by have h1 := P1.out.1.mem_iff.1 hx; have h2 := P2.out.1.mem_iff.1 hy; have h3 := HU.out; have e : (U1) ++ (U2) ++ (U3) = U1 ++ U2 ++ U3 := (by simp); rw [← e, List.pairwise_append] at h3; exact (List.pairwise_append.1 h3.1).2.2 x h1 y h2
  have C : Calls _ _ _ _ _ := sym_i ([]) S1 S2 (S3) g cap n 0 20 40 rest v3 (ne_of_pos (by have q1 := HL.out; have q2 := HN.out; have z0 := P1.out.1.length_eq; have z1 := P2.out.1.length_eq; have z2 := P3.out.1.length_eq; (try simp only [List.length_append] at z0 z1 z2); (try simp only [List.length_append, List.length_nil]); omega)) (ne_of_pos (by have q1 := HL.out; have q2 := HN.out; have z0 := P1.out.1.length_eq; have z1 := P2.out.1.length_eq; have z2 := P3.out.1.length_eq; (try simp only [List.length_append] at z0 z1 z2); (try simp only [List.length_append, List.length_nil]); omega)) P1.out.2 P2.out.2 TG.out (by have := R3.out; simpa [fs] using this) (by have q1 := HL.out; have q2 := HN.out; have z0 := P1.out.1.length_eq; have z1 := P2.out.1.length_eq; have z2 := P3.out.1.length_eq; (try simp only [List.length_append] at z0 z1 z2); (try simp only [List.length_append, List.length_nil]); omega) (by have := HL.out; omega) (by have q1 := HL.out; have q2 := HN.out; have z0 := P1.out.1.length_eq; have z1 := P2.out.1.length_eq; have z2 := P3.out.1.length_eq; (try simp only [List.length_append] at z0 z1 z2); (try simp only [List.length_append, List.length_nil]); omega) (by have q1 := HL.out; have q2 := HN.out; have z0 := P1.out.1.length_eq; have z1 := P2.out.1.length_eq; have z2 := P3.out.1.length_eq; (try simp only [List.length_append] at z0 z1 z2); (try simp only [List.length_append, List.length_nil]); omega) (by have q1 := HL.out; have q2 := HN.out; have z0 := P1.out.1.length_eq; have z1 := P2.out.1.length_eq; have z2 := P3.out.1.length_eq; (try simp only [List.length_append] at z0 z1 z2); (try simp only [List.length_append, List.length_nil]); omega)
  refine Calls.mono C ?_
  clear C
  rintro er v4 ⟨rfl, S4, hp, hs, hr, hk⟩
  have R4 : Hid (Rb v4 g (fs (S4 ++ S3)) rest) := by unfold Hid; simpa [fs] using hr
  have P4 : Hid (S4.Perm (U1 ++ U2) ∧ S4.Pairwise lt) := ⟨hp.trans (P1.out.1.append P2.out.1), hs⟩
  have K4 : Hid (Kp g w v4) := K3.out.trans hk
  clear hp hs hr hk TG
  go_wp2_with fail
  rw [rounds_succ]
  go_wp2_with fail
  rw [rounds_succ]
  go_wp2_with fail
  go_wp2
  go_end0
  have eS3 : S3 = [] := List.length_eq_zero_iff.1 (by have q1 := HL.out; have q2 := HN.out; have z := P3.out.1.length_eq; omega)
  have eU3 : U3 = [] := List.length_eq_zero_iff.1 (by have q1 := HL.out; have q2 := HN.out; omega)
  refine ⟨rfl, S4, ?_, P4.out.2, ?_, K4.out⟩
  · have h := P4.out.1
    simpa [eU3] using h
  · have h := R4.out
    rw [eS3] at h
    simpa using h
end Go.Proofs.YtoabhfipikkkeaaGreatDoor

namespace Go.Proofs.YtoabhfipikkkeaaGreatDoor
open Go.RowKit Go.Proofs.YtoabhfipikkkeaaGreatDoor.So
set_option linter.unusedVariables false
set_option linter.unusedSimpArgs false


set_option maxRecDepth 100000 in
set_option maxHeartbeats 16000000 in
theorem stab_c1 (U1 U2 U3 : List T) (g cap n : Nat) (rest : List Value) (w : World) (h1 : U1.length = 20) (h2 : U2.length = 20) (h3 : U3.length = n - 40) (hU : (U1 ++ U2 ++ U3).Pairwise (fun x y => x.2 < y.2)) (hr : Rb w g (fs (U1 ++ U2 ++ U3)) rest) (hn : 40 < n ∧ n < 60) :
    Calls Tryz.prog 170 #[.slice (some ⟨g, 0, none⟩) n cap, .int .i64 (n : Nat), .func (.func 141) #[] #[]] w (StabSays (U1 ++ U2 ++ U3) g rest w) := by
  have R0 : Hid (Rb w g (fs (U1 ++ U2 ++ U3)) rest) := hr
  have HU : Hid ((U1 ++ U2 ++ U3).Pairwise (fun x y => x.2 < y.2)) := hU
  have HL : Hid (U1.length = 20 ∧ U2.length = 20 ∧ U3.length = n - 40 ∧ n ≤ 60) := ⟨h1, h2, h3, by omega⟩
  have le20 : (20 : Int) ≤ (n : Nat) := by omega
  have le40 : (40 : Int) ≤ (n : Nat) := by omega
  have le60 : ¬ (60 : Int) ≤ (n : Nat) := by omega
  have lt20 : (20 : Int) < (n : Nat) := by omega
  have lt40 : (40 : Int) < (n : Nat) := by omega
  have lt80 : ¬ (80 : Int) < (n : Nat) := by omega
  have le80 : ¬ (80 : Int) ≤ (n : Nat) := by omega
  have HN : Hid (40 < n ∧ n < 60) := hn
  clear hn
  clear hr hU h1 h2 h3
  go_enter Tryz.func170, Tryz.ntmps170
  go_wp2_with fail
  refine wp_loop_rounds 3 ?_
  rw [rounds_succ]
  go_wp2_with fail
  have C : Calls _ _ _ _ _ := isort_i ([]) U1 (U2 ++ U3) g cap n 0 20 rest w ((List.pairwise_append.1 (List.pairwise_append.1 HU.out).1).1) (by have := R0.out; simpa [fs] using this) (by have q1 := HL.out; have q2 := HN.out;  (try simp only [List.length_append, List.length_nil]); omega) (by have := HL.out; omega) (by have q1 := HL.out; have q2 := HN.out;  (try simp only [List.length_append, List.length_nil]); omega) (by have q1 := HL.out; have q2 := HN.out;  (try simp only [List.length_append, List.length_nil]); omega)
  refine Calls.mono C ?_
  clear C
  rintro er v1 ⟨rfl, S1, hp, hs, hr, hk⟩
  have R1 : Hid (Rb v1 g (fs (S1 ++ U2 ++ U3)) rest) := by unfold Hid; simpa [fs] using hr
  have P1 : Hid (S1.Perm U1 ∧ S1.Pairwise lt) := ⟨hp, hs⟩
  have K1 : Hid (Kp g w v1) := hk
  clear hp hs hr hk
  go_wp2_with fail
  rw [rounds_succ]
  go_wp2_with fail
  have C : Calls _ _ _ _ _ := isort_i (S1) U2 (U3) g cap n 20 40 rest v1 ((List.pairwise_append.1 (List.pairwise_append.1 HU.out).1).2.1) (by have := R1.out; simpa [fs] using this) (by have q1 := HL.out; have q2 := HN.out; have z1 := P1.out.1.length_eq; (try simp only [List.length_append, List.length_nil]); omega) (by have := HL.out; omega) (by have q1 := HL.out; have q2 := HN.out; have z1 := P1.out.1.length_eq; (try simp only [List.length_append, List.length_nil]); omega) (by have q1 := HL.out; have q2 := HN.out; have z1 := P1.out.1.length_eq; (try simp only [List.length_append, List.length_nil]); omega)
  refine Calls.mono C ?_
  clear C
  rintro er v2 ⟨rfl, S2, hp, hs, hr, hk⟩
  have R2 : Hid (Rb v2 g (fs (S1 ++ S2 ++ U3)) rest) := by unfold Hid; simpa [fs] using hr
  have P2 : Hid (S2.Perm U2 ∧ S2.Pairwise lt) := ⟨hp, hs⟩
  have K2 : Hid (Kp g w v2) := K1.out.trans hk
  clear hp hs hr hk
  go_wp2_with fail
  rw [rounds_succ]
  go_wp2_with fail
  have C : Calls _ _ _ _ _ := isort_i (S1 ++ S2) U3 ([]) g cap n 40 (n : Nat) rest v2 ((List.pairwise_append.1 HU.out).2.1) (by have := R2.out; simpa [fs] using this) (by have q1 := HL.out; have q2 := HN.out; have z1 := P1.out.1.length_eq; have z2 := P2.out.1.length_eq; (try simp only [List.length_append, List.length_nil]); omega) (by have := HL.out; omega) (by have q1 := HL.out; have q2 := HN.out; have z1 := P1.out.1.length_eq; have z2 := P2.out.1.length_eq; (try simp only [List.length_append, List.length_nil]); omega) (by have q1 := HL.out; have q2 := HN.out; have z1 := P1.out.1.length_eq; have z2 := P2.out.1.length_eq; (try simp only [List.length_append, List.length_nil]); omega)
  refine Calls.mono C ?_
  clear C
  rintro er v3 ⟨rfl, S3, hp, hs, hr, hk⟩
  have R3 : Hid (Rb v3 g (fs (S1 ++ S2 ++ S3)) rest) := by unfold Hid; simpa [fs] using hr
  have P3 : Hid (S3.Perm U3 ∧ S3.Pairwise lt) := ⟨hp, hs⟩
  have K3 : Hid (Kp g w v3) := K2.out.trans hk
  clear hp hs hr hk
  go_wp2_with fail
  refine wp_loop_rounds 3 ?_
  rw [rounds_succ]
  go_wp2_with fail
  refine wp_loop_rounds 2 ?_
  rw [rounds_succ]
  go_wp2_with fail
  have TG : Hid (∀ x ∈ S1, ∀ y ∈ S2, x.2 < y.2) := fun x hx y hy => by have h1 := P1.out.1.mem_iff.1 hx; have h2 := P2.out.1.mem_iff.1 hy; have h3 := HU.out; have e : (U1) ++ (U2) ++ (U3) = U1 ++ U2 ++ U3 := (by simp); rw [← e, List.pairwise_append] at h3; exact (List.pairwise_append.1 h3.1).2.2 x h1 y h2
  have C : Calls _ _ _ _ _ := sym_i ([]) S1 S2 (S3) g cap n 0 20 40 rest v3 (ne_of_pos (by have q1 := HL.out; have q2 := HN.out; have z0 := P1.out.1.length_eq; have z1 := P2.out.1.length_eq; have z2 := P3.out.1.length_eq; (try simp only [List.length_append] at z0 z1 z2); (try simp only [List.length_append, List.length_nil]); omega)) (ne_of_pos (by have q1 := HL.out; have q2 := HN.out; have z0 := P1.out.1.length_eq; have z1 := P2.out.1.length_eq; have z2 := P3.out.1.length_eq; (try simp only [List.length_append] at z0 z1 z2); (try simp only [List.length_append, List.length_nil]); omega)) P1.out.2 P2.out.2 TG.out (by have := R3.out; simpa [fs] using this) (by have q1 := HL.out; have q2 := HN.out; have z0 := P1.out.1.length_eq; have z1 := P2.out.1.length_eq; have z2 := P3.out.1.length_eq; (try simp only [List.length_append] at z0 z1 z2); (try simp only [List.length_append, List.length_nil]); omega) (by have := HL.out; omega) (by have q1 := HL.out; have q2 := HN.out; have z0 := P1.out.1.length_eq; have z1 := P2.out.1.length_eq; have z2 := P3.out.1.length_eq; (try simp only [List.length_append] at z0 z1 z2); (try simp only [List.length_append, List.length_nil]); omega) (by have q1 := HL.out; have q2 := HN.out; have z0 := P1.out.1.length_eq; have z1 := P2.out.1.length_eq; have z2 := P3.out.1.length_eq; (try simp only [List.length_append] at z0 z1 z2); (try simp only [List.length_append, List.length_nil]); omega) (by have q1 := HL.out; have q2 := HN.out; have z0 := P1.out.1.length_eq; have z1 := P2.out.1.length_eq; have z2 := P3.out.1.length_eq; (try simp only [List.length_append] at z0 z1 z2); (try simp only [List.length_append, List.length_nil]); omega)
  refine Calls.mono C ?_
  clear C
  rintro er v4 ⟨rfl, S4, hp, hs, hr, hk⟩
  have R4 : Hid (Rb v4 g (fs (S4 ++ S3)) rest) := by unfold Hid; simpa [fs] using hr
  have P4 : Hid (S4.Perm (U1 ++ U2) ∧ S4.Pairwise lt) := ⟨hp.trans (P1.out.1.append P2.out.1), hs⟩
  have K4 : Hid (Kp g w v4) := K3.out.trans hk
  clear hp hs hr hk TG
  go_wp2_with fail
  rw [rounds_succ]
  go_wp2_with fail
  rw [rounds_succ]
  go_wp2_with fail
  refine wp_loop_rounds 1 ?_
  rw [rounds_succ]
  go_wp2_with fail
  have TG : Hid (∀ x ∈ S4, ∀ y ∈ S3, x.2 < y.2) := fun x hx y hy => by have h1 := P4.out.1.mem_iff.1 hx; have h2 := P3.out.1.mem_iff.1 hy; have h3 := HU.out; have e : (U1 ++ U2) ++ (U3) ++ ([]) = U1 ++ U2 ++ U3 := (by simp); rw [← e, List.pairwise_append] at h3; exact (List.pairwise_append.1 h3.1).2.2 x h1 y h2
  have C : Calls _ _ _ _ _ := sym_i ([]) S4 S3 ([]) g cap n 0 40 (n : Nat) rest v4 (ne_of_pos (by have q1 := HL.out; have q2 := HN.out; have z0 := P4.out.1.length_eq; have z1 := P3.out.1.length_eq; (try simp only [List.length_append] at z0 z1); (try simp only [List.length_append, List.length_nil]); omega)) (ne_of_pos (by have q1 := HL.out; have q2 := HN.out; have z0 := P4.out.1.length_eq; have z1 := P3.out.1.length_eq; (try simp only [List.length_append] at z0 z1); (try simp only [List.length_append, List.length_nil]); omega)) P4.out.2 P3.out.2 TG.out (by have := R4.out; simpa [fs] using this) (by have q1 := HL.out; have q2 := HN.out; have z0 := P4.out.1.length_eq; have z1 := P3.out.1.length_eq; (try simp only [List.length_append] at z0 z1); (try simp only [List.length_append, List.length_nil]); omega) (by have := HL.out; omega) (by have q1 := HL.out; have q2 := HN.out; have z0 := P4.out.1.length_eq; have z1 := P3.out.1.length_eq; (try simp only [List.length_append] at z0 z1); (try simp only [List.length_append, List.length_nil]); omega) (by have q1 := HL.out; have q2 := HN.out; have z0 := P4.out.1.length_eq; have z1 := P3.out.1.length_eq; (try simp only [List.length_append] at z0 z1); (try simp only [List.length_append, List.length_nil]); omega) (by have q1 := HL.out; have q2 := HN.out; have z0 := P4.out.1.length_eq; have z1 := P3.out.1.length_eq; (try simp only [List.length_append] at z0 z1); (try simp only [List.length_append, List.length_nil]); omega)
  refine Calls.mono C ?_
  clear C
  rintro er v5 ⟨rfl, S5, hp, hs, hr, hk⟩
  have R5 : Hid (Rb v5 g (fs (S5)) rest) := by unfold Hid; simpa [fs] using hr
  have P5 : Hid (S5.Perm ((U1 ++ U2) ++ U3) ∧ S5.Pairwise lt) := ⟨hp.trans (P4.out.1.append P3.out.1), hs⟩
  have K5 : Hid (Kp g w v5) := K4.out.trans hk
  clear hp hs hr hk TG
  go_wp2_with fail
  rw [rounds_succ]
  go_wp2_with fail
  go_wp2
  go_end0
  exact ⟨rfl, S5, P5.out.1, P5.out.2, R5.out, K5.out⟩
end Go.Proofs.YtoabhfipikkkeaaGreatDoor

namespace Go.Proofs.YtoabhfipikkkeaaGreatDoor
open Go.RowKit Go.Proofs.YtoabhfipikkkeaaGreatDoor.So
set_option linter.unusedVariables false
set_option linter.unusedSimpArgs false


set_option maxRecDepth 100000 in
set_option maxHeartbeats 16000000 in
theorem stab_d (U1 U2 U3 U4 : List T) (g cap n : Nat) (rest : List Value) (w : World) (h1 : U1.length = 20) (h2 : U2.length = 20) (h3 : U3.length = 20) (h4 : U4.length = 0) (hU : (U1 ++ U2 ++ U3 ++ U4).Pairwise (fun x y => x.2 < y.2)) (hr : Rb w g (fs (U1 ++ U2 ++ U3 ++ U4)) rest) (hn : n = 60) :
    Calls Tryz.prog 170 #[.slice (some ⟨g, 0, none⟩) n cap, .int .i64 (n : Nat), .func (.func 141) #[] #[]] w (StabSays (U1 ++ U2 ++ U3 ++ U4) g rest w) := by
  have R0 : Hid (Rb w g (fs (U1 ++ U2 ++ U3 ++ U4)) rest) := hr
  have HU : Hid ((U1 ++ U2 ++ U3 ++ U4).Pairwise (fun x y => x.2 < y.2)) := hU
  have HL : Hid (U1.length = 20 ∧ U2.length = 20 ∧ U3.length = 20 ∧ U4.length = 0 ∧ n ≤ 60) := ⟨h1, h2, h3, h4, by omega⟩
  have le20 : (20 : Int) ≤ (n : Nat) := by omega
  have le40 : (40 : Int) ≤ (n : Nat) := by omega
  have le60 : (60 : Int) ≤ (n : Nat) := by omega
  have le80 : ¬ (80 : Int) ≤ (n : Nat) := by omega
  have lt20 : (20 : Int) < (n : Nat) := by omega
  have lt40 : (40 : Int) < (n : Nat) := by omega
  have lt80 : ¬ (80 : Int) < (n : Nat) := by omega
  have lt60 : ¬ (60 : Int) < (n : Nat) := by omega
  have HN : Hid (n = 60) := hn
  clear hn
  clear hr hU h1 h2 h3 h4
  go_enter Tryz.func170, Tryz.ntmps170
  go_wp2_with fail
  refine wp_loop_rounds 4 ?_
  rw [rounds_succ]
  go_wp2_with fail
  have C : Calls _ _ _ _ _ := isort_i ([]) U1 (U2 ++ U3 ++ U4) g cap n 0 20 rest w ((List.pairwise_append.1 (List.pairwise_append.1 (List.pairwise_append.1 HU.out).1).1).1) (by have := R0.out; simpa [fs] using this) (by have q1 := HL.out; have q2 := HN.out;  (try simp only [List.length_append, List.length_nil]); omega) (by have := HL.out; omega) (by have q1 := HL.out; have q2 := HN.out;  (try simp only [List.length_append, List.length_nil]); omega) (by have q1 := HL.out; have q2 := HN.out;  (try simp only [List.length_append, List.length_nil]); omega)
  refine Calls.mono C ?_
  clear C
  rintro er v1 ⟨rfl, S1, hp, hs, hr, hk⟩
  have R1 : Hid (Rb v1 g (fs (S1 ++ U2 ++ U3 ++ U4)) rest) := by unfold Hid; simpa [fs] using hr
  have P1 : Hid (S1.Perm U1 ∧ S1.Pairwise lt) := ⟨hp, hs⟩
  have K1 : Hid (Kp g w v1) := hk
  clear hp hs hr hk
  go_wp2_with fail
  rw [rounds_succ]
  go_wp2_with fail
  have C : Calls _ _ _ _ _ := isort_i (S1) U2 (U3 ++ U4) g cap n 20 40 rest v1 ((List.pairwise_append.1 (List.pairwise_append.1 (List.pairwise_append.1 HU.out).1).1).2.1) (by have := R1.out; simpa [fs] using this) (by have q1 := HL.out; have q2 := HN.out; have z1 := P1.out.1.length_eq; (try simp only [List.length_append, List.length_nil]); omega) (by have := HL.out; omega) (by have q1 := HL.out; have q2 := HN.out; have z1 := P1.out.1.length_eq; (try simp only [List.length_append, List.length_nil]); omega) (by have q1 := HL.out; have q2 := HN.out; have z1 := P1.out.1.length_eq; (try simp only [List.length_append, List.length_nil]); omega)
  refine Calls.mono C ?_
  clear C
  rintro er v2 ⟨rfl, S2, hp, hs, hr, hk⟩
  have R2 : Hid (Rb v2 g (fs (S1 ++ S2 ++ U3 ++ U4)) rest) := by unfold Hid; simpa [fs] using hr
  have P2 : Hid (S2.Perm U2 ∧ S2.Pairwise lt) := ⟨hp, hs⟩
  have K2 : Hid (Kp g w v2) := K1.out.trans hk
  clear hp hs hr hk
  go_wp2_with fail
  rw [rounds_succ]
  go_wp2_with fail
  have C : Calls _ _ _ _ _ := isort_i (S1 ++ S2) U3 (U4) g cap n 40 60 rest v2 ((List.pairwise_append.1 (List.pairwise_append.1 HU.out).1).2.1) (by have := R2.out; simpa [fs] using this) (by have q1 := HL.out; have q2 := HN.out; have z1 := P1.out.1.length_eq; have z2 := P2.out.1.length_eq; (try simp only [List.length_append, List.length_nil]); omega) (by have := HL.out; omega) (by have q1 := HL.out; have q2 := HN.out; have z1 := P1.out.1.length_eq; have z2 := P2.out.1.length_eq; (try simp only [List.length_append, List.length_nil]); omega) (by have q1 := HL.out; have q2 := HN.out; have z1 := P1.out.1.length_eq; have z2 := P2.out.1.length_eq; (try simp only [List.length_append, List.length_nil]); omega)
  refine Calls.mono C ?_
  clear C
  rintro er v3 ⟨rfl, S3, hp, hs, hr, hk⟩
  have R3 : Hid (Rb v3 g (fs (S1 ++ S2 ++ S3 ++ U4)) rest) := by unfold Hid; simpa [fs] using hr
  have P3 : Hid (S3.Perm U3 ∧ S3.Pairwise lt) := ⟨hp, hs⟩
  have K3 : Hid (Kp g w v3) := K2.out.trans hk
  clear hp hs hr hk
  go_wp2_with fail
  rw [rounds_succ]
  go_wp2_with fail
  have C : Calls _ _ _ _ _ := isort_i (S1 ++ S2 ++ S3) U4 ([]) g cap n 60 (n : Nat) rest v3 ((List.pairwise_append.1 HU.out).2.1) (by have := R3.out; simpa [fs] using this) (by have q1 := HL.out; have q2 := HN.out; have z1 := P1.out.1.length_eq; have z2 := P2.out.1.length_eq; have z3 := P3.out.1.length_eq; (try simp only [List.length_append, List.length_nil]); omega) (by have := HL.out; omega) (by have q1 := HL.out; have q2 := HN.out; have z1 := P1.out.1.length_eq; have z2 := P2.out.1.length_eq; have z3 := P3.out.1.length_eq; (try simp only [List.length_append, List.length_nil]); omega) (by have q1 := HL.out; have q2 := HN.out; have z1 := P1.out.1.length_eq; have z2 := P2.out.1.length_eq; have z3 := P3.out.1.length_eq; (try simp only [List.length_append, List.length_nil]); omega)
  refine Calls.mono C ?_
  clear C
  rintro er v4 ⟨rfl, S4, hp, hs, hr, hk⟩
  have R4 : Hid (Rb v4 g (fs (S1 ++ S2 ++ S3 ++ S4)) rest) := by unfold Hid; simpa [fs] using hr
  have P4 : Hid (S4.Perm U4 ∧ S4.Pairwise lt) := ⟨hp, hs⟩
  have K4 : Hid (Kp g w v4) := K3.out.trans hk
  clear hp hs hr hk
  go_wp2_with fail
  refine wp_loop_rounds 3 ?_
  rw [rounds_succ]
  go_wp2_with fail
  refine wp_loop_rounds 2 ?_
  rw [rounds_succ]
  go_wp2_with fail
  have TG : Hid (∀ x ∈ S1, ∀ y ∈ S2, x.2 < y.2) := fun x hx y hy => by have h1 := P1.out.1.mem_iff.1 hx; have h2 := P2.out.1.mem_iff.1 hy; have h3 := HU.out; have e : (U1) ++ (U2) ++ (U3 ++ U4) = U1 ++ U2 ++ U3 ++ U4 := (by simp); rw [← e, List.pairwise_append] at h3; exact (List.pairwise_append.1 h3.1).2.2 x h1 y h2
  have C : Calls _ _ _ _ _ := sym_i ([]) S1 S2 (S3 ++ S4) g cap n 0 20 40 rest v4 (ne_of_pos (by have q1 := HL.out; have q2 := HN.out; have z0 := P1.out.1.length_eq; have z1 := P2.out.1.length_eq; have z2 := P3.out.1.length_eq; have z3 := P4.out.1.length_eq; (try simp only [List.length_append] at z0 z1 z2 z3); (try simp only [List.length_append, List.length_nil]); omega)) (ne_of_pos (by have q1 := HL.out; have q2 := HN.out; have z0 := P1.out.1.length_eq; have z1 := P2.out.1.length_eq; have z2 := P3.out.1.length_eq; have z3 := P4.out.1.length_eq; (try simp only [List.length_append] at z0 z1 z2 z3); (try simp only [List.length_append, List.length_nil]); omega)) P1.out.2 P2.out.2 TG.out (by have := R4.out; simpa [fs] using this) (by have q1 := HL.out; have q2 := HN.out; have z0 := P1.out.1.length_eq; have z1 := P2.out.1.length_eq; have z2 := P3.out.1.length_eq; have z3 := P4.out.1.length_eq; (try simp only [List.length_append] at z0 z1 z2 z3); (try simp only [List.length_append, List.length_nil]); omega) (by have := HL.out; omega) (by have q1 := HL.out; have q2 := HN.out; have z0 := P1.out.1.length_eq; have z1 := P2.out.1.length_eq; have z2 := P3.out.1.length_eq; have z3 := P4.out.1.length_eq; (try simp only [List.length_append] at z0 z1 z2 z3); (try simp only [List.length_append, List.length_nil]); omega) (by have q1 := HL.out; have q2 := HN.out; have z0 := P1.out.1.length_eq; have z1 := P2.out.1.length_eq; have z2 := P3.out.1.length_eq; have z3 := P4.out.1.length_eq; (try simp only [List.length_append] at z0 z1 z2 z3); (try simp only [List.length_append, List.length_nil]); omega) (by have q1 := HL.out; have q2 := HN.out; have z0 := P1.out.1.length_eq; have z1 := P2.out.1.length_eq; have z2 := P3.out.1.length_eq; have z3 := P4.out.1.length_eq; (try simp only [List.length_append] at z0 z1 z2 z3); (try simp only [List.length_append, List.length_nil]); omega)
  refine Calls.mono C ?_
  clear C
  rintro er v5 ⟨rfl, S5, hp, hs, hr, hk⟩
  have R5 : Hid (Rb v5 g (fs (S5 ++ S3 ++ S4)) rest) := by unfold Hid; simpa [fs] using hr
  have P5 : Hid (S5.Perm (U1 ++ U2) ∧ S5.Pairwise lt) := ⟨hp.trans (P1.out.1.append P2.out.1), hs⟩
  have K5 : Hid (Kp g w v5) := K4.out.trans hk
  clear hp hs hr hk TG
  go_wp2_with fail
  rw [rounds_succ]
  go_wp2_with fail
  rw [rounds_succ]
  go_wp2_with fail
  refine wp_loop_rounds 1 ?_
  rw [rounds_succ]
  go_wp2_with fail
  have TG : Hid (∀ x ∈ S5, ∀ y ∈ S3, x.2 < y.2) := fun x hx y hy => by have h1 := P5.out.1.mem_iff.1 hx; have h2 := P3.out.1.mem_iff.1 hy; have h3 := HU.out; have e : (U1 ++ U2) ++ (U3) ++ (U4) = U1 ++ U2 ++ U3 ++ U4 := (by simp); rw [← e, List.pairwise_append] at h3; exact (List.pairwise_append.1 h3.1).2.2 x h1 y h2
  have C : Calls _ _ _ _ _ := sym_i ([]) S5 S3 (S4) g cap n 0 40 (n : Nat) rest v5 (ne_of_pos (by have q1 := HL.out; have q2 := HN.out; have z0 := P5.out.1.length_eq; have z1 := P3.out.1.length_eq; have z2 := P4.out.1.length_eq; (try simp only [List.length_append] at z0 z1 z2); (try simp only [List.length_append, List.length_nil]); omega)) (ne_of_pos (by have q1 := HL.out; have q2 := HN.out; have z0 := P5.out.1.length_eq; have z1 := P3.out.1.length_eq; have z2 := P4.out.1.length_eq; (try simp only [List.length_append] at z0 z1 z2); (try simp only [List.length_append, List.length_nil]); omega)) P5.out.2 P3.out.2 TG.out (by have := R5.out; simpa [fs] using this) (by have q1 := HL.out; have q2 := HN.out; have z0 := P5.out.1.length_eq; have z1 := P3.out.1.length_eq; have z2 := P4.out.1.length_eq; (try simp only [List.length_append] at z0 z1 z2); (try simp only [List.length_append, List.length_nil]); omega) (by have := HL.out; omega) (by have q1 := HL.out; have q2 := HN.out; have z0 := P5.out.1.length_eq; have z1 := P3.out.1.length_eq; have z2 := P4.out.1.length_eq; (try simp only [List.length_append] at z0 z1 z2); (try simp only [List.length_append, List.length_nil]); omega) (by have q1 := HL.out; have q2 := HN.out; have z0 := P5.out.1.length_eq; have z1 := P3.out.1.length_eq; have z2 := P4.out.1.length_eq; (try simp only [List.length_append] at z0 z1 z2); (try simp only [List.length_append, List.length_nil]); omega) (by have q1 := HL.out; have q2 := HN.out; have z0 := P5.out.1.length_eq; have z1 := P3.out.1.length_eq; have z2 := P4.out.1.length_eq; (try simp only [List.length_append] at z0 z1 z2); (try simp only [List.length_append, List.length_nil]); omega)
  refine Calls.mono C ?_
  clear C
  rintro er v6 ⟨rfl, S6, hp, hs, hr, hk⟩
  have R6 : Hid (Rb v6 g (fs (S6 ++ S4)) rest) := by unfold Hid; simpa [fs] using hr
  have P6 : Hid (S6.Perm ((U1 ++ U2) ++ U3) ∧ S6.Pairwise lt) := ⟨hp.trans (P5.out.1.append P3.out.1), hs⟩
  have K6 : Hid (Kp g w v6) := K5.out.trans hk
  clear hp hs hr hk TG
  go_wp2_with fail
  rw [rounds_succ]
  go_wp2_with fail
  go_wp2
  go_end0
  have eS4 : S4 = [] := List.length_eq_zero_iff.1 (by have q1 := HL.out; have q2 := HN.out; have z := P4.out.1.length_eq; omega)
  have eU4 : U4 = [] := List.length_eq_zero_iff.1 (by have q1 := HL.out; have q2 := HN.out; omega)
  refine ⟨rfl, S6, ?_, P6.out.2, ?_, K6.out⟩
  · have h := P6.out.1
    simpa [eU4] using h
  · have h := R6.out
    rw [eS4] at h
    simpa using h
end Go.Proofs.YtoabhfipikkkeaaGreatDoor

namespace Go.Proofs.YtoabhfipikkkeaaGreatDoor
open Go.RowKit Go.Proofs.YtoabhfipikkkeaaGreatDoor.So
set_option linter.unusedVariables false

theorem cut2 (U : List T) (i : Nat) (h : i ≤ U.length) : ∃ U1 U2, U = U1 ++ U2 ∧ U1.length = i ∧ U2.length = U.length - i := ⟨U.take i, U.drop i, (List.take_append_drop _ _).symm, by rw [List.length_take]; omega, by rw [List.length_drop]⟩
theorem stab_any (U : List T) (g cap n : Nat) (rest : List Value) (w : World) (hL : U.length = n) (hn : n ≤ 60) (hU : U.Pairwise (fun x y => x.2 < y.2)) (hr : Rb w g (fs U) rest) :
    Calls Tryz.prog 170 #[.slice (some ⟨g, 0, none⟩) n cap, .int .i64 (n : Nat), .func (.func 141) #[] #[]] w (StabSays U g rest w) := by
  by_cases h20 : n < 20
  · exact stab_a U g cap n rest w hL hU hr h20
  obtain ⟨U1, V1, rfl, l1, m1⟩ := cut2 U 20 (by omega)
  by_cases h21 : n = 20
  · exact stab_b0 U1 V1 g cap n rest w l1 (by omega) hU hr h21
  by_cases h40 : n < 40
  · exact stab_b1 U1 V1 g cap n rest w l1 (by omega) hU hr ⟨by omega, h40⟩
  obtain ⟨U2, V2, rfl, l2, m2⟩ := cut2 V1 20 (by omega)
  rw [← List.append_assoc] at hU hr ⊢
  by_cases h41 : n = 40
  · exact stab_c0 U1 U2 V2 g cap n rest w l1 l2 (by omega) hU hr h41
  by_cases h60 : n < 60
  · exact stab_c1 U1 U2 V2 g cap n rest w l1 l2 (by omega) hU hr ⟨by omega, h60⟩
  obtain ⟨U3, V3, rfl, l3, m3⟩ := cut2 V2 20 (by omega)
  rw [← List.append_assoc] at hU hr ⊢
  exact stab_d U1 U2 U3 V3 g cap n rest w l1 l2 l3 (by omega) hU hr (by omega)
set_option maxHeartbeats 4000000 in
theorem sortst_any (U : List T) (g cap n : Nat) (rest : List Value) (w : World) (hL : U.length = n) (hn : n ≤ 60) (hU : U.Pairwise (fun x y => x.2 < y.2)) (hr : Rb w g (fs U) rest) :
    Calls Tryz.prog 140 #[.slice (some ⟨g, 0, none⟩) n cap, .func (.func 141) #[] #[]] w (StabSays U g rest w) := by
  have C := stab_any U g cap n rest w hL hn hU hr
  clear hL hn hU hr
  go_enter Tryz.func140, Tryz.ntmps140
  go_wp2_with fail
  refine Calls.mono C ?_
  rintro e w1 ⟨rfl, h⟩
  have H : Hid (∃ S, S.Perm U ∧ S.Pairwise lt ∧ Rb w1 g (fs S) rest ∧ Kp g w w1) := h
  clear h C
  go_wp2
  go_end0
  exact ⟨rfl, H.out⟩
end Go.Proofs.YtoabhfipikkkeaaGreatDoor

