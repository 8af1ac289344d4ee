/- slices.symMergeCmpFunc: where two rising lists are cut. · slices.symMergeCmpFunc: where the search has ended, the two lists are cut. · slices.symMergeCmpFunc of orders: what both ways share. · slices.symMergeCmpFunc of orders: mid < m. · slices.symMergeCmpFunc of orders: m <= mid. · slices.symMergeCmpFunc of orders. · slices.stableCmpFunc, slices.SortStableFunc of at most 60 orders by compare. · slices.stableCmpFunc of at most 60 orders: stab_a. · slices.stableCmpFunc of at most 60 orders: stab_b0. · slices.stableCmpFunc of at most 60 orders: stab_b1. · slices.stableCmpFunc of at most 60 orders: stab_c0. · slices.stableCmpFunc of at most 60 orders: stab_c1. · slices.stableCmpFunc of at most 60 orders: stab_d. · slices.SortStableFunc of at most 60 orders by compare. · orders.Last. · turn.give. · A map of integers by integers that a call makes. · works.Train$1: whether a job is its unit's first. -/
import Derived.Test.YthcndngdngjalaaGreatDoorZTopWeighs8
import Derived.Test.YthcndngdngjalaaGreatDoorZTopWeighs9
import Derived.Deep.DeepCutAuto
import Derived.Test.YthcndngdngjalaaGreatDoorZTopWeighs6
import Derived.Test.YthcndngdngjalaaGreatDoorZTopWeighs3
import Derived.Test.YthcndngdngjalaaGreatDoorZTopWeighs5
import Derived.Test.YthcndngdngjalaaGreatDoorZTopWeighs1
import Derived.Maps.Own
import Derived.Maps.OwnOps
import Derived.Maps.Views
import Derived.Carry
import Derived.DeepKeys4
namespace Go.Proofs.YthcndngdngjalaaGreatDoor
namespace So
theorem rise_lt {X : List T} (h : X.Pairwise lt) {i j : Nat} (hij : i < j) (hj : j < X.length) : lt (X[i]'(by omega)) X[j] := List.pairwise_iff_getElem.1 h i j (by omega) hj hij
theorem rise_le {X : List T} (h : X.Pairwise lt) {i j : Nat} (hij : i ≤ j) (hj : j < X.length) {z : T} (hz : lt X[j] z) : lt (X[i]'(by omega)) z := by
  rcases Nat.lt_or_ge i j with h1 | h1
  · exact lt_trans (rise_lt h h1 hj) hz
  · have : i = j := by omega
    subst this
    exact hz
theorem rise_ge {X : List T} (h : X.Pairwise lt) {i j : Nat} (hij : i ≤ j) (hj : j < X.length) {z : T} (hz : lt z (X[i]'(by omega))) : lt z X[j] := by
  rcases Nat.lt_or_ge i j with h1 | h1
  · exact lt_trans hz (rise_lt h h1 hj)
  · have : i = j := by omega
    subst this
    exact hz
/-- the front of both lies before the rest of both. -/
theorem cut_rise {X Y : List T} (hX : X.Pairwise lt) (hY : Y.Pairwise lt) {k l : Nat} (hk : k ≤ X.length) (hl : l ≤ Y.length)
    (h1 : 0 < k → l < Y.length → ∃ x y, X[k - 1]? = some x ∧ Y[l]? = some y ∧ lt x y) (h2 : k < X.length → 0 < l → ∃ x y, X[k]? = some x ∧ Y[l - 1]? = some y ∧ lt y x) :
    ∀ p ∈ X.take k ++ Y.take l, ∀ q ∈ X.drop k ++ Y.drop l, lt p q := by
  intro p hp q hq
  rcases List.mem_append.1 hp with hp | hp <;> rcases List.mem_append.1 hq with hq | hq
  · have := hX
    rw [← List.take_append_drop k X, List.pairwise_append] at this
    exact this.2.2 p hp q hq
  · obtain ⟨i, hi, rfl⟩ := List.mem_iff_getElem.1 hp
    obtain ⟨j, hj, rfl⟩ := List.mem_iff_getElem.1 hq
    simp at hi hj
    obtain ⟨x, y, e1, e2, h⟩ := h1 (by omega) (by omega)
    obtain ⟨g1, rfl⟩ := List.getElem?_eq_some_iff.1 e1
    obtain ⟨g2, rfl⟩ := List.getElem?_eq_some_iff.1 e2
    simp only [List.getElem_take, List.getElem_drop]
    exact rise_ge hY (by omega) (by omega) (rise_le hX (by omega) g1 h)
  · obtain ⟨i, hi, rfl⟩ := List.mem_iff_getElem.1 hp
    obtain ⟨j, hj, rfl⟩ := List.mem_iff_getElem.1 hq
    simp at hi hj
    obtain ⟨x, y, e1, e2, h⟩ := h2 (by omega) (by omega)
    obtain ⟨g1, rfl⟩ := List.getElem?_eq_some_iff.1 e1
    obtain ⟨g2, rfl⟩ := List.getElem?_eq_some_iff.1 e2
    simp only [List.getElem_take, List.getElem_drop]
    exact rise_ge hX (by omega) (by omega) (rise_le hY (by omega) g2 h)
  · have := hY
    rw [← List.take_append_drop l Y, List.pairwise_append] at this
    exact this.2.2 p hp q hq
/-- in the whole list. -/
theorem in_x (A X Y B : List T) {a i : Nat} (ha : A.length = a) (h0 : a ≤ i) (h1 : i < a + X.length) : (A ++ X ++ Y ++ B)[i]? = X[i - a]? := by
  subst ha
  rw [List.append_assoc, List.append_assoc, List.getElem?_append_right h0, List.getElem?_append_left (by omega)]
theorem in_y (A X Y B : List T) {m i : Nat} (hm : A.length + X.length = m) (h0 : m ≤ i) (h1 : i < m + Y.length) : (A ++ X ++ Y ++ B)[i]? = Y[i - m]? := by
  subst hm
  rw [List.append_assoc, List.getElem?_append_right (by simpa using h0), List.getElem?_append_left (by simp; omega)]
  simp
end So
end Go.Proofs.YthcndngdngjalaaGreatDoor

namespace Go.Proofs.YthcndngdngjalaaGreatDoor
namespace So
set_option linter.unusedVariables false
theorem cut_here (A X Y B : List T) {a m b n mid lo hi S : Nat} (hX : X.Pairwise lt) (hY : Y.Pairwise lt) (ha : A.length = a) (hm : a + X.length = m) (hb : m + Y.length = b) (hn : mid + m = n) (h1 : a ≤ lo) (h2 : lo ≤ S) (h3 : S ≤ hi) (h4 : hi ≤ m) (h5 : hi ≤ mid) (h6 : lo = a ∨ lo + b = n) (h7 : hi = m ∨ hi = mid) (h8 : n ≤ lo + b)
    (F1 : lo < S → ∃ x y, (A ++ X ++ Y ++ B)[S - 1]? = some x ∧ (A ++ X ++ Y ++ B)[n - S]? = some y ∧ lt x y) (F2 : S < hi → ∃ x y, (A ++ X ++ Y ++ B)[S]? = some x ∧ (A ++ X ++ Y ++ B)[n - 1 - S]? = some y ∧ lt y x) :
    ∃ X1 X2 Y1 Y2, X = X1 ++ X2 ∧ Y = Y1 ++ Y2 ∧ a + X1.length = S ∧ S + X2.length = m ∧ S + Y1.length = mid ∧ (m + Y1.length) + Y2.length = b ∧ ∀ p ∈ X1 ++ Y1, ∀ q ∈ X2 ++ Y2, lt p q := by
  refine ⟨X.take (S - a), X.drop (S - a), Y.take (mid - S), Y.drop (mid - S), (List.take_append_drop _ _).symm, (List.take_append_drop _ _).symm, ?_, ?_, ?_, ?_, ?_⟩
  · rw [List.length_take]; omega
  · rw [List.length_drop]; omega
  · rw [List.length_take]; omega
  · rw [List.length_take, List.length_drop]; omega
  · refine cut_rise hX hY (by omega) (by omega) (fun k0 l0 => ?_) (fun k0 l0 => ?_)
    · obtain ⟨x, y, e1, e2, h⟩ := F1 (by omega)
      rw [in_x A X Y B ha (by omega) (by omega)] at e1
      rw [in_y A X Y B (m := m) (by omega) (by omega) (by omega)] at e2
      exact ⟨x, y, by rw [← e1]; congr 1; omega, by rw [← e2]; congr 1; omega, h⟩
    · obtain ⟨x, y, e1, e2, h⟩ := F2 (by omega)
      rw [in_x A X Y B ha (by omega) (by omega)] at e1
      rw [in_y A X Y B (m := m) (by omega) (by omega) (by omega)] at e2
      exact ⟨x, y, e1, by rw [← e2]; congr 1; omega, h⟩
theorem rise_left {X1 X2 : List T} (h : (X1 ++ X2).Pairwise lt) : X1.Pairwise lt := (List.pairwise_append.1 h).1
theorem rise_right {X1 X2 : List T} (h : (X1 ++ X2).Pairwise lt) : X2.Pairwise lt := (List.pairwise_append.1 h).2.1
theorem end_rise {X1 X2 Y1 Y2 Z1 Z2 : List T} (p1 : Z1.Perm (X1 ++ Y1)) (p2 : Z2.Perm (X2 ++ Y2)) (r1 : Z1.Pairwise lt) (r2 : Z2.Pairwise lt) (h : ∀ p ∈ X1 ++ Y1, ∀ q ∈ X2 ++ Y2, lt p q) :
    (Z1 ++ Z2).Perm ((X1 ++ X2) ++ (Y1 ++ Y2)) ∧ (Z1 ++ Z2).Pairwise lt := by
  refine ⟨?_, cat_rise r1 r2 fun x hx y hy => h x (p1.mem_iff.1 hx) y (p2.mem_iff.1 hy)⟩
  refine (p1.append p2).trans ?_
  have e : (X1 ++ Y1 ++ (X2 ++ Y2)).Perm (X1 ++ (Y1 ++ X2) ++ Y2) := by simp
  refine e.trans ?_
  have e2 : (X1 ++ (Y1 ++ X2) ++ Y2).Perm (X1 ++ (X2 ++ Y1) ++ Y2) := ((List.perm_append_comm).append_left X1).append_right Y2
  refine e2.trans ?_
  simp
end So
end Go.Proofs.YthcndngdngjalaaGreatDoor

namespace Go.Proofs.YthcndngdngjalaaGreatDoor
open Go.RowKit Go.Proofs.YthcndngdngjalaaGreatDoor.So
set_option linter.unusedVariables false

/-- where the two are to be cut. -/
def SyI (D : List T) (g : Nat) (rest : List Value) (w : World) (n lo hi : Nat) (sv rv : Value) (W : World) : Prop := ∃ (st r : Nat), sv = .int .i64 (st : Nat) ∧ rv = .int .i64 (r : Nat) ∧ lo ≤ st ∧ st ≤ r ∧ r ≤ hi ∧ (lo < st → ∃ x y, D[st - 1]? = some x ∧ D[n - st]? = some y ∧ lt x y) ∧ (r < hi → ∃ x y, D[r]? = some x ∧ D[n - 1 - r]? = some y ∧ lt y x) ∧ Rb W g (fs D) rest ∧ Kp g w W
theorem fs_at {D : List T} {i : Nat} {x : T} (h : D[i]? = some x) : (fs D)[i]? = some x.1 := by simp [fs, h]
theorem combos (X1 X2 Y1 Y2 : List T) (h1 : 0 < X1.length + X2.length) (h2 : 0 < Y1.length + Y2.length) (h3 : 0 < X1.length + Y1.length) (h4 : 0 < X2.length + Y2.length) :
    (X1 ≠ [] ∧ X2 ≠ [] ∧ Y1 ≠ [] ∧ Y2 ≠ []) ∨ (X1 = [] ∧ X2 ≠ [] ∧ Y1 ≠ [] ∧ Y2 ≠ []) ∨ (X1 ≠ [] ∧ X2 = [] ∧ Y1 ≠ [] ∧ Y2 ≠ []) ∨ (X1 ≠ [] ∧ X2 ≠ [] ∧ Y1 = [] ∧ Y2 ≠ []) ∨ (X1 ≠ [] ∧ X2 ≠ [] ∧ Y1 ≠ [] ∧ Y2 = []) ∨ (X1 = [] ∧ X2 ≠ [] ∧ Y1 ≠ [] ∧ Y2 = []) ∨ (X1 ≠ [] ∧ X2 = [] ∧ Y1 = [] ∧ Y2 ≠ []) := by
  rcases X1 with _ | ⟨_, _⟩ <;> rcases X2 with _ | ⟨_, _⟩ <;> rcases Y1 with _ | ⟨_, _⟩ <;> rcases Y2 with _ | ⟨_, _⟩ <;> simp at *
def SymIH (N g cap L : Nat) (rest : List Value) : Prop := ∀ (A X Y B : List T) (a m b : Nat) (w : World), X.length + Y.length ≤ N → X ≠ [] → Y ≠ [] → X.Pairwise lt → Y.Pairwise lt → (∀ x ∈ X, ∀ y ∈ Y, x.2 < y.2) → Rb w g (fs (A ++ X ++ Y ++ B)) rest → A.length + X.length + Y.length + B.length = L → A.length = a → a + X.length = m → m + Y.length = b →
    Calls Tryz.prog 168 #[.slice (some ⟨g, 0, none⟩) L cap, .int .i64 (a : Nat), .int .i64 (m : Nat), .int .i64 (b : Nat), .func (.func 116) #[] #[]] w (MergeSays A (X ++ Y) B g rest w)
theorem pos_of_ne {l : List T} (h : l ≠ []) : 0 < l.length := List.length_pos_iff.2 h
end Go.Proofs.YthcndngdngjalaaGreatDoor

namespace Go.Proofs.YthcndngdngjalaaGreatDoor
open Go.RowKit Go.Proofs.YthcndngdngjalaaGreatDoor.So
set_option linter.unusedVariables false

set_option maxRecDepth 100000 in
set_option maxHeartbeats 64000000 in
theorem sym_lo (N : Nat) (A X Y B : List T) (g cap L a m b : Nat) (rest : List Value) (w : World) (ih : SymIH N g cap L rest) (hN : X.length + Y.length ≤ N + 1) (lx : 2 ≤ X.length) (ly : 2 ≤ Y.length) (hX : X.Pairwise lt) (hY : Y.Pairwise lt) (hpl : ∀ x ∈ X, ∀ y ∈ Y, x.2 < y.2) (hr : Rb w g (fs (A ++ X ++ Y ++ B)) rest) (hL : A.length + X.length + Y.length + B.length = L) (hn : L ≤ 1000) (ha : A.length = a) (hm : a + X.length = m) (hb : m + Y.length = b) (hmm : (a + b) / 2 < m) :
    Calls Tryz.prog 168 #[.slice (some ⟨g, 0, none⟩) L cap, .int .i64 (a : Nat), .int .i64 (m : Nat), .int .i64 (b : Nat), .func (.func 116) #[] #[]] w (MergeSays A (X ++ Y) B g rest w) := by
  have IH : Hid (SymIH N g cap L rest) := ih
  have R0 : Hid (Rb w g (fs (A ++ X ++ Y ++ B)) rest) := hr
  have HN : Hid (X.length + Y.length ≤ N + 1) := hN
  have HL : Hid (A.length + X.length + Y.length + B.length = L) := hL
  have HM : Hid (A.length = a ∧ a + X.length = m ∧ m + Y.length = b) := ⟨ha, hm, hb⟩
  have HXY : Hid (X.Pairwise lt ∧ Y.Pairwise lt ∧ ∀ x ∈ X, ∀ y ∈ Y, x.2 < y.2) := ⟨hX, hY, hpl⟩
  have HXL : Hid (2 ≤ X.length ∧ 2 ≤ Y.length) := ⟨lx, ly⟩
  have hbL : b ≤ L := by omega
  have ham : a + 2 ≤ m := by omega
  have hmb : m + 2 ≤ b := by omega
  obtain ⟨dx, hdx⟩ : ∃ d, m - a = d := ⟨_, rfl⟩
  obtain ⟨dy, hdy⟩ : ∃ d, b - m = d := ⟨_, rfl⟩
  obtain ⟨s, hs⟩ : ∃ s, a + b = s := ⟨_, rfl⟩
  rw [hs] at hmm
  obtain ⟨mid, hmid⟩ : ∃ d, s / 2 = d := ⟨_, rfl⟩
  rw [hmid] at hmm
  obtain ⟨n, hnn⟩ : ∃ n, mid + m = n := ⟨_, rfl⟩
  have smi : ((m : Nat) : Int) - (a : Int) = (dx : Nat) := by omega
  have wdx : IntKind.i64.wrap ((dx : Nat) : Int) = (dx : Nat) := by rw [IntKind.wrap_i64]; omega
  have dx1 : (((dx : Nat) : Int) == 1) = false := by
    have : ¬ ((dx : Nat) : Int) = 1 := by omega
    simpa using this
  have sbm : ((b : Nat) : Int) - (m : Int) = (dy : Nat) := by omega
  have wdy : IntKind.i64.wrap ((dy : Nat) : Int) = (dy : Nat) := by rw [IntKind.wrap_i64]; omega
  have dy1 : (((dy : Nat) : Int) == 1) = false := by
    have : ¬ ((dy : Nat) : Int) = 1 := by omega
    simpa using this
  have ss : ((a : Nat) : Int) + (b : Int) = (s : Nat) := by omega
  have ws : IntKind.i64.wrap ((s : Nat) : Int) = (s : Nat) := by rw [IntKind.wrap_i64]; omega
  have sm : ((s : Nat) : Int) / 2 = (mid : Nat) := by omega
  have sn : ((mid : Nat) : Int) + (m : Int) = (n : Nat) := by omega
  have wn : IntKind.i64.wrap ((n : Nat) : Int) = (n : Nat) := by rw [IntKind.wrap_i64]; omega
  have HS : Hid (a < mid ∧ mid < b ∧ mid + m = n ∧ mid + mid ≤ a + b ∧ a + b ≤ mid + mid + 1 ∧ a + 2 ≤ m ∧ m + 2 ≤ b ∧ b ≤ L) := ⟨by omega, by omega, by omega, by omega, by omega, ham, hmb, hbL⟩
  obtain ⟨p, hp⟩ : ∃ p, n - 1 = p := ⟨_, rfl⟩
  have sp : ((n : Nat) : Int) - 1 = (p : Nat) := by omega
  have wp' : IntKind.i64.wrap ((p : Nat) : Int) = (p : Nat) := by rw [IntKind.wrap_i64]; omega
  have HP : Hid (p + 1 = n) := by unfold Hid; omega
  clear hr hN hL hX hY hpl ha hm hb lx ly
  obtain ⟨lo, hlo⟩ : ∃ lo, n - b = lo := ⟨_, rfl⟩
  have HLH : Hid (a ≤ lo ∧ lo ≤ mid ∧ mid ≤ m ∧ mid ≤ mid ∧ (lo = a ∨ lo + b = n) ∧ (mid = m ∨ mid = mid) ∧ n ≤ lo + b) := by refine ⟨by omega, by omega, by omega, by omega, by omega, .inr rfl, by omega⟩
  have hgt : ((mid : Nat) : Int) < (m : Int) := by omega
  have slo : ((n : Nat) : Int) - (b : Int) = (lo : Nat) := by omega
  have wlo : IntKind.i64.wrap ((lo : Nat) : Int) = (lo : Nat) := by rw [IntKind.wrap_i64]; omega
  clear hdx hdy hs hmid hnn hp hmm hlo
  go_enter Tryz.func168, Tryz.ntmps168
  go_wp2
  clear smi wdx dx1 sbm wdy dy1 ss ws sm sn wn sp wp' hgt
  try clear slo wlo
  go_loopw [20, 21] (fun sv rv W => SyI (A ++ X ++ Y ++ B) g rest w n lo mid sv rv W) (fun sv rv _ => (intOf rv).toNat - (intOf sv).toNat)
  case atStart =>
    have h := HLH.out
    exact ⟨lo, mid, rfl, rfl, Nat.le_refl _, h.2.1, Nat.le_refl _, fun h => absurd h (Nat.lt_irrefl _), fun h => absurd h (Nat.lt_irrefl _), R0.out, Kp.refl _ _⟩
  case round =>
    obtain ⟨st, r, rfl, rfl, hst, hsr, hrh, hF1, hF2, hrb, hk⟩ := hrel
    have RB : Hid (Rb wr g (fs (A ++ X ++ Y ++ B)) rest) := hrb
    have K1 : Hid (Kp g w wr) := hk
    have F1 : Hid (lo < st → ∃ x y, (A ++ X ++ Y ++ B)[st - 1]? = some x ∧ (A ++ X ++ Y ++ B)[n - st]? = some y ∧ lt x y) := hF1
    have F2 : Hid (r < mid → ∃ x y, (A ++ X ++ Y ++ B)[r]? = some x ∧ (A ++ X ++ Y ++ B)[n - 1 - r]? = some y ∧ lt y x) := hF2
    have HSR : Hid (lo ≤ st ∧ st ≤ r ∧ r ≤ mid) := ⟨hst, hsr, hrh⟩
    clear hrb hk hF1 hF2
    by_cases he : st = r
    · subst he
      have hb1 := HLH.out
      have hb2 := HS.out
      have hb4 := HM.out
      have hb5 := HSR.out
      have hb6 := HN.out
      have hb7 := HL.out
      obtain ⟨X1, X2, Y1, Y2, hX12, hY12, l1, l2, l3, l4, hcut⟩ := cut_here A X Y B HXY.out.1 HXY.out.2.1 hb4.1 hb4.2.1 hb4.2.2 hb2.2.2.1 hb1.1 hb5.1 hb5.2.2 hb1.2.2.1 hb1.2.2.2.1 (by omega) (by omega) hb1.2.2.2.2.2.2 F1.out F2.out
      subst hX12
      subst hY12
      simp only [List.length_append] at hb4 hb6 hb7
      obtain ⟨e, hee⟩ : ∃ e, m + Y1.length = e := ⟨_, rfl⟩
      have sne : ((n : Nat) : Int) - (st : Int) = (e : Nat) := by omega
      have wne : IntKind.i64.wrap ((e : Nat) : Int) = (e : Nat) := by rw [IntKind.wrap_i64]; omega
      have hlt : ¬ ((st : Nat) : Int) < (st : Int) := by omega
      have CUT : Hid (∀ p ∈ X1 ++ Y1, ∀ q ∈ X2 ++ Y2, lt p q) := hcut
      have LEN : Hid (A.length = a ∧ a + X1.length = st ∧ st + X2.length = m ∧ st + Y1.length = mid ∧ m + Y1.length = e ∧ e + Y2.length = b ∧ mid + X2.length = e ∧ A.length + X1.length + X2.length + Y1.length + Y2.length + B.length = L ∧ X1.length + X2.length + Y1.length + Y2.length ≤ N + 1 ∧ L ≤ 1000) := by refine ⟨hb4.1, l1, l2, l3, hee, by omega, by omega, by omega, by omega, hn⟩
      have CB := combos X1 X2 Y1 Y2 (by have := HXL.out; simp only [List.length_append] at this; omega) (by have := HXL.out; simp only [List.length_append] at this; omega) (by omega) (by omega)
      have RX : Hid (Rb wr g (fs (A ++ (X1 ++ X2) ++ (Y1 ++ Y2) ++ B)) rest) := RB.out
      have hnum := LEN.out
      clear hb1 hb2 hb4 hb5 hb6 hb7 hcut l1 l2 l3 l4 hee hst hsr hrh F1 F2
      rcases CB with ⟨x1, x2, y1, y2⟩ | ⟨x1, x2, y1, y2⟩ | ⟨x1, x2, y1, y2⟩ | ⟨x1, x2, y1, y2⟩ | ⟨x1, x2, y1, y2⟩ | ⟨x1, x2, y1, y2⟩ | ⟨x1, x2, y1, y2⟩
      · have px1 := pos_of_ne x1
        have px2 := pos_of_ne x2
        have py1 := pos_of_ne y1
        have py2 := pos_of_ne y2
        have d1 : ((st : Nat) : Int) < (m : Int) := by omega
        have d2 : ((m : Nat) : Int) < (e : Int) := by omega
        have d3 : ((a : Nat) : Int) < (st : Int) := by omega
        have d4 : ((st : Nat) : Int) < (mid : Int) := by omega
        have d5 : ((mid : Nat) : Int) < (e : Int) := by omega
        have d6 : ((e : Nat) : Int) < (b : Int) := by omega
        clear hnum
        have CR := rotate_any (fs (A ++ X1)) (fs X2) (fs Y1) (fs (Y2 ++ B)) (.func (.func 116) #[] #[]) g cap L st m e rest wr (by have := RX.out; simpa [fs] using this) (by have := LEN.out; simp [fs] at this ⊢; omega) hn (by simpa [fs] using x2) (by simpa [fs] using y1) (by have := LEN.out; simp [fs] at this ⊢; omega) (by have := LEN.out; simp [fs] at this ⊢; omega) (by have := LEN.out; simp [fs] at this ⊢; omega)
        go_wp2_with fail
        refine Calls.mono CR ?_
        rintro er w1 ⟨rfl, hr1, hk1⟩
        have R1 : Hid (Rb w1 g (fs (A ++ X1 ++ Y1 ++ (X2 ++ Y2 ++ B))) rest) := by unfold Hid; simpa [fs] using hr1
        have K2 : Hid (Kp g w w1) := K1.out.trans hk1
        clear hr1 hk1 CR
        have C1 := IH.out A X1 Y1 (X2 ++ Y2 ++ B) a st mid w1 (by have := LEN.out; simp at this ⊢; have := px1; have := py1; have := px2; have := py2; omega) x1 y1 (rise_left HXY.out.1) (rise_left HXY.out.2.1) (fun x hx y hy => HXY.out.2.2 x (by simp [hx]) y (by simp [hy])) R1.out (by have := LEN.out; simp at this ⊢; omega) LEN.out.1 LEN.out.2.1 LEN.out.2.2.2.1
        go_wp2_with fail
        refine Calls.mono C1 ?_
        rintro er w2 ⟨rfl, Z1, z1p, z1r, hr1, hk1⟩
        have R2 : Hid (Rb w2 g (fs (A ++ Z1 ++ (X2 ++ Y2 ++ B))) rest) := hr1
        have K3 : Hid (Kp g w w2) := K2.out.trans hk1
        have P1 : Hid (Z1.Perm (X1 ++ Y1) ∧ Z1.Pairwise lt) := ⟨z1p, z1r⟩
        clear hr1 hk1 C1 z1p z1r
        have hz1 := P1.out.1.length_eq
        have C2 := IH.out (A ++ Z1) X2 Y2 B mid e b w2 (by have := LEN.out; simp at this ⊢; have := px1; have := py1; have := px2; have := py2; omega) x2 y2 (rise_right HXY.out.1) (rise_right HXY.out.2.1) (fun x hx y hy => HXY.out.2.2 x (by simp [hx]) y (by simp [hy])) (by have := R2.out; simpa [fs] using this) (by have := LEN.out; simp at this hz1 ⊢; omega) (by have := LEN.out; simp at this hz1 ⊢; omega) LEN.out.2.2.2.2.2.2.1 LEN.out.2.2.2.2.2.1
        go_wp2_with fail
        refine Calls.mono C2 ?_
        rintro er w3 ⟨rfl, Z2, z2p, z2r, hr1, hk1⟩
        have R3 : Hid (Rb w3 g (fs (A ++ Z1 ++ Z2 ++ B)) rest) := by unfold Hid; simpa [fs] using hr1
        have K4 : Hid (Kp g w w3) := K3.out.trans hk1
        have P2 : Hid (Z2.Perm (X2 ++ Y2) ∧ Z2.Pairwise lt) := ⟨z2p, z2r⟩
        clear hr1 hk1 C2 z2p z2r hz1
        go_wp2
        go_end0
        have ER := end_rise P1.out.1 P2.out.1 P1.out.2 P2.out.2 CUT.out
        exact ⟨rfl, Z1 ++ Z2, by simpa using ER.1, ER.2, by have := R3.out; simpa [fs] using this, K4.out⟩
      · subst x1
        have px2 := pos_of_ne x2
        have py1 := pos_of_ne y1
        have py2 := pos_of_ne y2
        simp only [List.length_nil] at hnum
        have d1 : ((st : Nat) : Int) < (m : Int) := by omega
        have d2 : ((m : Nat) : Int) < (e : Int) := by omega
        have d3 : ¬ ((a : Nat) : Int) < (st : Int) := by omega
        have d4 : ((st : Nat) : Int) < (mid : Int) := by omega
        have d5 : ((mid : Nat) : Int) < (e : Int) := by omega
        have d6 : ((e : Nat) : Int) < (b : Int) := by omega
        clear hnum
        have CR := rotate_any (fs (A ++ [])) (fs X2) (fs Y1) (fs (Y2 ++ B)) (.func (.func 116) #[] #[]) g cap L st m e rest wr (by have := RX.out; simpa [fs] using this) (by have := LEN.out; simp [fs] at this ⊢; omega) hn (by simpa [fs] using x2) (by simpa [fs] using y1) (by have := LEN.out; simp [fs] at this ⊢; omega) (by have := LEN.out; simp [fs] at this ⊢; omega) (by have := LEN.out; simp [fs] at this ⊢; omega)
        go_wp2_with fail
        refine Calls.mono CR ?_
        rintro er w1 ⟨rfl, hr1, hk1⟩
        have R1 : Hid (Rb w1 g (fs (A ++ [] ++ Y1 ++ (X2 ++ Y2 ++ B))) rest) := by unfold Hid; simpa [fs] using hr1
        have K2 : Hid (Kp g w w1) := K1.out.trans hk1
        clear hr1 hk1 CR
        obtain ⟨Z1, hZ1⟩ : ∃ Z, Y1 = Z := ⟨_, rfl⟩
        have R2 : Hid (Rb w1 g (fs (A ++ Z1 ++ (X2 ++ Y2 ++ B))) rest) := by have := R1.out; unfold Hid; rw [← hZ1]; simpa [fs] using this
        have K3 : Hid (Kp g w w1) := K2.out
        have P1 : Hid (Z1.Perm ([] ++ Y1) ∧ Z1.Pairwise lt) := by rw [← hZ1]; exact ⟨by simp, rise_left HXY.out.2.1⟩
        clear hZ1
        have hz1 := P1.out.1.length_eq
        have C2 := IH.out (A ++ Z1) X2 Y2 B mid e b w1 (by have := LEN.out; simp at this ⊢; have := py1; have := px2; have := py2; omega) x2 y2 (rise_right HXY.out.1) (rise_right HXY.out.2.1) (fun x hx y hy => HXY.out.2.2 x (by simp [hx]) y (by simp [hy])) (by have := R2.out; simpa [fs] using this) (by have := LEN.out; simp at this hz1 ⊢; omega) (by have := LEN.out; simp at this hz1 ⊢; omega) LEN.out.2.2.2.2.2.2.1 LEN.out.2.2.2.2.2.1
        go_wp2_with fail
        refine Calls.mono C2 ?_
        rintro er w3 ⟨rfl, Z2, z2p, z2r, hr1, hk1⟩
        have R3 : Hid (Rb w3 g (fs (A ++ Z1 ++ Z2 ++ B)) rest) := by unfold Hid; simpa [fs] using hr1
        have K4 : Hid (Kp g w w3) := K3.out.trans hk1
        have P2 : Hid (Z2.Perm (X2 ++ Y2) ∧ Z2.Pairwise lt) := ⟨z2p, z2r⟩
        clear hr1 hk1 C2 z2p z2r hz1
        go_wp2
        go_end0
        have ER := end_rise P1.out.1 P2.out.1 P1.out.2 P2.out.2 CUT.out
        exact ⟨rfl, Z1 ++ Z2, by simpa using ER.1, ER.2, by have := R3.out; simpa [fs] using this, K4.out⟩
      · have px1 := pos_of_ne x1
        subst x2
        have py1 := pos_of_ne y1
        have py2 := pos_of_ne y2
        simp only [List.length_nil] at hnum
        have d1 : ¬ ((st : Nat) : Int) < (m : Int) := by omega
        have d2 : ((m : Nat) : Int) < (e : Int) := by omega
        have d3 : ((a : Nat) : Int) < (st : Int) := by omega
        have d4 : ((st : Nat) : Int) < (mid : Int) := by omega
        have d5 : ¬ ((mid : Nat) : Int) < (e : Int) := by omega
        have d6 : ((e : Nat) : Int) < (b : Int) := by omega
        clear hnum
        have R1 : Hid (Rb wr g (fs (A ++ X1 ++ Y1 ++ ([] ++ Y2 ++ B))) rest) := by have := RX.out; unfold Hid; simpa [fs] using this
        have K2 : Hid (Kp g w wr) := K1.out
        have C1 := IH.out A X1 Y1 ([] ++ Y2 ++ B) a st mid wr (by have := LEN.out; simp at this ⊢; have := px1; have := py1; have := py2; omega) x1 y1 (rise_left HXY.out.1) (rise_left HXY.out.2.1) (fun x hx y hy => HXY.out.2.2 x (by simp [hx]) y (by simp [hy])) R1.out (by have := LEN.out; simp at this ⊢; omega) LEN.out.1 LEN.out.2.1 LEN.out.2.2.2.1
        go_wp2_with fail
        refine Calls.mono C1 ?_
        rintro er w2 ⟨rfl, Z1, z1p, z1r, hr1, hk1⟩
        have R2 : Hid (Rb w2 g (fs (A ++ Z1 ++ ([] ++ Y2 ++ B))) rest) := hr1
        have K3 : Hid (Kp g w w2) := K2.out.trans hk1
        have P1 : Hid (Z1.Perm (X1 ++ Y1) ∧ Z1.Pairwise lt) := ⟨z1p, z1r⟩
        clear hr1 hk1 C1 z1p z1r
        obtain ⟨Z2, hZ2⟩ : ∃ Z, Y2 = Z := ⟨_, rfl⟩
        have R3 : Hid (Rb w2 g (fs (A ++ Z1 ++ Z2 ++ B)) rest) := by have := R2.out; unfold Hid; rw [← hZ2]; simpa [fs] using this
        have K4 : Hid (Kp g w w2) := K3.out
        have P2 : Hid (Z2.Perm ([] ++ Y2) ∧ Z2.Pairwise lt) := by rw [← hZ2]; exact ⟨by simp, rise_right HXY.out.2.1⟩
        clear hZ2
        go_wp2
        go_end0
        have ER := end_rise P1.out.1 P2.out.1 P1.out.2 P2.out.2 CUT.out
        exact ⟨rfl, Z1 ++ Z2, by simpa using ER.1, ER.2, by have := R3.out; simpa [fs] using this, K4.out⟩
      · have px1 := pos_of_ne x1
        have px2 := pos_of_ne x2
        subst y1
        have py2 := pos_of_ne y2
        simp only [List.length_nil] at hnum
        have d1 : ((st : Nat) : Int) < (m : Int) := by omega
        have d2 : ¬ ((m : Nat) : Int) < (e : Int) := by omega
        have d3 : ((a : Nat) : Int) < (st : Int) := by omega
        have d4 : ¬ ((st : Nat) : Int) < (mid : Int) := by omega
        have d5 : ((mid : Nat) : Int) < (e : Int) := by omega
        have d6 : ((e : Nat) : Int) < (b : Int) := by omega
        clear hnum
        have R1 : Hid (Rb wr g (fs (A ++ X1 ++ [] ++ (X2 ++ Y2 ++ B))) rest) := by have := RX.out; unfold Hid; simpa [fs] using this
        have K2 : Hid (Kp g w wr) := K1.out
        obtain ⟨Z1, hZ1⟩ : ∃ Z, X1 = Z := ⟨_, rfl⟩
        have R2 : Hid (Rb wr g (fs (A ++ Z1 ++ (X2 ++ Y2 ++ B))) rest) := by have := R1.out; unfold Hid; rw [← hZ1]; simpa [fs] using this
        have K3 : Hid (Kp g w wr) := K2.out
        have P1 : Hid (Z1.Perm (X1 ++ []) ∧ Z1.Pairwise lt) := by rw [← hZ1]; exact ⟨by simp, rise_left HXY.out.1⟩
        clear hZ1
        have hz1 := P1.out.1.length_eq
        have C2 := IH.out (A ++ Z1) X2 Y2 B mid e b wr (by have := LEN.out; simp at this ⊢; have := px1; have := px2; have := py2; omega) x2 y2 (rise_right HXY.out.1) (rise_right HXY.out.2.1) (fun x hx y hy => HXY.out.2.2 x (by simp [hx]) y (by simp [hy])) (by have := R2.out; simpa [fs] using this) (by have := LEN.out; simp at this hz1 ⊢; omega) (by have := LEN.out; simp at this hz1 ⊢; omega) LEN.out.2.2.2.2.2.2.1 LEN.out.2.2.2.2.2.1
        go_wp2_with fail
        refine Calls.mono C2 ?_
        rintro er w3 ⟨rfl, Z2, z2p, z2r, hr1, hk1⟩
        have R3 : Hid (Rb w3 g (fs (A ++ Z1 ++ Z2 ++ B)) rest) := by unfold Hid; simpa [fs] using hr1
        have K4 : Hid (Kp g w w3) := K3.out.trans hk1
        have P2 : Hid (Z2.Perm (X2 ++ Y2) ∧ Z2.Pairwise lt) := ⟨z2p, z2r⟩
        clear hr1 hk1 C2 z2p z2r hz1
        go_wp2
        go_end0
        have ER := end_rise P1.out.1 P2.out.1 P1.out.2 P2.out.2 CUT.out
        exact ⟨rfl, Z1 ++ Z2, by simpa using ER.1, ER.2, by have := R3.out; simpa [fs] using this, K4.out⟩
      · have px1 := pos_of_ne x1
        have px2 := pos_of_ne x2
        have py1 := pos_of_ne y1
        subst y2
        simp only [List.length_nil] at hnum
        have d1 : ((st : Nat) : Int) < (m : Int) := by omega
        have d2 : ((m : Nat) : Int) < (e : Int) := by omega
        have d3 : ((a : Nat) : Int) < (st : Int) := by omega
        have d4 : ((st : Nat) : Int) < (mid : Int) := by omega
        have d5 : ((mid : Nat) : Int) < (e : Int) := by omega
        have d6 : ¬ ((e : Nat) : Int) < (b : Int) := by omega
        clear hnum
        have CR := rotate_any (fs (A ++ X1)) (fs X2) (fs Y1) (fs ([] ++ B)) (.func (.func 116) #[] #[]) g cap L st m e rest wr (by have := RX.out; simpa [fs] using this) (by have := LEN.out; simp [fs] at this ⊢; omega) hn (by simpa [fs] using x2) (by simpa [fs] using y1) (by have := LEN.out; simp [fs] at this ⊢; omega) (by have := LEN.out; simp [fs] at this ⊢; omega) (by have := LEN.out; simp [fs] at this ⊢; omega)
        go_wp2_with fail
        refine Calls.mono CR ?_
        rintro er w1 ⟨rfl, hr1, hk1⟩
        have R1 : Hid (Rb w1 g (fs (A ++ X1 ++ Y1 ++ (X2 ++ [] ++ B))) rest) := by unfold Hid; simpa [fs] using hr1
        have K2 : Hid (Kp g w w1) := K1.out.trans hk1
        clear hr1 hk1 CR
        have C1 := IH.out A X1 Y1 (X2 ++ [] ++ B) a st mid w1 (by have := LEN.out; simp at this ⊢; have := px1; have := py1; have := px2; omega) x1 y1 (rise_left HXY.out.1) (rise_left HXY.out.2.1) (fun x hx y hy => HXY.out.2.2 x (by simp [hx]) y (by simp [hy])) R1.out (by have := LEN.out; simp at this ⊢; omega) LEN.out.1 LEN.out.2.1 LEN.out.2.2.2.1
        go_wp2_with fail
        refine Calls.mono C1 ?_
        rintro er w2 ⟨rfl, Z1, z1p, z1r, hr1, hk1⟩
        have R2 : Hid (Rb w2 g (fs (A ++ Z1 ++ (X2 ++ [] ++ B))) rest) := hr1
        have K3 : Hid (Kp g w w2) := K2.out.trans hk1
        have P1 : Hid (Z1.Perm (X1 ++ Y1) ∧ Z1.Pairwise lt) := ⟨z1p, z1r⟩
        clear hr1 hk1 C1 z1p z1r
        obtain ⟨Z2, hZ2⟩ : ∃ Z, X2 = Z := ⟨_, rfl⟩
        have R3 : Hid (Rb w2 g (fs (A ++ Z1 ++ Z2 ++ B)) rest) := by have := R2.out; unfold Hid; rw [← hZ2]; simpa [fs] using this
        have K4 : Hid (Kp g w w2) := K3.out
        have P2 : Hid (Z2.Perm (X2 ++ []) ∧ Z2.Pairwise lt) := by rw [← hZ2]; exact ⟨by simp, rise_right HXY.out.1⟩
        clear hZ2
        go_wp2
        go_end0
        have ER := end_rise P1.out.1 P2.out.1 P1.out.2 P2.out.2 CUT.out
        exact ⟨rfl, Z1 ++ Z2, by simpa using ER.1, ER.2, by have := R3.out; simpa [fs] using this, K4.out⟩
      · subst x1
        have px2 := pos_of_ne x2
        have py1 := pos_of_ne y1
        subst y2
        simp only [List.length_nil] at hnum
        have d1 : ((st : Nat) : Int) < (m : Int) := by omega
        have d2 : ((m : Nat) : Int) < (e : Int) := by omega
        have d3 : ¬ ((a : Nat) : Int) < (st : Int) := by omega
        have d4 : ((st : Nat) : Int) < (mid : Int) := by omega
        have d5 : ((mid : Nat) : Int) < (e : Int) := by omega
        have d6 : ¬ ((e : Nat) : Int) < (b : Int) := by omega
        clear hnum
        have CR := rotate_any (fs (A ++ [])) (fs X2) (fs Y1) (fs ([] ++ B)) (.func (.func 116) #[] #[]) g cap L st m e rest wr (by have := RX.out; simpa [fs] using this) (by have := LEN.out; simp [fs] at this ⊢; omega) hn (by simpa [fs] using x2) (by simpa [fs] using y1) (by have := LEN.out; simp [fs] at this ⊢; omega) (by have := LEN.out; simp [fs] at this ⊢; omega) (by have := LEN.out; simp [fs] at this ⊢; omega)
        go_wp2_with fail
        refine Calls.mono CR ?_
        rintro er w1 ⟨rfl, hr1, hk1⟩
        have R1 : Hid (Rb w1 g (fs (A ++ [] ++ Y1 ++ (X2 ++ [] ++ B))) rest) := by unfold Hid; simpa [fs] using hr1
        have K2 : Hid (Kp g w w1) := K1.out.trans hk1
        clear hr1 hk1 CR
        obtain ⟨Z1, hZ1⟩ : ∃ Z, Y1 = Z := ⟨_, rfl⟩
        have R2 : Hid (Rb w1 g (fs (A ++ Z1 ++ (X2 ++ [] ++ B))) rest) := by have := R1.out; unfold Hid; rw [← hZ1]; simpa [fs] using this
        have K3 : Hid (Kp g w w1) := K2.out
        have P1 : Hid (Z1.Perm ([] ++ Y1) ∧ Z1.Pairwise lt) := by rw [← hZ1]; exact ⟨by simp, rise_left HXY.out.2.1⟩
        clear hZ1
        obtain ⟨Z2, hZ2⟩ : ∃ Z, X2 = Z := ⟨_, rfl⟩
        have R3 : Hid (Rb w1 g (fs (A ++ Z1 ++ Z2 ++ B)) rest) := by have := R2.out; unfold Hid; rw [← hZ2]; simpa [fs] using this
        have K4 : Hid (Kp g w w1) := K3.out
        have P2 : Hid (Z2.Perm (X2 ++ []) ∧ Z2.Pairwise lt) := by rw [← hZ2]; exact ⟨by simp, rise_right HXY.out.1⟩
        clear hZ2
        go_wp2
        go_end0
        have ER := end_rise P1.out.1 P2.out.1 P1.out.2 P2.out.2 CUT.out
        exact ⟨rfl, Z1 ++ Z2, by simpa using ER.1, ER.2, by have := R3.out; simpa [fs] using this, K4.out⟩
      · have px1 := pos_of_ne x1
        subst x2
        subst y1
        have py2 := pos_of_ne y2
        simp only [List.length_nil] at hnum
        have d1 : ¬ ((st : Nat) : Int) < (m : Int) := by omega
        have d2 : ¬ ((m : Nat) : Int) < (e : Int) := by omega
        have d3 : ((a : Nat) : Int) < (st : Int) := by omega
        have d4 : ¬ ((st : Nat) : Int) < (mid : Int) := by omega
        have d5 : ¬ ((mid : Nat) : Int) < (e : Int) := by omega
        have d6 : ((e : Nat) : Int) < (b : Int) := by omega
        clear hnum
        have R1 : Hid (Rb wr g (fs (A ++ X1 ++ [] ++ ([] ++ Y2 ++ B))) rest) := by have := RX.out; unfold Hid; simpa [fs] using this
        have K2 : Hid (Kp g w wr) := K1.out
        obtain ⟨Z1, hZ1⟩ : ∃ Z, X1 = Z := ⟨_, rfl⟩
        have R2 : Hid (Rb wr g (fs (A ++ Z1 ++ ([] ++ Y2 ++ B))) rest) := by have := R1.out; unfold Hid; rw [← hZ1]; simpa [fs] using this
        have K3 : Hid (Kp g w wr) := K2.out
        have P1 : Hid (Z1.Perm (X1 ++ []) ∧ Z1.Pairwise lt) := by rw [← hZ1]; exact ⟨by simp, rise_left HXY.out.1⟩
        clear hZ1
        obtain ⟨Z2, hZ2⟩ : ∃ Z, Y2 = Z := ⟨_, rfl⟩
        have R3 : Hid (Rb wr g (fs (A ++ Z1 ++ Z2 ++ B)) rest) := by have := R2.out; unfold Hid; rw [← hZ2]; simpa [fs] using this
        have K4 : Hid (Kp g w wr) := K3.out
        have P2 : Hid (Z2.Perm ([] ++ Y2) ∧ Z2.Pairwise lt) := by rw [← hZ2]; exact ⟨by simp, rise_right HXY.out.2.1⟩
        clear hZ2
        go_wp2
        go_end0
        have ER := end_rise P1.out.1 P2.out.1 P1.out.2 P2.out.2 CUT.out
        exact ⟨rfl, Z1 ++ Z2, by simpa using ER.1, ER.2, by have := R3.out; simpa [fs] using this, K4.out⟩
    · have hlt : ((st : Nat) : Int) < (r : Int) := by omega
      obtain ⟨t, ht⟩ : ∃ t, st + r = t := ⟨_, rfl⟩
      obtain ⟨c, hc⟩ : ∃ c, t / 2 = c := ⟨_, rfl⟩
      obtain ⟨q, hq⟩ : ∃ q, p - c = q := ⟨_, rfl⟩
      have hb1 := HLH.out
      have hb2 := HS.out
      have hb3 := HP.out
      have hb4 := HM.out
      have hcs : st ≤ c ∧ c < r := by omega
      have tt : ((st : Nat) : Int) + (r : Int) = (t : Nat) := by omega
      have wt : IntKind.i64.wrap ((t : Nat) : Int) = (t : Nat) := by rw [IntKind.wrap_i64]; omega
      have tc : ((t : Nat) : Int) / 2 = (c : Nat) := by omega
      have pq : ((p : Nat) : Int) - (c : Int) = (q : Nat) := by omega
      have wq : IntKind.i64.wrap ((q : Nat) : Int) = (q : Nat) := by rw [IntKind.wrap_i64]; omega
      have hqm : m ≤ q ∧ q < b := by omega
      have hcm : a ≤ c ∧ c < m := by omega
      obtain ⟨x, hx⟩ : ∃ x, X[c - a]? = some x := ⟨_, List.getElem?_eq_getElem (by omega)⟩
      obtain ⟨y, hy⟩ : ∃ y, Y[q - m]? = some y := ⟨_, List.getElem?_eq_getElem (by omega)⟩
      have Hx : Hid ((A ++ X ++ Y ++ B)[c]? = some x) := by unfold Hid; rw [in_x A X Y B hb4.1 hcm.1 (by omega)]; exact hx
      have Hy : Hid ((A ++ X ++ Y ++ B)[q]? = some y) := by unfold Hid; rw [in_y A X Y B (m := m) (by omega) hqm.1 (by omega)]; exact hy
      have IX : Hid (x.2 < y.2) := HXY.out.2.2 x (List.mem_of_getElem? hx) y (List.mem_of_getElem? hy)
      have FC : Hid (∀ W, Below wr.heap.size wr W → W.cell? ⟨g, c * 4, none⟩ = some (.int .i64 x.1.player) ∧ W.cell? ⟨g, c * 4 + 1, none⟩ = some (.int .i64 x.1.unit) ∧ W.cell? ⟨g, c * 4 + 2, none⟩ = some (.int .i64 x.1.what) ∧ W.cell? ⟨g, c * 4 + 3, none⟩ = some (.int .i64 x.1.arg) ∧ W.cell? ⟨g, q * 4, none⟩ = some (.int .i64 y.1.player) ∧ W.cell? ⟨g, q * 4 + 1, none⟩ = some (.int .i64 y.1.unit) ∧ W.cell? ⟨g, q * 4 + 2, none⟩ = some (.int .i64 y.1.what) ∧ W.cell? ⟨g, q * 4 + 3, none⟩ = some (.int .i64 y.1.arg)) := fun W hW => by
        have r := RB.out.below hW RB.out.lt
        obtain ⟨x0, x1, x2, x3⟩ := r.cells (fs_at Hx.out)
        obtain ⟨y0, y1, y2, y3⟩ := r.cells (fs_at Hy.out)
        exact ⟨x0, x1, x2, x3, y0, y1, y2, y3⟩
      have CC : Hid (∀ W, Below wr.heap.size wr W → Calls Tryz.prog 116 #[.agg #[.int .i64 y.1.player, .int .i64 y.1.unit, .int .i64 y.1.what, .int .i64 y.1.arg], .agg #[.int .i64 x.1.player, .int .i64 x.1.unit, .int .i64 x.1.what, .int .i64 x.1.arg]] W fun e w' => e = .returned (.int .i64 (cmpo y.1 x.1)) ∧ Below wr.heap.size wr w') := fun W hW => (compare_any y.1 x.1 W).mono fun e w' ⟨h1, h2⟩ => ⟨h1, hW.trans (h2.mono hW.size)⟩
      have ec := ecmp
      have hcL : ((c : Nat) : Int) < (L : Int) := by omega
      have hqL : ((q : Nat) : Int) < (L : Int) := by omega
      have HC : Hid (st ≤ c ∧ c < r ∧ q + c = p) := ⟨hcs.1, hcs.2, by omega⟩
      clear hb1 hb2 hb3 hb4 ht hc hq hcs hqm hcm hx hy hst hsr hrh
      go_upto_region 35 with fail
      refine wp_region_class 12 (fun W => Below wr.heap.size wr W) (by kernel_rfl) (by kernel_rfl) (Below.refl _ _).drew ?_
      simp only [List.take_succ_cons, List.take_zero, List.drop_succ_cons, List.drop_zero]
      refine head_step (.func (.func 116) #[] #[]) (by go_simp) (fun W hW => by go_simp) ?_
      go_simp
      refine head_step (.slice (some ⟨g, 0, none⟩) L cap) (by go_simp) (fun W hW => by go_simp) ?_
      go_simp
      refine head_step (.int .i64 (p : Int)) (by go_simp) (fun W hW => by go_simp) ?_
      go_simp
      refine head_step (.int .i64 (c : Int)) (by go_simp) (fun W hW => by go_simp) ?_
      go_simp
      refine head_step (.int .i64 (q : Int)) (by go_simp) (fun W hW => by go_simp) ?_
      go_simp
      refine head_step (.pointer (some ⟨g, q * 4, none⟩)) (by go_simp) (fun W hW => by go_simp) ?_
      go_simp
      refine head_step (.agg #[.int .i64 y.1.player, .int .i64 y.1.unit, .int .i64 y.1.what, .int .i64 y.1.arg]) (by go_simp) (fun W hW => by obtain ⟨-, -, -, -, y0, y1, y2, y3⟩ := FC.out W hW; go_simp) ?_
      go_simp
      refine head_step (.slice (some ⟨g, 0, none⟩) L cap) (by go_simp) (fun W hW => by go_simp) ?_
      go_simp
      refine head_step (.int .i64 (c : Int)) (by go_simp) (fun W hW => by go_simp) ?_
      go_simp
      refine head_step (.pointer (some ⟨g, c * 4, none⟩)) (by go_simp) (fun W hW => by go_simp) ?_
      go_simp
      refine head_step (.agg #[.int .i64 x.1.player, .int .i64 x.1.unit, .int .i64 x.1.what, .int .i64 x.1.arg]) (by go_simp) (fun W hW => by obtain ⟨x0, x1, x2, x3, -⟩ := FC.out W hW; go_simp) ?_
      go_simp
      refine head_call (.int .i64 (cmpo y.1 x.1)) 116 #[.agg #[.int .i64 y.1.player, .int .i64 y.1.unit, .int .i64 y.1.what, .int .i64 y.1.arg], .agg #[.int .i64 x.1.player, .int .i64 x.1.unit, .int .i64 x.1.what, .int .i64 x.1.arg]] (by go_simp) (fun W hW => by go_simp) (fun W hW => CC.out W hW) ?_
      go_simp
      intro W hW
      have RW : Hid (Rb W g (fs (A ++ X ++ Y ++ B)) rest) := RB.out.below hW RB.out.lt
      have KW : Hid (Kp g w W) := K1.out.trans (Kp.of hW)
      by_cases hcm : cmpo y.1 x.1 < 0
      · have LX : Hid (lt y x) := (ask_lt IX.out).1 ((klt_iff _ _).1 hcm)
        clear hW FC CC
        go_wp2
        go_roundw
        case rel =>
          obtain ⟨c1, c2, c3⟩ := HC.out
          obtain ⟨s1, s2, s3⟩ := HSR.out
          have hp := HP.out
          have eq : n - 1 - c = q := by omega
          exact ⟨st, c, rfl, rfl, s1, c1, by omega, F1.out, fun _ => ⟨x, y, Hx.out, by rw [eq]; exact Hy.out, LX.out⟩, RW.out, KW.out⟩
        case measure => have := HC.out; simp [intOf]; omega
      · have LX : Hid (lt x y) := (ask_ge IX.out).1 (fun h => hcm ((klt_iff _ _).2 h))
        clear hW FC CC
        go_wp2
        go_roundw
        case rel =>
          obtain ⟨c1, c2, c3⟩ := HC.out
          obtain ⟨s1, s2, s3⟩ := HSR.out
          have hp := HP.out
          have eq : n - (c + 1) = q := by omega
          exact ⟨c + 1, r, rfl, rfl, by omega, by omega, s3, fun _ => ⟨x, y, by rw [Nat.add_sub_cancel]; exact Hx.out, by rw [eq]; exact Hy.out, LX.out⟩, F2.out, RW.out, KW.out⟩
        case measure => have := HC.out; simp [intOf]; omega
end Go.Proofs.YthcndngdngjalaaGreatDoor

namespace Go.Proofs.YthcndngdngjalaaGreatDoor
open Go.RowKit Go.Proofs.YthcndngdngjalaaGreatDoor.So
set_option linter.unusedVariables false

set_option maxRecDepth 100000 in
set_option maxHeartbeats 64000000 in
theorem sym_hi (N : Nat) (A X Y B : List T) (g cap L a m b : Nat) (rest : List Value) (w : World) (ih : SymIH N g cap L rest) (hN : X.length + Y.length ≤ N + 1) (lx : 2 ≤ X.length) (ly : 2 ≤ Y.length) (hX : X.Pairwise lt) (hY : Y.Pairwise lt) (hpl : ∀ x ∈ X, ∀ y ∈ Y, x.2 < y.2) (hr : Rb w g (fs (A ++ X ++ Y ++ B)) rest) (hL : A.length + X.length + Y.length + B.length = L) (hn : L ≤ 1000) (ha : A.length = a) (hm : a + X.length = m) (hb : m + Y.length = b) (hmm : m ≤ (a + b) / 2) :
    Calls Tryz.prog 168 #[.slice (some ⟨g, 0, none⟩) L cap, .int .i64 (a : Nat), .int .i64 (m : Nat), .int .i64 (b : Nat), .func (.func 116) #[] #[]] w (MergeSays A (X ++ Y) B g rest w) := by
  have IH : Hid (SymIH N g cap L rest) := ih
  have R0 : Hid (Rb w g (fs (A ++ X ++ Y ++ B)) rest) := hr
  have HN : Hid (X.length + Y.length ≤ N + 1) := hN
  have HL : Hid (A.length + X.length + Y.length + B.length = L) := hL
  have HM : Hid (A.length = a ∧ a + X.length = m ∧ m + Y.length = b) := ⟨ha, hm, hb⟩
  have HXY : Hid (X.Pairwise lt ∧ Y.Pairwise lt ∧ ∀ x ∈ X, ∀ y ∈ Y, x.2 < y.2) := ⟨hX, hY, hpl⟩
  have HXL : Hid (2 ≤ X.length ∧ 2 ≤ Y.length) := ⟨lx, ly⟩
  have hbL : b ≤ L := by omega
  have ham : a + 2 ≤ m := by omega
  have hmb : m + 2 ≤ b := by omega
  obtain ⟨dx, hdx⟩ : ∃ d, m - a = d := ⟨_, rfl⟩
  obtain ⟨dy, hdy⟩ : ∃ d, b - m = d := ⟨_, rfl⟩
  obtain ⟨s, hs⟩ : ∃ s, a + b = s := ⟨_, rfl⟩
  rw [hs] at hmm
  obtain ⟨mid, hmid⟩ : ∃ d, s / 2 = d := ⟨_, rfl⟩
  rw [hmid] at hmm
  obtain ⟨n, hnn⟩ : ∃ n, mid + m = n := ⟨_, rfl⟩
  have smi : ((m : Nat) : Int) - (a : Int) = (dx : Nat) := by omega
  have wdx : IntKind.i64.wrap ((dx : Nat) : Int) = (dx : Nat) := by rw [IntKind.wrap_i64]; omega
  have dx1 : (((dx : Nat) : Int) == 1) = false := by
    have : ¬ ((dx : Nat) : Int) = 1 := by omega
    simpa using this
  have sbm : ((b : Nat) : Int) - (m : Int) = (dy : Nat) := by omega
  have wdy : IntKind.i64.wrap ((dy : Nat) : Int) = (dy : Nat) := by rw [IntKind.wrap_i64]; omega
  have dy1 : (((dy : Nat) : Int) == 1) = false := by
    have : ¬ ((dy : Nat) : Int) = 1 := by omega
    simpa using this
  have ss : ((a : Nat) : Int) + (b : Int) = (s : Nat) := by omega
  have ws : IntKind.i64.wrap ((s : Nat) : Int) = (s : Nat) := by rw [IntKind.wrap_i64]; omega
  have sm : ((s : Nat) : Int) / 2 = (mid : Nat) := by omega
  have sn : ((mid : Nat) : Int) + (m : Int) = (n : Nat) := by omega
  have wn : IntKind.i64.wrap ((n : Nat) : Int) = (n : Nat) := by rw [IntKind.wrap_i64]; omega
  have HS : Hid (a < mid ∧ mid < b ∧ mid + m = n ∧ mid + mid ≤ a + b ∧ a + b ≤ mid + mid + 1 ∧ a + 2 ≤ m ∧ m + 2 ≤ b ∧ b ≤ L) := ⟨by omega, by omega, by omega, by omega, by omega, ham, hmb, hbL⟩
  obtain ⟨p, hp⟩ : ∃ p, n - 1 = p := ⟨_, rfl⟩
  have sp : ((n : Nat) : Int) - 1 = (p : Nat) := by omega
  have wp' : IntKind.i64.wrap ((p : Nat) : Int) = (p : Nat) := by rw [IntKind.wrap_i64]; omega
  have HP : Hid (p + 1 = n) := by unfold Hid; omega
  clear hr hN hL hX hY hpl ha hm hb lx ly
  have HLH : Hid (a ≤ a ∧ a ≤ m ∧ m ≤ m ∧ m ≤ mid ∧ (a = a ∨ a + b = n) ∧ (m = m ∨ m = mid) ∧ n ≤ a + b) := by refine ⟨by omega, by omega, by omega, by omega, .inl rfl, .inl rfl, by omega⟩
  have hgt : ¬ ((mid : Nat) : Int) < (m : Int) := by omega
  clear hdx hdy hs hmid hnn hp hmm
  go_enter Tryz.func168, Tryz.ntmps168
  go_wp2
  clear smi wdx dx1 sbm wdy dy1 ss ws sm sn wn sp wp' hgt
  try clear slo wlo
  go_loopw [20, 21] (fun sv rv W => SyI (A ++ X ++ Y ++ B) g rest w n a m sv rv W) (fun sv rv _ => (intOf rv).toNat - (intOf sv).toNat)
  case atStart =>
    have h := HLH.out
    exact ⟨a, m, rfl, rfl, Nat.le_refl _, h.2.1, Nat.le_refl _, fun h => absurd h (Nat.lt_irrefl _), fun h => absurd h (Nat.lt_irrefl _), R0.out, Kp.refl _ _⟩
  case round =>
    obtain ⟨st, r, rfl, rfl, hst, hsr, hrh, hF1, hF2, hrb, hk⟩ := hrel
    have RB : Hid (Rb wr g (fs (A ++ X ++ Y ++ B)) rest) := hrb
    have K1 : Hid (Kp g w wr) := hk
    have F1 : Hid (a < st → ∃ x y, (A ++ X ++ Y ++ B)[st - 1]? = some x ∧ (A ++ X ++ Y ++ B)[n - st]? = some y ∧ lt x y) := hF1
    have F2 : Hid (r < m → ∃ x y, (A ++ X ++ Y ++ B)[r]? = some x ∧ (A ++ X ++ Y ++ B)[n - 1 - r]? = some y ∧ lt y x) := hF2
    have HSR : Hid (a ≤ st ∧ st ≤ r ∧ r ≤ m) := ⟨hst, hsr, hrh⟩
    clear hrb hk hF1 hF2
    by_cases he : st = r
    · subst he
      have hb1 := HLH.out
      have hb2 := HS.out
      have hb4 := HM.out
      have hb5 := HSR.out
      have hb6 := HN.out
      have hb7 := HL.out
      obtain ⟨X1, X2, Y1, Y2, hX12, hY12, l1, l2, l3, l4, hcut⟩ := cut_here A X Y B HXY.out.1 HXY.out.2.1 hb4.1 hb4.2.1 hb4.2.2 hb2.2.2.1 hb1.1 hb5.1 hb5.2.2 hb1.2.2.1 hb1.2.2.2.1 (by omega) (by omega) hb1.2.2.2.2.2.2 F1.out F2.out
      subst hX12
      subst hY12
      simp only [List.length_append] at hb4 hb6 hb7
      obtain ⟨e, hee⟩ : ∃ e, m + Y1.length = e := ⟨_, rfl⟩
      have sne : ((n : Nat) : Int) - (st : Int) = (e : Nat) := by omega
      have wne : IntKind.i64.wrap ((e : Nat) : Int) = (e : Nat) := by rw [IntKind.wrap_i64]; omega
      have hlt : ¬ ((st : Nat) : Int) < (st : Int) := by omega
      have CUT : Hid (∀ p ∈ X1 ++ Y1, ∀ q ∈ X2 ++ Y2, lt p q) := hcut
      have LEN : Hid (A.length = a ∧ a + X1.length = st ∧ st + X2.length = m ∧ st + Y1.length = mid ∧ m + Y1.length = e ∧ e + Y2.length = b ∧ mid + X2.length = e ∧ A.length + X1.length + X2.length + Y1.length + Y2.length + B.length = L ∧ X1.length + X2.length + Y1.length + Y2.length ≤ N + 1 ∧ L ≤ 1000) := by refine ⟨hb4.1, l1, l2, l3, hee, by omega, by omega, by omega, by omega, hn⟩
      have CB := combos X1 X2 Y1 Y2 (by have := HXL.out; simp only [List.length_append] at this; omega) (by have := HXL.out; simp only [List.length_append] at this; omega) (by omega) (by omega)
      have RX : Hid (Rb wr g (fs (A ++ (X1 ++ X2) ++ (Y1 ++ Y2) ++ B)) rest) := RB.out
      have hnum := LEN.out
      clear hb1 hb2 hb4 hb5 hb6 hb7 hcut l1 l2 l3 l4 hee hst hsr hrh F1 F2
      rcases CB with ⟨x1, x2, y1, y2⟩ | ⟨x1, x2, y1, y2⟩ | ⟨x1, x2, y1, y2⟩ | ⟨x1, x2, y1, y2⟩ | ⟨x1, x2, y1, y2⟩ | ⟨x1, x2, y1, y2⟩ | ⟨x1, x2, y1, y2⟩
      · have px1 := pos_of_ne x1
        have px2 := pos_of_ne x2
        have py1 := pos_of_ne y1
        have py2 := pos_of_ne y2
        have d1 : ((st : Nat) : Int) < (m : Int) := by omega
        have d2 : ((m : Nat) : Int) < (e : Int) := by omega
        have d3 : ((a : Nat) : Int) < (st : Int) := by omega
        have d4 : ((st : Nat) : Int) < (mid : Int) := by omega
        have d5 : ((mid : Nat) : Int) < (e : Int) := by omega
        have d6 : ((e : Nat) : Int) < (b : Int) := by omega
        clear hnum
        have CR := rotate_any (fs (A ++ X1)) (fs X2) (fs Y1) (fs (Y2 ++ B)) (.func (.func 116) #[] #[]) g cap L st m e rest wr (by have := RX.out; simpa [fs] using this) (by have := LEN.out; simp [fs] at this ⊢; omega) hn (by simpa [fs] using x2) (by simpa [fs] using y1) (by have := LEN.out; simp [fs] at this ⊢; omega) (by have := LEN.out; simp [fs] at this ⊢; omega) (by have := LEN.out; simp [fs] at this ⊢; omega)
        go_wp2_with fail
        refine Calls.mono CR ?_
        rintro er w1 ⟨rfl, hr1, hk1⟩
        have R1 : Hid (Rb w1 g (fs (A ++ X1 ++ Y1 ++ (X2 ++ Y2 ++ B))) rest) := by unfold Hid; simpa [fs] using hr1
        have K2 : Hid (Kp g w w1) := K1.out.trans hk1
        clear hr1 hk1 CR
        have C1 := IH.out A X1 Y1 (X2 ++ Y2 ++ B) a st mid w1 (by have := LEN.out; simp at this ⊢; have := px1; have := py1; have := px2; have := py2; omega) x1 y1 (rise_left HXY.out.1) (rise_left HXY.out.2.1) (fun x hx y hy => HXY.out.2.2 x (by simp [hx]) y (by simp [hy])) R1.out (by have := LEN.out; simp at this ⊢; omega) LEN.out.1 LEN.out.2.1 LEN.out.2.2.2.1
        go_wp2_with fail
        refine Calls.mono C1 ?_
        rintro er w2 ⟨rfl, Z1, z1p, z1r, hr1, hk1⟩
        have R2 : Hid (Rb w2 g (fs (A ++ Z1 ++ (X2 ++ Y2 ++ B))) rest) := hr1
        have K3 : Hid (Kp g w w2) := K2.out.trans hk1
        have P1 : Hid (Z1.Perm (X1 ++ Y1) ∧ Z1.Pairwise lt) := ⟨z1p, z1r⟩
        clear hr1 hk1 C1 z1p z1r
        have hz1 := P1.out.1.length_eq
        have C2 := IH.out (A ++ Z1) X2 Y2 B mid e b w2 (by have := LEN.out; simp at this ⊢; have := px1; have := py1; have := px2; have := py2; omega) x2 y2 (rise_right HXY.out.1) (rise_right HXY.out.2.1) (fun x hx y hy => HXY.out.2.2 x (by simp [hx]) y (by simp [hy])) (by have := R2.out; simpa [fs] using this) (by have := LEN.out; simp at this hz1 ⊢; omega) (by have := LEN.out; simp at this hz1 ⊢; omega) LEN.out.2.2.2.2.2.2.1 LEN.out.2.2.2.2.2.1
        go_wp2_with fail
        refine Calls.mono C2 ?_
        rintro er w3 ⟨rfl, Z2, z2p, z2r, hr1, hk1⟩
        have R3 : Hid (Rb w3 g (fs (A ++ Z1 ++ Z2 ++ B)) rest) := by unfold Hid; simpa [fs] using hr1
        have K4 : Hid (Kp g w w3) := K3.out.trans hk1
        have P2 : Hid (Z2.Perm (X2 ++ Y2) ∧ Z2.Pairwise lt) := ⟨z2p, z2r⟩
        clear hr1 hk1 C2 z2p z2r hz1
        go_wp2
        go_end0
        have ER := end_rise P1.out.1 P2.out.1 P1.out.2 P2.out.2 CUT.out
        exact ⟨rfl, Z1 ++ Z2, by simpa using ER.1, ER.2, by have := R3.out; simpa [fs] using this, K4.out⟩
      · subst x1
        have px2 := pos_of_ne x2
        have py1 := pos_of_ne y1
        have py2 := pos_of_ne y2
        simp only [List.length_nil] at hnum
        have d1 : ((st : Nat) : Int) < (m : Int) := by omega
        have d2 : ((m : Nat) : Int) < (e : Int) := by omega
        have d3 : ¬ ((a : Nat) : Int) < (st : Int) := by omega
        have d4 : ((st : Nat) : Int) < (mid : Int) := by omega
        have d5 : ((mid : Nat) : Int) < (e : Int) := by omega
        have d6 : ((e : Nat) : Int) < (b : Int) := by omega
        clear hnum
        have CR := rotate_any (fs (A ++ [])) (fs X2) (fs Y1) (fs (Y2 ++ B)) (.func (.func 116) #[] #[]) g cap L st m e rest wr (by have := RX.out; simpa [fs] using this) (by have := LEN.out; simp [fs] at this ⊢; omega) hn (by simpa [fs] using x2) (by simpa [fs] using y1) (by have := LEN.out; simp [fs] at this ⊢; omega) (by have := LEN.out; simp [fs] at this ⊢; omega) (by have := LEN.out; simp [fs] at this ⊢; omega)
        go_wp2_with fail
        refine Calls.mono CR ?_
        rintro er w1 ⟨rfl, hr1, hk1⟩
        have R1 : Hid (Rb w1 g (fs (A ++ [] ++ Y1 ++ (X2 ++ Y2 ++ B))) rest) := by unfold Hid; simpa [fs] using hr1
        have K2 : Hid (Kp g w w1) := K1.out.trans hk1
        clear hr1 hk1 CR
        obtain ⟨Z1, hZ1⟩ : ∃ Z, Y1 = Z := ⟨_, rfl⟩
        have R2 : Hid (Rb w1 g (fs (A ++ Z1 ++ (X2 ++ Y2 ++ B))) rest) := by have := R1.out; unfold Hid; rw [← hZ1]; simpa [fs] using this
        have K3 : Hid (Kp g w w1) := K2.out
        have P1 : Hid (Z1.Perm ([] ++ Y1) ∧ Z1.Pairwise lt) := by rw [← hZ1]; exact ⟨by simp, rise_left HXY.out.2.1⟩
        clear hZ1
        have hz1 := P1.out.1.length_eq
        have C2 := IH.out (A ++ Z1) X2 Y2 B mid e b w1 (by have := LEN.out; simp at this ⊢; have := py1; have := px2; have := py2; omega) x2 y2 (rise_right HXY.out.1) (rise_right HXY.out.2.1) (fun x hx y hy => HXY.out.2.2 x (by simp [hx]) y (by simp [hy])) (by have := R2.out; simpa [fs] using this) (by have := LEN.out; simp at this hz1 ⊢; omega) (by have := LEN.out; simp at this hz1 ⊢; omega) LEN.out.2.2.2.2.2.2.1 LEN.out.2.2.2.2.2.1
        go_wp2_with fail
        refine Calls.mono C2 ?_
        rintro er w3 ⟨rfl, Z2, z2p, z2r, hr1, hk1⟩
        have R3 : Hid (Rb w3 g (fs (A ++ Z1 ++ Z2 ++ B)) rest) := by unfold Hid; simpa [fs] using hr1
        have K4 : Hid (Kp g w w3) := K3.out.trans hk1
        have P2 : Hid (Z2.Perm (X2 ++ Y2) ∧ Z2.Pairwise lt) := ⟨z2p, z2r⟩
        clear hr1 hk1 C2 z2p z2r hz1
        go_wp2
        go_end0
        have ER := end_rise P1.out.1 P2.out.1 P1.out.2 P2.out.2 CUT.out
        exact ⟨rfl, Z1 ++ Z2, by simpa using ER.1, ER.2, by have := R3.out; simpa [fs] using this, K4.out⟩
      · have px1 := pos_of_ne x1
        subst x2
        have py1 := pos_of_ne y1
        have py2 := pos_of_ne y2
        simp only [List.length_nil] at hnum
        have d1 : ¬ ((st : Nat) : Int) < (m : Int) := by omega
        have d2 : ((m : Nat) : Int) < (e : Int) := by omega
        have d3 : ((a : Nat) : Int) < (st : Int) := by omega
        have d4 : ((st : Nat) : Int) < (mid : Int) := by omega
        have d5 : ¬ ((mid : Nat) : Int) < (e : Int) := by omega
        have d6 : ((e : Nat) : Int) < (b : Int) := by omega
        clear hnum
        have R1 : Hid (Rb wr g (fs (A ++ X1 ++ Y1 ++ ([] ++ Y2 ++ B))) rest) := by have := RX.out; unfold Hid; simpa [fs] using this
        have K2 : Hid (Kp g w wr) := K1.out
        have C1 := IH.out A X1 Y1 ([] ++ Y2 ++ B) a st mid wr (by have := LEN.out; simp at this ⊢; have := px1; have := py1; have := py2; omega) x1 y1 (rise_left HXY.out.1) (rise_left HXY.out.2.1) (fun x hx y hy => HXY.out.2.2 x (by simp [hx]) y (by simp [hy])) R1.out (by have := LEN.out; simp at this ⊢; omega) LEN.out.1 LEN.out.2.1 LEN.out.2.2.2.1
        go_wp2_with fail
        refine Calls.mono C1 ?_
        rintro er w2 ⟨rfl, Z1, z1p, z1r, hr1, hk1⟩
        have R2 : Hid (Rb w2 g (fs (A ++ Z1 ++ ([] ++ Y2 ++ B))) rest) := hr1
        have K3 : Hid (Kp g w w2) := K2.out.trans hk1
        have P1 : Hid (Z1.Perm (X1 ++ Y1) ∧ Z1.Pairwise lt) := ⟨z1p, z1r⟩
        clear hr1 hk1 C1 z1p z1r
        obtain ⟨Z2, hZ2⟩ : ∃ Z, Y2 = Z := ⟨_, rfl⟩
        have R3 : Hid (Rb w2 g (fs (A ++ Z1 ++ Z2 ++ B)) rest) := by have := R2.out; unfold Hid; rw [← hZ2]; simpa [fs] using this
        have K4 : Hid (Kp g w w2) := K3.out
        have P2 : Hid (Z2.Perm ([] ++ Y2) ∧ Z2.Pairwise lt) := by rw [← hZ2]; exact ⟨by simp, rise_right HXY.out.2.1⟩
        clear hZ2
        go_wp2
        go_end0
        have ER := end_rise P1.out.1 P2.out.1 P1.out.2 P2.out.2 CUT.out
        exact ⟨rfl, Z1 ++ Z2, by simpa using ER.1, ER.2, by have := R3.out; simpa [fs] using this, K4.out⟩
      · have px1 := pos_of_ne x1
        have px2 := pos_of_ne x2
        subst y1
        have py2 := pos_of_ne y2
        simp only [List.length_nil] at hnum
        have d1 : ((st : Nat) : Int) < (m : Int) := by omega
        have d2 : ¬ ((m : Nat) : Int) < (e : Int) := by omega
        have d3 : ((a : Nat) : Int) < (st : Int) := by omega
        have d4 : ¬ ((st : Nat) : Int) < (mid : Int) := by omega
        have d5 : ((mid : Nat) : Int) < (e : Int) := by omega
        have d6 : ((e : Nat) : Int) < (b : Int) := by omega
        clear hnum
        have R1 : Hid (Rb wr g (fs (A ++ X1 ++ [] ++ (X2 ++ Y2 ++ B))) rest) := by have := RX.out; unfold Hid; simpa [fs] using this
        have K2 : Hid (Kp g w wr) := K1.out
        obtain ⟨Z1, hZ1⟩ : ∃ Z, X1 = Z := ⟨_, rfl⟩
        have R2 : Hid (Rb wr g (fs (A ++ Z1 ++ (X2 ++ Y2 ++ B))) rest) := by have := R1.out; unfold Hid; rw [← hZ1]; simpa [fs] using this
        have K3 : Hid (Kp g w wr) := K2.out
        have P1 : Hid (Z1.Perm (X1 ++ []) ∧ Z1.Pairwise lt) := by rw [← hZ1]; exact ⟨by simp, rise_left HXY.out.1⟩
        clear hZ1
        have hz1 := P1.out.1.length_eq
        have C2 := IH.out (A ++ Z1) X2 Y2 B mid e b wr (by have := LEN.out; simp at this ⊢; have := px1; have := px2; have := py2; omega) x2 y2 (rise_right HXY.out.1) (rise_right HXY.out.2.1) (fun x hx y hy => HXY.out.2.2 x (by simp [hx]) y (by simp [hy])) (by have := R2.out; simpa [fs] using this) (by have := LEN.out; simp at this hz1 ⊢; omega) (by have := LEN.out; simp at this hz1 ⊢; omega) LEN.out.2.2.2.2.2.2.1 LEN.out.2.2.2.2.2.1
        go_wp2_with fail
        refine Calls.mono C2 ?_
        rintro er w3 ⟨rfl, Z2, z2p, z2r, hr1, hk1⟩
        have R3 : Hid (Rb w3 g (fs (A ++ Z1 ++ Z2 ++ B)) rest) := by unfold Hid; simpa [fs] using hr1
        have K4 : Hid (Kp g w w3) := K3.out.trans hk1
        have P2 : Hid (Z2.Perm (X2 ++ Y2) ∧ Z2.Pairwise lt) := ⟨z2p, z2r⟩
        clear hr1 hk1 C2 z2p z2r hz1
        go_wp2
        go_end0
        have ER := end_rise P1.out.1 P2.out.1 P1.out.2 P2.out.2 CUT.out
        exact ⟨rfl, Z1 ++ Z2, by simpa using ER.1, ER.2, by have := R3.out; simpa [fs] using this, K4.out⟩
      · have px1 := pos_of_ne x1
        have px2 := pos_of_ne x2
        have py1 := pos_of_ne y1
        subst y2
        simp only [List.length_nil] at hnum
        have d1 : ((st : Nat) : Int) < (m : Int) := by omega
        have d2 : ((m : Nat) : Int) < (e : Int) := by omega
        have d3 : ((a : Nat) : Int) < (st : Int) := by omega
        have d4 : ((st : Nat) : Int) < (mid : Int) := by omega
        have d5 : ((mid : Nat) : Int) < (e : Int) := by omega
        have d6 : ¬ ((e : Nat) : Int) < (b : Int) := by omega
        clear hnum
        have CR := rotate_any (fs (A ++ X1)) (fs X2) (fs Y1) (fs ([] ++ B)) (.func (.func 116) #[] #[]) g cap L st m e rest wr (by have := RX.out; simpa [fs] using this) (by have := LEN.out; simp [fs] at this ⊢; omega) hn (by simpa [fs] using x2) (by simpa [fs] using y1) (by have := LEN.out; simp [fs] at this ⊢; omega) (by have := LEN.out; simp [fs] at this ⊢; omega) (by have := LEN.out; simp [fs] at this ⊢; omega)
        go_wp2_with fail
        refine Calls.mono CR ?_
        rintro er w1 ⟨rfl, hr1, hk1⟩
        have R1 : Hid (Rb w1 g (fs (A ++ X1 ++ Y1 ++ (X2 ++ [] ++ B))) rest) := by unfold Hid; simpa [fs] using hr1
        have K2 : Hid (Kp g w w1) := K1.out.trans hk1
        clear hr1 hk1 CR
        have C1 := IH.out A X1 Y1 (X2 ++ [] ++ B) a st mid w1 (by have := LEN.out; simp at this ⊢; have := px1; have := py1; have := px2; omega) x1 y1 (rise_left HXY.out.1) (rise_left HXY.out.2.1) (fun x hx y hy => HXY.out.2.2 x (by simp [hx]) y (by simp [hy])) R1.out (by have := LEN.out; simp at this ⊢; omega) LEN.out.1 LEN.out.2.1 LEN.out.2.2.2.1
        go_wp2_with fail
        refine Calls.mono C1 ?_
        rintro er w2 ⟨rfl, Z1, z1p, z1r, hr1, hk1⟩
        have R2 : Hid (Rb w2 g (fs (A ++ Z1 ++ (X2 ++ [] ++ B))) rest) := hr1
        have K3 : Hid (Kp g w w2) := K2.out.trans hk1
        have P1 : Hid (Z1.Perm (X1 ++ Y1) ∧ Z1.Pairwise lt) := ⟨z1p, z1r⟩
        clear hr1 hk1 C1 z1p z1r
        obtain ⟨Z2, hZ2⟩ : ∃ Z, X2 = Z := ⟨_, rfl⟩
        have R3 : Hid (Rb w2 g (fs (A ++ Z1 ++ Z2 ++ B)) rest) := by have := R2.out; unfold Hid; rw [← hZ2]; simpa [fs] using this
        have K4 : Hid (Kp g w w2) := K3.out
        have P2 : Hid (Z2.Perm (X2 ++ []) ∧ Z2.Pairwise lt) := by rw [← hZ2]; exact ⟨by simp, rise_right HXY.out.1⟩
        clear hZ2
        go_wp2
        go_end0
        have ER := end_rise P1.out.1 P2.out.1 P1.out.2 P2.out.2 CUT.out
        exact ⟨rfl, Z1 ++ Z2, by simpa using ER.1, ER.2, by have := R3.out; simpa [fs] using this, K4.out⟩
      · subst x1
        have px2 := pos_of_ne x2
        have py1 := pos_of_ne y1
        subst y2
        simp only [List.length_nil] at hnum
        have d1 : ((st : Nat) : Int) < (m : Int) := by omega
        have d2 : ((m : Nat) : Int) < (e : Int) := by omega
        have d3 : ¬ ((a : Nat) : Int) < (st : Int) := by omega
        have d4 : ((st : Nat) : Int) < (mid : Int) := by omega
        have d5 : ((mid : Nat) : Int) < (e : Int) := by omega
        have d6 : ¬ ((e : Nat) : Int) < (b : Int) := by omega
        clear hnum
        have CR := rotate_any (fs (A ++ [])) (fs X2) (fs Y1) (fs ([] ++ B)) (.func (.func 116) #[] #[]) g cap L st m e rest wr (by have := RX.out; simpa [fs] using this) (by have := LEN.out; simp [fs] at this ⊢; omega) hn (by simpa [fs] using x2) (by simpa [fs] using y1) (by have := LEN.out; simp [fs] at this ⊢; omega) (by have := LEN.out; simp [fs] at this ⊢; omega) (by have := LEN.out; simp [fs] at this ⊢; omega)
        go_wp2_with fail
        refine Calls.mono CR ?_
        rintro er w1 ⟨rfl, hr1, hk1⟩
        have R1 : Hid (Rb w1 g (fs (A ++ [] ++ Y1 ++ (X2 ++ [] ++ B))) rest) := by unfold Hid; simpa [fs] using hr1
        have K2 : Hid (Kp g w w1) := K1.out.trans hk1
        clear hr1 hk1 CR
        obtain ⟨Z1, hZ1⟩ : ∃ Z, Y1 = Z := ⟨_, rfl⟩
        have R2 : Hid (Rb w1 g (fs (A ++ Z1 ++ (X2 ++ [] ++ B))) rest) := by have := R1.out; unfold Hid; rw [← hZ1]; simpa [fs] using this
        have K3 : Hid (Kp g w w1) := K2.out
        have P1 : Hid (Z1.Perm ([] ++ Y1) ∧ Z1.Pairwise lt) := by rw [← hZ1]; exact ⟨by simp, rise_left HXY.out.2.1⟩
        clear hZ1
        obtain ⟨Z2, hZ2⟩ : ∃ Z, X2 = Z := ⟨_, rfl⟩
        have R3 : Hid (Rb w1 g (fs (A ++ Z1 ++ Z2 ++ B)) rest) := by have := R2.out; unfold Hid; rw [← hZ2]; simpa [fs] using this
        have K4 : Hid (Kp g w w1) := K3.out
        have P2 : Hid (Z2.Perm (X2 ++ []) ∧ Z2.Pairwise lt) := by rw [← hZ2]; exact ⟨by simp, rise_right HXY.out.1⟩
        clear hZ2
        go_wp2
        go_end0
        have ER := end_rise P1.out.1 P2.out.1 P1.out.2 P2.out.2 CUT.out
        exact ⟨rfl, Z1 ++ Z2, by simpa using ER.1, ER.2, by have := R3.out; simpa [fs] using this, K4.out⟩
      · have px1 := pos_of_ne x1
        subst x2
        subst y1
        have py2 := pos_of_ne y2
        simp only [List.length_nil] at hnum
        have d1 : ¬ ((st : Nat) : Int) < (m : Int) := by omega
        have d2 : ¬ ((m : Nat) : Int) < (e : Int) := by omega
        have d3 : ((a : Nat) : Int) < (st : Int) := by omega
        have d4 : ¬ ((st : Nat) : Int) < (mid : Int) := by omega
        have d5 : ¬ ((mid : Nat) : Int) < (e : Int) := by omega
        have d6 : ((e : Nat) : Int) < (b : Int) := by omega
        clear hnum
        have R1 : Hid (Rb wr g (fs (A ++ X1 ++ [] ++ ([] ++ Y2 ++ B))) rest) := by have := RX.out; unfold Hid; simpa [fs] using this
        have K2 : Hid (Kp g w wr) := K1.out
        obtain ⟨Z1, hZ1⟩ : ∃ Z, X1 = Z := ⟨_, rfl⟩
        have R2 : Hid (Rb wr g (fs (A ++ Z1 ++ ([] ++ Y2 ++ B))) rest) := by have := R1.out; unfold Hid; rw [← hZ1]; simpa [fs] using this
        have K3 : Hid (Kp g w wr) := K2.out
        have P1 : Hid (Z1.Perm (X1 ++ []) ∧ Z1.Pairwise lt) := by rw [← hZ1]; exact ⟨by simp, rise_left HXY.out.1⟩
        clear hZ1
        obtain ⟨Z2, hZ2⟩ : ∃ Z, Y2 = Z := ⟨_, rfl⟩
        have R3 : Hid (Rb wr g (fs (A ++ Z1 ++ Z2 ++ B)) rest) := by have := R2.out; unfold Hid; rw [← hZ2]; simpa [fs] using this
        have K4 : Hid (Kp g w wr) := K3.out
        have P2 : Hid (Z2.Perm ([] ++ Y2) ∧ Z2.Pairwise lt) := by rw [← hZ2]; exact ⟨by simp, rise_right HXY.out.2.1⟩
        clear hZ2
        go_wp2
        go_end0
        have ER := end_rise P1.out.1 P2.out.1 P1.out.2 P2.out.2 CUT.out
        exact ⟨rfl, Z1 ++ Z2, by simpa using ER.1, ER.2, by have := R3.out; simpa [fs] using this, K4.out⟩
    · have hlt : ((st : Nat) : Int) < (r : Int) := by omega
      obtain ⟨t, ht⟩ : ∃ t, st + r = t := ⟨_, rfl⟩
      obtain ⟨c, hc⟩ : ∃ c, t / 2 = c := ⟨_, rfl⟩
      obtain ⟨q, hq⟩ : ∃ q, p - c = q := ⟨_, rfl⟩
      have hb1 := HLH.out
      have hb2 := HS.out
      have hb3 := HP.out
      have hb4 := HM.out
      have hcs : st ≤ c ∧ c < r := by omega
      have tt : ((st : Nat) : Int) + (r : Int) = (t : Nat) := by omega
      have wt : IntKind.i64.wrap ((t : Nat) : Int) = (t : Nat) := by rw [IntKind.wrap_i64]; omega
      have tc : ((t : Nat) : Int) / 2 = (c : Nat) := by omega
      have pq : ((p : Nat) : Int) - (c : Int) = (q : Nat) := by omega
      have wq : IntKind.i64.wrap ((q : Nat) : Int) = (q : Nat) := by rw [IntKind.wrap_i64]; omega
      have hqm : m ≤ q ∧ q < b := by omega
      have hcm : a ≤ c ∧ c < m := by omega
      obtain ⟨x, hx⟩ : ∃ x, X[c - a]? = some x := ⟨_, List.getElem?_eq_getElem (by omega)⟩
      obtain ⟨y, hy⟩ : ∃ y, Y[q - m]? = some y := ⟨_, List.getElem?_eq_getElem (by omega)⟩
      have Hx : Hid ((A ++ X ++ Y ++ B)[c]? = some x) := by unfold Hid; rw [in_x A X Y B hb4.1 hcm.1 (by omega)]; exact hx
      have Hy : Hid ((A ++ X ++ Y ++ B)[q]? = some y) := by unfold Hid; rw [in_y A X Y B (m := m) (by omega) hqm.1 (by omega)]; exact hy
      have IX : Hid (x.2 < y.2) := HXY.out.2.2 x (List.mem_of_getElem? hx) y (List.mem_of_getElem? hy)
      have FC : Hid (∀ W, Below wr.heap.size wr W → W.cell? ⟨g, c * 4, none⟩ = some (.int .i64 x.1.player) ∧ W.cell? ⟨g, c * 4 + 1, none⟩ = some (.int .i64 x.1.unit) ∧ W.cell? ⟨g, c * 4 + 2, none⟩ = some (.int .i64 x.1.what) ∧ W.cell? ⟨g, c * 4 + 3, none⟩ = some (.int .i64 x.1.arg) ∧ W.cell? ⟨g, q * 4, none⟩ = some (.int .i64 y.1.player) ∧ W.cell? ⟨g, q * 4 + 1, none⟩ = some (.int .i64 y.1.unit) ∧ W.cell? ⟨g, q * 4 + 2, none⟩ = some (.int .i64 y.1.what) ∧ W.cell? ⟨g, q * 4 + 3, none⟩ = some (.int .i64 y.1.arg)) := fun W hW => by
        have r := RB.out.below hW RB.out.lt
        obtain ⟨x0, x1, x2, x3⟩ := r.cells (fs_at Hx.out)
        obtain ⟨y0, y1, y2, y3⟩ := r.cells (fs_at Hy.out)
        exact ⟨x0, x1, x2, x3, y0, y1, y2, y3⟩
      have CC : Hid (∀ W, Below wr.heap.size wr W → Calls Tryz.prog 116 #[.agg #[.int .i64 y.1.player, .int .i64 y.1.unit, .int .i64 y.1.what, .int .i64 y.1.arg], .agg #[.int .i64 x.1.player, .int .i64 x.1.unit, .int .i64 x.1.what, .int .i64 x.1.arg]] W fun e w' => e = .returned (.int .i64 (cmpo y.1 x.1)) ∧ Below wr.heap.size wr w') := fun W hW => (compare_any y.1 x.1 W).mono fun e w' ⟨h1, h2⟩ => ⟨h1, hW.trans (h2.mono hW.size)⟩
      have ec := ecmp
      have hcL : ((c : Nat) : Int) < (L : Int) := by omega
      have hqL : ((q : Nat) : Int) < (L : Int) := by omega
      have HC : Hid (st ≤ c ∧ c < r ∧ q + c = p) := ⟨hcs.1, hcs.2, by omega⟩
      clear hb1 hb2 hb3 hb4 ht hc hq hcs hqm hcm hx hy hst hsr hrh
      go_upto_region 35 with fail
      refine wp_region_class 12 (fun W => Below wr.heap.size wr W) (by kernel_rfl) (by kernel_rfl) (Below.refl _ _).drew ?_
      simp only [List.take_succ_cons, List.take_zero, List.drop_succ_cons, List.drop_zero]
      refine head_step (.func (.func 116) #[] #[]) (by go_simp) (fun W hW => by go_simp) ?_
      go_simp
      refine head_step (.slice (some ⟨g, 0, none⟩) L cap) (by go_simp) (fun W hW => by go_simp) ?_
      go_simp
      refine head_step (.int .i64 (p : Int)) (by go_simp) (fun W hW => by go_simp) ?_
      go_simp
      refine head_step (.int .i64 (c : Int)) (by go_simp) (fun W hW => by go_simp) ?_
      go_simp
      refine head_step (.int .i64 (q : Int)) (by go_simp) (fun W hW => by go_simp) ?_
      go_simp
      refine head_step (.pointer (some ⟨g, q * 4, none⟩)) (by go_simp) (fun W hW => by go_simp) ?_
      go_simp
      refine head_step (.agg #[.int .i64 y.1.player, .int .i64 y.1.unit, .int .i64 y.1.what, .int .i64 y.1.arg]) (by go_simp) (fun W hW => by obtain ⟨-, -, -, -, y0, y1, y2, y3⟩ := FC.out W hW; go_simp) ?_
      go_simp
      refine head_step (.slice (some ⟨g, 0, none⟩) L cap) (by go_simp) (fun W hW => by go_simp) ?_
      go_simp
      refine head_step (.int .i64 (c : Int)) (by go_simp) (fun W hW => by go_simp) ?_
      go_simp
      refine head_step (.pointer (some ⟨g, c * 4, none⟩)) (by go_simp) (fun W hW => by go_simp) ?_
      go_simp
      refine head_step (.agg #[.int .i64 x.1.player, .int .i64 x.1.unit, .int .i64 x.1.what, .int .i64 x.1.arg]) (by go_simp) (fun W hW => by obtain ⟨x0, x1, x2, x3, -⟩ := FC.out W hW; go_simp) ?_
      go_simp
      refine head_call (.int .i64 (cmpo y.1 x.1)) 116 #[.agg #[.int .i64 y.1.player, .int .i64 y.1.unit, .int .i64 y.1.what, .int .i64 y.1.arg], .agg #[.int .i64 x.1.player, .int .i64 x.1.unit, .int .i64 x.1.what, .int .i64 x.1.arg]] (by go_simp) (fun W hW => by go_simp) (fun W hW => CC.out W hW) ?_
      go_simp
      intro W hW
      have RW : Hid (Rb W g (fs (A ++ X ++ Y ++ B)) rest) := RB.out.below hW RB.out.lt
      have KW : Hid (Kp g w W) := K1.out.trans (Kp.of hW)
      by_cases hcm : cmpo y.1 x.1 < 0
      · have LX : Hid (lt y x) := (ask_lt IX.out).1 ((klt_iff _ _).1 hcm)
        clear hW FC CC
        go_wp2
        go_roundw
        case rel =>
          obtain ⟨c1, c2, c3⟩ := HC.out
          obtain ⟨s1, s2, s3⟩ := HSR.out
          have hp := HP.out
          have eq : n - 1 - c = q := by omega
          exact ⟨st, c, rfl, rfl, s1, c1, by omega, F1.out, fun _ => ⟨x, y, Hx.out, by rw [eq]; exact Hy.out, LX.out⟩, RW.out, KW.out⟩
        case measure => have := HC.out; simp [intOf]; omega
      · have LX : Hid (lt x y) := (ask_ge IX.out).1 (fun h => hcm ((klt_iff _ _).2 h))
        clear hW FC CC
        go_wp2
        go_roundw
        case rel =>
          obtain ⟨c1, c2, c3⟩ := HC.out
          obtain ⟨s1, s2, s3⟩ := HSR.out
          have hp := HP.out
          have eq : n - (c + 1) = q := by omega
          exact ⟨c + 1, r, rfl, rfl, by omega, by omega, s3, fun _ => ⟨x, y, by rw [Nat.add_sub_cancel]; exact Hx.out, by rw [eq]; exact Hy.out, LX.out⟩, F2.out, RW.out, KW.out⟩
        case measure => have := HC.out; simp [intOf]; omega
end Go.Proofs.YthcndngdngjalaaGreatDoor

namespace Go.Proofs.YthcndngdngjalaaGreatDoor
open Go.RowKit Go.Proofs.YthcndngdngjalaaGreatDoor.So
set_option linter.unusedVariables false

theorem sym_any : ∀ (N : Nat) (A X Y B : List T) (g cap L a m b : Nat) (rest : List Value) (w : World), X.length + Y.length ≤ N → X ≠ [] → Y ≠ [] → X.Pairwise lt → Y.Pairwise lt → (∀ x ∈ X, ∀ y ∈ Y, x.2 < y.2) → Rb w g (fs (A ++ X ++ Y ++ B)) rest → A.length + X.length + Y.length + B.length = L → L ≤ 1000 → A.length = a → a + X.length = m → m + Y.length = b →
    Calls Tryz.prog 168 #[.slice (some ⟨g, 0, none⟩) L cap, .int .i64 (a : Nat), .int .i64 (m : Nat), .int .i64 (b : Nat), .func (.func 116) #[] #[]] w (MergeSays A (X ++ Y) B g rest w)
  | 0, A, X, Y, B, g, cap, L, a, m, b, rest, w, hN, hX0, hY0, hX, hY, hpl, hr, hL, hn, ha, hm, hb => by
    have : X.length = 0 := by omega
    exact absurd (List.length_eq_zero_iff.1 this) hX0
  | N + 1, A, X, Y, B, g, cap, L, a, m, b, rest, w, hN, hX0, hY0, hX, hY, hpl, hr, hL, hn, ha, hm, hb => by
    by_cases hx1 : X.length = 1
    · obtain ⟨x, rfl⟩ := List.length_eq_one_iff.1 hx1
      refine sym_one A x Y B g cap L a m b rest w hY (fun y hy => hpl x (by simp) y hy) (by simpa using hr) (by simpa using hL) hn ha (by simpa using hm) hb
    by_cases hy1 : Y.length = 1
    · obtain ⟨y, rfl⟩ := List.length_eq_one_iff.1 hy1
      refine sym_last A X y B g cap L a m b rest w hX (fun x hx => hpl x hx y (by simp)) hx1 (by simpa using hr) (by simpa using hL) hn ha hm (by simpa using hb)
    have lx : 2 ≤ X.length := by have := List.length_pos_iff.2 hX0; omega
    have ly : 2 ≤ Y.length := by have := List.length_pos_iff.2 hY0; omega
    have IH : SymIH N g cap L rest := fun A X Y B a m b w h1 h2 h3 h4 h5 h6 h7 h8 h9 h10 h11 => sym_any N A X Y B g cap L a m b rest w h1 h2 h3 h4 h5 h6 h7 h8 hn h9 h10 h11
    rcases Nat.lt_or_ge ((a + b) / 2) m with h | h
    · exact sym_lo N A X Y B g cap L a m b rest w IH hN lx ly hX hY hpl hr hL hn ha hm hb h
    · exact sym_hi N A X Y B g cap L a m b rest w IH hN lx ly hX hY hpl hr hL hn ha hm hb h
end Go.Proofs.YthcndngdngjalaaGreatDoor

namespace Go.Proofs.YthcndngdngjalaaGreatDoor
open Go.RowKit Go.Proofs.YthcndngdngjalaaGreatDoor.So
set_option linter.unusedVariables false
set_option linter.unusedSimpArgs false

theorem isort_i (A U B : List T) (g cap n : Nat) (ai bi : Int) (rest : List Value) (w : World) (hU : U.Pairwise (fun x y => x.2 < y.2)) (hr : Rb w g (fs (A ++ U ++ B)) rest) (hL : A.length + U.length + B.length = n) (hn : n ≤ 1000) (ha : ((A.length : Nat) : Int) = ai) (hb : ((A.length + U.length : Nat) : Int) = bi) :
    Calls Tryz.prog 167 #[.slice (some ⟨g, 0, none⟩) n cap, .int .i64 ai, .int .i64 bi, .func (.func 116) #[] #[]] w (SortSays A U B g rest w) := by
  have e : (A ++ U ++ B).length = n := by simp; omega
  have h := isort_any A U B g cap rest w hU hr (by omega)
  rw [e, ha, hb] at h
  exact h
theorem sym_i (A X Y B : List T) (g cap n : Nat) (ai mi bi : Int) (rest : List Value) (w : World) (hX0 : X ≠ []) (hY0 : Y ≠ []) (hX : X.Pairwise lt) (hY : Y.Pairwise lt) (hp : ∀ x ∈ X, ∀ y ∈ Y, x.2 < y.2) (hr : Rb w g (fs (A ++ X ++ Y ++ B)) rest) (hL : A.length + X.length + Y.length + B.length = n) (hn : n ≤ 1000) (ha : ((A.length : Nat) : Int) = ai) (hm : ((A.length + X.length : Nat) : Int) = mi) (hb : ((A.length + X.length + Y.length : Nat) : Int) = bi) :
    Calls Tryz.prog 168 #[.slice (some ⟨g, 0, none⟩) n cap, .int .i64 ai, .int .i64 mi, .int .i64 bi, .func (.func 116) #[] #[]] w (MergeSays A (X ++ Y) B g rest w) := by
  have h := sym_any (X.length + Y.length) A X Y B g cap n _ _ _ rest w (Nat.le_refl _) hX0 hY0 hX hY hp hr hL hn rfl rfl rfl
  rw [ha, hm, hb] at h
  exact h
theorem tag_of {X U V Y : List T} {Z : List T} (hU : (U ++ V).Pairwise (fun x y => x.2 < y.2)) (hX : X.Perm U) (hY : ∀ y ∈ Y, y ∈ V) : ∀ x ∈ X, ∀ y ∈ Y, x.2 < y.2 := fun x hx y hy => (List.pairwise_append.1 hU).2.2 x (hX.mem_iff.1 hx) y (hY y hy)
def StabSays (U : List T) (g : Nat) (rest : List Value) (w : World) (e : Ending) (w' : World) : Prop := e = .returned (.tuple #[]) ∧ ∃ S, S.Perm U ∧ S.Pairwise lt ∧ Rb w' g (fs S) rest ∧ Kp g w w'
theorem ne_of_pos {l : List T} (h : 0 < l.length) : l ≠ [] := List.length_pos_iff.1 h

end Go.Proofs.YthcndngdngjalaaGreatDoor

namespace Go.Proofs.YthcndngdngjalaaGreatDoor
open Go.RowKit Go.Proofs.YthcndngdngjalaaGreatDoor.So
set_option linter.unusedVariables false
set_option linter.unusedSimpArgs false


set_option maxRecDepth 100000 in
set_option maxHeartbeats 16000000 in
theorem stab_a (U1 : List T) (g cap n : Nat) (rest : List Value) (w : World) (h1 : U1.length = n) (hU : (U1).Pairwise (fun x y => x.2 < y.2)) (hr : Rb w g (fs (U1)) rest) (hn : n < 20) :
    Calls Tryz.prog 144 #[.slice (some ⟨g, 0, none⟩) n cap, .int .i64 (n : Nat), .func (.func 116) #[] #[]] w (StabSays (U1) g rest w) := by
  have R0 : Hid (Rb w g (fs (U1)) rest) := hr
  have HU : Hid ((U1).Pairwise (fun x y => x.2 < y.2)) := hU
  have HL : Hid (U1.length = n ∧ n ≤ 60) := ⟨h1, by omega⟩
  have le20 : ¬ (20 : Int) ≤ (n : Nat) := by omega
  have lt20 : ¬ (20 : Int) < (n : Nat) := by omega
  have le40 : ¬ (40 : Int) ≤ (n : Nat) := by omega
  have le80 : ¬ (80 : Int) ≤ (n : Nat) := by omega
  have HN : Hid (n < 20) := hn
  clear hn
  clear hr hU h1
  go_enter Tryz.func144, Tryz.ntmps144
  go_wp2_with fail
  refine wp_loop_rounds 1 ?_
  rw [rounds_succ]
  go_wp2_with fail
  have C : Calls _ _ _ _ _ := isort_i ([]) U1 ([]) g cap n 0 (n : Nat) rest w (HU.out) (by have := R0.out; simpa [fs] using this) (by have q1 := HL.out; have q2 := HN.out;  (try simp only [List.length_append, List.length_nil]); omega) (by have := HL.out; omega) (by have q1 := HL.out; have q2 := HN.out;  (try simp only [List.length_append, List.length_nil]); omega) (by have q1 := HL.out; have q2 := HN.out;  (try simp only [List.length_append, List.length_nil]); omega)
  refine Calls.mono C ?_
  clear C
  rintro er v1 ⟨rfl, S1, hp, hs, hr, hk⟩
  have R1 : Hid (Rb v1 g (fs (S1)) rest) := by unfold Hid; simpa [fs] using hr
  have P1 : Hid (S1.Perm U1 ∧ S1.Pairwise lt) := ⟨hp, hs⟩
  have K1 : Hid (Kp g w v1) := hk
  clear hp hs hr hk
  go_wp2_with fail
  refine wp_loop_rounds 1 ?_
  rw [rounds_succ]
  go_wp2_with fail
  go_wp2
  go_end0
  exact ⟨rfl, S1, P1.out.1, P1.out.2, R1.out, K1.out⟩
end Go.Proofs.YthcndngdngjalaaGreatDoor

namespace Go.Proofs.YthcndngdngjalaaGreatDoor
open Go.RowKit Go.Proofs.YthcndngdngjalaaGreatDoor.So
set_option linter.unusedVariables false
set_option linter.unusedSimpArgs false


set_option maxRecDepth 100000 in
set_option maxHeartbeats 16000000 in
theorem stab_b0 (U1 U2 : List T) (g cap n : Nat) (rest : List Value) (w : World) (h1 : U1.length = 20) (h2 : U2.length = 0) (hU : (U1 ++ U2).Pairwise (fun x y => x.2 < y.2)) (hr : Rb w g (fs (U1 ++ U2)) rest) (hn : n = 20) :
    Calls Tryz.prog 144 #[.slice (some ⟨g, 0, none⟩) n cap, .int .i64 (n : Nat), .func (.func 116) #[] #[]] w (StabSays (U1 ++ U2) g rest w) := by
  have R0 : Hid (Rb w g (fs (U1 ++ U2)) rest) := hr
  have HU : Hid ((U1 ++ U2).Pairwise (fun x y => x.2 < y.2)) := hU
  have HL : Hid (U1.length = 20 ∧ U2.length = 0 ∧ n ≤ 60) := ⟨h1, h2, by omega⟩
  have le20 : (20 : Int) ≤ (n : Nat) := by omega
  have le40 : ¬ (40 : Int) ≤ (n : Nat) := by omega
  have lt20 : ¬ (20 : Int) < (n : Nat) := by omega
  have le80 : ¬ (80 : Int) ≤ (n : Nat) := by omega
  have HN : Hid (n = 20) := hn
  clear hn
  clear hr hU h1 h2
  go_enter Tryz.func144, Tryz.ntmps144
  go_wp2_with fail
  refine wp_loop_rounds 2 ?_
  rw [rounds_succ]
  go_wp2_with fail
  have C : Calls _ _ _ _ _ := isort_i ([]) U1 (U2) g cap n 0 20 rest w ((List.pairwise_append.1 HU.out).1) (by have := R0.out; simpa [fs] using this) (by have q1 := HL.out; have q2 := HN.out;  (try simp only [List.length_append, List.length_nil]); omega) (by have := HL.out; omega) (by have q1 := HL.out; have q2 := HN.out;  (try simp only [List.length_append, List.length_nil]); omega) (by have q1 := HL.out; have q2 := HN.out;  (try simp only [List.length_append, List.length_nil]); omega)
  refine Calls.mono C ?_
  clear C
  rintro er v1 ⟨rfl, S1, hp, hs, hr, hk⟩
  have R1 : Hid (Rb v1 g (fs (S1 ++ U2)) rest) := by unfold Hid; simpa [fs] using hr
  have P1 : Hid (S1.Perm U1 ∧ S1.Pairwise lt) := ⟨hp, hs⟩
  have K1 : Hid (Kp g w v1) := hk
  clear hp hs hr hk
  go_wp2_with fail
  rw [rounds_succ]
  go_wp2_with fail
  have C : Calls _ _ _ _ _ := isort_i (S1) U2 ([]) g cap n 20 (n : Nat) rest v1 ((List.pairwise_append.1 HU.out).2.1) (by have := R1.out; simpa [fs] using this) (by have q1 := HL.out; have q2 := HN.out; have z1 := P1.out.1.length_eq; (try simp only [List.length_append, List.length_nil]); omega) (by have := HL.out; omega) (by have q1 := HL.out; have q2 := HN.out; have z1 := P1.out.1.length_eq; (try simp only [List.length_append, List.length_nil]); omega) (by have q1 := HL.out; have q2 := HN.out; have z1 := P1.out.1.length_eq; (try simp only [List.length_append, List.length_nil]); omega)
  refine Calls.mono C ?_
  clear C
  rintro er v2 ⟨rfl, S2, hp, hs, hr, hk⟩
  have R2 : Hid (Rb v2 g (fs (S1 ++ S2)) rest) := by unfold Hid; simpa [fs] using hr
  have P2 : Hid (S2.Perm U2 ∧ S2.Pairwise lt) := ⟨hp, hs⟩
  have K2 : Hid (Kp g w v2) := K1.out.trans hk
  clear hp hs hr hk
  go_wp2_with fail
  refine wp_loop_rounds 1 ?_
  rw [rounds_succ]
  go_wp2_with fail
  go_wp2
  go_end0
  have eS2 : S2 = [] := List.length_eq_zero_iff.1 (by have q1 := HL.out; have q2 := HN.out; have z := P2.out.1.length_eq; omega)
  have eU2 : U2 = [] := List.length_eq_zero_iff.1 (by have q1 := HL.out; have q2 := HN.out; omega)
  refine ⟨rfl, S1, ?_, P1.out.2, ?_, K2.out⟩
  · have h := P1.out.1
    simpa [eU2] using h
  · have h := R2.out
    rw [eS2] at h
    simpa using h
end Go.Proofs.YthcndngdngjalaaGreatDoor

namespace Go.Proofs.YthcndngdngjalaaGreatDoor
open Go.RowKit Go.Proofs.YthcndngdngjalaaGreatDoor.So
set_option linter.unusedVariables false
set_option linter.unusedSimpArgs false


set_option maxRecDepth 100000 in
set_option maxHeartbeats 16000000 in
theorem stab_b1 (U1 U2 : List T) (g cap n : Nat) (rest : List Value) (w : World) (h1 : U1.length = 20) (h2 : U2.length = n - 20) (hU : (U1 ++ U2).Pairwise (fun x y => x.2 < y.2)) (hr : Rb w g (fs (U1 ++ U2)) rest) (hn : 20 < n ∧ n < 40) :
    Calls Tryz.prog 144 #[.slice (some ⟨g, 0, none⟩) n cap, .int .i64 (n : Nat), .func (.func 116) #[] #[]] w (StabSays (U1 ++ U2) g rest w) := by
  have R0 : Hid (Rb w g (fs (U1 ++ U2)) rest) := hr
  have HU : Hid ((U1 ++ U2).Pairwise (fun x y => x.2 < y.2)) := hU
  have HL : Hid (U1.length = 20 ∧ U2.length = n - 20 ∧ n ≤ 60) := ⟨h1, h2, by omega⟩
  have le20 : (20 : Int) ≤ (n : Nat) := by omega
  have le40 : ¬ (40 : Int) ≤ (n : Nat) := by omega
  have lt20 : (20 : Int) < (n : Nat) := by omega
  have lt40 : ¬ (40 : Int) < (n : Nat) := by omega
  have le80 : ¬ (80 : Int) ≤ (n : Nat) := by omega
  have HN : Hid (20 < n ∧ n < 40) := hn
  clear hn
  clear hr hU h1 h2
  go_enter Tryz.func144, Tryz.ntmps144
  go_wp2_with fail
  refine wp_loop_rounds 2 ?_
  rw [rounds_succ]
  go_wp2_with fail
  have C : Calls _ _ _ _ _ := isort_i ([]) U1 (U2) g cap n 0 20 rest w ((List.pairwise_append.1 HU.out).1) (by have := R0.out; simpa [fs] using this) (by have q1 := HL.out; have q2 := HN.out;  (try simp only [List.length_append, List.length_nil]); omega) (by have := HL.out; omega) (by have q1 := HL.out; have q2 := HN.out;  (try simp only [List.length_append, List.length_nil]); omega) (by have q1 := HL.out; have q2 := HN.out;  (try simp only [List.length_append, List.length_nil]); omega)
  refine Calls.mono C ?_
  clear C
  rintro er v1 ⟨rfl, S1, hp, hs, hr, hk⟩
  have R1 : Hid (Rb v1 g (fs (S1 ++ U2)) rest) := by unfold Hid; simpa [fs] using hr
  have P1 : Hid (S1.Perm U1 ∧ S1.Pairwise lt) := ⟨hp, hs⟩
  have K1 : Hid (Kp g w v1) := hk
  clear hp hs hr hk
  go_wp2_with fail
  rw [rounds_succ]
  go_wp2_with fail
  have C : Calls _ _ _ _ _ := isort_i (S1) U2 ([]) g cap n 20 (n : Nat) rest v1 ((List.pairwise_append.1 HU.out).2.1) (by have := R1.out; simpa [fs] using this) (by have q1 := HL.out; have q2 := HN.out; have z1 := P1.out.1.length_eq; (try simp only [List.length_append, List.length_nil]); omega) (by have := HL.out; omega) (by have q1 := HL.out; have q2 := HN.out; have z1 := P1.out.1.length_eq; (try simp only [List.length_append, List.length_nil]); omega) (by have q1 := HL.out; have q2 := HN.out; have z1 := P1.out.1.length_eq; (try simp only [List.length_append, List.length_nil]); omega)
  refine Calls.mono C ?_
  clear C
  rintro er v2 ⟨rfl, S2, hp, hs, hr, hk⟩
  have R2 : Hid (Rb v2 g (fs (S1 ++ S2)) rest) := by unfold Hid; simpa [fs] using hr
  have P2 : Hid (S2.Perm U2 ∧ S2.Pairwise lt) := ⟨hp, hs⟩
  have K2 : Hid (Kp g w v2) := K1.out.trans hk
  clear hp hs hr hk
  go_wp2_with fail
  refine wp_loop_rounds 2 ?_
  rw [rounds_succ]
  go_wp2_with fail
  refine wp_loop_rounds 1 ?_
  rw [rounds_succ]
  go_wp2_with fail
  have TG : Hid (∀ x ∈ S1, ∀ y ∈ S2, x.2 < y.2) := fun x hx y hy => by have h1 := P1.out.1.mem_iff.1 hx; have h2 := P2.out.1.mem_iff.1 hy; have h3 := HU.out; have e : (U1) ++ (U2) ++ ([]) = U1 ++ U2 := (by simp); rw [← e, List.pairwise_append] at h3; exact (List.pairwise_append.1 h3.1).2.2 x h1 y h2
  have C : Calls _ _ _ _ _ := sym_i ([]) S1 S2 ([]) g cap n 0 20 (n : Nat) rest v2 (ne_of_pos (by have q1 := HL.out; have q2 := HN.out; have z0 := P1.out.1.length_eq; have z1 := P2.out.1.length_eq; (try simp only [List.length_append] at z0 z1); (try simp only [List.length_append, List.length_nil]); omega)) (ne_of_pos (by have q1 := HL.out; have q2 := HN.out; have z0 := P1.out.1.length_eq; have z1 := P2.out.1.length_eq; (try simp only [List.length_append] at z0 z1); (try simp only [List.length_append, List.length_nil]); omega)) P1.out.2 P2.out.2 TG.out (by have := R2.out; simpa [fs] using this) (by have q1 := HL.out; have q2 := HN.out; have z0 := P1.out.1.length_eq; have z1 := P2.out.1.length_eq; (try simp only [List.length_append] at z0 z1); (try simp only [List.length_append, List.length_nil]); omega) (by have := HL.out; omega) (by have q1 := HL.out; have q2 := HN.out; have z0 := P1.out.1.length_eq; have z1 := P2.out.1.length_eq; (try simp only [List.length_append] at z0 z1); (try simp only [List.length_append, List.length_nil]); omega) (by have q1 := HL.out; have q2 := HN.out; have z0 := P1.out.1.length_eq; have z1 := P2.out.1.length_eq; (try simp only [List.length_append] at z0 z1); (try simp only [List.length_append, List.length_nil]); omega) (by have q1 := HL.out; have q2 := HN.out; have z0 := P1.out.1.length_eq; have z1 := P2.out.1.length_eq; (try simp only [List.length_append] at z0 z1); (try simp only [List.length_append, List.length_nil]); omega)
  refine Calls.mono C ?_
  clear C
  rintro er v3 ⟨rfl, S3, hp, hs, hr, hk⟩
  have R3 : Hid (Rb v3 g (fs (S3)) rest) := by unfold Hid; simpa [fs] using hr
  have P3 : Hid (S3.Perm (U1 ++ U2) ∧ S3.Pairwise lt) := ⟨hp.trans (P1.out.1.append P2.out.1), hs⟩
  have K3 : Hid (Kp g w v3) := K2.out.trans hk
  clear hp hs hr hk TG
  go_wp2_with fail
  rw [rounds_succ]
  go_wp2_with fail
  go_wp2
  go_end0
  exact ⟨rfl, S3, P3.out.1, P3.out.2, R3.out, K3.out⟩
end Go.Proofs.YthcndngdngjalaaGreatDoor

namespace Go.Proofs.YthcndngdngjalaaGreatDoor
open Go.RowKit Go.Proofs.YthcndngdngjalaaGreatDoor.So
set_option linter.unusedVariables false
set_option linter.unusedSimpArgs false


set_option maxRecDepth 100000 in
set_option maxHeartbeats 16000000 in
theorem stab_c0 (U1 U2 U3 : List T) (g cap n : Nat) (rest : List Value) (w : World) (h1 : U1.length = 20) (h2 : U2.length = 20) (h3 : U3.length = 0) (hU : (U1 ++ U2 ++ U3).Pairwise (fun x y => x.2 < y.2)) (hr : Rb w g (fs (U1 ++ U2 ++ U3)) rest) (hn : n = 40) :
    Calls Tryz.prog 144 #[.slice (some ⟨g, 0, none⟩) n cap, .int .i64 (n : Nat), .func (.func 116) #[] #[]] w (StabSays (U1 ++ U2 ++ U3) g rest w) := by
  have R0 : Hid (Rb w g (fs (U1 ++ U2 ++ U3)) rest) := hr
  have HU : Hid ((U1 ++ U2 ++ U3).Pairwise (fun x y => x.2 < y.2)) := hU
  have HL : Hid (U1.length = 20 ∧ U2.length = 20 ∧ U3.length = 0 ∧ n ≤ 60) := ⟨h1, h2, h3, by omega⟩
  have le20 : (20 : Int) ≤ (n : Nat) := by omega
  have le40 : (40 : Int) ≤ (n : Nat) := by omega
  have le60 : ¬ (60 : Int) ≤ (n : Nat) := by omega
  have lt20 : (20 : Int) < (n : Nat) := by omega
  have lt40 : ¬ (40 : Int) < (n : Nat) := by omega
  have le80 : ¬ (80 : Int) ≤ (n : Nat) := by omega
  have HN : Hid (n = 40) := hn
  clear hn
  clear hr hU h1 h2 h3
  go_enter Tryz.func144, Tryz.ntmps144
  go_wp2_with fail
  refine wp_loop_rounds 3 ?_
  rw [rounds_succ]
  go_wp2_with fail
  have C : Calls _ _ _ _ _ := isort_i ([]) U1 (U2 ++ U3) g cap n 0 20 rest w ((List.pairwise_append.1 (List.pairwise_append.1 HU.out).1).1) (by have := R0.out; simpa [fs] using this) (by have q1 := HL.out; have q2 := HN.out;  (try simp only [List.length_append, List.length_nil]); omega) (by have := HL.out; omega) (by have q1 := HL.out; have q2 := HN.out;  (try simp only [List.length_append, List.length_nil]); omega) (by have q1 := HL.out; have q2 := HN.out;  (try simp only [List.length_append, List.length_nil]); omega)
  refine Calls.mono C ?_
  clear C
  rintro er v1 ⟨rfl, S1, hp, hs, hr, hk⟩
  have R1 : Hid (Rb v1 g (fs (S1 ++ U2 ++ U3)) rest) := by unfold Hid; simpa [fs] using hr
  have P1 : Hid (S1.Perm U1 ∧ S1.Pairwise lt) := ⟨hp, hs⟩
  have K1 : Hid (Kp g w v1) := hk
  clear hp hs hr hk
  go_wp2_with fail
  rw [rounds_succ]
  go_wp2_with fail
  have C : Calls _ _ _ _ _ := isort_i (S1) U2 (U3) g cap n 20 40 rest v1 ((List.pairwise_append.1 (List.pairwise_append.1 HU.out).1).2.1) (by have := R1.out; simpa [fs] using this) (by have q1 := HL.out; have q2 := HN.out; have z1 := P1.out.1.length_eq; (try simp only [List.length_append, List.length_nil]); omega) (by have := HL.out; omega) (by have q1 := HL.out; have q2 := HN.out; have z1 := P1.out.1.length_eq; (try simp only [List.length_append, List.length_nil]); omega) (by have q1 := HL.out; have q2 := HN.out; have z1 := P1.out.1.length_eq; (try simp only [List.length_append, List.length_nil]); omega)
  refine Calls.mono C ?_
  clear C
  rintro er v2 ⟨rfl, S2, hp, hs, hr, hk⟩
  have R2 : Hid (Rb v2 g (fs (S1 ++ S2 ++ U3)) rest) := by unfold Hid; simpa [fs] using hr
  have P2 : Hid (S2.Perm U2 ∧ S2.Pairwise lt) := ⟨hp, hs⟩
  have K2 : Hid (Kp g w v2) := K1.out.trans hk
  clear hp hs hr hk
  go_wp2_with fail
  rw [rounds_succ]
  go_wp2_with fail
  have C : Calls _ _ _ _ _ := isort_i (S1 ++ S2) U3 ([]) g cap n 40 (n : Nat) rest v2 ((List.pairwise_append.1 HU.out).2.1) (by have := R2.out; simpa [fs] using this) (by have q1 := HL.out; have q2 := HN.out; have z1 := P1.out.1.length_eq; have z2 := P2.out.1.length_eq; (try simp only [List.length_append, List.length_nil]); omega) (by have := HL.out; omega) (by have q1 := HL.out; have q2 := HN.out; have z1 := P1.out.1.length_eq; have z2 := P2.out.1.length_eq; (try simp only [List.length_append, List.length_nil]); omega) (by have q1 := HL.out; have q2 := HN.out; have z1 := P1.out.1.length_eq; have z2 := P2.out.1.length_eq; (try simp only [List.length_append, List.length_nil]); omega)
  refine Calls.mono C ?_
  clear C
  rintro er v3 ⟨rfl, S3, hp, hs, hr, hk⟩
  have R3 : Hid (Rb v3 g (fs (S1 ++ S2 ++ S3)) rest) := by unfold Hid; simpa [fs] using hr
  have P3 : Hid (S3.Perm U3 ∧ S3.Pairwise lt) := ⟨hp, hs⟩
  have K3 : Hid (Kp g w v3) := K2.out.trans hk
  clear hp hs hr hk
  go_wp2_with fail
  refine wp_loop_rounds 2 ?_
  rw [rounds_succ]
  go_wp2_with fail
  refine wp_loop_rounds 2 ?_
  rw [rounds_succ]
  go_wp2_with fail
  have TG : Hid (∀ x ∈ S1, ∀ y ∈ S2, x.2 < y.2) := fun x hx y hy => by have h1 := P1.out.1.mem_iff.1 hx; have h2 := P2.out.1.mem_iff.1 hy; have h3 := HU.out; have e : (U1) ++ (U2) ++ (U3) = U1 ++ U2 ++ U3 := (by simp); rw [← e, List.pairwise_append] at h3; exact (List.pairwise_append.1 h3.1).2.2 x h1 y h2
  have C : Calls _ _ _ _ _ := sym_i ([]) S1 S2 (S3) g cap n 0 20 40 rest v3 (ne_of_pos (by have q1 := HL.out; have q2 := HN.out; have z0 := P1.out.1.length_eq; have z1 := P2.out.1.length_eq; have z2 := P3.out.1.length_eq; (try simp only [List.length_append] at z0 z1 z2); (try simp only [List.length_append, List.length_nil]); omega)) (ne_of_pos (by have q1 := HL.out; have q2 := HN.out; have z0 := P1.out.1.length_eq; have z1 := P2.out.1.length_eq; have z2 := P3.out.1.length_eq; (try simp only [List.length_append] at z0 z1 z2); (try simp only [List.length_append, List.length_nil]); omega)) P1.out.2 P2.out.2 TG.out (by have := R3.out; simpa [fs] using this) (by have q1 := HL.out; have q2 := HN.out; have z0 := P1.out.1.length_eq; have z1 := P2.out.1.length_eq; have z2 := P3.out.1.length_eq; (try simp only [List.length_append] at z0 z1 z2); (try simp only [List.length_append, List.length_nil]); omega) (by have := HL.out; omega) (by have q1 := HL.out; have q2 := HN.out; have z0 := P1.out.1.length_eq; have z1 := P2.out.1.length_eq; have z2 := P3.out.1.length_eq; (try simp only [List.length_append] at z0 z1 z2); (try simp only [List.length_append, List.length_nil]); omega) (by have q1 := HL.out; have q2 := HN.out; have z0 := P1.out.1.length_eq; have z1 := P2.out.1.length_eq; have z2 := P3.out.1.length_eq; (try simp only [List.length_append] at z0 z1 z2); (try simp only [List.length_append, List.length_nil]); omega) (by have q1 := HL.out; have q2 := HN.out; have z0 := P1.out.1.length_eq; have z1 := P2.out.1.length_eq; have z2 := P3.out.1.length_eq; (try simp only [List.length_append] at z0 z1 z2); (try simp only [List.length_append, List.length_nil]); omega)
  refine Calls.mono C ?_
  clear C
  rintro er v4 ⟨rfl, S4, hp, hs, hr, hk⟩
  have R4 : Hid (Rb v4 g (fs (S4 ++ S3)) rest) := by unfold Hid; simpa [fs] using hr
  have P4 : Hid (S4.Perm (U1 ++ U2) ∧ S4.Pairwise lt) := ⟨hp.trans (P1.out.1.append P2.out.1), hs⟩
  have K4 : Hid (Kp g w v4) := K3.out.trans hk
  clear hp hs hr hk TG
  go_wp2_with fail
  rw [rounds_succ]
  go_wp2_with fail
  rw [rounds_succ]
  go_wp2_with fail
  go_wp2
  go_end0
  have eS3 : S3 = [] := List.length_eq_zero_iff.1 (by have q1 := HL.out; have q2 := HN.out; have z := P3.out.1.length_eq; omega)
  have eU3 : U3 = [] := List.length_eq_zero_iff.1 (by have q1 := HL.out; have q2 := HN.out; omega)
  refine ⟨rfl, S4, ?_, P4.out.2, ?_, K4.out⟩
  · have h := P4.out.1
    simpa [eU3] using h
  · have h := R4.out
    rw [eS3] at h
    simpa using h
end Go.Proofs.YthcndngdngjalaaGreatDoor

namespace Go.Proofs.YthcndngdngjalaaGreatDoor
open Go.RowKit Go.Proofs.YthcndngdngjalaaGreatDoor.So
set_option linter.unusedVariables false
set_option linter.unusedSimpArgs false


set_option maxRecDepth 100000 in
set_option maxHeartbeats 16000000 in
theorem stab_c1 (U1 U2 U3 : List T) (g cap n : Nat) (rest : List Value) (w : World) (h1 : U1.length = 20) (h2 : U2.length = 20) (h3 : U3.length = n - 40) (hU : (U1 ++ U2 ++ U3).Pairwise (fun x y => x.2 < y.2)) (hr : Rb w g (fs (U1 ++ U2 ++ U3)) rest) (hn : 40 < n ∧ n < 60) :
    Calls Tryz.prog 144 #[.slice (some ⟨g, 0, none⟩) n cap, .int .i64 (n : Nat), .func (.func 116) #[] #[]] w (StabSays (U1 ++ U2 ++ U3) g rest w) := by
  have R0 : Hid (Rb w g (fs (U1 ++ U2 ++ U3)) rest) := hr
  have HU : Hid ((U1 ++ U2 ++ U3).Pairwise (fun x y => x.2 < y.2)) := hU
  have HL : Hid (U1.length = 20 ∧ U2.length = 20 ∧ U3.length = n - 40 ∧ n ≤ 60) := ⟨h1, h2, h3, by omega⟩
  have le20 : (20 : Int) ≤ (n : Nat) := by omega
  have le40 : (40 : Int) ≤ (n : Nat) := by omega
  have le60 : ¬ (60 : Int) ≤ (n : Nat) := by omega
  have lt20 : (20 : Int) < (n : Nat) := by omega
  have lt40 : (40 : Int) < (n : Nat) := by omega
  have lt80 : ¬ (80 : Int) < (n : Nat) := by omega
  have le80 : ¬ (80 : Int) ≤ (n : Nat) := by omega
  have HN : Hid (40 < n ∧ n < 60) := hn
  clear hn
  clear hr hU h1 h2 h3
  go_enter Tryz.func144, Tryz.ntmps144
  go_wp2_with fail
  refine wp_loop_rounds 3 ?_
  rw [rounds_succ]
  go_wp2_with fail
  have C : Calls _ _ _ _ _ := isort_i ([]) U1 (U2 ++ U3) g cap n 0 20 rest w ((List.pairwise_append.1 (List.pairwise_append.1 HU.out).1).1) (by have := R0.out; simpa [fs] using this) (by have q1 := HL.out; have q2 := HN.out;  (try simp only [List.length_append, List.length_nil]); omega) (by have := HL.out; omega) (by have q1 := HL.out; have q2 := HN.out;  (try simp only [List.length_append, List.length_nil]); omega) (by have q1 := HL.out; have q2 := HN.out;  (try simp only [List.length_append, List.length_nil]); omega)
  refine Calls.mono C ?_
  clear C
  rintro er v1 ⟨rfl, S1, hp, hs, hr, hk⟩
  have R1 : Hid (Rb v1 g (fs (S1 ++ U2 ++ U3)) rest) := by unfold Hid; simpa [fs] using hr
  have P1 : Hid (S1.Perm U1 ∧ S1.Pairwise lt) := ⟨hp, hs⟩
  have K1 : Hid (Kp g w v1) := hk
  clear hp hs hr hk
  go_wp2_with fail
  rw [rounds_succ]
  go_wp2_with fail
  have C : Calls _ _ _ _ _ := isort_i (S1) U2 (U3) g cap n 20 40 rest v1 ((List.pairwise_append.1 (List.pairwise_append.1 HU.out).1).2.1) (by have := R1.out; simpa [fs] using this) (by have q1 := HL.out; have q2 := HN.out; have z1 := P1.out.1.length_eq; (try simp only [List.length_append, List.length_nil]); omega) (by have := HL.out; omega) (by have q1 := HL.out; have q2 := HN.out; have z1 := P1.out.1.length_eq; (try simp only [List.length_append, List.length_nil]); omega) (by have q1 := HL.out; have q2 := HN.out; have z1 := P1.out.1.length_eq; (try simp only [List.length_append, List.length_nil]); omega)
  refine Calls.mono C ?_
  clear C
  rintro er v2 ⟨rfl, S2, hp, hs, hr, hk⟩
  have R2 : Hid (Rb v2 g (fs (S1 ++ S2 ++ U3)) rest) := by unfold Hid; simpa [fs] using hr
  have P2 : Hid (S2.Perm U2 ∧ S2.Pairwise lt) := ⟨hp, hs⟩
  have K2 : Hid (Kp g w v2) := K1.out.trans hk
  clear hp hs hr hk
  go_wp2_with fail
  rw [rounds_succ]
  go_wp2_with fail
  have C : Calls _ _ _ _ _ := isort_i (S1 ++ S2) U3 ([]) g cap n 40 (n : Nat) rest v2 ((List.pairwise_append.1 HU.out).2.1) (by have := R2.out; simpa [fs] using this) (by have q1 := HL.out; have q2 := HN.out; have z1 := P1.out.1.length_eq; have z2 := P2.out.1.length_eq; (try simp only [List.length_append, List.length_nil]); omega) (by have := HL.out; omega) (by have q1 := HL.out; have q2 := HN.out; have z1 := P1.out.1.length_eq; have z2 := P2.out.1.length_eq; (try simp only [List.length_append, List.length_nil]); omega) (by have q1 := HL.out; have q2 := HN.out; have z1 := P1.out.1.length_eq; have z2 := P2.out.1.length_eq; (try simp only [List.length_append, List.length_nil]); omega)
  refine Calls.mono C ?_
  clear C
  rintro er v3 ⟨rfl, S3, hp, hs, hr, hk⟩
  have R3 : Hid (Rb v3 g (fs (S1 ++ S2 ++ S3)) rest) := by unfold Hid; simpa [fs] using hr
  have P3 : Hid (S3.Perm U3 ∧ S3.Pairwise lt) := ⟨hp, hs⟩
  have K3 : Hid (Kp g w v3) := K2.out.trans hk
  clear hp hs hr hk
  go_wp2_with fail
  refine wp_loop_rounds 3 ?_
  rw [rounds_succ]
  go_wp2_with fail
  refine wp_loop_rounds 2 ?_
  rw [rounds_succ]
  go_wp2_with fail
  have TG : Hid (∀ x ∈ S1, ∀ y ∈ S2, x.2 < y.2) := fun x hx y hy => by have h1 := P1.out.1.mem_iff.1 hx; have h2 := P2.out.1.mem_iff.1 hy; have h3 := HU.out; have e : (U1) ++ (U2) ++ (U3) = U1 ++ U2 ++ U3 := (by simp); rw [← e, List.pairwise_append] at h3; exact (List.pairwise_append.1 h3.1).2.2 x h1 y h2
  have C : Calls _ _ _ _ _ := sym_i ([]) S1 S2 (S3) g cap n 0 20 40 rest v3 (ne_of_pos (by have q1 := HL.out; have q2 := HN.out; have z0 := P1.out.1.length_eq; have z1 := P2.out.1.length_eq; have z2 := P3.out.1.length_eq; (try simp only [List.length_append] at z0 z1 z2); (try simp only [List.length_append, List.length_nil]); omega)) (ne_of_pos (by have q1 := HL.out; have q2 := HN.out; have z0 := P1.out.1.length_eq; have z1 := P2.out.1.length_eq; have z2 := P3.out.1.length_eq; (try simp only [List.length_append] at z0 z1 z2); (try simp only [List.length_append, List.length_nil]); omega)) P1.out.2 P2.out.2 TG.out (by have := R3.out; simpa [fs] using this) (by have q1 := HL.out; have q2 := HN.out; have z0 := P1.out.1.length_eq; have z1 := P2.out.1.length_eq; have z2 := P3.out.1.length_eq; (try simp only [List.length_append] at z0 z1 z2); (try simp only [List.length_append, List.length_nil]); omega) (by have := HL.out; omega) (by have q1 := HL.out; have q2 := HN.out; have z0 := P1.out.1.length_eq; have z1 := P2.out.1.length_eq; have z2 := P3.out.1.length_eq; (try simp only [List.length_append] at z0 z1 z2); (try simp only [List.length_append, List.length_nil]); omega) (by have q1 := HL.out; have q2 := HN.out; have z0 := P1.out.1.length_eq; have z1 := P2.out.1.length_eq; have z2 := P3.out.1.length_eq; (try simp only [List.length_append] at z0 z1 z2); (try simp only [List.length_append, List.length_nil]); omega) (by have q1 := HL.out; have q2 := HN.out; have z0 := P1.out.1.length_eq; have z1 := P2.out.1.length_eq; have z2 := P3.out.1.length_eq; (try simp only [List.length_append] at z0 z1 z2); (try simp only [List.length_append, List.length_nil]); omega)
  refine Calls.mono C ?_
  clear C
  rintro er v4 ⟨rfl, S4, hp, hs, hr, hk⟩
  have R4 : Hid (Rb v4 g (fs (S4 ++ S3)) rest) := by unfold Hid; simpa [fs] using hr
  have P4 : Hid (S4.Perm (U1 ++ U2) ∧ S4.Pairwise lt) := ⟨hp.trans (P1.out.1.append P2.out.1), hs⟩
  have K4 : Hid (Kp g w v4) := K3.out.trans hk
  clear hp hs hr hk TG
  go_wp2_with fail
  rw [rounds_succ]
  go_wp2_with fail
  rw [rounds_succ]
  go_wp2_with fail
  refine wp_loop_rounds 1 ?_
  rw [rounds_succ]
  go_wp2_with fail
  have TG : Hid (∀ x ∈ S4, ∀ y ∈ S3, x.2 < y.2) := fun x hx y hy => by have h1 := P4.out.1.mem_iff.1 hx; have h2 := P3.out.1.mem_iff.1 hy; have h3 := HU.out; have e : (U1 ++ U2) ++ (U3) ++ ([]) = U1 ++ U2 ++ U3 := (by simp); rw [← e, List.pairwise_append] at h3; exact (List.pairwise_append.1 h3.1).2.2 x h1 y h2
  have C : Calls _ _ _ _ _ := sym_i ([]) S4 S3 ([]) g cap n 0 40 (n : Nat) rest v4 (ne_of_pos (by have q1 := HL.out; have q2 := HN.out; have z0 := P4.out.1.length_eq; have z1 := P3.out.1.length_eq; (try simp only [List.length_append] at z0 z1); (try simp only [List.length_append, List.length_nil]); omega)) (ne_of_pos (by have q1 := HL.out; have q2 := HN.out; have z0 := P4.out.1.length_eq; have z1 := P3.out.1.length_eq; (try simp only [List.length_append] at z0 z1); (try simp only [List.length_append, List.length_nil]); omega)) P4.out.2 P3.out.2 TG.out (by have := R4.out; simpa [fs] using this) (by have q1 := HL.out; have q2 := HN.out; have z0 := P4.out.1.length_eq; have z1 := P3.out.1.length_eq; (try simp only [List.length_append] at z0 z1); (try simp only [List.length_append, List.length_nil]); omega) (by have := HL.out; omega) (by have q1 := HL.out; have q2 := HN.out; have z0 := P4.out.1.length_eq; have z1 := P3.out.1.length_eq; (try simp only [List.length_append] at z0 z1); (try simp only [List.length_append, List.length_nil]); omega) (by have q1 := HL.out; have q2 := HN.out; have z0 := P4.out.1.length_eq; have z1 := P3.out.1.length_eq; (try simp only [List.length_append] at z0 z1); (try simp only [List.length_append, List.length_nil]); omega) (by have q1 := HL.out; have q2 := HN.out; have z0 := P4.out.1.length_eq; have z1 := P3.out.1.length_eq; (try simp only [List.length_append] at z0 z1); (try simp only [List.length_append, List.length_nil]); omega)
  refine Calls.mono C ?_
  clear C
  rintro er v5 ⟨rfl, S5, hp, hs, hr, hk⟩
  have R5 : Hid (Rb v5 g (fs (S5)) rest) := by unfold Hid; simpa [fs] using hr
  have P5 : Hid (S5.Perm ((U1 ++ U2) ++ U3) ∧ S5.Pairwise lt) := ⟨hp.trans (P4.out.1.append P3.out.1), hs⟩
  have K5 : Hid (Kp g w v5) := K4.out.trans hk
  clear hp hs hr hk TG
  go_wp2_with fail
  rw [rounds_succ]
  go_wp2_with fail
  go_wp2
  go_end0
  exact ⟨rfl, S5, P5.out.1, P5.out.2, R5.out, K5.out⟩
end Go.Proofs.YthcndngdngjalaaGreatDoor

namespace Go.Proofs.YthcndngdngjalaaGreatDoor
open Go.RowKit Go.Proofs.YthcndngdngjalaaGreatDoor.So
set_option linter.unusedVariables false
set_option linter.unusedSimpArgs false


set_option maxRecDepth 100000 in
set_option maxHeartbeats 16000000 in
theorem stab_d (U1 U2 U3 U4 : List T) (g cap n : Nat) (rest : List Value) (w : World) (h1 : U1.length = 20) (h2 : U2.length = 20) (h3 : U3.length = 20) (h4 : U4.length = 0) (hU : (U1 ++ U2 ++ U3 ++ U4).Pairwise (fun x y => x.2 < y.2)) (hr : Rb w g (fs (U1 ++ U2 ++ U3 ++ U4)) rest) (hn : n = 60) :
    Calls Tryz.prog 144 #[.slice (some ⟨g, 0, none⟩) n cap, .int .i64 (n : Nat), .func (.func 116) #[] #[]] w (StabSays (U1 ++ U2 ++ U3 ++ U4) g rest w) := by
  have R0 : Hid (Rb w g (fs (U1 ++ U2 ++ U3 ++ U4)) rest) := hr
  have HU : Hid ((U1 ++ U2 ++ U3 ++ U4).Pairwise (fun x y => x.2 < y.2)) := hU
  have HL : Hid (U1.length = 20 ∧ U2.length = 20 ∧ U3.length = 20 ∧ U4.length = 0 ∧ n ≤ 60) := ⟨h1, h2, h3, h4, by omega⟩
  have le20 : (20 : Int) ≤ (n : Nat) := by omega
  have le40 : (40 : Int) ≤ (n : Nat) := by omega
  have le60 : (60 : Int) ≤ (n : Nat) := by omega
  have le80 : ¬ (80 : Int) ≤ (n : Nat) := by omega
  have lt20 : (20 : Int) < (n : Nat) := by omega
  have lt40 : (40 : Int) < (n : Nat) := by omega
  have lt80 : ¬ (80 : Int) < (n : Nat) := by omega
  have lt60 : ¬ (60 : Int) < (n : Nat) := by omega
  have HN : Hid (n = 60) := hn
  clear hn
  clear hr hU h1 h2 h3 h4
  go_enter Tryz.func144, Tryz.ntmps144
  go_wp2_with fail
  refine wp_loop_rounds 4 ?_
  rw [rounds_succ]
  go_wp2_with fail
  have C : Calls _ _ _ _ _ := isort_i ([]) U1 (U2 ++ U3 ++ U4) g cap n 0 20 rest w ((List.pairwise_append.1 (List.pairwise_append.1 (List.pairwise_append.1 HU.out).1).1).1) (by have := R0.out; simpa [fs] using this) (by have q1 := HL.out; have q2 := HN.out;  (try simp only [List.length_append, List.length_nil]); omega) (by have := HL.out; omega) (by have q1 := HL.out; have q2 := HN.out;  (try simp only [List.length_append, List.length_nil]); omega) (by have q1 := HL.out; have q2 := HN.out;  (try simp only [List.length_append, List.length_nil]); omega)
  refine Calls.mono C ?_
  clear C
  rintro er v1 ⟨rfl, S1, hp, hs, hr, hk⟩
  have R1 : Hid (Rb v1 g (fs (S1 ++ U2 ++ U3 ++ U4)) rest) := by unfold Hid; simpa [fs] using hr
  have P1 : Hid (S1.Perm U1 ∧ S1.Pairwise lt) := ⟨hp, hs⟩
  have K1 : Hid (Kp g w v1) := hk
  clear hp hs hr hk
  go_wp2_with fail
  rw [rounds_succ]
  go_wp2_with fail
  have C : Calls _ _ _ _ _ := isort_i (S1) U2 (U3 ++ U4) g cap n 20 40 rest v1 ((List.pairwise_append.1 (List.pairwise_append.1 (List.pairwise_append.1 HU.out).1).1).2.1) (by have := R1.out; simpa [fs] using this) (by have q1 := HL.out; have q2 := HN.out; have z1 := P1.out.1.length_eq; (try simp only [List.length_append, List.length_nil]); omega) (by have := HL.out; omega) (by have q1 := HL.out; have q2 := HN.out; have z1 := P1.out.1.length_eq; (try simp only [List.length_append, List.length_nil]); omega) (by have q1 := HL.out; have q2 := HN.out; have z1 := P1.out.1.length_eq; (try simp only [List.length_append, List.length_nil]); omega)
  refine Calls.mono C ?_
  clear C
  rintro er v2 ⟨rfl, S2, hp, hs, hr, hk⟩
  have R2 : Hid (Rb v2 g (fs (S1 ++ S2 ++ U3 ++ U4)) rest) := by unfold Hid; simpa [fs] using hr
  have P2 : Hid (S2.Perm U2 ∧ S2.Pairwise lt) := ⟨hp, hs⟩
  have K2 : Hid (Kp g w v2) := K1.out.trans hk
  clear hp hs hr hk
  go_wp2_with fail
  rw [rounds_succ]
  go_wp2_with fail
  have C : Calls _ _ _ _ _ := isort_i (S1 ++ S2) U3 (U4) g cap n 40 60 rest v2 ((List.pairwise_append.1 (List.pairwise_append.1 HU.out).1).2.1) (by have := R2.out; simpa [fs] using this) (by have q1 := HL.out; have q2 := HN.out; have z1 := P1.out.1.length_eq; have z2 := P2.out.1.length_eq; (try simp only [List.length_append, List.length_nil]); omega) (by have := HL.out; omega) (by have q1 := HL.out; have q2 := HN.out; have z1 := P1.out.1.length_eq; have z2 := P2.out.1.length_eq; (try simp only [List.length_append, List.length_nil]); omega) (by have q1 := HL.out; have q2 := HN.out; have z1 := P1.out.1.length_eq; have z2 := P2.out.1.length_eq; (try simp only [List.length_append, List.length_nil]); omega)
  refine Calls.mono C ?_
  clear C
  rintro er v3 ⟨rfl, S3, hp, hs, hr, hk⟩
  have R3 : Hid (Rb v3 g (fs (S1 ++ S2 ++ S3 ++ U4)) rest) := by unfold Hid; simpa [fs] using hr
  have P3 : Hid (S3.Perm U3 ∧ S3.Pairwise lt) := ⟨hp, hs⟩
  have K3 : Hid (Kp g w v3) := K2.out.trans hk
  clear hp hs hr hk
  go_wp2_with fail
  rw [rounds_succ]
  go_wp2_with fail
  have C : Calls _ _ _ _ _ := isort_i (S1 ++ S2 ++ S3) U4 ([]) g cap n 60 (n : Nat) rest v3 ((List.pairwise_append.1 HU.out).2.1) (by have := R3.out; simpa [fs] using this) (by have q1 := HL.out; have q2 := HN.out; have z1 := P1.out.1.length_eq; have z2 := P2.out.1.length_eq; have z3 := P3.out.1.length_eq; (try simp only [List.length_append, List.length_nil]); omega) (by have := HL.out; omega) (by have q1 := HL.out; have q2 := HN.out; have z1 := P1.out.1.length_eq; have z2 := P2.out.1.length_eq; have z3 := P3.out.1.length_eq; (try simp only [List.length_append, List.length_nil]); omega) (by have q1 := HL.out; have q2 := HN.out; have z1 := P1.out.1.length_eq; have z2 := P2.out.1.length_eq; have z3 := P3.out.1.length_eq; (try simp only [List.length_append, List.length_nil]); omega)
  refine Calls.mono C ?_
  clear C
  rintro er v4 ⟨rfl, S4, hp, hs, hr, hk⟩
  have R4 : Hid (Rb v4 g (fs (S1 ++ S2 ++ S3 ++ S4)) rest) := by unfold Hid; simpa [fs] using hr
  have P4 : Hid (S4.Perm U4 ∧ S4.Pairwise lt) := ⟨hp, hs⟩
  have K4 : Hid (Kp g w v4) := K3.out.trans hk
  clear hp hs hr hk
  go_wp2_with fail
  refine wp_loop_rounds 3 ?_
  rw [rounds_succ]
  go_wp2_with fail
  refine wp_loop_rounds 2 ?_
  rw [rounds_succ]
  go_wp2_with fail
  have TG : Hid (∀ x ∈ S1, ∀ y ∈ S2, x.2 < y.2) := fun x hx y hy => by have h1 := P1.out.1.mem_iff.1 hx; have h2 := P2.out.1.mem_iff.1 hy; have h3 := HU.out; have e : (U1) ++ (U2) ++ (U3 ++ U4) = U1 ++ U2 ++ U3 ++ U4 := (by simp); rw [← e, List.pairwise_append] at h3; exact (List.pairwise_append.1 h3.1).2.2 x h1 y h2
  have C : Calls _ _ _ _ _ := sym_i ([]) S1 S2 (S3 ++ S4) g cap n 0 20 40 rest v4 (ne_of_pos (by have q1 := HL.out; have q2 := HN.out; have z0 := P1.out.1.length_eq; have z1 := P2.out.1.length_eq; have z2 := P3.out.1.length_eq; have z3 := P4.out.1.length_eq; (try simp only [List.length_append] at z0 z1 z2 z3); (try simp only [List.length_append, List.length_nil]); omega)) (ne_of_pos (by have q1 := HL.out; have q2 := HN.out; have z0 := P1.out.1.length_eq; have z1 := P2.out.1.length_eq; have z2 := P3.out.1.length_eq; have z3 := P4.out.1.length_eq; (try simp only [List.length_append] at z0 z1 z2 z3); (try simp only [List.length_append, List.length_nil]); omega)) P1.out.2 P2.out.2 TG.out (by have := R4.out; simpa [fs] using this) (by have q1 := HL.out; have q2 := HN.out; have z0 := P1.out.1.length_eq; have z1 := P2.out.1.length_eq; have z2 := P3.out.1.length_eq; have z3 := P4.out.1.length_eq; (try simp only [List.length_append] at z0 z1 z2 z3); (try simp only [List.length_append, List.length_nil]); omega) (by have := HL.out; omega) (by have q1 := HL.out; have q2 := HN.out; have z0 := P1.out.1.length_eq; have z1 := P2.out.1.length_eq; have z2 := P3.out.1.length_eq; have z3 := P4.out.1.length_eq; (try simp only [List.length_append] at z0 z1 z2 z3); (try simp only [List.length_append, List.length_nil]); omega) (by have q1 := HL.out; have q2 := HN.out; have z0 := P1.out.1.length_eq; have z1 := P2.out.1.length_eq; have z2 := P3.out.1.length_eq; have z3 := P4.out.1.length_eq; (try simp only [List.length_append] at z0 z1 z2 z3); (try simp only [List.length_append, List.length_nil]); omega) (by have q1 := HL.out; have q2 := HN.out; have z0 := P1.out.1.length_eq; have z1 := P2.out.1.length_eq; have z2 := P3.out.1.length_eq; have z3 := P4.out.1.length_eq; (try simp only [List.length_append] at z0 z1 z2 z3); (try simp only [List.length_append, List.length_nil]); omega)
  refine Calls.mono C ?_
  clear C
  rintro er v5 ⟨rfl, S5, hp, hs, hr, hk⟩
  have R5 : Hid (Rb v5 g (fs (S5 ++ S3 ++ S4)) rest) := by unfold Hid; simpa [fs] using hr
  have P5 : Hid (S5.Perm (U1 ++ U2) ∧ S5.Pairwise lt) := ⟨hp.trans (P1.out.1.append P2.out.1), hs⟩
  have K5 : Hid (Kp g w v5) := K4.out.trans hk
  clear hp hs hr hk TG
  go_wp2_with fail
  rw [rounds_succ]
  go_wp2_with fail
  rw [rounds_succ]
  go_wp2_with fail
  refine wp_loop_rounds 1 ?_
  rw [rounds_succ]
  go_wp2_with fail
  have TG : Hid (∀ x ∈ S5, ∀ y ∈ S3, x.2 < y.2) := fun x hx y hy => by have h1 := P5.out.1.mem_iff.1 hx; have h2 := P3.out.1.mem_iff.1 hy; have h3 := HU.out; have e : (U1 ++ U2) ++ (U3) ++ (U4) = U1 ++ U2 ++ U3 ++ U4 := (by simp); rw [← e, List.pairwise_append] at h3; exact (List.pairwise_append.1 h3.1).2.2 x h1 y h2
  have C : Calls _ _ _ _ _ := sym_i ([]) S5 S3 (S4) g cap n 0 40 (n : Nat) rest v5 (ne_of_pos (by have q1 := HL.out; have q2 := HN.out; have z0 := P5.out.1.length_eq; have z1 := P3.out.1.length_eq; have z2 := P4.out.1.length_eq; (try simp only [List.length_append] at z0 z1 z2); (try simp only [List.length_append, List.length_nil]); omega)) (ne_of_pos (by have q1 := HL.out; have q2 := HN.out; have z0 := P5.out.1.length_eq; have z1 := P3.out.1.length_eq; have z2 := P4.out.1.length_eq; (try simp only [List.length_append] at z0 z1 z2); (try simp only [List.length_append, List.length_nil]); omega)) P5.out.2 P3.out.2 TG.out (by have := R5.out; simpa [fs] using this) (by have q1 := HL.out; have q2 := HN.out; have z0 := P5.out.1.length_eq; have z1 := P3.out.1.length_eq; have z2 := P4.out.1.length_eq; (try simp only [List.length_append] at z0 z1 z2); (try simp only [List.length_append, List.length_nil]); omega) (by have := HL.out; omega) (by have q1 := HL.out; have q2 := HN.out; have z0 := P5.out.1.length_eq; have z1 := P3.out.1.length_eq; have z2 := P4.out.1.length_eq; (try simp only [List.length_append] at z0 z1 z2); (try simp only [List.length_append, List.length_nil]); omega) (by have q1 := HL.out; have q2 := HN.out; have z0 := P5.out.1.length_eq; have z1 := P3.out.1.length_eq; have z2 := P4.out.1.length_eq; (try simp only [List.length_append] at z0 z1 z2); (try simp only [List.length_append, List.length_nil]); omega) (by have q1 := HL.out; have q2 := HN.out; have z0 := P5.out.1.length_eq; have z1 := P3.out.1.length_eq; have z2 := P4.out.1.length_eq; (try simp only [List.length_append] at z0 z1 z2); (try simp only [List.length_append, List.length_nil]); omega)
  refine Calls.mono C ?_
  clear C
  rintro er v6 ⟨rfl, S6, hp, hs, hr, hk⟩
  have R6 : Hid (Rb v6 g (fs (S6 ++ S4)) rest) := by unfold Hid; simpa [fs] using hr
  have P6 : Hid (S6.Perm ((U1 ++ U2) ++ U3) ∧ S6.Pairwise lt) := ⟨hp.trans (P5.out.1.append P3.out.1), hs⟩
  have K6 : Hid (Kp g w v6) := K5.out.trans hk
  clear hp hs hr hk TG
  go_wp2_with fail
  rw [rounds_succ]
  go_wp2_with fail
  go_wp2
  go_end0
  have eS4 : S4 = [] := List.length_eq_zero_iff.1 (by have q1 := HL.out; have q2 := HN.out; have z := P4.out.1.length_eq; omega)
  have eU4 : U4 = [] := List.length_eq_zero_iff.1 (by have q1 := HL.out; have q2 := HN.out; omega)
  refine ⟨rfl, S6, ?_, P6.out.2, ?_, K6.out⟩
  · have h := P6.out.1
    simpa [eU4] using h
  · have h := R6.out
    rw [eS4] at h
    simpa using h
end Go.Proofs.YthcndngdngjalaaGreatDoor

namespace Go.Proofs.YthcndngdngjalaaGreatDoor
open Go.RowKit Go.Proofs.YthcndngdngjalaaGreatDoor.So
set_option linter.unusedVariables false

theorem cut2 (U : List T) (i : Nat) (h : i ≤ U.length) : ∃ U1 U2, U = U1 ++ U2 ∧ U1.length = i ∧ U2.length = U.length - i := ⟨U.take i, U.drop i, (List.take_append_drop _ _).symm, by rw [List.length_take]; omega, by rw [List.length_drop]⟩
theorem stab_any (U : List T) (g cap n : Nat) (rest : List Value) (w : World) (hL : U.length = n) (hn : n ≤ 60) (hU : U.Pairwise (fun x y => x.2 < y.2)) (hr : Rb w g (fs U) rest) :
    Calls Tryz.prog 144 #[.slice (some ⟨g, 0, none⟩) n cap, .int .i64 (n : Nat), .func (.func 116) #[] #[]] w (StabSays U g rest w) := by
  by_cases h20 : n < 20
  · exact stab_a U g cap n rest w hL hU hr h20
  obtain ⟨U1, V1, rfl, l1, m1⟩ := cut2 U 20 (by omega)
  by_cases h21 : n = 20
  · exact stab_b0 U1 V1 g cap n rest w l1 (by omega) hU hr h21
  by_cases h40 : n < 40
  · exact stab_b1 U1 V1 g cap n rest w l1 (by omega) hU hr ⟨by omega, h40⟩
  obtain ⟨U2, V2, rfl, l2, m2⟩ := cut2 V1 20 (by omega)
  rw [← List.append_assoc] at hU hr ⊢
  by_cases h41 : n = 40
  · exact stab_c0 U1 U2 V2 g cap n rest w l1 l2 (by omega) hU hr h41
  by_cases h60 : n < 60
  · exact stab_c1 U1 U2 V2 g cap n rest w l1 l2 (by omega) hU hr ⟨by omega, h60⟩
  obtain ⟨U3, V3, rfl, l3, m3⟩ := cut2 V2 20 (by omega)
  rw [← List.append_assoc] at hU hr ⊢
  exact stab_d U1 U2 U3 V3 g cap n rest w l1 l2 l3 (by omega) hU hr (by omega)
set_option maxHeartbeats 4000000 in
theorem sortst_any (U : List T) (g cap n : Nat) (rest : List Value) (w : World) (hL : U.length = n) (hn : n ≤ 60) (hU : U.Pairwise (fun x y => x.2 < y.2)) (hr : Rb w g (fs U) rest) :
    Calls Tryz.prog 115 #[.slice (some ⟨g, 0, none⟩) n cap, .func (.func 116) #[] #[]] w (StabSays U g rest w) := by
  have C := stab_any U g cap n rest w hL hn hU hr
  clear hL hn hU hr
  go_enter Tryz.func115, Tryz.ntmps115
  go_wp2_with fail
  refine Calls.mono C ?_
  rintro e w1 ⟨rfl, h⟩
  have H : Hid (∃ S, S.Perm U ∧ S.Pairwise lt ∧ Rb w1 g (fs S) rest ∧ Kp g w w1) := h
  clear h C
  go_wp2
  go_end0
  exact ⟨rfl, H.out⟩
end Go.Proofs.YthcndngdngjalaaGreatDoor

namespace Go.Proofs.YthcndngdngjalaaGreatDoor
open Go.RowKit Go.Proofs.YthcndngdngjalaaGreatDoor.So
set_option linter.unusedVariables false

theorem Oro.rb {w : World} {base : Nat} {v : Value} {ks : List OrV} (h : Oro w base v ks) : (v = .slice none 0 0 ∧ ks = []) ∨ ∃ g cap rest, v = .slice (some ⟨g, 0, none⟩) ks.length cap ∧ base ≤ g ∧ ks.length ≤ cap ∧ cap ≤ maxLen ∧ ks.length * 4 + rest.length = cap * 4 ∧ Rb w g ks rest := by
  rcases h.2 with ⟨h1, h2⟩ | ⟨g, cap, cur, h1, h2, h3, h4, h5, h6, h7⟩
  · exact .inl ⟨h1, List.length_eq_zero_iff.1 h2⟩
  · refine .inr ⟨g, cap, cur.toList.drop (ks.length * 4), h1, h2, h4, h5, ?_, ?_⟩
    · have e6 : cur.toList.length = cap * 4 := by simpa using h6
      rw [List.length_drop, e6]
      have : ks.length * 4 ≤ cap * 4 := Nat.mul_le_mul_right _ h4
      omega
    · unfold Rb
      rw [← h7, List.take_append_drop, Array.toArray_toList]
      exact h3
theorem Rb.oro {w : World} {base g cap : Nat} {ks : List OrV} {rest : List Value} (h : Rb w g ks rest) (hb : base ≤ g) (h1 : ks.length ≤ cap) (h2 : cap ≤ maxLen) (h3 : ks.length * 4 + rest.length = cap * 4) : Oro w base (.slice (some ⟨g, 0, none⟩) ks.length cap) ks := by
  refine ⟨oflat_len ks, .inr ⟨g, cap, _, rfl, hb, h, h1, h2, ?_, ?_⟩⟩
  · simp only [List.size_toArray, List.length_append, oflat_len]; omega
  · show (ks.flatMap OrV.cs ++ rest).take (ks.length * 4) = _
    rw [List.take_append_of_le_length (by rw [oflat_len]; exact Nat.le_refl _), List.take_of_length_le (by rw [oflat_len]; exact Nat.le_refl _)]
set_option maxHeartbeats 1000000 in
theorem isort_nil (fv : Value) (w : World) : Calls Tryz.prog 167 #[.slice none 0 0, .int .i64 0, .int .i64 0, fv] w fun e w' => e = .returned (.tuple #[]) ∧ w' = w := by
  go_enter Tryz.func167, Tryz.ntmps167
  go_wp2_with fail
  refine wp_loop_rounds 1 ?_
  rw [rounds_succ]
  go_wp2
  go_end0
  exact ⟨rfl, rfl⟩
set_option maxHeartbeats 1000000 in
theorem stab_nil (fv : Value) (w : World) : Calls Tryz.prog 144 #[.slice none 0 0, .int .i64 0, fv] w fun e w' => e = .returned (.tuple #[]) ∧ w' = w := by
  go_enter Tryz.func144, Tryz.ntmps144
  go_wp2_with fail
  refine wp_loop_rounds 1 ?_
  rw [rounds_succ]
  go_wp2_with fail
  refine Calls.mono (isort_nil fv w) ?_
  rintro e w' ⟨rfl, rfl⟩
  go_wp2_with fail
  refine wp_loop_rounds 1 ?_
  rw [rounds_succ]
  go_wp2
  go_end0
  exact ⟨rfl, rfl⟩
set_option maxHeartbeats 1000000 in
theorem sort_nil (fv : Value) (w : World) : Calls Tryz.prog 115 #[.slice none 0 0, fv] w fun e w' => e = .returned (.tuple #[]) ∧ w' = w := by
  go_enter Tryz.func115, Tryz.ntmps115
  go_wp2_with fail
  refine Calls.mono (stab_nil fv w) ?_
  rintro e w' ⟨rfl, rfl⟩
  go_wp2
  go_end0
  exact ⟨rfl, rfl⟩
/-- what comes of a sort of an owned list. -/
theorem sort_own (l : List OrV) (v : Value) (b1 : Nat) (w : World) (hl : l.length ≤ 60) (ho : Oro w b1 v (fs (kp l l.length))) :
    Calls Tryz.prog 115 #[v, .func (.func 116) #[] #[]] w fun e w' => e = .returned (.tuple #[]) ∧ ∃ out, LastSays l out ∧ Oro w' b1 v out ∧ w.grownBy w' v.ownBlock := by
  rcases ho.rb with ⟨rfl, hn⟩ | ⟨g, cap, rest, rfl, hb, h1, h2, h3, hr⟩
  · refine (sort_nil _ w).mono ?_
    rintro e w' ⟨rfl, rfl⟩
    have e0 : kp l l.length = [] := List.map_eq_nil_iff.1 hn
    refine ⟨rfl, [], ⟨[], by rw [e0], List.Pairwise.nil, rfl⟩, by rw [hn] at ho; exact ho, ?_⟩
    exact ⟨rfl, rfl, rfl, Nat.le_refl _, fun _ _ _ => rfl⟩
  · have hlen : (fs (kp l l.length)).length = (kp l l.length).length := by simp [fs]
    rw [hlen] at h1 h3 ⊢
    refine (sortst_any (kp l l.length) g cap _ rest w rfl (Nat.le_trans (kp_len _) hl) (kp_tags _) hr).mono ?_
    rintro e w' ⟨rfl, S, hp, hs, hr', hk⟩
    have el : (fs S).length = (kp l l.length).length := by simp [fs, hp.length_eq]
    refine ⟨rfl, fs S, ⟨S, hp, hs, rfl⟩, ?_, ⟨hk.os, hk.tape, hk.output, hk.size, fun k hk' hn => hk.block k hk' (fun e => hn (by rw [e]; rfl))⟩⟩
    have := hr'.oro (base := b1) (cap := cap) hb (by omega) h2 (by omega)
    rw [el] at this
    exact this
def LsI (ks : List OrV) (w1 : World) (mb n : Nat) (j kv : Value) (W : World) : Prop := ∃ q : Nat, q ≤ ks.length ∧ j = .int .i64 (q : Nat) ∧ Oro W w1.heap.size kv (fs (kp ks q)) ∧ Um W mb n (lf ks ks.length) ∧ Below w1.heap.size w1 W
def LastTells (ks : List OrV) (w : World) (e : Ending) (w' : World) : Prop := ∃ u r, e = .returned (.tuple #[u, r]) ∧ Er r (Od.faults ks) ∧ ((Od.faults ks ≠ 0 ∧ u = .slice none 0 0) ∨ (Od.faults ks = 0 ∧ ∃ out, LastSays ks out ∧ Oro w' w.heap.size u out)) ∧ Below w.heap.size w w'
set_option maxRecDepth 100000 in
set_option maxHeartbeats 8000000 in
theorem last_any (v : Value) (ks : List OrV) (w : World) (h : Orl w v ks) : Calls Tryz.prog 81 #[v] w (LastTells ks w) := by
  have K0 : Hid (Orl w v ks) := h
  obtain ⟨a, c, rfl, c1, c2, -⟩ := h
  go_enter Tryz.func81, Tryz.ntmps81
  go_wp2_with fail
  refine Calls.mono (ocheck_any _ ks w K0.out) ?_
  rintro e w0 ⟨u, rfl, hu, b0⟩
  obtain ⟨F, hF⟩ : ∃ F, Od.faults ks = F := ⟨_, rfl⟩
  have HF : Hid (Od.faults ks = F) := hF
  rw [hF] at hu
  have B0 : Hid (Below w.heap.size w w0) := b0
  clear hF b0
  rcases hu with ⟨hF, rfl⟩ | ⟨hF, rfl⟩
  case inr =>
    have E : Hid (F ≠ 0) := hF
    clear hF
    go_wp2
    go_ret2
    exact ⟨_, _, rfl, by rw [HF.out]; exact Er.no E.out, .inl ⟨by rw [HF.out]; exact E.out, rfl⟩, B0.out⟩
  subst hF
  have FO : Hid (ks.length ≤ 60 ∧ ∀ o ∈ ks, ¬ Od.bad o) := Od.faults_ok HF.out
  go_wp2_with fail
  refine Calls.mono (lastOnes_any _ ks w0 (K0.out.below B0.out) FO.out.1 FO.out.2) ?_
  rintro e w1 ⟨mb, n, rfl, hm, hmb, b1⟩
  have M1 : Hid (Um w1 mb n (lf ks ks.length)) := hm
  have B1 : Hid (Below w.heap.size w w1) := B0.out.trans (b1.mono B0.out.size)
  clear hm hmb b1
  go_wp2_with fail
  go_loopw [18, 6] (fun j kv W => LsI ks w1 mb n j kv W) (fun j _ _ => ks.length - (intOf j).toNat)
  case atStart => exact ⟨0, Nat.zero_le _, rfl, Oro.nil _ _, M1.out, Below.refl _ _⟩
  case round =>
    obtain ⟨q, hq, rfl, hko, hm, hb⟩ := hrel
    have OQ : Hid (Oro wr w1.heap.size u6 (fs (kp ks q))) := hko
    have MQ : Hid (Um wr mb n (lf ks ks.length)) := hm
    have BQ : Hid (Below w1.heap.size w1 wr) := hb
    clear hko hm hb
    by_cases hql : q = ks.length
    · subst hql
      go_wp2_with fail
      refine Calls.mono (sort_own ks u6 w1.heap.size wr FO.out.1 OQ.out) ?_
      rintro e w2 ⟨rfl, out, hls, ho, hg⟩
      have G2 : Hid (Below w.heap.size w w2) := (B1.out.trans (BQ.out.mono B1.out.size)).grown hg (by have := B1.out.size; have := BQ.out.size; omega) (fun k hk => by have := (OQ.out.block k hk).1; have := B1.out.size; omega)
      have FIN : Hid (∃ out, LastSays ks out ∧ Oro w2 w.heap.size u6 out) := ⟨out, hls, ho.mono B1.out.size⟩
      clear hls ho hg
      go_wp2
      go_ret2
      exact ⟨_, _, rfl, by rw [HF.out]; exact Er.nil, .inr ⟨HF.out, FIN.out⟩, G2.out⟩
    · have hqk : q < ks.length := by omega
      obtain ⟨k, hk⟩ : ∃ k, ks[q]? = some k := ⟨_, List.getElem?_eq_getElem hqk⟩
      have HK : Hid (ks[q]? = some k) := hk
      have OK := Od.ok_of (FO.out.2 k (List.mem_of_getElem? hk))
      have WF : Hid ((Lit.int .i64 k.player).wf = true ∧ (Lit.int .i64 k.unit).wf = true) := ⟨wf64 (by omega) (by omega), wf64 (by omega) (by omega)⟩
      have K1 := K0.out.below (B1.out.trans (BQ.out.mono B1.out.size))
      obtain ⟨a', c', e, -, -, h3⟩ := K1
      injection e with e1 e2 e3
      subst e1 e3
      obtain ⟨x, rfl, hx1, hx⟩ := h3 (by rintro rfl; simp at hqk)
      have Yc := hx q k hk
      clear hx h3 e2 hk OK
      obtain ⟨q0, q1, q2, q3⟩ := Yc
      go_upto_region 9 with fail
      have BA : Hid (Below wr.heap.size wr (wr.alloc (Obj.cells #[.int .i64 k.player, .int .i64 k.unit, .int .i64 k.what, .int .i64 k.arg] 54))) := (Below.refl _ _).alloc (Nat.le_refl _) _
      have XA : Hid (Orc (wr.alloc (Obj.cells #[.int .i64 k.player, .int .i64 k.unit, .int .i64 k.what, .int .i64 k.arg] 54)) ⟨wr.heap.size, 0, none⟩ k) := Orc.mk' (w := wr) k rfl
      clear q0 q1 q2 q3
      obtain ⟨z, hz⟩ : ∃ z, wr.heap.size = z := ⟨_, rfl⟩
      rw [hz] at XA ⊢
      have SZ : Hid (wr.heap.size = z) := hz
      clear hz
      generalize wr.alloc (Obj.cells #[.int .i64 k.player, .int .i64 k.unit, .int .i64 k.what, .int .i64 k.arg] 54) = w2 at *
      have B2 : Hid (Below w1.heap.size w1 w2) := BQ.out.trans (BA.out.mono BQ.out.size)
      have M2 : Hid (Um w2 mb n (lf ks ks.length)) := MQ.out.below BA.out
      have O2 : Hid (Oro w2 w1.heap.size u6 (fs (kp ks q))) := OQ.out.below BA.out
      clear MQ OQ BQ BA
      have KL : Hid ((fs (kp ks q)).length ≤ 60) := by have h1 := kp_len (l := ks) q; have h2 := FO.out.1; unfold Hid; simp [fs]; omega
      by_cases h3 : k.what = 3
      · obtain ⟨x0, x1, x2, x3⟩ := XA.out
        simp only [Nat.zero_add] at x1 x2 x3
        have OA : Hid (Oro (w2.alloc (Obj.cells #[.int .i64 k.player, .int .i64 k.unit, .int .i64 k.what, .int .i64 k.arg] 54)) w1.heap.size u6 (fs (kp ks q))) := O2.out.alloc _
        have RC : Hid (Orc (w2.alloc (Obj.cells #[.int .i64 k.player, .int .i64 k.unit, .int .i64 k.what, .int .i64 k.arg] 54)) ⟨w2.heap.size, 0, none⟩ k) := Orc.mk' (w := w2) k rfl
        have BB : Hid (Below w2.heap.size w2 (w2.alloc (Obj.cells #[.int .i64 k.player, .int .i64 k.unit, .int .i64 k.what, .int .i64 k.arg] 54))) := (Below.refl _ _).alloc (Nat.le_refl _) _
        have SB : Hid (w1.heap.size ≤ (w2.alloc (Obj.cells #[.int .i64 k.player, .int .i64 k.unit, .int .i64 k.what, .int .i64 k.arg] 54)).heap.size) := Nat.le_trans B2.out.size BB.out.size
        have h3c : k.what = 3 := h3
        have NK : Hid (kp ks (q + 1) = kp ks q ++ [(k, q)]) := kp_yes HK.out (.inl h3)
        rw [h3] at OA RC BB SB
        go_wp2_with (at_builtin; refine app_or _ rfl _ _ rfl w1.heap.size _ (fs (kp ks q)) rfl OA.out w2.heap.size k rfl RC.out (by have := KL.out; omega) SB.out ?_)
        intro g cap w5 o5 g5 a5 l5
        have B5 : Hid (Below w1.heap.size w1 w5) := (B2.out.trans (BB.out.mono B2.out.size)).grown g5 SB.out (fun k hk => (O2.out.block k hk).1)
        have M5 : Hid (Um w5 mb n (lf ks ks.length)) := (M2.out.below BB.out).gb g5 (fun e => by have := (O2.out.block mb e.symm).1; have := M1.out.lt; omega)
        have O5 : Hid (Oro w5 w1.heap.size (.slice (some ⟨g, 0, none⟩) ((kp ks q).length + 1) cap) (fs (kp ks (q + 1)))) := by unfold Hid; rw [NK.out]; simpa [fs] using o5
        clear o5 g5 a5 l5 x0 x1 x2 x3
        go_wp2
        go_round
        case rel => exact ⟨q + 1, by omega, by go_num, O5.out, M5.out, B5.out⟩
        case measure => simp [intOf]; omega
      · have h3b : (k.what == 3) = false := beq_eq_false_iff_ne.2 h3
        obtain ⟨x0, x1, x2, x3⟩ := XA.out
        simp only [Nat.zero_add] at x1 x2 x3
        go_wp2_with fail
        refine Calls.mono (unitOf_any k w2) ?_
        rintro e w3 ⟨rfl, b3⟩
        have B3 : Hid (Below w1.heap.size w1 w3) := B2.out.trans (b3.mono B2.out.size)
        have M3 : Hid (Um w3 mb n (lf ks ks.length)) := M2.out.below b3
        have O3 : Hid (Oro w3 w1.heap.size u6 (fs (kp ks q))) := O2.out.below b3
        have X3 : Hid (Orc w3 ⟨z, 0, none⟩ k) := XA.out.below b3 XA.out.lt
        have LK := M3.out.look WF.out.1 WF.out.2
        clear b3 x0 x1 x2 x3 B2 M2 O2 XA
        by_cases hi : lf ks ks.length k.player k.unit = (q : Nat)
        · obtain ⟨x0, x1, x2, x3⟩ := X3.out
          simp only [Nat.zero_add] at x1 x2 x3
          have OA : Hid (Oro (w3.alloc (Obj.cells #[.int .i64 k.player, .int .i64 k.unit, .int .i64 k.what, .int .i64 k.arg] 54)) w1.heap.size u6 (fs (kp ks q))) := O3.out.alloc _
          have RC : Hid (Orc (w3.alloc (Obj.cells #[.int .i64 k.player, .int .i64 k.unit, .int .i64 k.what, .int .i64 k.arg] 54)) ⟨w3.heap.size, 0, none⟩ k) := Orc.mk' (w := w3) k rfl
          have BB : Hid (Below w3.heap.size w3 (w3.alloc (Obj.cells #[.int .i64 k.player, .int .i64 k.unit, .int .i64 k.what, .int .i64 k.arg] 54))) := (Below.refl _ _).alloc (Nat.le_refl _) _
          have SB : Hid (w1.heap.size ≤ (w3.alloc (Obj.cells #[.int .i64 k.player, .int .i64 k.unit, .int .i64 k.what, .int .i64 k.arg] 54)).heap.size) := Nat.le_trans B3.out.size BB.out.size
          have NK : Hid (kp ks (q + 1) = kp ks q ++ [(k, q)]) := kp_yes HK.out (.inr hi)
          rw [hi] at LK
          clear hi
          go_wp2_with (at_builtin; refine app_or _ rfl _ _ rfl w1.heap.size _ (fs (kp ks q)) rfl OA.out w3.heap.size k rfl RC.out (by have := KL.out; omega) SB.out ?_)
          intro g cap w5 o5 g5 a5 l5
          have B5 : Hid (Below w1.heap.size w1 w5) := (B3.out.trans (BB.out.mono B3.out.size)).grown g5 SB.out (fun k hk => (O3.out.block k hk).1)
          have M5 : Hid (Um w5 mb n (lf ks ks.length)) := (M3.out.below BB.out).gb g5 (fun e => by have := (O3.out.block mb e.symm).1; have := M1.out.lt; omega)
          have O5 : Hid (Oro w5 w1.heap.size (.slice (some ⟨g, 0, none⟩) ((kp ks q).length + 1) cap) (fs (kp ks (q + 1)))) := by unfold Hid; rw [NK.out]; simpa [fs] using o5
          clear o5 g5 a5 l5 x0 x1 x2 x3
          go_wp2
          go_round
          case rel => exact ⟨q + 1, by omega, by go_num, O5.out, M5.out, B5.out⟩
          case measure => simp [intOf]; omega
        · have hib : (lf ks ks.length k.player k.unit == ((q : Nat) : Int)) = false := beq_eq_false_iff_ne.2 hi
          have NK : Hid (kp ks (q + 1) = kp ks q) := kp_no HK.out (by rintro (h | h); exact h3 h; exact hi h)
          generalize lf ks ks.length k.player k.unit = lfv at *
          go_wp2
          go_round
          case rel => exact ⟨q + 1, by omega, by go_num, by rw [NK.out]; exact O3.out, M3.out, B3.out⟩
          case measure => simp [intOf]; omega
end Go.Proofs.YthcndngdngjalaaGreatDoor

namespace Go.Proofs.YthcndngdngjalaaGreatDoor
open Go.RowKit Go.Proofs.YthcndngdngjalaaGreatDoor.So
set_option linter.unusedVariables false

def GiveTells (ks : List KV) (X : WV) (l : List OrV) (w : World) (e : Ending) (w' : World) : Prop := ∃ v ur r, e = .returned (.tuple #[v, ur, r]) ∧ Er r (Od.faults l) ∧ ((Od.faults l ≠ 0 ∧ v = .agg #[.int .i64 0, .int .i64 0, .int .i64 0, .int .i64 0, .slice none 0 0, .slice none 0 0, .slice none 0 0, .slice none 0 0, .slice none 0 0] ∧ ur = .slice none 0 0) ∨ (Od.faults l = 0 ∧ ∃ out, LastSays l out ∧ Wo w' w.heap.size v (gv ks X out out.length).1 ∧ Ow w' w.heap.size ur (gv ks X out out.length).2)) ∧ Below w.heap.size w w'
def GvI (ks : List KV) (X : WV) (out : List OrV) (b1 z : Nat) (w1 : World) (ur j : Value) (V : World) : Prop := ∃ (q : Nat) (u1 u2 u3 u4 u5 : Value), q ≤ out.length ∧ j = .int .i64 (q : Nat) ∧ (gv ks X out q).2.length ≤ q ∧ GvS ks (gv ks X out q).1 (gv ks X out q).2 b1 z w1 u1 u2 u3 u4 u5 ur V
set_option maxRecDepth 100000 in
set_option maxHeartbeats 16000000 in
theorem give_any (vk vw vl : Value) (ks : List KV) (X : WV) (l : List OrV) (w : World) (hk : Kl w vk ks) (hw : Wl w vw X) (hl : Orl w vl l) (hr : WRight ks X) :
    Calls Tryz.prog 56 #[vk, vw, vl] w (GiveTells ks X l w) := by
  have K : Hid (Kl w vk ks) := hk
  have H : Hid (Wl w vw X) := hw
  have L : Hid (Orl w vl l) := hl
  have R : Hid (WRight ks X) := hr
  obtain ⟨p1, q1, p2, q2, p3, q3, p4, q4, p5, q5, rfl⟩ := wl_shape9 hw
  obtain ⟨pk, qk, rfl, ck1, ck2, kc⟩ := hk
  obtain ⟨pl, ql, rfl, cl1, cl2, lc⟩ := hl
  have kl8 : ks.length ≤ 8 := hr.gfit.kinds.1
  clear hw kc lc hr
  go_enter Tryz.func56, Tryz.ntmps56
  go_upto_region 1 with fail
  have B0 : Hid (Below w.heap.size w ((w.alloc (Obj.cells #[.int .i64 X.turn, .int .i64 X.next, .int .i64 X.wide, .int .i64 X.high, .slice p1 X.gs.length q1, .slice p2 X.os.length q2, .slice p3 X.gold.length q3, .slice p4 X.us.length q4, .slice p5 X.qs.length q5] 29)).alloc (Obj.cells #[.int .i64 0, .int .i64 0, .int .i64 0, .int .i64 0, .slice none 0 0, .slice none 0 0, .slice none 0 0, .slice none 0 0, .slice none 0 0] 29))) := ((Below.refl _ _).alloc (Nat.le_refl _) _).alloc (by simp) _
  have X0 : Hid (Wx ((w.alloc (Obj.cells #[.int .i64 X.turn, .int .i64 X.next, .int .i64 X.wide, .int .i64 X.high, .slice p1 X.gs.length q1, .slice p2 X.os.length q2, .slice p3 X.gold.length q3, .slice p4 X.us.length q4, .slice p5 X.qs.length q5] 29)).alloc (Obj.cells #[.int .i64 0, .int .i64 0, .int .i64 0, .int .i64 0, .slice none 0 0, .slice none 0 0, .slice none 0 0, .slice none 0 0, .slice none 0 0] 29)) w.heap.size (.int .i64 X.turn) (.int .i64 X.next) (.int .i64 X.wide) (.int .i64 X.high) (.slice p1 X.gs.length q1) (.slice p2 X.os.length q2) (.slice p3 X.gold.length q3) (.slice p4 X.us.length q4) (.slice p5 X.qs.length q5)) := (Wx.new (w := w) _ _ _ _ _ _ _ _ _ rfl).below ((Below.refl _ _).alloc (Nat.le_refl _) _) (by simp)
  have Z0 : Hid (Wx ((w.alloc (Obj.cells #[.int .i64 X.turn, .int .i64 X.next, .int .i64 X.wide, .int .i64 X.high, .slice p1 X.gs.length q1, .slice p2 X.os.length q2, .slice p3 X.gold.length q3, .slice p4 X.us.length q4, .slice p5 X.qs.length q5] 29)).alloc (Obj.cells #[.int .i64 0, .int .i64 0, .int .i64 0, .int .i64 0, .slice none 0 0, .slice none 0 0, .slice none 0 0, .slice none 0 0, .slice none 0 0] 29)) (w.heap.size + 1) (.int .i64 0) (.int .i64 0) (.int .i64 0) (.int .i64 0) (.slice none 0 0) (.slice none 0 0) (.slice none 0 0) (.slice none 0 0) (.slice none 0 0)) := Wx.new (w := w.alloc (Obj.cells #[.int .i64 X.turn, .int .i64 X.next, .int .i64 X.wide, .int .i64 X.high, .slice p1 X.gs.length q1, .slice p2 X.os.length q2, .slice p3 X.gold.length q3, .slice p4 X.us.length q4, .slice p5 X.qs.length q5] 29)) _ _ _ _ _ _ _ _ _ (by simp)
  have S0 : Hid (((w.alloc (Obj.cells #[.int .i64 X.turn, .int .i64 X.next, .int .i64 X.wide, .int .i64 X.high, .slice p1 X.gs.length q1, .slice p2 X.os.length q2, .slice p3 X.gold.length q3, .slice p4 X.us.length q4, .slice p5 X.qs.length q5] 29)).alloc (Obj.cells #[.int .i64 0, .int .i64 0, .int .i64 0, .int .i64 0, .slice none 0 0, .slice none 0 0, .slice none 0 0, .slice none 0 0, .slice none 0 0] 29)).heap.size = w.heap.size + 1 + 1) := by unfold Hid; simp
  generalize ((w.alloc (Obj.cells #[.int .i64 X.turn, .int .i64 X.next, .int .i64 X.wide, .int .i64 X.high, .slice p1 X.gs.length q1, .slice p2 X.os.length q2, .slice p3 X.gold.length q3, .slice p4 X.us.length q4, .slice p5 X.qs.length q5] 29)).alloc (Obj.cells #[.int .i64 0, .int .i64 0, .int .i64 0, .int .i64 0, .slice none 0 0, .slice none 0 0, .slice none 0 0, .slice none 0 0, .slice none 0 0] 29)) = w0 at *
  obtain ⟨z, hz⟩ : ∃ z, w.heap.size = z := ⟨_, rfl⟩
  have HZ : Hid (w.heap.size = z) := hz
  rw [hz] at X0 Z0 S0 ⊢
  clear hz
  go_wp2_with fail
  refine Calls.mono (last_any _ l w0 (L.out.below B0.out)) ?_
  rintro e w1 ⟨ul, rl, rfl, hrl, hul, b1'⟩
  have B1 : Hid (Below w.heap.size w w1) := B0.out.trans (b1'.mono B0.out.size)
  have X1 : Hid (Wx w1 z (.int .i64 X.turn) (.int .i64 X.next) (.int .i64 X.wide) (.int .i64 X.high) (.slice p1 X.gs.length q1) (.slice p2 X.os.length q2) (.slice p3 X.gold.length q3) (.slice p4 X.us.length q4) (.slice p5 X.qs.length q5)) := X0.out.below b1' X0.out.lt
  have Z1 : Hid (Wx w1 (z + 1) (.int .i64 0) (.int .i64 0) (.int .i64 0) (.int .i64 0) (.slice none 0 0) (.slice none 0 0) (.slice none 0 0) (.slice none 0 0) (.slice none 0 0)) := Z0.out.below b1' Z0.out.lt
  obtain ⟨F, hF⟩ : ∃ F, Od.faults l = F := ⟨_, rfl⟩
  have HF : Hid (Od.faults l = F) := hF
  rw [hF] at hrl hul
  clear hF b1' X0 Z0
  rcases hrl with ⟨rfl, rfl⟩ | ⟨hF, rfl⟩
  case inr =>
    have HN : Hid (F ≠ 0) := hF
    clear hF hul
    obtain ⟨z0, z1, z2, z3, z4, z5, z6, z7, z8⟩ := Z1.out.cells
    obtain ⟨t0, t1, t2, t3, t4, t5, t6, t7, t8⟩ := Z1.out.thaws
    have KZ : Hid (Kp (z + 1) w1 ((((((((((w1.setCell ⟨z + 1, 0, none⟩ (.int .i64 0)).setCell ⟨z + 1, 1, none⟩ (.int .i64 0)).setCell ⟨z + 1, 2, none⟩ (.int .i64 0)).setCell ⟨z + 1, 3, none⟩ (.int .i64 0)).setCell ⟨z + 1, 4, none⟩ (.slice none 0 0)).setCell ⟨z + 1, 5, none⟩ (.slice none 0 0)).setCell ⟨z + 1, 6, none⟩ (.slice none 0 0)).setCell ⟨z + 1, 7, none⟩ (.slice none 0 0)).setCell ⟨z + 1, 8, none⟩ (.slice none 0 0)))) := put_kp _ _ _ _ _ _ _ _ _ _ _
    obtain ⟨y0, y1, y2, y3, y4, y5, y6, y7, y8⟩ := (Z1.out.put (.int .i64 0) (.int .i64 0) (.int .i64 0) (.int .i64 0) (.slice none 0 0) (.slice none 0 0) (.slice none 0 0) (.slice none 0 0) (.slice none 0 0)).cells
    go_wp2
    clear z0 z1 z2 z3 z4 z5 z6 z7 z8 t0 t1 t2 t3 t4 t5 t6 t7 t8
    generalize (((((((((w1.setCell ⟨z + 1, 0, none⟩ (.int .i64 0)).setCell ⟨z + 1, 1, none⟩ (.int .i64 0)).setCell ⟨z + 1, 2, none⟩ (.int .i64 0)).setCell ⟨z + 1, 3, none⟩ (.int .i64 0)).setCell ⟨z + 1, 4, none⟩ (.slice none 0 0)).setCell ⟨z + 1, 5, none⟩ (.slice none 0 0)).setCell ⟨z + 1, 6, none⟩ (.slice none 0 0)).setCell ⟨z + 1, 7, none⟩ (.slice none 0 0)).setCell ⟨z + 1, 8, none⟩ (.slice none 0 0)) = w9 at *
    refine bodyPost_ret (v := .tuple #[.agg #[.int .i64 0, .int .i64 0, .int .i64 0, .int .i64 0, .slice none 0 0, .slice none 0 0, .slice none 0 0, .slice none 0 0, .slice none 0 0], .slice none 0 0, .iface 83 (.int .i64 F)]) (by simp [results, Tryz.results56, go_sem, y0, y1, y2, y3, y4, y5, y6, y7, y8]) rfl ⟨_, _, _, rfl, by rw [HF.out]; exact Er.no HN.out, .inl ⟨by rw [HF.out]; exact HN.out, rfl, rfl⟩, KZ.out.below B1.out B1.out.size (by rw [HZ.out]; omega)⟩
  obtain ⟨out, hls, ho⟩ : ∃ out, LastSays l out ∧ Oro w1 w0.heap.size ul out := by
    rcases hul with ⟨h, -⟩ | ⟨-, h⟩
    · exact absurd rfl h
    · exact h
  have LS : Hid (LastSays l out) := hls
  have OB : Hid (∀ o ∈ out, ¬ Od.bad o) := fun o h => (Od.faults_ok HF.out).2 o (hls.mem h)
  have OL : Hid (out.length ≤ 60) := Nat.le_trans hls.len (Od.faults_ok HF.out).1
  obtain ⟨plo, clo, rfl⟩ := ho.len
  have O1 : Hid (Oro w1 (z + 1 + 1) (.slice plo out.length clo) out) := by have h := ho; rw [S0.out] at h; exact h
  clear hls ho hul
  obtain ⟨x0, x1, x2, x3, x4, x5, x6, x7, x8⟩ := X1.out.cells
  go_wp2_with fail
  refine (copy_any _ X w1 (H.out.below B1.out) R.out.len).mono ?_
  rintro e w2 ⟨cu, rfl, ⟨k1, k2, k3, k4, k5, rfl, ⟨o1, o2, o3, o4, o5⟩, d12, d13, d14, d15, d23, d24, d25, d34, d35, d45⟩, hb⟩
  obtain ⟨b1, hb1⟩ : ∃ b, w1.heap.size = b := ⟨_, rfl⟩
  have HB1 : Hid (w1.heap.size = b1 ∧ z + 1 < b1) := ⟨hb1, by rw [← hb1]; exact Z1.out.lt⟩
  rw [hb1] at o1 o2 o3 o4 o5
  have X2 : Hid (Wx w2 z (.int .i64 X.turn) (.int .i64 X.next) (.int .i64 X.wide) (.int .i64 X.high) (.slice p1 X.gs.length q1) (.slice p2 X.os.length q2) (.slice p3 X.gold.length q3) (.slice p4 X.us.length q4) (.slice p5 X.qs.length q5)) := X1.out.below hb X1.out.lt
  obtain ⟨t0, t1, t2, t3, t4, t5, t6, t7, t8⟩ := X2.out.thaws
  obtain ⟨y0, y1, y2, y3, y4, y5, y6, y7, y8⟩ := X2.out.cells
  have KZ : Hid (Kp z w2 ((((((((((w2.setCell ⟨z, 0, none⟩ (.int .i64 X.turn)).setCell ⟨z, 1, none⟩ (.int .i64 X.next)).setCell ⟨z, 2, none⟩ (.int .i64 X.wide)).setCell ⟨z, 3, none⟩ (.int .i64 X.high)).setCell ⟨z, 4, none⟩ (k1)).setCell ⟨z, 5, none⟩ (k2)).setCell ⟨z, 6, none⟩ (k3)).setCell ⟨z, 7, none⟩ (k4)).setCell ⟨z, 8, none⟩ (k5)))) := put_kp _ _ _ _ _ _ _ _ _ _ _
  have X3 : Hid (Wx ((((((((((w2.setCell ⟨z, 0, none⟩ (.int .i64 X.turn)).setCell ⟨z, 1, none⟩ (.int .i64 X.next)).setCell ⟨z, 2, none⟩ (.int .i64 X.wide)).setCell ⟨z, 3, none⟩ (.int .i64 X.high)).setCell ⟨z, 4, none⟩ (k1)).setCell ⟨z, 5, none⟩ (k2)).setCell ⟨z, 6, none⟩ (k3)).setCell ⟨z, 7, none⟩ (k4)).setCell ⟨z, 8, none⟩ (k5))) z (.int .i64 X.turn) (.int .i64 X.next) (.int .i64 X.wide) (.int .i64 X.high) k1 k2 k3 k4 k5) := X2.out.put _ _ _ _ _ _ _ _ _
  have G3 : Hid (GvS ks X [] b1 z w1 k1 k2 k3 k4 k5 (.slice none 0 0) ((((((((((w2.setCell ⟨z, 0, none⟩ (.int .i64 X.turn)).setCell ⟨z, 1, none⟩ (.int .i64 X.next)).setCell ⟨z, 2, none⟩ (.int .i64 X.wide)).setCell ⟨z, 3, none⟩ (.int .i64 X.high)).setCell ⟨z, 4, none⟩ (k1)).setCell ⟨z, 5, none⟩ (k2)).setCell ⟨z, 6, none⟩ (k3)).setCell ⟨z, 7, none⟩ (k4)).setCell ⟨z, 8, none⟩ (k5)))) := by
    have hz1 := HB1.out.2
    refine ⟨X3.out, o1.kp KZ.out (by omega), o2.kp KZ.out (by omega), o3.kp KZ.out (by omega), o4.kp KZ.out (by omega), o5.kp KZ.out (by omega), Ow.nil _ _, ?_, (Kp.of hb).trans KZ.out, R.out.gfit⟩
    have dn : ∀ u, Dif u (.slice none 0 0) := fun u k h1 h2 => by cases h2
    simp only [List.pairwise_cons, List.mem_cons, List.not_mem_nil, or_false, forall_eq_or_imp, forall_eq]
    exact ⟨⟨d12, d13, d14, d15, dn _⟩, ⟨d23, d24, d25, dn _⟩, ⟨d34, d35, dn _⟩, ⟨d45, dn _⟩, dn _, by simp, by simp⟩
  obtain ⟨kp1, kc1, rfl⟩ := o1.len
  obtain ⟨kp2, kc2, rfl⟩ := o2.len
  obtain ⟨kp3, kc3, rfl⟩ := o3.len
  obtain ⟨kp4, kc4, rfl⟩ := o4.len
  obtain ⟨kp5, kc5, rfl⟩ := o5.len
  clear hb hb1 x0 x1 x2 x3 x4 x5 x6 x7 x8 o1 o2 o3 o4 o5 d12 d13 d14 d15 d23 d24 d25 d34 d35 d45 X1
  go_upto_region 5 with fail
  clear t0 t1 t2 t3 t4 t5 t6 t7 t8 y0 y1 y2 y3 y4 y5 y6 y7 y8
  generalize (((((((((w2.setCell ⟨z, 0, none⟩ (.int .i64 X.turn)).setCell ⟨z, 1, none⟩ (.int .i64 X.next)).setCell ⟨z, 2, none⟩ (.int .i64 X.wide)).setCell ⟨z, 3, none⟩ (.int .i64 X.high)).setCell ⟨z, 4, none⟩ (.slice kp1 X.gs.length kc1)).setCell ⟨z, 5, none⟩ (.slice kp2 X.os.length kc2)).setCell ⟨z, 6, none⟩ (.slice kp3 X.gold.length kc3)).setCell ⟨z, 7, none⟩ (.slice kp4 X.us.length kc4)).setCell ⟨z, 8, none⟩ (.slice kp5 X.qs.length kc5)) = w3 at *
  have ZZ : Hid (∀ V, Kp z w1 V → Wx V (z + 1) (.int .i64 0) (.int .i64 0) (.int .i64 0) (.int .i64 0) (.slice none 0 0) (.slice none 0 0) (.slice none 0 0) (.slice none 0 0) (.slice none 0 0)) := fun V hV => Z1.out.kp hV (by omega)
  have OO : Hid (∀ V, Kp z w1 V → Oro V (z + 1 + 1) (.slice plo out.length clo) out) := fun V hV => owns_kp O1.out hV (by omega)
  have BV : Hid (∀ V, Kp z w1 V → Below w.heap.size w V) := fun V hV => hV.below B1.out B1.out.size (by rw [HZ.out]; omega)
  have ol : out.length ≤ 60 := OL.out
  clear KZ X2 X3
  go_wp2_with fail
  go_loopw [11, 29] (fun ur j V => GvI ks X out b1 z w1 ur j V) (fun _ j _ => out.length - (intOf j).toNat)
  case atStart => exact ⟨0, _, _, _, _, _, Nat.zero_le _, rfl, Nat.le_refl _, G3.out⟩
  case round =>
    obtain ⟨q, u1, u2, u3, u4, u5, hq, rfl, hrl, hg⟩ := hrel
    obtain ⟨Y, hY⟩ : ∃ Y, (gv ks X out q).1 = Y := ⟨_, rfl⟩
    obtain ⟨ref, hR⟩ : ∃ r, (gv ks X out q).2 = r := ⟨_, rfl⟩
    have HY : Hid ((gv ks X out q).1 = Y ∧ (gv ks X out q).2 = ref) := ⟨hY, hR⟩
    rw [hY, hR] at hg
    rw [hR] at hrl
    have GQ : Hid (GvS ks Y ref b1 z w1 u1 u2 u3 u4 u5 u11 wr) := hg
    have RL : Hid (ref.length ≤ q) := hrl
    clear hY hR
    obtain ⟨ra, rc, rfl⟩ := hg.r.len
    obtain ⟨a1, h1, rfl⟩ := hg.o1.len
    obtain ⟨a2, h2, rfl⟩ := hg.o2.len
    obtain ⟨a3, h3, rfl⟩ := hg.o3.len
    obtain ⟨a4, h4, rfl⟩ := hg.o4.len
    obtain ⟨a5, h5, rfl⟩ := hg.o5.len
    clear hg hrl
    by_cases hqo : q = out.length
    · have FIN : Hid ((gv ks X out out.length).1 = Y ∧ (gv ks X out out.length).2 = ref) := by rw [← hqo]; exact HY.out
      subst hqo
      obtain ⟨x0, x1, x2, x3, x4, x5, x6, x7, x8⟩ := GQ.out.x.cells
      obtain ⟨z0, z1, z2, z3, z4, z5, z6, z7, z8⟩ := (ZZ.out _ GQ.out.k).cells
      obtain ⟨t0, t1, t2, t3, t4, t5, t6, t7, t8⟩ := (ZZ.out _ GQ.out.k).thaws
      have KZ : Hid (Kp (z + 1) wr ((((((((((wr.setCell ⟨z + 1, 0, none⟩ (.int .i64 Y.turn)).setCell ⟨z + 1, 1, none⟩ (.int .i64 Y.next)).setCell ⟨z + 1, 2, none⟩ (.int .i64 Y.wide)).setCell ⟨z + 1, 3, none⟩ (.int .i64 Y.high)).setCell ⟨z + 1, 4, none⟩ (.slice a1 Y.gs.length h1)).setCell ⟨z + 1, 5, none⟩ (.slice a2 Y.os.length h2)).setCell ⟨z + 1, 6, none⟩ (.slice a3 Y.gold.length h3)).setCell ⟨z + 1, 7, none⟩ (.slice a4 Y.us.length h4)).setCell ⟨z + 1, 8, none⟩ (.slice a5 Y.qs.length h5)))) := put_kp _ _ _ _ _ _ _ _ _ _ _
      obtain ⟨y0, y1, y2, y3, y4, y5, y6, y7, y8⟩ := ((ZZ.out _ GQ.out.k).put (.int .i64 Y.turn) (.int .i64 Y.next) (.int .i64 Y.wide) (.int .i64 Y.high) (.slice a1 Y.gs.length h1) (.slice a2 Y.os.length h2) (.slice a3 Y.gold.length h3) (.slice a4 Y.us.length h4) (.slice a5 Y.qs.length h5)).cells
      go_wp2
      clear x0 x1 x2 x3 x4 x5 x6 x7 x8 z0 z1 z2 z3 z4 z5 z6 z7 z8 t0 t1 t2 t3 t4 t5 t6 t7 t8
      generalize (((((((((wr.setCell ⟨z + 1, 0, none⟩ (.int .i64 Y.turn)).setCell ⟨z + 1, 1, none⟩ (.int .i64 Y.next)).setCell ⟨z + 1, 2, none⟩ (.int .i64 Y.wide)).setCell ⟨z + 1, 3, none⟩ (.int .i64 Y.high)).setCell ⟨z + 1, 4, none⟩ (.slice a1 Y.gs.length h1)).setCell ⟨z + 1, 5, none⟩ (.slice a2 Y.os.length h2)).setCell ⟨z + 1, 6, none⟩ (.slice a3 Y.gold.length h3)).setCell ⟨z + 1, 7, none⟩ (.slice a4 Y.us.length h4)).setCell ⟨z + 1, 8, none⟩ (.slice a5 Y.qs.length h5)) = w9 at *
      refine bodyPost_ret (v := .tuple #[.agg #[.int .i64 Y.turn, .int .i64 Y.next, .int .i64 Y.wide, .int .i64 Y.high, .slice a1 Y.gs.length h1, .slice a2 Y.os.length h2, .slice a3 Y.gold.length h3, .slice a4 Y.us.length h4, .slice a5 Y.qs.length h5], .slice ra ref.length rc, .nilIface]) (by simp [results, Tryz.results56, go_sem, y0, y1, y2, y3, y4, y5, y6, y7, y8]) rfl ⟨_, _, _, rfl, by rw [HF.out]; exact Er.nil, .inr ⟨HF.out, out, LS.out, ?_, ?_⟩, ?_⟩
      · rw [FIN.out.1]
        exact (GQ.out.wo.kp KZ.out HB1.out.2).mono (by have h1 := HB1.out; have h2 := HZ.out; omega)
      · rw [FIN.out.2]
        exact (GQ.out.r.kp KZ.out HB1.out.2).mono (by have h1 := HB1.out; have h2 := HZ.out; omega)
      · exact KZ.out.below (BV.out _ GQ.out.k) (BV.out _ GQ.out.k).size (by rw [HZ.out]; omega)
    · have hqk : q < out.length := by omega
      obtain ⟨o, ho⟩ : ∃ o, out[q]? = some o := ⟨_, List.getElem?_eq_getElem hqk⟩
      have HO : Hid (out[q]? = some o) := ho
      have OBK : Hid (¬ Od.bad o) := OB.out o (List.mem_of_getElem? ho)
      obtain ⟨a', c', e, -, -, hx⟩ := (OO.out _ GQ.out.k).l
      injection e with e1 e2 e3
      subst e1 e3
      obtain ⟨xo, rfl, -, hxo⟩ := hx (by rintro hn; rw [hn] at hqk; simp at hqk)
      obtain ⟨r0, r1, r2, r3⟩ := hxo q o ho
      clear hx hxo e2 ho
      have hqi : ((q : Nat) : Int) < (out.length : Nat) := by omega
      go_upto_region 9 with fail
      have BA : Hid (Below wr.heap.size wr (wr.alloc (Obj.cells #[.int .i64 o.player, .int .i64 o.unit, .int .i64 o.what, .int .i64 o.arg] 54))) := (Below.refl _ _).alloc (Nat.le_refl _) _
      have OA : Hid (Orc (wr.alloc (Obj.cells #[.int .i64 o.player, .int .i64 o.unit, .int .i64 o.what, .int .i64 o.arg] 54)) ⟨wr.heap.size, 0, none⟩ o) := Orc.mk' (w := wr) o rfl
      obtain ⟨y, hy⟩ : ∃ y, wr.heap.size = y := ⟨_, rfl⟩
      have YL : Hid (wr.heap.size = y ∧ b1 ≤ y) := ⟨hy, by rw [← hy, ← HB1.out.1]; exact GQ.out.k.size⟩
      rw [hy] at OA ⊢
      clear r0 r1 r2 r3 hy
      generalize wr.alloc (Obj.cells #[.int .i64 o.player, .int .i64 o.unit, .int .i64 o.what, .int .i64 o.arg] 54) = w4 at *
      have G4 : Hid (GvS ks Y ref b1 z w1 (.slice a1 Y.gs.length h1) (.slice a2 Y.os.length h2) (.slice a3 Y.gold.length h3) (.slice a4 Y.us.length h4) (.slice a5 Y.qs.length h5) (.slice ra ref.length rc) w4) := GQ.out.below BA.out
      have yl4 : Hid (y < w4.heap.size) := OA.out.lt
      clear BA GQ
      obtain ⟨x0, x1, x2, x3, x4, x5, x6, x7, x8⟩ := G4.out.x.cells
      go_wp2_with fail
      refine (idxm_any 82 (by intro args w; go_simp) _ #[.pointer (some ⟨y, 0, none⟩)] Y.us (askU o) w4 G4.out.o4.l (fun W hW u hu => ?_)).mono ?_
      · obtain ⟨c0, c1, -, -⟩ := OA.out.below hW yl4.out
        simp only [Nat.zero_add] at c1
        exact ask_fn o u y W c0 c1
      rintro e w5 ⟨r, rfl, hfr, b5⟩
      have G5 : Hid (GvS ks Y ref b1 z w1 (.slice a1 Y.gs.length h1) (.slice a2 Y.os.length h2) (.slice a3 Y.gold.length h3) (.slice a4 Y.us.length h4) (.slice a5 Y.qs.length h5) (.slice ra ref.length rc) w5) := G4.out.below b5
      have O5 : Hid (Orc w5 ⟨y, 0, none⟩ o) := OA.out.below b5 yl4.out
      clear b5 x0 x1 x2 x3 x4 x5 x6 x7 x8 G4 OA
      have kl8i : ks.length ≤ 8 := kl8
      rcases hfr with ⟨rfl, hnone⟩ | ⟨i, u, rfl, hu, hask, hfirst⟩
      · have GN : Hid (given1 ks Y o = none) := by unfold Hid given1; rw [ask_none hnone]
        clear hnone
        go_upto_region 11 with fail
        go_quiet (fail)
        have D6 : Hid (Below w5.heap.size w5 (w5.drewN nq)) := ⟨rfl, rfl, rfl, Nat.le_refl _, fun _ _ => rfl⟩
        generalize w5.drewN nq = w6 at *
        have G6 : Hid (GvS ks Y ref b1 z w1 (.slice a1 Y.gs.length h1) (.slice a2 Y.os.length h2) (.slice a3 Y.gold.length h3) (.slice a4 Y.us.length h4) (.slice a5 Y.qs.length h5) (.slice ra ref.length rc) w6) := G5.out.below D6.out
        have NX : Hid (gv ks X out (q + 1) = (Y, ref ++ [(q : Int)])) := by
          have h9 := gv_no (ks := ks) (Y := X) HO.out (by rw [HY.out.1]; exact GN.out)
          unfold Hid
          rw [h9, HY.out.1, HY.out.2]
        have BA : Hid (Below w6.heap.size w6 (w6.alloc (Obj.cells #[.int .i64 (q : Nat)] 3))) := (Below.refl _ _).alloc (Nat.le_refl _) _
        have GA : Hid (GvS ks Y ref b1 z w1 (.slice a1 Y.gs.length h1) (.slice a2 Y.os.length h2) (.slice a3 Y.gold.length h3) (.slice a4 Y.us.length h4) (.slice a5 Y.qs.length h5) (.slice ra ref.length rc) (w6.alloc (Obj.cells #[.int .i64 (q : Nat)] 3))) := G6.out.below BA.out
        have SB : Hid (b1 ≤ (w6.alloc (Obj.cells #[.int .i64 (q : Nat)] 3)).heap.size) := Nat.le_trans (by have h1 := G6.out.k.size; rw [HB1.out.1] at h1; exact h1) BA.out.size
        go_wp2_with (at_builtin; refine app_int _ rfl _ _ rfl b1 _ ref rfl GA.out.r ⟨w6.heap.size, 0, none⟩ (q : Int) rfl (by simp) (by have := RL.out; omega) SB.out ?_)
        intro g7 c7 w7 o7 gr7 a7 l7
        have G7 : Hid (GvS ks Y (ref ++ [(q : Int)]) b1 z w1 (.slice a1 Y.gs.length h1) (.slice a2 Y.os.length h2) (.slice a3 Y.gold.length h3) (.slice a4 Y.us.length h4) (.slice a5 Y.qs.length h5) (.slice (some ⟨g7, 0, none⟩) (ref.length + 1) c7) w7) := GA.out.refuse (by have := HB1.out.2; omega) HB1.out.1 gr7 o7 (by
          rcases a7 with h | h
          · exact .inl h.symm
          · exact .inr ⟨g7, rfl, by rw [h]; simp⟩)
        clear o7 gr7 a7 l7
        go_wp2
        go_round
        case rel => exact ⟨q + 1, _, _, _, _, _, by omega, by go_num, by rw [NX.out]; have := RL.out; simp; omega, by rw [NX.out]; exact G7.out⟩
        case measure => simp [intOf]; omega
      · have FI : Hid (Y.us.findIdx? (askU o) = some i ∧ Y.us[i]? = some u) := ⟨ask_some hu hask hfirst, hu⟩
        obtain ⟨⟨kn, k, hkn, hkk⟩, pn, hpn, hpl⟩ := G5.out.f.units u (List.mem_of_getElem? hu)
        have hap : u.player = o.player := (of_decide_eq_true hask).2
        have KU : Hid (u.kind = (kn : Nat) ∧ ks[kn]? = some k ∧ o.player = (pn : Nat) ∧ pn < Y.gold.length) := ⟨hkn, hkk, by rw [← hap]; exact hpn, hpl⟩
        have hil : i < Y.us.length := (List.getElem?_eq_some_iff.1 hu).1
        have hkl : kn < ks.length := (List.getElem?_eq_some_iff.1 hkk).1
        have G1 : Hid (given1 ks Y o = if mayB ks Y k o = true then some (if o.what = 3 then hired ks Y o else sentW Y i u o) else none) := by
          unfold Hid given1
          rw [FI.out.1]
          simp only [FI.out.2]
          rw [KU.out.1, Int.toNat_natCast]
          simp only [KU.out.2.1]
        obtain ⟨gu, cap, urest, e4, hgu, hc1, hc2, hc3, hub⟩ : ∃ gu cap rest, Value.slice a4 Y.us.length h4 = .slice (some ⟨gu, 0, none⟩) Y.us.length cap ∧ b1 ≤ gu ∧ Y.us.length ≤ cap ∧ cap ≤ maxLen ∧ Y.us.length * 8 + rest.length = cap * 8 ∧ Ub w5 gu Y.us rest := by
          rcases G5.out.o4.ub with ⟨-, h⟩ | ⟨gu, cap, rest, h⟩
          · rw [h] at hil; simp at hil
          · exact ⟨gu, cap, rest, h⟩
        injection e4 with e41 e42 e43
        subst e41 e43
        have UG : Hid (b1 ≤ gu ∧ Y.us.length ≤ h4 ∧ h4 ≤ maxLen ∧ Y.us.length * 8 + urest.length = h4 * 8 ∧ Ub w5 gu Y.us urest) := ⟨hgu, hc1, hc2, hc3, hub⟩
        have UB : Hid (∀ V, Below w5.heap.size w5 V → Ub V gu Y.us urest) := fun V hV => hub.below hV hub.lt
        obtain ⟨xk, rfl, hxk1, hxk⟩ : ∃ xk, pk = some xk ∧ xk.block < w.heap.size ∧ ∀ (i : Nat) k, ks[i]? = some k → Kc w (xk.add (i * 11)) k := by
          obtain ⟨a', c', e', -, -, hx⟩ := K.out
          injection e' with e1' e2' e3'
          subst e1'
          exact hx (by rintro hn; rw [hn] at hkl; simp at hkl)
        have BW : Hid (∀ V, Below w5.heap.size w5 V → Below w.heap.size w V) := fun V hV => (BV.out _ G5.out.k).trans (hV.mono (BV.out _ G5.out.k).size)
        have KX : Hid (∀ V, Below w5.heap.size w5 V → ∀ (j : Nat) kk, ks[j]? = some kk → Kc V (xk.add (j * 11)) kk) := fun V hV j kk hj => (hxk j kk hj).below (BW.out V hV) (by rw [add_block]; exact hxk1)
        have C5 : Hid (∀ V, Below w5.heap.size w5 V → (Wx V z (.int .i64 Y.turn) (.int .i64 Y.next) (.int .i64 Y.wide) (.int .i64 Y.high) (.slice a1 Y.gs.length h1) (.slice a2 Y.os.length h2) (.slice a3 Y.gold.length h3) (.slice (some ⟨gu, 0, none⟩) Y.us.length h4) (.slice a5 Y.qs.length h5) ∧ Unc V ⟨gu, i * 8, none⟩ u ∧ Kc V (xk.add (kn * 11)) k ∧ Orc V ⟨y, 0, none⟩ o)) := fun V hV => ⟨G5.out.x.below hV G5.out.x.lt, (UB.out V hV).unc FI.out.2, KX.out V hV kn k KU.out.2.1, O5.out.below hV O5.out.lt⟩
        have hkni : ((kn : Nat) : Int) < (ks.length : Nat) := by omega
        have hii : ((i : Nat) : Int) < (Y.us.length : Nat) := by omega
        have hi0 : ¬ ((i : Nat) : Int) < 0 := by omega
        have D5 : Hid (Below w5.heap.size w5 { w5 with drawn := w5.drawn + 1 }) := (Below.refl _ _).drew
        clear hu hask hfirst hkk hap hpn hpl hgu hc1 hc2 hc3 hub e42 hxk hxk1 hkn hil hkl
        go_upto_region 11 with fail
        refine wp_region_two [(true, 0), (true, 1), (true, 2), (true, 3), (true, 4), (true, 5), (true, 6), (true, 7), (true, 8), (true, 9), (true, 10), (true, 11), (true, 12), (true, 13), (true, 14), (false, 15)] [(false, 16), (false, 17)] (fun V => Wx V z (.int .i64 Y.turn) (.int .i64 Y.next) (.int .i64 Y.wide) (.int .i64 Y.high) (.slice a1 Y.gs.length h1) (.slice a2 Y.os.length h2) (.slice a3 Y.gold.length h3) (.slice (some ⟨gu, 0, none⟩) Y.us.length h4) (.slice a5 Y.qs.length h5) ∧ Unc V ⟨gu, i * 8, none⟩ u ∧ Kc V (xk.add (kn * 11)) k ∧ Orc V ⟨y, 0, none⟩ o) (by kernel_rfl) (by kernel_rfl) (by kernel_rfl) (by decide +kernel) (by decide +kernel) (C5.out _ D5.out) ?_
        generalize ({ w5 with drawn := w5.drawn + 1 } : World) = w6 at *
        refine headT_read rfl (.int .i64 (i : Nat)) (by go_simp) (fun V hV => by go_simp) ?_
        go_simp
        refine headT_read rfl (.bool false) (by go_simp) (fun V hV => by go_simp) ?_
        go_simp
        refine headT_read rfl (.bool false) (by go_simp) (fun V hV => by go_simp) ?_
        go_simp
        refine headT_read rfl (.slice (some xk) ks.length qk) (by go_simp) (fun V hV => by go_simp) ?_
        go_simp
        refine headT_read rfl (.agg #[.int .i64 Y.turn, .int .i64 Y.next, .int .i64 Y.wide, .int .i64 Y.high, .slice a1 Y.gs.length h1, .slice a2 Y.os.length h2, .slice a3 Y.gold.length h3, .slice (some ⟨gu, 0, none⟩) Y.us.length h4, .slice a5 Y.qs.length h5]) (by go_simp) (fun V hV => by obtain ⟨hX, hU, hK, hO⟩ := hV; obtain ⟨x0, x1, x2, x3, x4, x5, x6, x7, x8⟩ := hX.cells; obtain ⟨y0, y1, y2, y3, y4, y5, y6, y7⟩ := hU; obtain ⟨k0, k1, k2, k3, k4, k5, k6, k7, k8, k9, k10⟩ := hK; obtain ⟨o0, o1, o2, o3⟩ := hO; simp only [Nat.zero_add] at o1 o2 o3; go_simp) ?_
        go_simp
        refine headT_read rfl (.slice (some xk) ks.length qk) (by go_simp) (fun V hV => by go_simp) ?_
        go_simp
        refine headT_read rfl (.pointer (some ⟨z, 7, none⟩)) (by go_simp) (fun V hV => by go_simp) ?_
        go_simp
        refine headT_read rfl (.slice (some ⟨gu, 0, none⟩) Y.us.length h4) (by go_simp) (fun V hV => by obtain ⟨hX, hU, hK, hO⟩ := hV; obtain ⟨x0, x1, x2, x3, x4, x5, x6, x7, x8⟩ := hX.cells; obtain ⟨y0, y1, y2, y3, y4, y5, y6, y7⟩ := hU; obtain ⟨k0, k1, k2, k3, k4, k5, k6, k7, k8, k9, k10⟩ := hK; obtain ⟨o0, o1, o2, o3⟩ := hO; simp only [Nat.zero_add] at o1 o2 o3; go_simp) ?_
        go_simp
        refine headT_read rfl (.int .i64 (i : Nat)) (by go_simp) (fun V hV => by go_simp) ?_
        go_simp
        refine headT_read rfl (.pointer (some ⟨gu, i * 8, none⟩)) (by go_simp) (fun V hV => by go_simp) ?_
        go_simp
        refine headT_read rfl (.pointer (some ⟨gu, i * 8 + 2, none⟩)) (by go_simp) (fun V hV => by go_simp) ?_
        go_simp
        refine headT_read rfl (.int .i64 (kn : Nat)) (by go_simp) (fun V hV => by obtain ⟨hX, hU, hK, hO⟩ := hV; obtain ⟨x0, x1, x2, x3, x4, x5, x6, x7, x8⟩ := hX.cells; obtain ⟨y0, y1, y2, y3, y4, y5, y6, y7⟩ := hU; obtain ⟨k0, k1, k2, k3, k4, k5, k6, k7, k8, k9, k10⟩ := hK; obtain ⟨o0, o1, o2, o3⟩ := hO; simp only [Nat.zero_add] at o1 o2 o3; rw [KU.out.1] at y2; go_simp) ?_
        go_simp
        refine headT_read rfl (.pointer (some (xk.add (kn * 11)))) (by go_simp) (fun V hV => by go_simp) ?_
        go_simp
        refine headT_read rfl (.agg #[.string k.b, .int .i64 k.n0, .int .i64 k.n1, .int .i64 k.n2, .int .i64 k.n3, .int .i64 k.n4, .int .i64 k.n5, .int .i64 k.n6, .int .i64 k.n7, .bool k.f, .bool k.t]) (by go_simp) (fun V hV => by obtain ⟨hX, hU, hK, hO⟩ := hV; obtain ⟨x0, x1, x2, x3, x4, x5, x6, x7, x8⟩ := hX.cells; obtain ⟨y0, y1, y2, y3, y4, y5, y6, y7⟩ := hU; obtain ⟨k0, k1, k2, k3, k4, k5, k6, k7, k8, k9, k10⟩ := hK; obtain ⟨o0, o1, o2, o3⟩ := hO; simp only [Nat.zero_add] at o1 o2 o3; go_simp) ?_
        go_simp
        refine headT_read rfl (.agg #[.int .i64 o.player, .int .i64 o.unit, .int .i64 o.what, .int .i64 o.arg]) (by go_simp) (fun V hV => by obtain ⟨hX, hU, hK, hO⟩ := hV; obtain ⟨x0, x1, x2, x3, x4, x5, x6, x7, x8⟩ := hX.cells; obtain ⟨y0, y1, y2, y3, y4, y5, y6, y7⟩ := hU; obtain ⟨k0, k1, k2, k3, k4, k5, k6, k7, k8, k9, k10⟩ := hK; obtain ⟨o0, o1, o2, o3⟩ := hO; simp only [Nat.zero_add] at o1 o2 o3; go_simp) ?_
        go_simp
        refine headT_call rfl 83 #[.slice (some xk) ks.length qk, .agg #[.int .i64 Y.turn, .int .i64 Y.next, .int .i64 Y.wide, .int .i64 Y.high, .slice a1 Y.gs.length h1, .slice a2 Y.os.length h2, .slice a3 Y.gold.length h3, .slice (some ⟨gu, 0, none⟩) Y.us.length h4, .slice a5 Y.qs.length h5], .agg #[.string k.b, .int .i64 k.n0, .int .i64 k.n1, .int .i64 k.n2, .int .i64 k.n3, .int .i64 k.n4, .int .i64 k.n5, .int .i64 k.n6, .int .i64 k.n7, .bool k.f, .bool k.t], .agg #[.int .i64 o.player, .int .i64 o.unit, .int .i64 o.what, .int .i64 o.arg]] (by go_simp) (by go_simp) ?_
        have GW : Hid (GvS ks Y ref b1 z w1 (.slice a1 Y.gs.length h1) (.slice a2 Y.os.length h2) (.slice a3 Y.gold.length h3) (.slice (some ⟨gu, 0, none⟩) Y.us.length h4) (.slice a5 Y.qs.length h5) (.slice ra ref.length rc) w6) := G5.out.below D5.out
        refine Calls.mono (maybe_any _ _ ks Y k o w6 (K.out.below (BW.out w6 D5.out)) GW.out.wo.l GW.out.f OBK.out (by rw [KU.out.2.2.1, Int.toNat_natCast]; exact KU.out.2.2.2)) ?_
        rintro e w7 ⟨rfl, b7⟩
        have D7 : Hid (Below w5.heap.size w5 w7) := D5.out.trans (b7.mono D5.out.size)
        refine ⟨_, rfl, C5.out _ D7.out, ?_⟩
        obtain ⟨mb, hmb⟩ : ∃ b, mayB ks Y k o = b := ⟨_, rfl⟩
        have MB : Hid (mayB ks Y k o = mb) := hmb
        rw [hmb]
        clear b7 hmb
        go_simp
        refine sched_value rfl (.bool (!mb)) w7 (by go_simp) (by go_simp) trivial ?_
        go_simp
        refine sched_value rfl (.bool (!mb)) w7 (by go_simp) (by go_simp) trivial ?_
        go_simp
        unfold wpSched
        have G7' : Hid (GvS ks Y ref b1 z w1 (.slice a1 Y.gs.length h1) (.slice a2 Y.os.length h2) (.slice a3 Y.gold.length h3) (.slice (some ⟨gu, 0, none⟩) Y.us.length h4) (.slice a5 Y.qs.length h5) (.slice ra ref.length rc) w7) := G5.out.below D7.out
        cases mb with
        | false =>
          have GN : Hid (given1 ks Y o = none) := by unfold Hid; rw [G1.out, MB.out]; simp
          have NX : Hid (gv ks X out (q + 1) = (Y, ref ++ [(q : Int)])) := by
            have h9 := gv_no (ks := ks) (Y := X) HO.out (by rw [HY.out.1]; exact GN.out)
            unfold Hid
            rw [h9, HY.out.1, HY.out.2]
          have BA : Hid (Below w7.heap.size w7 (w7.alloc (Obj.cells #[.int .i64 (q : Nat)] 3))) := (Below.refl _ _).alloc (Nat.le_refl _) _
          have GA : Hid (GvS ks Y ref b1 z w1 (.slice a1 Y.gs.length h1) (.slice a2 Y.os.length h2) (.slice a3 Y.gold.length h3) (.slice (some ⟨gu, 0, none⟩) Y.us.length h4) (.slice a5 Y.qs.length h5) (.slice ra ref.length rc) (w7.alloc (Obj.cells #[.int .i64 (q : Nat)] 3))) := G7'.out.below BA.out
          have SB : Hid (b1 ≤ (w7.alloc (Obj.cells #[.int .i64 (q : Nat)] 3)).heap.size) := Nat.le_trans (by have h1 := G7'.out.k.size; rw [HB1.out.1] at h1; exact h1) BA.out.size
          go_wp2_with (at_builtin; refine app_int _ rfl _ _ rfl b1 _ ref rfl GA.out.r ⟨w7.heap.size, 0, none⟩ (q : Int) rfl (by simp) (by have := RL.out; omega) SB.out ?_)
          intro g7 c7 w8 o7 gr7 a7 l7
          have G8 : Hid (GvS ks Y (ref ++ [(q : Int)]) b1 z w1 (.slice a1 Y.gs.length h1) (.slice a2 Y.os.length h2) (.slice a3 Y.gold.length h3) (.slice (some ⟨gu, 0, none⟩) Y.us.length h4) (.slice a5 Y.qs.length h5) (.slice (some ⟨g7, 0, none⟩) (ref.length + 1) c7) w8) := GA.out.refuse (by have := HB1.out.2; omega) HB1.out.1 gr7 o7 (by
            rcases a7 with h | h
            · exact .inl h.symm
            · exact .inr ⟨g7, rfl, by rw [h]; simp⟩)
          clear o7 gr7 a7 l7
          go_wp2
          go_round
          case rel => exact ⟨q + 1, _, _, _, _, _, by omega, by go_num, by rw [NX.out]; have := RL.out; simp; omega, by rw [NX.out]; exact G8.out⟩
          case measure => simp [intOf]; omega
        | true =>
          have GY : Hid (given1 ks Y o = some (if o.what = 3 then hired ks Y o else sentW Y i u o)) := by unfold Hid; rw [G1.out, MB.out]; simp
          obtain ⟨c0, c1, c2, c3⟩ := (C5.out _ D7.out).2.2.2
          simp only [Nat.zero_add] at c1 c2 c3
          by_cases hw3 : o.what = 3
          · have hw3b : (o.what == 3) = true := beq_iff_eq.2 hw3
            have HW3 : Hid (o.what = 3) := hw3
            have M3 : Hid (k.t = true ∧ o.arg < (ks.length : Int) ∧ priceOf ks o.arg ≤ Y.gold.getD o.player.toNat 0 ∧ Y.qs.length < 12) := by
              have h9 := MB.out
              unfold mayB at h9
              rw [if_neg (by omega), if_neg (by omega), if_pos hw3] at h9
              unfold Hid
              exact of_decide_eq_true h9
            have A0 : 0 ≤ o.arg := by have h9 := Od.ok_of OBK.out; omega
            obtain ⟨an, han⟩ : ∃ an : Nat, o.arg = an := ⟨o.arg.toNat, by omega⟩
            obtain ⟨kk, hkk⟩ : ∃ kk, ks[an]? = some kk := ⟨_, List.getElem?_eq_getElem (by have := M3.out.2.1; omega)⟩
            have AK : Hid (o.arg = (an : Nat) ∧ ks[an]? = some kk) := ⟨han, hkk⟩
            have hani : ((an : Nat) : Int) < (ks.length : Nat) := by have := M3.out.2.1; omega
            obtain ⟨g, hgp⟩ : ∃ g, Y.gold[pn]? = some g := ⟨_, List.getElem?_eq_getElem KU.out.2.2.2⟩
            have GP : Hid (Y.gold[pn]? = some g) := hgp
            obtain ⟨gg, cg, grest, e3, hgg, hd1, hd2, hd3, hbk⟩ : ∃ g cap rest, Value.slice a3 Y.gold.length h3 = .slice (some ⟨g, 0, none⟩) Y.gold.length cap ∧ b1 ≤ g ∧ Y.gold.length ≤ cap ∧ cap ≤ maxLen ∧ Y.gold.length + rest.size = cap ∧ Bk w7 g Y.gold rest := by
              rcases G7'.out.o3.bk with ⟨-, h⟩ | h
              · have := KU.out.2.2.2; rw [h] at this; simp at this
              · exact h
            injection e3 with e31 e32 e33
            subst e31 e33
            have GG : Hid (b1 ≤ gg ∧ Y.gold.length ≤ h3 ∧ h3 ≤ maxLen ∧ Y.gold.length + grest.size = h3 ∧ Bk w7 gg Y.gold grest) := ⟨hgg, hd1, hd2, hd3, hbk⟩
            have EG : Hid ((hired ks Y o).gold = Y.gold.set pn (g - kk.n5)) := by
              unfold Hid hired priceOf
              simp only [KU.out.2.2.1, AK.out.1, Int.toNat_natCast, AK.out.2, List.getD_eq_getElem?_getD, GP.out, Option.getD_some]
            have EQ : Hid ((hired ks Y o).qs = Y.qs ++ [⟨o.player, o.unit, o.arg, max kk.n6 1⟩]) := by
              unfold Hid hired turnsOf
              simp only [AK.out.1, Int.toNat_natCast, AK.out.2]
            have NX : Hid (gv ks X out (q + 1) = (hired ks Y o, ref)) := by
              have h9 := gv_yes (ks := ks) (Y := X) HO.out (Z := hired ks Y o) (by rw [HY.out.1, GY.out, if_pos hw3])
              unfold Hid
              rw [h9, HY.out.2]
            have CE : Hid (∀ V, Below w7.heap.size w7 V → (Kc V (xk.add (an * 11)) kk ∧ Orc V ⟨y, 0, none⟩ o)) := fun V hV => ⟨KX.out V (D7.out.trans (hV.mono D7.out.size)) an kk AK.out.2, (C5.out V (D7.out.trans (hV.mono D7.out.size))).2.2.2⟩
            have D8 : Hid (Below w7.heap.size w7 { w7 with drawn := w7.drawn + 1 }) := (Below.refl _ _).drew
            clear hw3 A0 han hkk hgp hgg hd1 hd2 hd3 hbk e32
            go_upto_region 14 with fail
            clear c0 c1 c2 c3 hw3b
            refine wp_region_two [(true, 0), (true, 1), (true, 2), (true, 3), (true, 4), (true, 5)] [(false, 6)] (fun V => Kc V (xk.add (an * 11)) kk ∧ Orc V ⟨y, 0, none⟩ o) (by kernel_rfl) (by kernel_rfl) (by kernel_rfl) (by decide +kernel) (by decide +kernel) (CE.out _ D8.out) ?_
            generalize ({ w7 with drawn := w7.drawn + 1 } : World) = w8 at *
            refine headT_read rfl (.slice (some xk) ks.length qk) (by go_simp) (fun V hV => by go_simp) ?_
            go_simp
            refine headT_read rfl (.pointer (some ⟨y, 3, none⟩)) (by go_simp) (fun V hV => by go_simp) ?_
            go_simp
            refine headT_read rfl (.int .i64 (an : Nat)) (by go_simp) (fun V hV => by obtain ⟨hK, hO⟩ := hV; obtain ⟨o0, o1, o2, o3⟩ := hO; simp only [Nat.zero_add] at o1 o2 o3; rw [AK.out.1] at o3; go_simp) ?_
            go_simp
            refine headT_read rfl (.pointer (some (xk.add (an * 11)))) (by go_simp) (fun V hV => by go_simp) ?_
            go_simp
            refine headT_read rfl (.agg #[.string kk.b, .int .i64 kk.n0, .int .i64 kk.n1, .int .i64 kk.n2, .int .i64 kk.n3, .int .i64 kk.n4, .int .i64 kk.n5, .int .i64 kk.n6, .int .i64 kk.n7, .bool kk.f, .bool kk.t]) (by go_simp) (fun V hV => by obtain ⟨hK, hO⟩ := hV; obtain ⟨k0, k1, k2, k3, k4, k5, k6, k7, k8, k9, k10⟩ := hK; obtain ⟨o0, o1, o2, o3⟩ := hO; simp only [Nat.zero_add] at o1 o2 o3; go_simp) ?_
            go_simp
            refine headT_read rfl (.agg #[.int .i64 o.player, .int .i64 o.unit, .int .i64 o.what, .int .i64 o.arg]) (by go_simp) (fun V hV => by obtain ⟨hK, hO⟩ := hV; obtain ⟨o0, o1, o2, o3⟩ := hO; simp only [Nat.zero_add] at o1 o2 o3; go_simp) ?_
            go_simp
            unfold wpHeadT
            have G8 : Hid (GvS ks Y ref b1 z w1 (.slice a1 Y.gs.length h1) (.slice a2 Y.os.length h2) (.slice (some ⟨gg, 0, none⟩) Y.gold.length h3) (.slice (some ⟨gu, 0, none⟩) Y.us.length h4) (.slice a5 Y.qs.length h5) (.slice ra ref.length rc) w8) := G7'.out.below D8.out
            have B8 : Hid (Bk w8 gg Y.gold grest) := GG.out.2.2.2.2.below D8.out
            have KM : Hid (0 ≤ kk.n5 ∧ kk.n5 ≤ 1000 ∧ 0 ≤ kk.n6 ∧ kk.n6 ≤ 1000) := G8.out.f.kinds.2 kk (List.mem_of_getElem? AK.out.2)
            refine sched_call rfl 84 #[.pointer (some ⟨z, 0, none⟩), .agg #[.string kk.b, .int .i64 kk.n0, .int .i64 kk.n1, .int .i64 kk.n2, .int .i64 kk.n3, .int .i64 kk.n4, .int .i64 kk.n5, .int .i64 kk.n6, .int .i64 kk.n7, .bool kk.f, .bool kk.t], .agg #[.int .i64 o.player, .int .i64 o.unit, .int .i64 o.what, .int .i64 o.arg]] (by go_simp) (by go_simp) ?_
            refine Calls.mono (hire_any z gg Y.gold.length h3 b1 _ _ _ _ _ _ _ Y.gold grest a5 h5 Y.qs kk o pn g w8 G8.out.x B8.out G8.out.o5 KU.out.2.2.1 KU.out.2.2.2 GP.out (G8.out.f.gold g (List.mem_of_getElem? GP.out)) ⟨KM.out.1, KM.out.2.1⟩ KM.out.2.2 G8.out.f.ql (by have := HB1.out.2; omega) GG.out.1 (by have h1 := G8.out.k.size; rw [HB1.out.1] at h1; exact h1) (fun h => G8.out.difs.2.2.1.2.1 gg rfl h)) ?_
            rintro e w9 ⟨rfl, a8', h8', hx, hbk, hj, hf, hn⟩
            refine ⟨_, rfl, trivial, ?_⟩
            have G9 : Hid (GvS ks (hired ks Y o) ref b1 z w1 (.slice a1 Y.gs.length h1) (.slice a2 Y.os.length h2) (.slice (some ⟨gg, 0, none⟩) Y.gold.length h3) (.slice (some ⟨gu, 0, none⟩) Y.us.length h4) (.slice a8' (Y.qs.length + 1) h8') (.slice ra ref.length rc) w9) := G8.out.hire (pn := pn) (g := g) (rest := grest) (by have := HB1.out.2; omega) HB1.out.1 GG.out.1 GG.out.2.1 GG.out.2.2.1 GG.out.2.2.2.1 hx (by rw [EG.out]; exact hbk) (by rw [EQ.out]; exact hj) hf hn (G8.out.f.hire M3.out.2.2.1 (by rw [KU.out.2.2.1, Int.toNat_natCast]; exact KU.out.2.2.2) M3.out.2.2.2)
            clear hx hbk hj hf hn
            go_simp
            unfold wpSched
            go_wp2
            go_round
            case rel => exact ⟨q + 1, _, _, _, _, _, by omega, by go_num, by rw [NX.out]; have := RL.out; show ref.length ≤ q + 1; omega, by rw [NX.out]; exact G9.out⟩
            case measure => simp [intOf]; omega
          · have hw3b : (o.what == 3) = false := beq_eq_false_iff_ne.2 hw3
            have NX : Hid (gv ks X out (q + 1) = (sentW Y i u o, ref)) := by
              have h9 := gv_yes (ks := ks) (Y := X) HO.out (Z := sentW Y i u o) (by rw [HY.out.1, GY.out, if_neg hw3])
              unfold Hid
              rw [h9, HY.out.2]
            have WH : Hid (o.what = 0 ∧ o.arg = 0 ∨ o.what = 1 ∨ o.what = 2) := by have h9 := Od.ok_of OBK.out; unfold Hid; omega
            have CE : Hid (∀ V, Below w7.heap.size w7 V → (Wx V z (.int .i64 Y.turn) (.int .i64 Y.next) (.int .i64 Y.wide) (.int .i64 Y.high) (.slice a1 Y.gs.length h1) (.slice a2 Y.os.length h2) (.slice a3 Y.gold.length h3) (.slice (some ⟨gu, 0, none⟩) Y.us.length h4) (.slice a5 Y.qs.length h5) ∧ Unc V ⟨gu, i * 8, none⟩ u ∧ Kc V (xk.add (kn * 11)) k ∧ Orc V ⟨y, 0, none⟩ o)) := fun V hV => C5.out V (D7.out.trans (hV.mono D7.out.size))
            have D8 : Hid (Below w7.heap.size w7 { w7 with drawn := w7.drawn + 1 }) := (Below.refl _ _).drew
            clear hw3
            go_upto_region 15 with fail
            clear c0 c1 c2 c3
            refine wp_region_two [(true, 0), (true, 1), (true, 2), (true, 3), (true, 4)] [(false, 5)] (fun V => Wx V z (.int .i64 Y.turn) (.int .i64 Y.next) (.int .i64 Y.wide) (.int .i64 Y.high) (.slice a1 Y.gs.length h1) (.slice a2 Y.os.length h2) (.slice a3 Y.gold.length h3) (.slice (some ⟨gu, 0, none⟩) Y.us.length h4) (.slice a5 Y.qs.length h5) ∧ Unc V ⟨gu, i * 8, none⟩ u ∧ Kc V (xk.add (kn * 11)) k ∧ Orc V ⟨y, 0, none⟩ o) (by kernel_rfl) (by kernel_rfl) (by kernel_rfl) (by decide +kernel) (by decide +kernel) (CE.out _ D8.out) ?_
            generalize ({ w7 with drawn := w7.drawn + 1 } : World) = w8 at *
            refine headT_read rfl (.pointer (some ⟨z, 7, none⟩)) (by go_simp) (fun V hV => by go_simp) ?_
            go_simp
            refine headT_read rfl (.slice (some ⟨gu, 0, none⟩) Y.us.length h4) (by go_simp) (fun V hV => by obtain ⟨hX, hU, hK, hO⟩ := hV; obtain ⟨x0, x1, x2, x3, x4, x5, x6, x7, x8⟩ := hX.cells; obtain ⟨y0, y1, y2, y3, y4, y5, y6, y7⟩ := hU; obtain ⟨k0, k1, k2, k3, k4, k5, k6, k7, k8, k9, k10⟩ := hK; obtain ⟨o0, o1, o2, o3⟩ := hO; simp only [Nat.zero_add] at o1 o2 o3; go_simp) ?_
            go_simp
            refine headT_read rfl (.int .i64 (i : Nat)) (by go_simp) (fun V hV => by go_simp) ?_
            go_simp
            refine headT_read rfl (.pointer (some ⟨gu, i * 8, none⟩)) (by go_simp) (fun V hV => by go_simp) ?_
            go_simp
            refine headT_read rfl (.agg #[.int .i64 o.player, .int .i64 o.unit, .int .i64 o.what, .int .i64 o.arg]) (by go_simp) (fun V hV => by obtain ⟨hX, hU, hK, hO⟩ := hV; obtain ⟨x0, x1, x2, x3, x4, x5, x6, x7, x8⟩ := hX.cells; obtain ⟨y0, y1, y2, y3, y4, y5, y6, y7⟩ := hU; obtain ⟨k0, k1, k2, k3, k4, k5, k6, k7, k8, k9, k10⟩ := hK; obtain ⟨o0, o1, o2, o3⟩ := hO; simp only [Nat.zero_add] at o1 o2 o3; go_simp) ?_
            go_simp
            unfold wpHeadT
            have G8 : Hid (GvS ks Y ref b1 z w1 (.slice a1 Y.gs.length h1) (.slice a2 Y.os.length h2) (.slice a3 Y.gold.length h3) (.slice (some ⟨gu, 0, none⟩) Y.us.length h4) (.slice a5 Y.qs.length h5) (.slice ra ref.length rc) w8) := G7'.out.below D8.out
            refine sched_call rfl 85 #[.pointer (some ⟨gu, i * 8, none⟩), .agg #[.int .i64 o.player, .int .i64 o.unit, .int .i64 o.what, .int .i64 o.arg]] (by go_simp) (by go_simp) ?_
            refine Calls.mono (send_any gu i Y.us urest u o w8 (UB.out _ (D7.out.trans (D8.out.mono D7.out.size))) FI.out.2 WH.out) ?_
            rintro e w9 ⟨rfl, hub, hkp⟩
            refine ⟨_, rfl, trivial, ?_⟩
            have G9 : Hid (GvS ks (sentW Y i u o) ref b1 z w1 (.slice a1 Y.gs.length h1) (.slice a2 Y.os.length h2) (.slice a3 Y.gold.length h3) (.slice (some ⟨gu, 0, none⟩) Y.us.length h4) (.slice a5 Y.qs.length h5) (.slice ra ref.length rc) w9) := G8.out.send (by have := HB1.out.2; omega) HB1.out.1 FI.out.2 UG.out.1 UG.out.2.1 UG.out.2.2.1 UG.out.2.2.2.1 hub hkp
            clear hub hkp
            go_simp
            unfold wpSched
            go_wp2
            go_round
            case rel => exact ⟨q + 1, _, _, _, _, _, by omega, by go_num, by rw [NX.out]; have := RL.out; show ref.length ≤ q + 1; omega, by rw [NX.out]; exact G9.out⟩
            case measure => simp [intOf]; omega
end Go.Proofs.YthcndngdngjalaaGreatDoor

namespace Go.Proofs.YthcndngdngjalaaGreatDoor
open Go.RowKit
set_option linter.unusedVariables false
set_option maxRecDepth 100000

theorem im_law : Maps.Keyed Tryz.prog 3 := Maps.int_keyed Tryz.underlying3
theorem im_key {p : Int} (hp : (Lit.int .i64 p).wf = true) : ∃ kl, keyOf Tryz.prog 3 (.int .i64 p) = some kl := ⟨_, Maps.keyOf_int_mk Tryz.underlying3 hp⟩
theorem im_zero (w : World) : (zeroValue 3).run Tryz.prog w = .ok (.int .i64 0) w := by kernel_rfl
theorem wfi64 {n : Int} (h0 : -9223372036854775808 ≤ n) (h1 : n ≤ 9223372036854775807) : (Lit.int .i64 n).wf = true := WalkArith.wf_i64 (by omega)
/-- block b is a map: f tells what stands at each number. -/
def Im (w : World) (b n : Nat) (f : Int → Int) : Prop := ∃ D : DataW Unit, w.ownsMap Tryz.prog 3 (plainElem Tryz.prog 3) b n D ∧ Maps.IsMap D ∧ ∀ p kl, keyOf Tryz.prog 3 (.int .i64 p) = some kl → D.atKey kl (.lit (.int .i64 0)) = .lit (.int .i64 (f p))
def updI (f : Int → Int) (p v : Int) : Int → Int := fun p' => if p' = p then v else f p'
theorem im_made (w : World) : Im (w.alloc (.map #[] 0)) w.heap.size 0 (fun _ => 0) :=
  ⟨.map [], World.ownsMap_made _ _ _ _, Maps.isMap_empty, fun p kl _ => Maps.atKey_of_not_has rfl _⟩
theorem Im.lt {w : World} {b n : Nat} {f : Int → Int} (h : Im w b n f) : b < w.heap.size := by
  obtain ⟨D, h1, -⟩ := h
  exact h1.lt
theorem Im.gb {w w' : World} {b n : Nat} {f : Int → Int} {r : Option Nat} (h : Im w b n f) (g : w.grownBy w' r) (hr : some b ≠ r) : Im w' b n f := by
  obtain ⟨D, h1, h2⟩ := h
  exact ⟨D, h1.kept g hr, h2⟩
theorem Im.below {w w' : World} {b n : Nat} {f : Int → Int} (h : Im w b n f) (g : Below w.heap.size w w') : Im w' b n f :=
  h.gb (r := none) ⟨g.os, g.tape, g.output, g.size, fun k hk _ => g.block k hk⟩ (by simp)
theorem Im.put {w : World} {b n : Nat} {f : Int → Int} (h : Im w b n f) (hn : n < maxLen) {p v : Int} (hp : (Lit.int .i64 p).wf = true) (hv : (Lit.int .i64 v).wf = true) :
    ∃ w', (Instr.mapUpdate 86 (.map (some b)) (.int .i64 p) (.int .i64 v)).run Tryz.prog w = .ok () w' ∧ Im w' b (n + 1) (updI f p v) ∧ w.grownBy w' (some b) := by
  obtain ⟨D, h1, hD, h2⟩ := h
  obtain ⟨kl, hk⟩ := im_key hp
  obtain ⟨w', r, o, g⟩ := World.ownsMap.update h1 im_law Tryz.underlying86 hn hk (plainElem_int Tryz.underlying3 hv)
  refine ⟨w', r, ⟨_, o, hD.put _ _, fun p' kl' hk' => ?_⟩, g⟩
  unfold updI
  by_cases e : kl' = kl
  · subst e
    have ei := im_law.inj hk hk'
    simp only [Value.int.injEq, true_and] at ei
    rw [if_pos ei.symm]
    exact Maps.atKey_put_same hD (im_law.key hk) _ _
  · rw [Maps.atKey_put_other e, if_neg, h2 p' kl' hk']
    rintro rfl
    exact e (Option.some.inj (hk'.symm.trans hk))
theorem Im.look {w : World} {b n : Nat} {f : Int → Int} (h : Im w b n f) {p : Int} (hp : (Lit.int .i64 p).wf = true) :
    (Instr.lookup 86 (.map (some b)) (.int .i64 p) false).run Tryz.prog w = .ok (.int .i64 (f p)) w := by
  obtain ⟨D, h1, hD, h2⟩ := h
  obtain ⟨kl, hk⟩ := im_key hp
  obtain ⟨c, hr, hat, -⟩ := h1.lookup_int im_law Tryz.underlying86 Tryz.underlying3 (im_zero w) hk
  rw [h2 p kl hk] at hat
  injection hat with e
  injection e with _ e
  rw [e]
  exact hr
end Go.Proofs.YthcndngdngjalaaGreatDoor

namespace Go.Proofs.YthcndngdngjalaaGreatDoor
open Go.RowKit
set_option linter.unusedVariables false

set_option maxRecDepth 100000 in
set_option maxHeartbeats 4000000 in
theorem isfirst_any (j : JbV) (bc bm n : Nat) (f : Int → Int) (w : World) (hc : w.cell? ⟨bc, 0, none⟩ = some (.map (some bm))) (hm : Im w bm n f) (hne : bc ≠ bm) (hn : n ≤ 1000) (hf : 0 ≤ f j.unit ∧ f j.unit ≤ 1000) (hu : (Lit.int .i64 j.unit).wf = true) :
    Calls Tryz.prog 45 #[j.val, .pointer (some ⟨bc, 0, none⟩)] w fun e w' => ∃ b : Bool, b = (f j.unit == 0) ∧ e = .returned (.bool b) ∧ Im w' bm (n + 1) (updI f j.unit (f j.unit + 1)) ∧ Fr (fun q => q = bm) w w' := by
  have HC : Hid (w.cell? ⟨bc, 0, none⟩ = some (.map (some bm))) := hc
  have HM : Hid (Im w bm n f) := hm
  have WF : Hid ((Lit.int .i64 j.unit).wf = true ∧ (Lit.int .i64 (f j.unit + 1)).wf = true) := ⟨hu, wfi64 (by omega) (by omega)⟩
  obtain ⟨fu, hfu⟩ : ∃ x, f j.unit = x := ⟨_, rfl⟩
  have FU : Hid (f j.unit = fu) := hfu
  rw [hfu] at hf
  clear hc hm hu hfu
  unfold JbV.val
  go_enter Tryz.func45, Tryz.ntmps45
  go_upto_region 1 with fail
  have B1 : Hid (Below w.heap.size w (w.alloc (Obj.cells #[.int .i64 j.player, .int .i64 j.unit, .int .i64 j.kind, .int .i64 j.left] 77))) := (Below.refl _ _).alloc (Nat.le_refl _) _
  obtain ⟨z, hz⟩ : ∃ z, w.heap.size = z := ⟨_, rfl⟩
  have X1 : Hid (Jbc (w.alloc (Obj.cells #[.int .i64 j.player, .int .i64 j.unit, .int .i64 j.kind, .int .i64 j.left] 77)) ⟨z, 0, none⟩ j) := Jbc.mk' (w := w) j hz
  have ZM : Hid (bm < z ∧ bc < z) := by unfold Hid; rw [← hz]; exact ⟨HM.out.lt, cell_lt HC.out⟩
  rw [hz]
  clear hz
  generalize w.alloc (Obj.cells #[.int .i64 j.player, .int .i64 j.unit, .int .i64 j.kind, .int .i64 j.left] 77) = w1 at *
  have c1 : w1.cell? ⟨bc, 0, none⟩ = some (.map (some bm)) := by rw [B1.out.cell (p := ⟨bc, 0, none⟩) (cell_lt HC.out)]; exact HC.out
  have m1 := HM.out.below B1.out
  have j1 : w1.cell? ⟨z, 1, none⟩ = some (.int .i64 j.unit) := X1.out.c1
  have l1 := m1.look WF.out.1
  rw [FU.out] at l1
  obtain ⟨w2, u2, o2, g2⟩ := m1.put (by unfold maxLen; omega) WF.out.1 WF.out.2
  rw [FU.out] at u2
  have M2 : Hid (Im w2 bm (n + 1) (updI f j.unit (f j.unit + 1))) := o2
  have G2 : Hid (w1.grownBy w2 (some bm)) := g2
  have L2 := o2.look WF.out.1
  have e2 : updI f j.unit (f j.unit + 1) j.unit = fu + 1 := by unfold updI; rw [if_pos rfl, FU.out]
  rw [e2] at L2
  have c2 : w2.cell? ⟨bc, 0, none⟩ = some (.map (some bm)) := by
    have := G2.out.block bc (Nat.lt_trans ZM.out.2 X1.out.lt) (by simp; omega)
    unfold World.cell? at c1 ⊢
    rw [this]
    exact c1
  have j2 : w2.cell? ⟨z, 1, none⟩ = some (.int .i64 j.unit) := by
    have := G2.out.block z X1.out.lt (by simp; have := ZM.out; omega)
    unfold World.cell? at j1 ⊢
    rw [this]
    exact j1
  have wf1 : IntKind.i64.wrap (fu + 1) = fu + 1 := by rw [IntKind.wrap_i64]; omega
  have FR : Hid (Fr (fun q => q = bm) w w2) := (Fr.below B1.out).trans (Fr.gb G2.out (fun k hk => by injection hk with hk; exact hk.symm))
  clear m1 o2 g2 e2
  by_cases h0 : fu = 0
  · subst h0
    simp only [Int.zero_add] at u2 L2 wf1
    go_wp2
    go_ret
    exact ⟨true, by rw [FU.out]; rfl, rfl, by rw [FU.out] at M2; rw [FU.out]; exact M2.out, FR.out⟩
  · have h1 : (fu + 1 == 1) = false := by rw [beq_eq_false_iff_ne]; omega
    have h1' : ¬ fu + 1 = 1 := by omega
    go_wp2
    go_ret
    exact ⟨false, by rw [FU.out]; exact (beq_eq_false_iff_ne.2 h0).symm, rfl, by rw [FU.out] at M2; rw [FU.out]; exact M2.out, FR.out⟩
end Go.Proofs.YthcndngdngjalaaGreatDoor

