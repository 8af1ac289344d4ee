/- slices.symMergeCmpFunc of orders: mid < m. · slices.symMergeCmpFunc of orders: m <= mid. · slices.symMergeCmpFunc of orders. · slices.stableCmpFunc, slices.SortStableFunc of at most 60 orders by compare. -/
import Derived.Test.YteieikgkmfglaaaGreatDoorZTurnPlays27
namespace Go.Proofs.YteieikgkmfglaaaGreatDoor
open Go.RowKit Go.Proofs.YteieikgkmfglaaaGreatDoor.So
set_option linter.unusedVariables false

set_option maxRecDepth 100000 in
set_option maxHeartbeats 64000000 in
theorem sym_lo (N : Nat) (A X Y B : List T) (g cap L a m b : Nat) (rest : List Value) (w : World) (ih : SymIH N g cap L rest) (hN : X.length + Y.length ≤ N + 1) (lx : 2 ≤ X.length) (ly : 2 ≤ Y.length) (hX : X.Pairwise lt) (hY : Y.Pairwise lt) (hpl : ∀ x ∈ X, ∀ y ∈ Y, x.2 < y.2) (hr : Rb w g (fs (A ++ X ++ Y ++ B)) rest) (hL : A.length + X.length + Y.length + B.length = L) (hn : L ≤ 1000) (ha : A.length = a) (hm : a + X.length = m) (hb : m + Y.length = b) (hmm : (a + b) / 2 < m) :
    Calls Tryz.prog 154 #[.slice (some ⟨g, 0, none⟩) L cap, .int .i64 (a : Nat), .int .i64 (m : Nat), .int .i64 (b : Nat), .func (.func 105) #[] #[]] w (MergeSays A (X ++ Y) B g rest w) := by
  have IH : Hid (SymIH N g cap L rest) := ih
  have R0 : Hid (Rb w g (fs (A ++ X ++ Y ++ B)) rest) := hr
  have HN : Hid (X.length + Y.length ≤ N + 1) := hN
  have HL : Hid (A.length + X.length + Y.length + B.length = L) := hL
  have HM : Hid (A.length = a ∧ a + X.length = m ∧ m + Y.length = b) := ⟨ha, hm, hb⟩
  have HXY : Hid (X.Pairwise lt ∧ Y.Pairwise lt ∧ ∀ x ∈ X, ∀ y ∈ Y, x.2 < y.2) := ⟨hX, hY, hpl⟩
  have HXL : Hid (2 ≤ X.length ∧ 2 ≤ Y.length) := ⟨lx, ly⟩
  have hbL : b ≤ L := by omega
  have ham : a + 2 ≤ m := by omega
  have hmb : m + 2 ≤ b := by omega
  obtain ⟨dx, hdx⟩ : ∃ d, m - a = d := ⟨_, rfl⟩
  obtain ⟨dy, hdy⟩ : ∃ d, b - m = d := ⟨_, rfl⟩
  obtain ⟨s, hs⟩ : ∃ s, a + b = s := ⟨_, rfl⟩
  rw [hs] at hmm
  obtain ⟨mid, hmid⟩ : ∃ d, s / 2 = d := ⟨_, rfl⟩
  rw [hmid] at hmm
  obtain ⟨n, hnn⟩ : ∃ n, mid + m = n := ⟨_, rfl⟩
  have smi : ((m : Nat) : Int) - (a : Int) = (dx : Nat) := by omega
  have wdx : IntKind.i64.wrap ((dx : Nat) : Int) = (dx : Nat) := by rw [IntKind.wrap_i64]; omega
  have dx1 : (((dx : Nat) : Int) == 1) = false := by
    have : ¬ ((dx : Nat) : Int) = 1 := by omega
    simpa using this
  have sbm : ((b : Nat) : Int) - (m : Int) = (dy : Nat) := by omega
  have wdy : IntKind.i64.wrap ((dy : Nat) : Int) = (dy : Nat) := by rw [IntKind.wrap_i64]; omega
  have dy1 : (((dy : Nat) : Int) == 1) = false := by
    have : ¬ ((dy : Nat) : Int) = 1 := by omega
    simpa using this
  have ss : ((a : Nat) : Int) + (b : Int) = (s : Nat) := by omega
  have ws : IntKind.i64.wrap ((s : Nat) : Int) = (s : Nat) := by rw [IntKind.wrap_i64]; omega
  have sm : ((s : Nat) : Int) / 2 = (mid : Nat) := by omega
  have sn : ((mid : Nat) : Int) + (m : Int) = (n : Nat) := by omega
  have wn : IntKind.i64.wrap ((n : Nat) : Int) = (n : Nat) := by rw [IntKind.wrap_i64]; omega
  have HS : Hid (a < mid ∧ mid < b ∧ mid + m = n ∧ mid + mid ≤ a + b ∧ a + b ≤ mid + mid + 1 ∧ a + 2 ≤ m ∧ m + 2 ≤ b ∧ b ≤ L) := ⟨by omega, by omega, by omega, by omega, by omega, ham, hmb, hbL⟩
  obtain ⟨p, hp⟩ : ∃ p, n - 1 = p := ⟨_, rfl⟩
  have sp : ((n : Nat) : Int) - 1 = (p : Nat) := by omega
  have wp' : IntKind.i64.wrap ((p : Nat) : Int) = (p : Nat) := by rw [IntKind.wrap_i64]; omega
  have HP : Hid (p + 1 = n) := by unfold Hid; omega
  clear hr hN hL hX hY hpl ha hm hb lx ly
  obtain ⟨lo, hlo⟩ : ∃ lo, n - b = lo := ⟨_, rfl⟩
  have HLH : Hid (a ≤ lo ∧ lo ≤ mid ∧ mid ≤ m ∧ mid ≤ mid ∧ (lo = a ∨ lo + b = n) ∧ (mid = m ∨ mid = mid) ∧ n ≤ lo + b) := by refine ⟨by omega, by omega, by omega, by omega, by omega, .inr rfl, by omega⟩
  have hgt : ((mid : Nat) : Int) < (m : Int) := by omega
  have slo : ((n : Nat) : Int) - (b : Int) = (lo : Nat) := by omega
  have wlo : IntKind.i64.wrap ((lo : Nat) : Int) = (lo : Nat) := by rw [IntKind.wrap_i64]; omega
  clear hdx hdy hs hmid hnn hp hmm hlo
  go_enter Tryz.func154, Tryz.ntmps154
  go_wp2
  clear smi wdx dx1 sbm wdy dy1 ss ws sm sn wn sp wp' hgt
  try clear slo wlo
  go_loopw [20, 21] (fun sv rv W => SyI (A ++ X ++ Y ++ B) g rest w n lo mid sv rv W) (fun sv rv _ => (intOf rv).toNat - (intOf sv).toNat)
  case atStart =>
    have h := HLH.out
    exact ⟨lo, mid, rfl, rfl, Nat.le_refl _, h.2.1, Nat.le_refl _, fun h => absurd h (Nat.lt_irrefl _), fun h => absurd h (Nat.lt_irrefl _), R0.out, Kp.refl _ _⟩
  case round =>
    obtain ⟨st, r, rfl, rfl, hst, hsr, hrh, hF1, hF2, hrb, hk⟩ := hrel
    have RB : Hid (Rb wr g (fs (A ++ X ++ Y ++ B)) rest) := hrb
    have K1 : Hid (Kp g w wr) := hk
    have F1 : Hid (lo < st → ∃ x y, (A ++ X ++ Y ++ B)[st - 1]? = some x ∧ (A ++ X ++ Y ++ B)[n - st]? = some y ∧ lt x y) := hF1
    have F2 : Hid (r < mid → ∃ x y, (A ++ X ++ Y ++ B)[r]? = some x ∧ (A ++ X ++ Y ++ B)[n - 1 - r]? = some y ∧ lt y x) := hF2
    have HSR : Hid (lo ≤ st ∧ st ≤ r ∧ r ≤ mid) := ⟨hst, hsr, hrh⟩
    clear hrb hk hF1 hF2
    by_cases he : st = r
    · subst he
      have hb1 := HLH.out
      have hb2 := HS.out
      have hb4 := HM.out
      have hb5 := HSR.out
      have hb6 := HN.out
      have hb7 := HL.out
      obtain ⟨X1, X2, Y1, Y2, hX12, hY12, l1, l2, l3, l4, hcut⟩ := cut_here A X Y B HXY.out.1 HXY.out.2.1 hb4.1 hb4.2.1 hb4.2.2 hb2.2.2.1 hb1.1 hb5.1 hb5.2.2 hb1.2.2.1 hb1.2.2.2.1 (by omega) (by omega) hb1.2.2.2.2.2.2 F1.out F2.out
      subst hX12
      subst hY12
      simp only [List.length_append] at hb4 hb6 hb7
      obtain ⟨e, hee⟩ : ∃ e, m + Y1.length = e := ⟨_, rfl⟩
      have sne : ((n : Nat) : Int) - (st : Int) = (e : Nat) := by omega
      have wne : IntKind.i64.wrap ((e : Nat) : Int) = (e : Nat) := by rw [IntKind.wrap_i64]; omega
      have hlt : ¬ ((st : Nat) : Int) < (st : Int) := by omega
      have CUT : Hid (∀ p ∈ X1 ++ Y1, ∀ q ∈ X2 ++ Y2, lt p q) := hcut
      have LEN : Hid (A.length = a ∧ a + X1.length = st ∧ st + X2.length = m ∧ st + Y1.length = mid ∧ m + Y1.length = e ∧ e + Y2.length = b ∧ mid + X2.length = e ∧ A.length + X1.length + X2.length + Y1.length + Y2.length + B.length = L ∧ X1.length + X2.length + Y1.length + Y2.length ≤ N + 1 ∧ L ≤ 1000) := by refine ⟨hb4.1, l1, l2, l3, hee, by omega, by omega, by omega, by omega, hn⟩
      have CB := combos X1 X2 Y1 Y2 (by have := HXL.out; simp only [List.length_append] at this; omega) (by have := HXL.out; simp only [List.length_append] at this; omega) (by omega) (by omega)
      have RX : Hid (Rb wr g (fs (A ++ (X1 ++ X2) ++ (Y1 ++ Y2) ++ B)) rest) := RB.out
      have hnum := LEN.out
      clear hb1 hb2 hb4 hb5 hb6 hb7 hcut l1 l2 l3 l4 hee hst hsr hrh F1 F2
      rcases CB with ⟨x1, x2, y1, y2⟩ | ⟨x1, x2, y1, y2⟩ | ⟨x1, x2, y1, y2⟩ | ⟨x1, x2, y1, y2⟩ | ⟨x1, x2, y1, y2⟩ | ⟨x1, x2, y1, y2⟩ | ⟨x1, x2, y1, y2⟩
      · have px1 := pos_of_ne x1
        have px2 := pos_of_ne x2
        have py1 := pos_of_ne y1
        have py2 := pos_of_ne y2
        have d1 : ((st : Nat) : Int) < (m : Int) := by omega
        have d2 : ((m : Nat) : Int) < (e : Int) := by omega
        have d3 : ((a : Nat) : Int) < (st : Int) := by omega
        have d4 : ((st : Nat) : Int) < (mid : Int) := by omega
        have d5 : ((mid : Nat) : Int) < (e : Int) := by omega
        have d6 : ((e : Nat) : Int) < (b : Int) := by omega
        clear hnum
        have CR := rotate_any (fs (A ++ X1)) (fs X2) (fs Y1) (fs (Y2 ++ B)) (.func (.func 105) #[] #[]) g cap L st m e rest wr (by have := RX.out; simpa [fs] using this) (by have := LEN.out; simp [fs] at this ⊢; omega) hn (by simpa [fs] using x2) (by simpa [fs] using y1) (by have := LEN.out; simp [fs] at this ⊢; omega) (by have := LEN.out; simp [fs] at this ⊢; omega) (by have := LEN.out; simp [fs] at this ⊢; omega)
        go_wp2_with fail
        refine Calls.mono CR ?_
        rintro er w1 ⟨rfl, hr1, hk1⟩
        have R1 : Hid (Rb w1 g (fs (A ++ X1 ++ Y1 ++ (X2 ++ Y2 ++ B))) rest) := by unfold Hid; simpa [fs] using hr1
        have K2 : Hid (Kp g w w1) := K1.out.trans hk1
        clear hr1 hk1 CR
        have C1 := IH.out A X1 Y1 (X2 ++ Y2 ++ B) a st mid w1 (by have := LEN.out; simp at this ⊢; have := px1; have := py1; have := px2; have := py2; omega) x1 y1 (rise_left HXY.out.1) (rise_left HXY.out.2.1) (fun x hx y hy => HXY.out.2.2 x (by simp [hx]) y (by simp [hy])) R1.out (by have := LEN.out; simp at this ⊢; omega) LEN.out.1 LEN.out.2.1 LEN.out.2.2.2.1
        go_wp2_with fail
        refine Calls.mono C1 ?_
        rintro er w2 ⟨rfl, Z1, z1p, z1r, hr1, hk1⟩
        have R2 : Hid (Rb w2 g (fs (A ++ Z1 ++ (X2 ++ Y2 ++ B))) rest) := hr1
        have K3 : Hid (Kp g w w2) := K2.out.trans hk1
        have P1 : Hid (Z1.Perm (X1 ++ Y1) ∧ Z1.Pairwise lt) := ⟨z1p, z1r⟩
        clear hr1 hk1 C1 z1p z1r
        have hz1 := P1.out.1.length_eq
        have C2 := IH.out (A ++ Z1) X2 Y2 B mid e b w2 (by have := LEN.out; simp at this ⊢; have := px1; have := py1; have := px2; have := py2; omega) x2 y2 (rise_right HXY.out.1) (rise_right HXY.out.2.1) (fun x hx y hy => HXY.out.2.2 x (by simp [hx]) y (by simp [hy])) (by have := R2.out; simpa [fs] using this) (by have := LEN.out; simp at this hz1 ⊢; omega) (by have := LEN.out; simp at this hz1 ⊢; omega) LEN.out.2.2.2.2.2.2.1 LEN.out.2.2.2.2.2.1
        go_wp2_with fail
        refine Calls.mono C2 ?_
        rintro er w3 ⟨rfl, Z2, z2p, z2r, hr1, hk1⟩
        have R3 : Hid (Rb w3 g (fs (A ++ Z1 ++ Z2 ++ B)) rest) := by unfold Hid; simpa [fs] using hr1
        have K4 : Hid (Kp g w w3) := K3.out.trans hk1
        have P2 : Hid (Z2.Perm (X2 ++ Y2) ∧ Z2.Pairwise lt) := ⟨z2p, z2r⟩
        clear hr1 hk1 C2 z2p z2r hz1
        go_wp2
        go_end0
        have ER := end_rise P1.out.1 P2.out.1 P1.out.2 P2.out.2 CUT.out
        exact ⟨rfl, Z1 ++ Z2, by simpa using ER.1, ER.2, by have := R3.out; simpa [fs] using this, K4.out⟩
      · subst x1
        have px2 := pos_of_ne x2
        have py1 := pos_of_ne y1
        have py2 := pos_of_ne y2
        simp only [List.length_nil] at hnum
        have d1 : ((st : Nat) : Int) < (m : Int) := by omega
        have d2 : ((m : Nat) : Int) < (e : Int) := by omega
        have d3 : ¬ ((a : Nat) : Int) < (st : Int) := by omega
        have d4 : ((st : Nat) : Int) < (mid : Int) := by omega
        have d5 : ((mid : Nat) : Int) < (e : Int) := by omega
        have d6 : ((e : Nat) : Int) < (b : Int) := by omega
        clear hnum
        have CR := rotate_any (fs (A ++ [])) (fs X2) (fs Y1) (fs (Y2 ++ B)) (.func (.func 105) #[] #[]) g cap L st m e rest wr (by have := RX.out; simpa [fs] using this) (by have := LEN.out; simp [fs] at this ⊢; omega) hn (by simpa [fs] using x2) (by simpa [fs] using y1) (by have := LEN.out; simp [fs] at this ⊢; omega) (by have := LEN.out; simp [fs] at this ⊢; omega) (by have := LEN.out; simp [fs] at this ⊢; omega)
        go_wp2_with fail
        refine Calls.mono CR ?_
        rintro er w1 ⟨rfl, hr1, hk1⟩
        have R1 : Hid (Rb w1 g (fs (A ++ [] ++ Y1 ++ (X2 ++ Y2 ++ B))) rest) := by unfold Hid; simpa [fs] using hr1
        have K2 : Hid (Kp g w w1) := K1.out.trans hk1
        clear hr1 hk1 CR
        obtain ⟨Z1, hZ1⟩ : ∃ Z, Y1 = Z := ⟨_, rfl⟩
        have R2 : Hid (Rb w1 g (fs (A ++ Z1 ++ (X2 ++ Y2 ++ B))) rest) := by have := R1.out; unfold Hid; rw [← hZ1]; simpa [fs] using this
        have K3 : Hid (Kp g w w1) := K2.out
        have P1 : Hid (Z1.Perm ([] ++ Y1) ∧ Z1.Pairwise lt) := by rw [← hZ1]; exact ⟨by simp, rise_left HXY.out.2.1⟩
        clear hZ1
        have hz1 := P1.out.1.length_eq
        have C2 := IH.out (A ++ Z1) X2 Y2 B mid e b w1 (by have := LEN.out; simp at this ⊢; have := py1; have := px2; have := py2; omega) x2 y2 (rise_right HXY.out.1) (rise_right HXY.out.2.1) (fun x hx y hy => HXY.out.2.2 x (by simp [hx]) y (by simp [hy])) (by have := R2.out; simpa [fs] using this) (by have := LEN.out; simp at this hz1 ⊢; omega) (by have := LEN.out; simp at this hz1 ⊢; omega) LEN.out.2.2.2.2.2.2.1 LEN.out.2.2.2.2.2.1
        go_wp2_with fail
        refine Calls.mono C2 ?_
        rintro er w3 ⟨rfl, Z2, z2p, z2r, hr1, hk1⟩
        have R3 : Hid (Rb w3 g (fs (A ++ Z1 ++ Z2 ++ B)) rest) := by unfold Hid; simpa [fs] using hr1
        have K4 : Hid (Kp g w w3) := K3.out.trans hk1
        have P2 : Hid (Z2.Perm (X2 ++ Y2) ∧ Z2.Pairwise lt) := ⟨z2p, z2r⟩
        clear hr1 hk1 C2 z2p z2r hz1
        go_wp2
        go_end0
        have ER := end_rise P1.out.1 P2.out.1 P1.out.2 P2.out.2 CUT.out
        exact ⟨rfl, Z1 ++ Z2, by simpa using ER.1, ER.2, by have := R3.out; simpa [fs] using this, K4.out⟩
      · have px1 := pos_of_ne x1
        subst x2
        have py1 := pos_of_ne y1
        have py2 := pos_of_ne y2
        simp only [List.length_nil] at hnum
        have d1 : ¬ ((st : Nat) : Int) < (m : Int) := by omega
        have d2 : ((m : Nat) : Int) < (e : Int) := by omega
        have d3 : ((a : Nat) : Int) < (st : Int) := by omega
        have d4 : ((st : Nat) : Int) < (mid : Int) := by omega
        have d5 : ¬ ((mid : Nat) : Int) < (e : Int) := by omega
        have d6 : ((e : Nat) : Int) < (b : Int) := by omega
        clear hnum
        have R1 : Hid (Rb wr g (fs (A ++ X1 ++ Y1 ++ ([] ++ Y2 ++ B))) rest) := by have := RX.out; unfold Hid; simpa [fs] using this
        have K2 : Hid (Kp g w wr) := K1.out
        have C1 := IH.out A X1 Y1 ([] ++ Y2 ++ B) a st mid wr (by have := LEN.out; simp at this ⊢; have := px1; have := py1; have := py2; omega) x1 y1 (rise_left HXY.out.1) (rise_left HXY.out.2.1) (fun x hx y hy => HXY.out.2.2 x (by simp [hx]) y (by simp [hy])) R1.out (by have := LEN.out; simp at this ⊢; omega) LEN.out.1 LEN.out.2.1 LEN.out.2.2.2.1
        go_wp2_with fail
        refine Calls.mono C1 ?_
        rintro er w2 ⟨rfl, Z1, z1p, z1r, hr1, hk1⟩
        have R2 : Hid (Rb w2 g (fs (A ++ Z1 ++ ([] ++ Y2 ++ B))) rest) := hr1
        have K3 : Hid (Kp g w w2) := K2.out.trans hk1
        have P1 : Hid (Z1.Perm (X1 ++ Y1) ∧ Z1.Pairwise lt) := ⟨z1p, z1r⟩
        clear hr1 hk1 C1 z1p z1r
        obtain ⟨Z2, hZ2⟩ : ∃ Z, Y2 = Z := ⟨_, rfl⟩
        have R3 : Hid (Rb w2 g (fs (A ++ Z1 ++ Z2 ++ B)) rest) := by have := R2.out; unfold Hid; rw [← hZ2]; simpa [fs] using this
        have K4 : Hid (Kp g w w2) := K3.out
        have P2 : Hid (Z2.Perm ([] ++ Y2) ∧ Z2.Pairwise lt) := by rw [← hZ2]; exact ⟨by simp, rise_right HXY.out.2.1⟩
        clear hZ2
        go_wp2
        go_end0
        have ER := end_rise P1.out.1 P2.out.1 P1.out.2 P2.out.2 CUT.out
        exact ⟨rfl, Z1 ++ Z2, by simpa using ER.1, ER.2, by have := R3.out; simpa [fs] using this, K4.out⟩
      · have px1 := pos_of_ne x1
        have px2 := pos_of_ne x2
        subst y1
        have py2 := pos_of_ne y2
        simp only [List.length_nil] at hnum
        have d1 : ((st : Nat) : Int) < (m : Int) := by omega
        have d2 : ¬ ((m : Nat) : Int) < (e : Int) := by omega
        have d3 : ((a : Nat) : Int) < (st : Int) := by omega
        have d4 : ¬ ((st : Nat) : Int) < (mid : Int) := by omega
        have d5 : ((mid : Nat) : Int) < (e : Int) := by omega
        have d6 : ((e : Nat) : Int) < (b : Int) := by omega
        clear hnum
        have R1 : Hid (Rb wr g (fs (A ++ X1 ++ [] ++ (X2 ++ Y2 ++ B))) rest) := by have := RX.out; unfold Hid; simpa [fs] using this
        have K2 : Hid (Kp g w wr) := K1.out
        obtain ⟨Z1, hZ1⟩ : ∃ Z, X1 = Z := ⟨_, rfl⟩
        have R2 : Hid (Rb wr g (fs (A ++ Z1 ++ (X2 ++ Y2 ++ B))) rest) := by have := R1.out; unfold Hid; rw [← hZ1]; simpa [fs] using this
        have K3 : Hid (Kp g w wr) := K2.out
        have P1 : Hid (Z1.Perm (X1 ++ []) ∧ Z1.Pairwise lt) := by rw [← hZ1]; exact ⟨by simp, rise_left HXY.out.1⟩
        clear hZ1
        have hz1 := P1.out.1.length_eq
        have C2 := IH.out (A ++ Z1) X2 Y2 B mid e b wr (by have := LEN.out; simp at this ⊢; have := px1; have := px2; have := py2; omega) x2 y2 (rise_right HXY.out.1) (rise_right HXY.out.2.1) (fun x hx y hy => HXY.out.2.2 x (by simp [hx]) y (by simp [hy])) (by have := R2.out; simpa [fs] using this) (by have := LEN.out; simp at this hz1 ⊢; omega) (by have := LEN.out; simp at this hz1 ⊢; omega) LEN.out.2.2.2.2.2.2.1 LEN.out.2.2.2.2.2.1
        go_wp2_with fail
        refine Calls.mono C2 ?_
        rintro er w3 ⟨rfl, Z2, z2p, z2r, hr1, hk1⟩
        have R3 : Hid (Rb w3 g (fs (A ++ Z1 ++ Z2 ++ B)) rest) := by unfold Hid; simpa [fs] using hr1
        have K4 : Hid (Kp g w w3) := K3.out.trans hk1
        have P2 : Hid (Z2.Perm (X2 ++ Y2) ∧ Z2.Pairwise lt) := ⟨z2p, z2r⟩
        clear hr1 hk1 C2 z2p z2r hz1
        go_wp2
        go_end0
        have ER := end_rise P1.out.1 P2.out.1 P1.out.2 P2.out.2 CUT.out
        exact ⟨rfl, Z1 ++ Z2, by simpa using ER.1, ER.2, by have := R3.out; simpa [fs] using this, K4.out⟩
      · have px1 := pos_of_ne x1
        have px2 := pos_of_ne x2
        have py1 := pos_of_ne y1
        subst y2
        simp only [List.length_nil] at hnum
        have d1 : ((st : Nat) : Int) < (m : Int) := by omega
        have d2 : ((m : Nat) : Int) < (e : Int) := by omega
        have d3 : ((a : Nat) : Int) < (st : Int) := by omega
        have d4 : ((st : Nat) : Int) < (mid : Int) := by omega
        have d5 : ((mid : Nat) : Int) < (e : Int) := by omega
        have d6 : ¬ ((e : Nat) : Int) < (b : Int) := by omega
        clear hnum
        have CR := rotate_any (fs (A ++ X1)) (fs X2) (fs Y1) (fs ([] ++ B)) (.func (.func 105) #[] #[]) g cap L st m e rest wr (by have := RX.out; simpa [fs] using this) (by have := LEN.out; simp [fs] at this ⊢; omega) hn (by simpa [fs] using x2) (by simpa [fs] using y1) (by have := LEN.out; simp [fs] at this ⊢; omega) (by have := LEN.out; simp [fs] at this ⊢; omega) (by have := LEN.out; simp [fs] at this ⊢; omega)
        go_wp2_with fail
        refine Calls.mono CR ?_
        rintro er w1 ⟨rfl, hr1, hk1⟩
        have R1 : Hid (Rb w1 g (fs (A ++ X1 ++ Y1 ++ (X2 ++ [] ++ B))) rest) := by unfold Hid; simpa [fs] using hr1
        have K2 : Hid (Kp g w w1) := K1.out.trans hk1
        clear hr1 hk1 CR
        have C1 := IH.out A X1 Y1 (X2 ++ [] ++ B) a st mid w1 (by have := LEN.out; simp at this ⊢; have := px1; have := py1; have := px2; omega) x1 y1 (rise_left HXY.out.1) (rise_left HXY.out.2.1) (fun x hx y hy => HXY.out.2.2 x (by simp [hx]) y (by simp [hy])) R1.out (by have := LEN.out; simp at this ⊢; omega) LEN.out.1 LEN.out.2.1 LEN.out.2.2.2.1
        go_wp2_with fail
        refine Calls.mono C1 ?_
        rintro er w2 ⟨rfl, Z1, z1p, z1r, hr1, hk1⟩
        have R2 : Hid (Rb w2 g (fs (A ++ Z1 ++ (X2 ++ [] ++ B))) rest) := hr1
        have K3 : Hid (Kp g w w2) := K2.out.trans hk1
        have P1 : Hid (Z1.Perm (X1 ++ Y1) ∧ Z1.Pairwise lt) := ⟨z1p, z1r⟩
        clear hr1 hk1 C1 z1p z1r
        obtain ⟨Z2, hZ2⟩ : ∃ Z, X2 = Z := ⟨_, rfl⟩
        have R3 : Hid (Rb w2 g (fs (A ++ Z1 ++ Z2 ++ B)) rest) := by have := R2.out; unfold Hid; rw [← hZ2]; simpa [fs] using this
        have K4 : Hid (Kp g w w2) := K3.out
        have P2 : Hid (Z2.Perm (X2 ++ []) ∧ Z2.Pairwise lt) := by rw [← hZ2]; exact ⟨by simp, rise_right HXY.out.1⟩
        clear hZ2
        go_wp2
        go_end0
        have ER := end_rise P1.out.1 P2.out.1 P1.out.2 P2.out.2 CUT.out
        exact ⟨rfl, Z1 ++ Z2, by simpa using ER.1, ER.2, by have := R3.out; simpa [fs] using this, K4.out⟩
      · subst x1
        have px2 := pos_of_ne x2
        have py1 := pos_of_ne y1
        subst y2
        simp only [List.length_nil] at hnum
        have d1 : ((st : Nat) : Int) < (m : Int) := by omega
        have d2 : ((m : Nat) : Int) < (e : Int) := by omega
        have d3 : ¬ ((a : Nat) : Int) < (st : Int) := by omega
        have d4 : ((st : Nat) : Int) < (mid : Int) := by omega
        have d5 : ((mid : Nat) : Int) < (e : Int) := by omega
        have d6 : ¬ ((e : Nat) : Int) < (b : Int) := by omega
        clear hnum
        have CR := rotate_any (fs (A ++ [])) (fs X2) (fs Y1) (fs ([] ++ B)) (.func (.func 105) #[] #[]) g cap L st m e rest wr (by have := RX.out; simpa [fs] using this) (by have := LEN.out; simp [fs] at this ⊢; omega) hn (by simpa [fs] using x2) (by simpa [fs] using y1) (by have := LEN.out; simp [fs] at this ⊢; omega) (by have := LEN.out; simp [fs] at this ⊢; omega) (by have := LEN.out; simp [fs] at this ⊢; omega)
        go_wp2_with fail
        refine Calls.mono CR ?_
        rintro er w1 ⟨rfl, hr1, hk1⟩
        have R1 : Hid (Rb w1 g (fs (A ++ [] ++ Y1 ++ (X2 ++ [] ++ B))) rest) := by unfold Hid; simpa [fs] using hr1
        have K2 : Hid (Kp g w w1) := K1.out.trans hk1
        clear hr1 hk1 CR
        obtain ⟨Z1, hZ1⟩ : ∃ Z, Y1 = Z := ⟨_, rfl⟩
        have R2 : Hid (Rb w1 g (fs (A ++ Z1 ++ (X2 ++ [] ++ B))) rest) := by have := R1.out; unfold Hid; rw [← hZ1]; simpa [fs] using this
        have K3 : Hid (Kp g w w1) := K2.out
        have P1 : Hid (Z1.Perm ([] ++ Y1) ∧ Z1.Pairwise lt) := by rw [← hZ1]; exact ⟨by simp, rise_left HXY.out.2.1⟩
        clear hZ1
        obtain ⟨Z2, hZ2⟩ : ∃ Z, X2 = Z := ⟨_, rfl⟩
        have R3 : Hid (Rb w1 g (fs (A ++ Z1 ++ Z2 ++ B)) rest) := by have := R2.out; unfold Hid; rw [← hZ2]; simpa [fs] using this
        have K4 : Hid (Kp g w w1) := K3.out
        have P2 : Hid (Z2.Perm (X2 ++ []) ∧ Z2.Pairwise lt) := by rw [← hZ2]; exact ⟨by simp, rise_right HXY.out.1⟩
        clear hZ2
        go_wp2
        go_end0
        have ER := end_rise P1.out.1 P2.out.1 P1.out.2 P2.out.2 CUT.out
        exact ⟨rfl, Z1 ++ Z2, by simpa using ER.1, ER.2, by have := R3.out; simpa [fs] using this, K4.out⟩
      · have px1 := pos_of_ne x1
        subst x2
        subst y1
        have py2 := pos_of_ne y2
        simp only [List.length_nil] at hnum
        have d1 : ¬ ((st : Nat) : Int) < (m : Int) := by omega
        have d2 : ¬ ((m : Nat) : Int) < (e : Int) := by omega
        have d3 : ((a : Nat) : Int) < (st : Int) := by omega
        have d4 : ¬ ((st : Nat) : Int) < (mid : Int) := by omega
        have d5 : ¬ ((mid : Nat) : Int) < (e : Int) := by omega
        have d6 : ((e : Nat) : Int) < (b : Int) := by omega
        clear hnum
        have R1 : Hid (Rb wr g (fs (A ++ X1 ++ [] ++ ([] ++ Y2 ++ B))) rest) := by have := RX.out; unfold Hid; simpa [fs] using this
        have K2 : Hid (Kp g w wr) := K1.out
        obtain ⟨Z1, hZ1⟩ : ∃ Z, X1 = Z := ⟨_, rfl⟩
        have R2 : Hid (Rb wr g (fs (A ++ Z1 ++ ([] ++ Y2 ++ B))) rest) := by have := R1.out; unfold Hid; rw [← hZ1]; simpa [fs] using this
        have K3 : Hid (Kp g w wr) := K2.out
        have P1 : Hid (Z1.Perm (X1 ++ []) ∧ Z1.Pairwise lt) := by rw [← hZ1]; exact ⟨by simp, rise_left HXY.out.1⟩
        clear hZ1
        obtain ⟨Z2, hZ2⟩ : ∃ Z, Y2 = Z := ⟨_, rfl⟩
        have R3 : Hid (Rb wr g (fs (A ++ Z1 ++ Z2 ++ B)) rest) := by have := R2.out; unfold Hid; rw [← hZ2]; simpa [fs] using this
        have K4 : Hid (Kp g w wr) := K3.out
        have P2 : Hid (Z2.Perm ([] ++ Y2) ∧ Z2.Pairwise lt) := by rw [← hZ2]; exact ⟨by simp, rise_right HXY.out.2.1⟩
        clear hZ2
        go_wp2
        go_end0
        have ER := end_rise P1.out.1 P2.out.1 P1.out.2 P2.out.2 CUT.out
        exact ⟨rfl, Z1 ++ Z2, by simpa using ER.1, ER.2, by have := R3.out; simpa [fs] using this, K4.out⟩
    · have hlt : ((st : Nat) : Int) < (r : Int) := by omega
      obtain ⟨t, ht⟩ : ∃ t, st + r = t := ⟨_, rfl⟩
      obtain ⟨c, hc⟩ : ∃ c, t / 2 = c := ⟨_, rfl⟩
      obtain ⟨q, hq⟩ : ∃ q, p - c = q := ⟨_, rfl⟩
      have hb1 := HLH.out
      have hb2 := HS.out
      have hb3 := HP.out
      have hb4 := HM.out
      have hcs : st ≤ c ∧ c < r := by omega
      have tt : ((st : Nat) : Int) + (r : Int) = (t : Nat) := by omega
      have wt : IntKind.i64.wrap ((t : Nat) : Int) = (t : Nat) := by rw [IntKind.wrap_i64]; omega
      have tc : ((t : Nat) : Int) / 2 = (c : Nat) := by omega
      have pq : ((p : Nat) : Int) - (c : Int) = (q : Nat) := by omega
      have wq : IntKind.i64.wrap ((q : Nat) : Int) = (q : Nat) := by rw [IntKind.wrap_i64]; omega
      have hqm : m ≤ q ∧ q < b := by omega
      have hcm : a ≤ c ∧ c < m := by omega
      obtain ⟨x, hx⟩ : ∃ x, X[c - a]? = some x := ⟨_, List.getElem?_eq_getElem (by omega)⟩
      obtain ⟨y, hy⟩ : ∃ y, Y[q - m]? = some y := ⟨_, List.getElem?_eq_getElem (by omega)⟩
      have Hx : Hid ((A ++ X ++ Y ++ B)[c]? = some x) := by unfold Hid; rw [in_x A X Y B hb4.1 hcm.1 (by omega)]; exact hx
      have Hy : Hid ((A ++ X ++ Y ++ B)[q]? = some y) := by unfold Hid; rw [in_y A X Y B (m := m) (by omega) hqm.1 (by omega)]; exact hy
      have IX : Hid (x.2 < y.2) := HXY.out.2.2 x (List.mem_of_getElem? hx) y (List.mem_of_getElem? hy)
      have FC : Hid (∀ W, Below wr.heap.size wr W → W.cell? ⟨g, c * 4, none⟩ = some (.int .i64 x.1.player) ∧ W.cell? ⟨g, c * 4 + 1, none⟩ = some (.int .i64 x.1.unit) ∧ W.cell? ⟨g, c * 4 + 2, none⟩ = some (.int .i64 x.1.what) ∧ W.cell? ⟨g, c * 4 + 3, none⟩ = some (.int .i64 x.1.arg) ∧ W.cell? ⟨g, q * 4, none⟩ = some (.int .i64 y.1.player) ∧ W.cell? ⟨g, q * 4 + 1, none⟩ = some (.int .i64 y.1.unit) ∧ W.cell? ⟨g, q * 4 + 2, none⟩ = some (.int .i64 y.1.what) ∧ W.cell? ⟨g, q * 4 + 3, none⟩ = some (.int .i64 y.1.arg)) := fun W hW => by
        have r := RB.out.below hW RB.out.lt
        obtain ⟨x0, x1, x2, x3⟩ := r.cells (fs_at Hx.out)
        obtain ⟨y0, y1, y2, y3⟩ := r.cells (fs_at Hy.out)
        exact ⟨x0, x1, x2, x3, y0, y1, y2, y3⟩
      have CC : Hid (∀ W, Below wr.heap.size wr W → Calls Tryz.prog 105 #[.agg #[.int .i64 y.1.player, .int .i64 y.1.unit, .int .i64 y.1.what, .int .i64 y.1.arg], .agg #[.int .i64 x.1.player, .int .i64 x.1.unit, .int .i64 x.1.what, .int .i64 x.1.arg]] W fun e w' => e = .returned (.int .i64 (cmpo y.1 x.1)) ∧ Below wr.heap.size wr w') := fun W hW => (compare_any y.1 x.1 W).mono fun e w' ⟨h1, h2⟩ => ⟨h1, hW.trans (h2.mono hW.size)⟩
      have ec := ecmp
      have hcL : ((c : Nat) : Int) < (L : Int) := by omega
      have hqL : ((q : Nat) : Int) < (L : Int) := by omega
      have HC : Hid (st ≤ c ∧ c < r ∧ q + c = p) := ⟨hcs.1, hcs.2, by omega⟩
      clear hb1 hb2 hb3 hb4 ht hc hq hcs hqm hcm hx hy hst hsr hrh
      go_upto_region 35 with fail
      refine wp_region_class 12 (fun W => Below wr.heap.size wr W) (by kernel_rfl) (by kernel_rfl) (Below.refl _ _).drew ?_
      simp only [List.take_succ_cons, List.take_zero, List.drop_succ_cons, List.drop_zero]
      refine head_step (.func (.func 105) #[] #[]) (by go_simp) (fun W hW => by go_simp) ?_
      go_simp
      refine head_step (.slice (some ⟨g, 0, none⟩) L cap) (by go_simp) (fun W hW => by go_simp) ?_
      go_simp
      refine head_step (.int .i64 (p : Int)) (by go_simp) (fun W hW => by go_simp) ?_
      go_simp
      refine head_step (.int .i64 (c : Int)) (by go_simp) (fun W hW => by go_simp) ?_
      go_simp
      refine head_step (.int .i64 (q : Int)) (by go_simp) (fun W hW => by go_simp) ?_
      go_simp
      refine head_step (.pointer (some ⟨g, q * 4, none⟩)) (by go_simp) (fun W hW => by go_simp) ?_
      go_simp
      refine head_step (.agg #[.int .i64 y.1.player, .int .i64 y.1.unit, .int .i64 y.1.what, .int .i64 y.1.arg]) (by go_simp) (fun W hW => by obtain ⟨-, -, -, -, y0, y1, y2, y3⟩ := FC.out W hW; go_simp) ?_
      go_simp
      refine head_step (.slice (some ⟨g, 0, none⟩) L cap) (by go_simp) (fun W hW => by go_simp) ?_
      go_simp
      refine head_step (.int .i64 (c : Int)) (by go_simp) (fun W hW => by go_simp) ?_
      go_simp
      refine head_step (.pointer (some ⟨g, c * 4, none⟩)) (by go_simp) (fun W hW => by go_simp) ?_
      go_simp
      refine head_step (.agg #[.int .i64 x.1.player, .int .i64 x.1.unit, .int .i64 x.1.what, .int .i64 x.1.arg]) (by go_simp) (fun W hW => by obtain ⟨x0, x1, x2, x3, -⟩ := FC.out W hW; go_simp) ?_
      go_simp
      refine head_call (.int .i64 (cmpo y.1 x.1)) 105 #[.agg #[.int .i64 y.1.player, .int .i64 y.1.unit, .int .i64 y.1.what, .int .i64 y.1.arg], .agg #[.int .i64 x.1.player, .int .i64 x.1.unit, .int .i64 x.1.what, .int .i64 x.1.arg]] (by go_simp) (fun W hW => by go_simp) (fun W hW => CC.out W hW) ?_
      go_simp
      intro W hW
      have RW : Hid (Rb W g (fs (A ++ X ++ Y ++ B)) rest) := RB.out.below hW RB.out.lt
      have KW : Hid (Kp g w W) := K1.out.trans (Kp.of hW)
      by_cases hcm : cmpo y.1 x.1 < 0
      · have LX : Hid (lt y x) := (ask_lt IX.out).1 ((klt_iff _ _).1 hcm)
        clear hW FC CC
        go_wp2
        go_roundw
        case rel =>
          obtain ⟨c1, c2, c3⟩ := HC.out
          obtain ⟨s1, s2, s3⟩ := HSR.out
          have hp := HP.out
          have eq : n - 1 - c = q := by omega
          exact ⟨st, c, rfl, rfl, s1, c1, by omega, F1.out, fun _ => ⟨x, y, Hx.out, by rw [eq]; exact Hy.out, LX.out⟩, RW.out, KW.out⟩
        case measure => have := HC.out; simp [intOf]; omega
      · have LX : Hid (lt x y) := (ask_ge IX.out).1 (fun h => hcm ((klt_iff _ _).2 h))
        clear hW FC CC
        go_wp2
        go_roundw
        case rel =>
          obtain ⟨c1, c2, c3⟩ := HC.out
          obtain ⟨s1, s2, s3⟩ := HSR.out
          have hp := HP.out
          have eq : n - (c + 1) = q := by omega
          exact ⟨c + 1, r, rfl, rfl, by omega, by omega, s3, fun _ => ⟨x, y, by rw [Nat.add_sub_cancel]; exact Hx.out, by rw [eq]; exact Hy.out, LX.out⟩, F2.out, RW.out, KW.out⟩
        case measure => have := HC.out; simp [intOf]; omega
end Go.Proofs.YteieikgkmfglaaaGreatDoor

namespace Go.Proofs.YteieikgkmfglaaaGreatDoor
open Go.RowKit Go.Proofs.YteieikgkmfglaaaGreatDoor.So
set_option linter.unusedVariables false

set_option maxRecDepth 100000 in
set_option maxHeartbeats 64000000 in
theorem sym_hi (N : Nat) (A X Y B : List T) (g cap L a m b : Nat) (rest : List Value) (w : World) (ih : SymIH N g cap L rest) (hN : X.length + Y.length ≤ N + 1) (lx : 2 ≤ X.length) (ly : 2 ≤ Y.length) (hX : X.Pairwise lt) (hY : Y.Pairwise lt) (hpl : ∀ x ∈ X, ∀ y ∈ Y, x.2 < y.2) (hr : Rb w g (fs (A ++ X ++ Y ++ B)) rest) (hL : A.length + X.length + Y.length + B.length = L) (hn : L ≤ 1000) (ha : A.length = a) (hm : a + X.length = m) (hb : m + Y.length = b) (hmm : m ≤ (a + b) / 2) :
    Calls Tryz.prog 154 #[.slice (some ⟨g, 0, none⟩) L cap, .int .i64 (a : Nat), .int .i64 (m : Nat), .int .i64 (b : Nat), .func (.func 105) #[] #[]] w (MergeSays A (X ++ Y) B g rest w) := by
  have IH : Hid (SymIH N g cap L rest) := ih
  have R0 : Hid (Rb w g (fs (A ++ X ++ Y ++ B)) rest) := hr
  have HN : Hid (X.length + Y.length ≤ N + 1) := hN
  have HL : Hid (A.length + X.length + Y.length + B.length = L) := hL
  have HM : Hid (A.length = a ∧ a + X.length = m ∧ m + Y.length = b) := ⟨ha, hm, hb⟩
  have HXY : Hid (X.Pairwise lt ∧ Y.Pairwise lt ∧ ∀ x ∈ X, ∀ y ∈ Y, x.2 < y.2) := ⟨hX, hY, hpl⟩
  have HXL : Hid (2 ≤ X.length ∧ 2 ≤ Y.length) := ⟨lx, ly⟩
  have hbL : b ≤ L := by omega
  have ham : a + 2 ≤ m := by omega
  have hmb : m + 2 ≤ b := by omega
  obtain ⟨dx, hdx⟩ : ∃ d, m - a = d := ⟨_, rfl⟩
  obtain ⟨dy, hdy⟩ : ∃ d, b - m = d := ⟨_, rfl⟩
  obtain ⟨s, hs⟩ : ∃ s, a + b = s := ⟨_, rfl⟩
  rw [hs] at hmm
  obtain ⟨mid, hmid⟩ : ∃ d, s / 2 = d := ⟨_, rfl⟩
  rw [hmid] at hmm
  obtain ⟨n, hnn⟩ : ∃ n, mid + m = n := ⟨_, rfl⟩
  have smi : ((m : Nat) : Int) - (a : Int) = (dx : Nat) := by omega
  have wdx : IntKind.i64.wrap ((dx : Nat) : Int) = (dx : Nat) := by rw [IntKind.wrap_i64]; omega
  have dx1 : (((dx : Nat) : Int) == 1) = false := by
    have : ¬ ((dx : Nat) : Int) = 1 := by omega
    simpa using this
  have sbm : ((b : Nat) : Int) - (m : Int) = (dy : Nat) := by omega
  have wdy : IntKind.i64.wrap ((dy : Nat) : Int) = (dy : Nat) := by rw [IntKind.wrap_i64]; omega
  have dy1 : (((dy : Nat) : Int) == 1) = false := by
    have : ¬ ((dy : Nat) : Int) = 1 := by omega
    simpa using this
  have ss : ((a : Nat) : Int) + (b : Int) = (s : Nat) := by omega
  have ws : IntKind.i64.wrap ((s : Nat) : Int) = (s : Nat) := by rw [IntKind.wrap_i64]; omega
  have sm : ((s : Nat) : Int) / 2 = (mid : Nat) := by omega
  have sn : ((mid : Nat) : Int) + (m : Int) = (n : Nat) := by omega
  have wn : IntKind.i64.wrap ((n : Nat) : Int) = (n : Nat) := by rw [IntKind.wrap_i64]; omega
  have HS : Hid (a < mid ∧ mid < b ∧ mid + m = n ∧ mid + mid ≤ a + b ∧ a + b ≤ mid + mid + 1 ∧ a + 2 ≤ m ∧ m + 2 ≤ b ∧ b ≤ L) := ⟨by omega, by omega, by omega, by omega, by omega, ham, hmb, hbL⟩
  obtain ⟨p, hp⟩ : ∃ p, n - 1 = p := ⟨_, rfl⟩
  have sp : ((n : Nat) : Int) - 1 = (p : Nat) := by omega
  have wp' : IntKind.i64.wrap ((p : Nat) : Int) = (p : Nat) := by rw [IntKind.wrap_i64]; omega
  have HP : Hid (p + 1 = n) := by unfold Hid; omega
  clear hr hN hL hX hY hpl ha hm hb lx ly
  have HLH : Hid (a ≤ a ∧ a ≤ m ∧ m ≤ m ∧ m ≤ mid ∧ (a = a ∨ a + b = n) ∧ (m = m ∨ m = mid) ∧ n ≤ a + b) := by refine ⟨by omega, by omega, by omega, by omega, .inl rfl, .inl rfl, by omega⟩
  have hgt : ¬ ((mid : Nat) : Int) < (m : Int) := by omega
  clear hdx hdy hs hmid hnn hp hmm
  go_enter Tryz.func154, Tryz.ntmps154
  go_wp2
  clear smi wdx dx1 sbm wdy dy1 ss ws sm sn wn sp wp' hgt
  try clear slo wlo
  go_loopw [20, 21] (fun sv rv W => SyI (A ++ X ++ Y ++ B) g rest w n a m sv rv W) (fun sv rv _ => (intOf rv).toNat - (intOf sv).toNat)
  case atStart =>
    have h := HLH.out
    exact ⟨a, m, rfl, rfl, Nat.le_refl _, h.2.1, Nat.le_refl _, fun h => absurd h (Nat.lt_irrefl _), fun h => absurd h (Nat.lt_irrefl _), R0.out, Kp.refl _ _⟩
  case round =>
    obtain ⟨st, r, rfl, rfl, hst, hsr, hrh, hF1, hF2, hrb, hk⟩ := hrel
    have RB : Hid (Rb wr g (fs (A ++ X ++ Y ++ B)) rest) := hrb
    have K1 : Hid (Kp g w wr) := hk
    have F1 : Hid (a < st → ∃ x y, (A ++ X ++ Y ++ B)[st - 1]? = some x ∧ (A ++ X ++ Y ++ B)[n - st]? = some y ∧ lt x y) := hF1
    have F2 : Hid (r < m → ∃ x y, (A ++ X ++ Y ++ B)[r]? = some x ∧ (A ++ X ++ Y ++ B)[n - 1 - r]? = some y ∧ lt y x) := hF2
    have HSR : Hid (a ≤ st ∧ st ≤ r ∧ r ≤ m) := ⟨hst, hsr, hrh⟩
    clear hrb hk hF1 hF2
    by_cases he : st = r
    · subst he
      have hb1 := HLH.out
      have hb2 := HS.out
      have hb4 := HM.out
      have hb5 := HSR.out
      have hb6 := HN.out
      have hb7 := HL.out
      obtain ⟨X1, X2, Y1, Y2, hX12, hY12, l1, l2, l3, l4, hcut⟩ := cut_here A X Y B HXY.out.1 HXY.out.2.1 hb4.1 hb4.2.1 hb4.2.2 hb2.2.2.1 hb1.1 hb5.1 hb5.2.2 hb1.2.2.1 hb1.2.2.2.1 (by omega) (by omega) hb1.2.2.2.2.2.2 F1.out F2.out
      subst hX12
      subst hY12
      simp only [List.length_append] at hb4 hb6 hb7
      obtain ⟨e, hee⟩ : ∃ e, m + Y1.length = e := ⟨_, rfl⟩
      have sne : ((n : Nat) : Int) - (st : Int) = (e : Nat) := by omega
      have wne : IntKind.i64.wrap ((e : Nat) : Int) = (e : Nat) := by rw [IntKind.wrap_i64]; omega
      have hlt : ¬ ((st : Nat) : Int) < (st : Int) := by omega
      have CUT : Hid (∀ p ∈ X1 ++ Y1, ∀ q ∈ X2 ++ Y2, lt p q) := hcut
      have LEN : Hid (A.length = a ∧ a + X1.length = st ∧ st + X2.length = m ∧ st + Y1.length = mid ∧ m + Y1.length = e ∧ e + Y2.length = b ∧ mid + X2.length = e ∧ A.length + X1.length + X2.length + Y1.length + Y2.length + B.length = L ∧ X1.length + X2.length + Y1.length + Y2.length ≤ N + 1 ∧ L ≤ 1000) := by refine ⟨hb4.1, l1, l2, l3, hee, by omega, by omega, by omega, by omega, hn⟩
      have CB := combos X1 X2 Y1 Y2 (by have := HXL.out; simp only [List.length_append] at this; omega) (by have := HXL.out; simp only [List.length_append] at this; omega) (by omega) (by omega)
      have RX : Hid (Rb wr g (fs (A ++ (X1 ++ X2) ++ (Y1 ++ Y2) ++ B)) rest) := RB.out
      have hnum := LEN.out
      clear hb1 hb2 hb4 hb5 hb6 hb7 hcut l1 l2 l3 l4 hee hst hsr hrh F1 F2
      rcases CB with ⟨x1, x2, y1, y2⟩ | ⟨x1, x2, y1, y2⟩ | ⟨x1, x2, y1, y2⟩ | ⟨x1, x2, y1, y2⟩ | ⟨x1, x2, y1, y2⟩ | ⟨x1, x2, y1, y2⟩ | ⟨x1, x2, y1, y2⟩
      · have px1 := pos_of_ne x1
        have px2 := pos_of_ne x2
        have py1 := pos_of_ne y1
        have py2 := pos_of_ne y2
        have d1 : ((st : Nat) : Int) < (m : Int) := by omega
        have d2 : ((m : Nat) : Int) < (e : Int) := by omega
        have d3 : ((a : Nat) : Int) < (st : Int) := by omega
        have d4 : ((st : Nat) : Int) < (mid : Int) := by omega
        have d5 : ((mid : Nat) : Int) < (e : Int) := by omega
        have d6 : ((e : Nat) : Int) < (b : Int) := by omega
        clear hnum
        have CR := rotate_any (fs (A ++ X1)) (fs X2) (fs Y1) (fs (Y2 ++ B)) (.func (.func 105) #[] #[]) g cap L st m e rest wr (by have := RX.out; simpa [fs] using this) (by have := LEN.out; simp [fs] at this ⊢; omega) hn (by simpa [fs] using x2) (by simpa [fs] using y1) (by have := LEN.out; simp [fs] at this ⊢; omega) (by have := LEN.out; simp [fs] at this ⊢; omega) (by have := LEN.out; simp [fs] at this ⊢; omega)
        go_wp2_with fail
        refine Calls.mono CR ?_
        rintro er w1 ⟨rfl, hr1, hk1⟩
        have R1 : Hid (Rb w1 g (fs (A ++ X1 ++ Y1 ++ (X2 ++ Y2 ++ B))) rest) := by unfold Hid; simpa [fs] using hr1
        have K2 : Hid (Kp g w w1) := K1.out.trans hk1
        clear hr1 hk1 CR
        have C1 := IH.out A X1 Y1 (X2 ++ Y2 ++ B) a st mid w1 (by have := LEN.out; simp at this ⊢; have := px1; have := py1; have := px2; have := py2; omega) x1 y1 (rise_left HXY.out.1) (rise_left HXY.out.2.1) (fun x hx y hy => HXY.out.2.2 x (by simp [hx]) y (by simp [hy])) R1.out (by have := LEN.out; simp at this ⊢; omega) LEN.out.1 LEN.out.2.1 LEN.out.2.2.2.1
        go_wp2_with fail
        refine Calls.mono C1 ?_
        rintro er w2 ⟨rfl, Z1, z1p, z1r, hr1, hk1⟩
        have R2 : Hid (Rb w2 g (fs (A ++ Z1 ++ (X2 ++ Y2 ++ B))) rest) := hr1
        have K3 : Hid (Kp g w w2) := K2.out.trans hk1
        have P1 : Hid (Z1.Perm (X1 ++ Y1) ∧ Z1.Pairwise lt) := ⟨z1p, z1r⟩
        clear hr1 hk1 C1 z1p z1r
        have hz1 := P1.out.1.length_eq
        have C2 := IH.out (A ++ Z1) X2 Y2 B mid e b w2 (by have := LEN.out; simp at this ⊢; have := px1; have := py1; have := px2; have := py2; omega) x2 y2 (rise_right HXY.out.1) (rise_right HXY.out.2.1) (fun x hx y hy => HXY.out.2.2 x (by simp [hx]) y (by simp [hy])) (by have := R2.out; simpa [fs] using this) (by have := LEN.out; simp at this hz1 ⊢; omega) (by have := LEN.out; simp at this hz1 ⊢; omega) LEN.out.2.2.2.2.2.2.1 LEN.out.2.2.2.2.2.1
        go_wp2_with fail
        refine Calls.mono C2 ?_
        rintro er w3 ⟨rfl, Z2, z2p, z2r, hr1, hk1⟩
        have R3 : Hid (Rb w3 g (fs (A ++ Z1 ++ Z2 ++ B)) rest) := by unfold Hid; simpa [fs] using hr1
        have K4 : Hid (Kp g w w3) := K3.out.trans hk1
        have P2 : Hid (Z2.Perm (X2 ++ Y2) ∧ Z2.Pairwise lt) := ⟨z2p, z2r⟩
        clear hr1 hk1 C2 z2p z2r hz1
        go_wp2
        go_end0
        have ER := end_rise P1.out.1 P2.out.1 P1.out.2 P2.out.2 CUT.out
        exact ⟨rfl, Z1 ++ Z2, by simpa using ER.1, ER.2, by have := R3.out; simpa [fs] using this, K4.out⟩
      · subst x1
        have px2 := pos_of_ne x2
        have py1 := pos_of_ne y1
        have py2 := pos_of_ne y2
        simp only [List.length_nil] at hnum
        have d1 : ((st : Nat) : Int) < (m : Int) := by omega
        have d2 : ((m : Nat) : Int) < (e : Int) := by omega
        have d3 : ¬ ((a : Nat) : Int) < (st : Int) := by omega
        have d4 : ((st : Nat) : Int) < (mid : Int) := by omega
        have d5 : ((mid : Nat) : Int) < (e : Int) := by omega
        have d6 : ((e : Nat) : Int) < (b : Int) := by omega
        clear hnum
        have CR := rotate_any (fs (A ++ [])) (fs X2) (fs Y1) (fs (Y2 ++ B)) (.func (.func 105) #[] #[]) g cap L st m e rest wr (by have := RX.out; simpa [fs] using this) (by have := LEN.out; simp [fs] at this ⊢; omega) hn (by simpa [fs] using x2) (by simpa [fs] using y1) (by have := LEN.out; simp [fs] at this ⊢; omega) (by have := LEN.out; simp [fs] at this ⊢; omega) (by have := LEN.out; simp [fs] at this ⊢; omega)
        go_wp2_with fail
        refine Calls.mono CR ?_
        rintro er w1 ⟨rfl, hr1, hk1⟩
        have R1 : Hid (Rb w1 g (fs (A ++ [] ++ Y1 ++ (X2 ++ Y2 ++ B))) rest) := by unfold Hid; simpa [fs] using hr1
        have K2 : Hid (Kp g w w1) := K1.out.trans hk1
        clear hr1 hk1 CR
        obtain ⟨Z1, hZ1⟩ : ∃ Z, Y1 = Z := ⟨_, rfl⟩
        have R2 : Hid (Rb w1 g (fs (A ++ Z1 ++ (X2 ++ Y2 ++ B))) rest) := by have := R1.out; unfold Hid; rw [← hZ1]; simpa [fs] using this
        have K3 : Hid (Kp g w w1) := K2.out
        have P1 : Hid (Z1.Perm ([] ++ Y1) ∧ Z1.Pairwise lt) := by rw [← hZ1]; exact ⟨by simp, rise_left HXY.out.2.1⟩
        clear hZ1
        have hz1 := P1.out.1.length_eq
        have C2 := IH.out (A ++ Z1) X2 Y2 B mid e b w1 (by have := LEN.out; simp at this ⊢; have := py1; have := px2; have := py2; omega) x2 y2 (rise_right HXY.out.1) (rise_right HXY.out.2.1) (fun x hx y hy => HXY.out.2.2 x (by simp [hx]) y (by simp [hy])) (by have := R2.out; simpa [fs] using this) (by have := LEN.out; simp at this hz1 ⊢; omega) (by have := LEN.out; simp at this hz1 ⊢; omega) LEN.out.2.2.2.2.2.2.1 LEN.out.2.2.2.2.2.1
        go_wp2_with fail
        refine Calls.mono C2 ?_
        rintro er w3 ⟨rfl, Z2, z2p, z2r, hr1, hk1⟩
        have R3 : Hid (Rb w3 g (fs (A ++ Z1 ++ Z2 ++ B)) rest) := by unfold Hid; simpa [fs] using hr1
        have K4 : Hid (Kp g w w3) := K3.out.trans hk1
        have P2 : Hid (Z2.Perm (X2 ++ Y2) ∧ Z2.Pairwise lt) := ⟨z2p, z2r⟩
        clear hr1 hk1 C2 z2p z2r hz1
        go_wp2
        go_end0
        have ER := end_rise P1.out.1 P2.out.1 P1.out.2 P2.out.2 CUT.out
        exact ⟨rfl, Z1 ++ Z2, by simpa using ER.1, ER.2, by have := R3.out; simpa [fs] using this, K4.out⟩
      · have px1 := pos_of_ne x1
        subst x2
        have py1 := pos_of_ne y1
        have py2 := pos_of_ne y2
        simp only [List.length_nil] at hnum
        have d1 : ¬ ((st : Nat) : Int) < (m : Int) := by omega
        have d2 : ((m : Nat) : Int) < (e : Int) := by omega
        have d3 : ((a : Nat) : Int) < (st : Int) := by omega
        have d4 : ((st : Nat) : Int) < (mid : Int) := by omega
        have d5 : ¬ ((mid : Nat) : Int) < (e : Int) := by omega
        have d6 : ((e : Nat) : Int) < (b : Int) := by omega
        clear hnum
        have R1 : Hid (Rb wr g (fs (A ++ X1 ++ Y1 ++ ([] ++ Y2 ++ B))) rest) := by have := RX.out; unfold Hid; simpa [fs] using this
        have K2 : Hid (Kp g w wr) := K1.out
        have C1 := IH.out A X1 Y1 ([] ++ Y2 ++ B) a st mid wr (by have := LEN.out; simp at this ⊢; have := px1; have := py1; have := py2; omega) x1 y1 (rise_left HXY.out.1) (rise_left HXY.out.2.1) (fun x hx y hy => HXY.out.2.2 x (by simp [hx]) y (by simp [hy])) R1.out (by have := LEN.out; simp at this ⊢; omega) LEN.out.1 LEN.out.2.1 LEN.out.2.2.2.1
        go_wp2_with fail
        refine Calls.mono C1 ?_
        rintro er w2 ⟨rfl, Z1, z1p, z1r, hr1, hk1⟩
        have R2 : Hid (Rb w2 g (fs (A ++ Z1 ++ ([] ++ Y2 ++ B))) rest) := hr1
        have K3 : Hid (Kp g w w2) := K2.out.trans hk1
        have P1 : Hid (Z1.Perm (X1 ++ Y1) ∧ Z1.Pairwise lt) := ⟨z1p, z1r⟩
        clear hr1 hk1 C1 z1p z1r
        obtain ⟨Z2, hZ2⟩ : ∃ Z, Y2 = Z := ⟨_, rfl⟩
        have R3 : Hid (Rb w2 g (fs (A ++ Z1 ++ Z2 ++ B)) rest) := by have := R2.out; unfold Hid; rw [← hZ2]; simpa [fs] using this
        have K4 : Hid (Kp g w w2) := K3.out
        have P2 : Hid (Z2.Perm ([] ++ Y2) ∧ Z2.Pairwise lt) := by rw [← hZ2]; exact ⟨by simp, rise_right HXY.out.2.1⟩
        clear hZ2
        go_wp2
        go_end0
        have ER := end_rise P1.out.1 P2.out.1 P1.out.2 P2.out.2 CUT.out
        exact ⟨rfl, Z1 ++ Z2, by simpa using ER.1, ER.2, by have := R3.out; simpa [fs] using this, K4.out⟩
      · have px1 := pos_of_ne x1
        have px2 := pos_of_ne x2
        subst y1
        have py2 := pos_of_ne y2
        simp only [List.length_nil] at hnum
        have d1 : ((st : Nat) : Int) < (m : Int) := by omega
        have d2 : ¬ ((m : Nat) : Int) < (e : Int) := by omega
        have d3 : ((a : Nat) : Int) < (st : Int) := by omega
        have d4 : ¬ ((st : Nat) : Int) < (mid : Int) := by omega
        have d5 : ((mid : Nat) : Int) < (e : Int) := by omega
        have d6 : ((e : Nat) : Int) < (b : Int) := by omega
        clear hnum
        have R1 : Hid (Rb wr g (fs (A ++ X1 ++ [] ++ (X2 ++ Y2 ++ B))) rest) := by have := RX.out; unfold Hid; simpa [fs] using this
        have K2 : Hid (Kp g w wr) := K1.out
        obtain ⟨Z1, hZ1⟩ : ∃ Z, X1 = Z := ⟨_, rfl⟩
        have R2 : Hid (Rb wr g (fs (A ++ Z1 ++ (X2 ++ Y2 ++ B))) rest) := by have := R1.out; unfold Hid; rw [← hZ1]; simpa [fs] using this
        have K3 : Hid (Kp g w wr) := K2.out
        have P1 : Hid (Z1.Perm (X1 ++ []) ∧ Z1.Pairwise lt) := by rw [← hZ1]; exact ⟨by simp, rise_left HXY.out.1⟩
        clear hZ1
        have hz1 := P1.out.1.length_eq
        have C2 := IH.out (A ++ Z1) X2 Y2 B mid e b wr (by have := LEN.out; simp at this ⊢; have := px1; have := px2; have := py2; omega) x2 y2 (rise_right HXY.out.1) (rise_right HXY.out.2.1) (fun x hx y hy => HXY.out.2.2 x (by simp [hx]) y (by simp [hy])) (by have := R2.out; simpa [fs] using this) (by have := LEN.out; simp at this hz1 ⊢; omega) (by have := LEN.out; simp at this hz1 ⊢; omega) LEN.out.2.2.2.2.2.2.1 LEN.out.2.2.2.2.2.1
        go_wp2_with fail
        refine Calls.mono C2 ?_
        rintro er w3 ⟨rfl, Z2, z2p, z2r, hr1, hk1⟩
        have R3 : Hid (Rb w3 g (fs (A ++ Z1 ++ Z2 ++ B)) rest) := by unfold Hid; simpa [fs] using hr1
        have K4 : Hid (Kp g w w3) := K3.out.trans hk1
        have P2 : Hid (Z2.Perm (X2 ++ Y2) ∧ Z2.Pairwise lt) := ⟨z2p, z2r⟩
        clear hr1 hk1 C2 z2p z2r hz1
        go_wp2
        go_end0
        have ER := end_rise P1.out.1 P2.out.1 P1.out.2 P2.out.2 CUT.out
        exact ⟨rfl, Z1 ++ Z2, by simpa using ER.1, ER.2, by have := R3.out; simpa [fs] using this, K4.out⟩
      · have px1 := pos_of_ne x1
        have px2 := pos_of_ne x2
        have py1 := pos_of_ne y1
        subst y2
        simp only [List.length_nil] at hnum
        have d1 : ((st : Nat) : Int) < (m : Int) := by omega
        have d2 : ((m : Nat) : Int) < (e : Int) := by omega
        have d3 : ((a : Nat) : Int) < (st : Int) := by omega
        have d4 : ((st : Nat) : Int) < (mid : Int) := by omega
        have d5 : ((mid : Nat) : Int) < (e : Int) := by omega
        have d6 : ¬ ((e : Nat) : Int) < (b : Int) := by omega
        clear hnum
        have CR := rotate_any (fs (A ++ X1)) (fs X2) (fs Y1) (fs ([] ++ B)) (.func (.func 105) #[] #[]) g cap L st m e rest wr (by have := RX.out; simpa [fs] using this) (by have := LEN.out; simp [fs] at this ⊢; omega) hn (by simpa [fs] using x2) (by simpa [fs] using y1) (by have := LEN.out; simp [fs] at this ⊢; omega) (by have := LEN.out; simp [fs] at this ⊢; omega) (by have := LEN.out; simp [fs] at this ⊢; omega)
        go_wp2_with fail
        refine Calls.mono CR ?_
        rintro er w1 ⟨rfl, hr1, hk1⟩
        have R1 : Hid (Rb w1 g (fs (A ++ X1 ++ Y1 ++ (X2 ++ [] ++ B))) rest) := by unfold Hid; simpa [fs] using hr1
        have K2 : Hid (Kp g w w1) := K1.out.trans hk1
        clear hr1 hk1 CR
        have C1 := IH.out A X1 Y1 (X2 ++ [] ++ B) a st mid w1 (by have := LEN.out; simp at this ⊢; have := px1; have := py1; have := px2; omega) x1 y1 (rise_left HXY.out.1) (rise_left HXY.out.2.1) (fun x hx y hy => HXY.out.2.2 x (by simp [hx]) y (by simp [hy])) R1.out (by have := LEN.out; simp at this ⊢; omega) LEN.out.1 LEN.out.2.1 LEN.out.2.2.2.1
        go_wp2_with fail
        refine Calls.mono C1 ?_
        rintro er w2 ⟨rfl, Z1, z1p, z1r, hr1, hk1⟩
        have R2 : Hid (Rb w2 g (fs (A ++ Z1 ++ (X2 ++ [] ++ B))) rest) := hr1
        have K3 : Hid (Kp g w w2) := K2.out.trans hk1
        have P1 : Hid (Z1.Perm (X1 ++ Y1) ∧ Z1.Pairwise lt) := ⟨z1p, z1r⟩
        clear hr1 hk1 C1 z1p z1r
        obtain ⟨Z2, hZ2⟩ : ∃ Z, X2 = Z := ⟨_, rfl⟩
        have R3 : Hid (Rb w2 g (fs (A ++ Z1 ++ Z2 ++ B)) rest) := by have := R2.out; unfold Hid; rw [← hZ2]; simpa [fs] using this
        have K4 : Hid (Kp g w w2) := K3.out
        have P2 : Hid (Z2.Perm (X2 ++ []) ∧ Z2.Pairwise lt) := by rw [← hZ2]; exact ⟨by simp, rise_right HXY.out.1⟩
        clear hZ2
        go_wp2
        go_end0
        have ER := end_rise P1.out.1 P2.out.1 P1.out.2 P2.out.2 CUT.out
        exact ⟨rfl, Z1 ++ Z2, by simpa using ER.1, ER.2, by have := R3.out; simpa [fs] using this, K4.out⟩
      · subst x1
        have px2 := pos_of_ne x2
        have py1 := pos_of_ne y1
        subst y2
        simp only [List.length_nil] at hnum
        have d1 : ((st : Nat) : Int) < (m : Int) := by omega
        have d2 : ((m : Nat) : Int) < (e : Int) := by omega
        have d3 : ¬ ((a : Nat) : Int) < (st : Int) := by omega
        have d4 : ((st : Nat) : Int) < (mid : Int) := by omega
        have d5 : ((mid : Nat) : Int) < (e : Int) := by omega
        have d6 : ¬ ((e : Nat) : Int) < (b : Int) := by omega
        clear hnum
        have CR := rotate_any (fs (A ++ [])) (fs X2) (fs Y1) (fs ([] ++ B)) (.func (.func 105) #[] #[]) g cap L st m e rest wr (by have := RX.out; simpa [fs] using this) (by have := LEN.out; simp [fs] at this ⊢; omega) hn (by simpa [fs] using x2) (by simpa [fs] using y1) (by have := LEN.out; simp [fs] at this ⊢; omega) (by have := LEN.out; simp [fs] at this ⊢; omega) (by have := LEN.out; simp [fs] at this ⊢; omega)
        go_wp2_with fail
        refine Calls.mono CR ?_
        rintro er w1 ⟨rfl, hr1, hk1⟩
        have R1 : Hid (Rb w1 g (fs (A ++ [] ++ Y1 ++ (X2 ++ [] ++ B))) rest) := by unfold Hid; simpa [fs] using hr1
        have K2 : Hid (Kp g w w1) := K1.out.trans hk1
        clear hr1 hk1 CR
        obtain ⟨Z1, hZ1⟩ : ∃ Z, Y1 = Z := ⟨_, rfl⟩
        have R2 : Hid (Rb w1 g (fs (A ++ Z1 ++ (X2 ++ [] ++ B))) rest) := by have := R1.out; unfold Hid; rw [← hZ1]; simpa [fs] using this
        have K3 : Hid (Kp g w w1) := K2.out
        have P1 : Hid (Z1.Perm ([] ++ Y1) ∧ Z1.Pairwise lt) := by rw [← hZ1]; exact ⟨by simp, rise_left HXY.out.2.1⟩
        clear hZ1
        obtain ⟨Z2, hZ2⟩ : ∃ Z, X2 = Z := ⟨_, rfl⟩
        have R3 : Hid (Rb w1 g (fs (A ++ Z1 ++ Z2 ++ B)) rest) := by have := R2.out; unfold Hid; rw [← hZ2]; simpa [fs] using this
        have K4 : Hid (Kp g w w1) := K3.out
        have P2 : Hid (Z2.Perm (X2 ++ []) ∧ Z2.Pairwise lt) := by rw [← hZ2]; exact ⟨by simp, rise_right HXY.out.1⟩
        clear hZ2
        go_wp2
        go_end0
        have ER := end_rise P1.out.1 P2.out.1 P1.out.2 P2.out.2 CUT.out
        exact ⟨rfl, Z1 ++ Z2, by simpa using ER.1, ER.2, by have := R3.out; simpa [fs] using this, K4.out⟩
      · have px1 := pos_of_ne x1
        subst x2
        subst y1
        have py2 := pos_of_ne y2
        simp only [List.length_nil] at hnum
        have d1 : ¬ ((st : Nat) : Int) < (m : Int) := by omega
        have d2 : ¬ ((m : Nat) : Int) < (e : Int) := by omega
        have d3 : ((a : Nat) : Int) < (st : Int) := by omega
        have d4 : ¬ ((st : Nat) : Int) < (mid : Int) := by omega
        have d5 : ¬ ((mid : Nat) : Int) < (e : Int) := by omega
        have d6 : ((e : Nat) : Int) < (b : Int) := by omega
        clear hnum
        have R1 : Hid (Rb wr g (fs (A ++ X1 ++ [] ++ ([] ++ Y2 ++ B))) rest) := by have := RX.out; unfold Hid; simpa [fs] using this
        have K2 : Hid (Kp g w wr) := K1.out
        obtain ⟨Z1, hZ1⟩ : ∃ Z, X1 = Z := ⟨_, rfl⟩
        have R2 : Hid (Rb wr g (fs (A ++ Z1 ++ ([] ++ Y2 ++ B))) rest) := by have := R1.out; unfold Hid; rw [← hZ1]; simpa [fs] using this
        have K3 : Hid (Kp g w wr) := K2.out
        have P1 : Hid (Z1.Perm (X1 ++ []) ∧ Z1.Pairwise lt) := by rw [← hZ1]; exact ⟨by simp, rise_left HXY.out.1⟩
        clear hZ1
        obtain ⟨Z2, hZ2⟩ : ∃ Z, Y2 = Z := ⟨_, rfl⟩
        have R3 : Hid (Rb wr g (fs (A ++ Z1 ++ Z2 ++ B)) rest) := by have := R2.out; unfold Hid; rw [← hZ2]; simpa [fs] using this
        have K4 : Hid (Kp g w wr) := K3.out
        have P2 : Hid (Z2.Perm ([] ++ Y2) ∧ Z2.Pairwise lt) := by rw [← hZ2]; exact ⟨by simp, rise_right HXY.out.2.1⟩
        clear hZ2
        go_wp2
        go_end0
        have ER := end_rise P1.out.1 P2.out.1 P1.out.2 P2.out.2 CUT.out
        exact ⟨rfl, Z1 ++ Z2, by simpa using ER.1, ER.2, by have := R3.out; simpa [fs] using this, K4.out⟩
    · have hlt : ((st : Nat) : Int) < (r : Int) := by omega
      obtain ⟨t, ht⟩ : ∃ t, st + r = t := ⟨_, rfl⟩
      obtain ⟨c, hc⟩ : ∃ c, t / 2 = c := ⟨_, rfl⟩
      obtain ⟨q, hq⟩ : ∃ q, p - c = q := ⟨_, rfl⟩
      have hb1 := HLH.out
      have hb2 := HS.out
      have hb3 := HP.out
      have hb4 := HM.out
      have hcs : st ≤ c ∧ c < r := by omega
      have tt : ((st : Nat) : Int) + (r : Int) = (t : Nat) := by omega
      have wt : IntKind.i64.wrap ((t : Nat) : Int) = (t : Nat) := by rw [IntKind.wrap_i64]; omega
      have tc : ((t : Nat) : Int) / 2 = (c : Nat) := by omega
      have pq : ((p : Nat) : Int) - (c : Int) = (q : Nat) := by omega
      have wq : IntKind.i64.wrap ((q : Nat) : Int) = (q : Nat) := by rw [IntKind.wrap_i64]; omega
      have hqm : m ≤ q ∧ q < b := by omega
      have hcm : a ≤ c ∧ c < m := by omega
      obtain ⟨x, hx⟩ : ∃ x, X[c - a]? = some x := ⟨_, List.getElem?_eq_getElem (by omega)⟩
      obtain ⟨y, hy⟩ : ∃ y, Y[q - m]? = some y := ⟨_, List.getElem?_eq_getElem (by omega)⟩
      have Hx : Hid ((A ++ X ++ Y ++ B)[c]? = some x) := by unfold Hid; rw [in_x A X Y B hb4.1 hcm.1 (by omega)]; exact hx
      have Hy : Hid ((A ++ X ++ Y ++ B)[q]? = some y) := by unfold Hid; rw [in_y A X Y B (m := m) (by omega) hqm.1 (by omega)]; exact hy
      have IX : Hid (x.2 < y.2) := HXY.out.2.2 x (List.mem_of_getElem? hx) y (List.mem_of_getElem? hy)
      have FC : Hid (∀ W, Below wr.heap.size wr W → W.cell? ⟨g, c * 4, none⟩ = some (.int .i64 x.1.player) ∧ W.cell? ⟨g, c * 4 + 1, none⟩ = some (.int .i64 x.1.unit) ∧ W.cell? ⟨g, c * 4 + 2, none⟩ = some (.int .i64 x.1.what) ∧ W.cell? ⟨g, c * 4 + 3, none⟩ = some (.int .i64 x.1.arg) ∧ W.cell? ⟨g, q * 4, none⟩ = some (.int .i64 y.1.player) ∧ W.cell? ⟨g, q * 4 + 1, none⟩ = some (.int .i64 y.1.unit) ∧ W.cell? ⟨g, q * 4 + 2, none⟩ = some (.int .i64 y.1.what) ∧ W.cell? ⟨g, q * 4 + 3, none⟩ = some (.int .i64 y.1.arg)) := fun W hW => by
        have r := RB.out.below hW RB.out.lt
        obtain ⟨x0, x1, x2, x3⟩ := r.cells (fs_at Hx.out)
        obtain ⟨y0, y1, y2, y3⟩ := r.cells (fs_at Hy.out)
        exact ⟨x0, x1, x2, x3, y0, y1, y2, y3⟩
      have CC : Hid (∀ W, Below wr.heap.size wr W → Calls Tryz.prog 105 #[.agg #[.int .i64 y.1.player, .int .i64 y.1.unit, .int .i64 y.1.what, .int .i64 y.1.arg], .agg #[.int .i64 x.1.player, .int .i64 x.1.unit, .int .i64 x.1.what, .int .i64 x.1.arg]] W fun e w' => e = .returned (.int .i64 (cmpo y.1 x.1)) ∧ Below wr.heap.size wr w') := fun W hW => (compare_any y.1 x.1 W).mono fun e w' ⟨h1, h2⟩ => ⟨h1, hW.trans (h2.mono hW.size)⟩
      have ec := ecmp
      have hcL : ((c : Nat) : Int) < (L : Int) := by omega
      have hqL : ((q : Nat) : Int) < (L : Int) := by omega
      have HC : Hid (st ≤ c ∧ c < r ∧ q + c = p) := ⟨hcs.1, hcs.2, by omega⟩
      clear hb1 hb2 hb3 hb4 ht hc hq hcs hqm hcm hx hy hst hsr hrh
      go_upto_region 35 with fail
      refine wp_region_class 12 (fun W => Below wr.heap.size wr W) (by kernel_rfl) (by kernel_rfl) (Below.refl _ _).drew ?_
      simp only [List.take_succ_cons, List.take_zero, List.drop_succ_cons, List.drop_zero]
      refine head_step (.func (.func 105) #[] #[]) (by go_simp) (fun W hW => by go_simp) ?_
      go_simp
      refine head_step (.slice (some ⟨g, 0, none⟩) L cap) (by go_simp) (fun W hW => by go_simp) ?_
      go_simp
      refine head_step (.int .i64 (p : Int)) (by go_simp) (fun W hW => by go_simp) ?_
      go_simp
      refine head_step (.int .i64 (c : Int)) (by go_simp) (fun W hW => by go_simp) ?_
      go_simp
      refine head_step (.int .i64 (q : Int)) (by go_simp) (fun W hW => by go_simp) ?_
      go_simp
      refine head_step (.pointer (some ⟨g, q * 4, none⟩)) (by go_simp) (fun W hW => by go_simp) ?_
      go_simp
      refine head_step (.agg #[.int .i64 y.1.player, .int .i64 y.1.unit, .int .i64 y.1.what, .int .i64 y.1.arg]) (by go_simp) (fun W hW => by obtain ⟨-, -, -, -, y0, y1, y2, y3⟩ := FC.out W hW; go_simp) ?_
      go_simp
      refine head_step (.slice (some ⟨g, 0, none⟩) L cap) (by go_simp) (fun W hW => by go_simp) ?_
      go_simp
      refine head_step (.int .i64 (c : Int)) (by go_simp) (fun W hW => by go_simp) ?_
      go_simp
      refine head_step (.pointer (some ⟨g, c * 4, none⟩)) (by go_simp) (fun W hW => by go_simp) ?_
      go_simp
      refine head_step (.agg #[.int .i64 x.1.player, .int .i64 x.1.unit, .int .i64 x.1.what, .int .i64 x.1.arg]) (by go_simp) (fun W hW => by obtain ⟨x0, x1, x2, x3, -⟩ := FC.out W hW; go_simp) ?_
      go_simp
      refine head_call (.int .i64 (cmpo y.1 x.1)) 105 #[.agg #[.int .i64 y.1.player, .int .i64 y.1.unit, .int .i64 y.1.what, .int .i64 y.1.arg], .agg #[.int .i64 x.1.player, .int .i64 x.1.unit, .int .i64 x.1.what, .int .i64 x.1.arg]] (by go_simp) (fun W hW => by go_simp) (fun W hW => CC.out W hW) ?_
      go_simp
      intro W hW
      have RW : Hid (Rb W g (fs (A ++ X ++ Y ++ B)) rest) := RB.out.below hW RB.out.lt
      have KW : Hid (Kp g w W) := K1.out.trans (Kp.of hW)
      by_cases hcm : cmpo y.1 x.1 < 0
      · have LX : Hid (lt y x) := (ask_lt IX.out).1 ((klt_iff _ _).1 hcm)
        clear hW FC CC
        go_wp2
        go_roundw
        case rel =>
          obtain ⟨c1, c2, c3⟩ := HC.out
          obtain ⟨s1, s2, s3⟩ := HSR.out
          have hp := HP.out
          have eq : n - 1 - c = q := by omega
          exact ⟨st, c, rfl, rfl, s1, c1, by omega, F1.out, fun _ => ⟨x, y, Hx.out, by rw [eq]; exact Hy.out, LX.out⟩, RW.out, KW.out⟩
        case measure => have := HC.out; simp [intOf]; omega
      · have LX : Hid (lt x y) := (ask_ge IX.out).1 (fun h => hcm ((klt_iff _ _).2 h))
        clear hW FC CC
        go_wp2
        go_roundw
        case rel =>
          obtain ⟨c1, c2, c3⟩ := HC.out
          obtain ⟨s1, s2, s3⟩ := HSR.out
          have hp := HP.out
          have eq : n - (c + 1) = q := by omega
          exact ⟨c + 1, r, rfl, rfl, by omega, by omega, s3, fun _ => ⟨x, y, by rw [Nat.add_sub_cancel]; exact Hx.out, by rw [eq]; exact Hy.out, LX.out⟩, F2.out, RW.out, KW.out⟩
        case measure => have := HC.out; simp [intOf]; omega
end Go.Proofs.YteieikgkmfglaaaGreatDoor

namespace Go.Proofs.YteieikgkmfglaaaGreatDoor
open Go.RowKit Go.Proofs.YteieikgkmfglaaaGreatDoor.So
set_option linter.unusedVariables false

theorem sym_any : ∀ (N : Nat) (A X Y B : List T) (g cap L a m b : Nat) (rest : List Value) (w : World), X.length + Y.length ≤ N → X ≠ [] → Y ≠ [] → X.Pairwise lt → Y.Pairwise lt → (∀ x ∈ X, ∀ y ∈ Y, x.2 < y.2) → Rb w g (fs (A ++ X ++ Y ++ B)) rest → A.length + X.length + Y.length + B.length = L → L ≤ 1000 → A.length = a → a + X.length = m → m + Y.length = b →
    Calls Tryz.prog 154 #[.slice (some ⟨g, 0, none⟩) L cap, .int .i64 (a : Nat), .int .i64 (m : Nat), .int .i64 (b : Nat), .func (.func 105) #[] #[]] w (MergeSays A (X ++ Y) B g rest w)
  | 0, A, X, Y, B, g, cap, L, a, m, b, rest, w, hN, hX0, hY0, hX, hY, hpl, hr, hL, hn, ha, hm, hb => by
    have : X.length = 0 := by omega
    exact absurd (List.length_eq_zero_iff.1 this) hX0
  | N + 1, A, X, Y, B, g, cap, L, a, m, b, rest, w, hN, hX0, hY0, hX, hY, hpl, hr, hL, hn, ha, hm, hb => by
    by_cases hx1 : X.length = 1
    · obtain ⟨x, rfl⟩ := List.length_eq_one_iff.1 hx1
      refine sym_one A x Y B g cap L a m b rest w hY (fun y hy => hpl x (by simp) y hy) (by simpa using hr) (by simpa using hL) hn ha (by simpa using hm) hb
    by_cases hy1 : Y.length = 1
    · obtain ⟨y, rfl⟩ := List.length_eq_one_iff.1 hy1
      refine sym_last A X y B g cap L a m b rest w hX (fun x hx => hpl x hx y (by simp)) hx1 (by simpa using hr) (by simpa using hL) hn ha hm (by simpa using hb)
    have lx : 2 ≤ X.length := by have := List.length_pos_iff.2 hX0; omega
    have ly : 2 ≤ Y.length := by have := List.length_pos_iff.2 hY0; omega
    have IH : SymIH N g cap L rest := fun A X Y B a m b w h1 h2 h3 h4 h5 h6 h7 h8 h9 h10 h11 => sym_any N A X Y B g cap L a m b rest w h1 h2 h3 h4 h5 h6 h7 h8 hn h9 h10 h11
    rcases Nat.lt_or_ge ((a + b) / 2) m with h | h
    · exact sym_lo N A X Y B g cap L a m b rest w IH hN lx ly hX hY hpl hr hL hn ha hm hb h
    · exact sym_hi N A X Y B g cap L a m b rest w IH hN lx ly hX hY hpl hr hL hn ha hm hb h
end Go.Proofs.YteieikgkmfglaaaGreatDoor

namespace Go.Proofs.YteieikgkmfglaaaGreatDoor
open Go.RowKit Go.Proofs.YteieikgkmfglaaaGreatDoor.So
set_option linter.unusedVariables false
set_option linter.unusedSimpArgs false

theorem isort_i (A U B : List T) (g cap n : Nat) (ai bi : Int) (rest : List Value) (w : World) (hU : U.Pairwise (fun x y => x.2 < y.2)) (hr : Rb w g (fs (A ++ U ++ B)) rest) (hL : A.length + U.length + B.length = n) (hn : n ≤ 1000) (ha : ((A.length : Nat) : Int) = ai) (hb : ((A.length + U.length : Nat) : Int) = bi) :
    Calls Tryz.prog 153 #[.slice (some ⟨g, 0, none⟩) n cap, .int .i64 ai, .int .i64 bi, .func (.func 105) #[] #[]] w (SortSays A U B g rest w) := by
  have e : (A ++ U ++ B).length = n := by simp; omega
  have h := isort_any A U B g cap rest w hU hr (by omega)
  rw [e, ha, hb] at h
  exact h
theorem sym_i (A X Y B : List T) (g cap n : Nat) (ai mi bi : Int) (rest : List Value) (w : World) (hX0 : X ≠ []) (hY0 : Y ≠ []) (hX : X.Pairwise lt) (hY : Y.Pairwise lt) (hp : ∀ x ∈ X, ∀ y ∈ Y, x.2 < y.2) (hr : Rb w g (fs (A ++ X ++ Y ++ B)) rest) (hL : A.length + X.length + Y.length + B.length = n) (hn : n ≤ 1000) (ha : ((A.length : Nat) : Int) = ai) (hm : ((A.length + X.length : Nat) : Int) = mi) (hb : ((A.length + X.length + Y.length : Nat) : Int) = bi) :
    Calls Tryz.prog 154 #[.slice (some ⟨g, 0, none⟩) n cap, .int .i64 ai, .int .i64 mi, .int .i64 bi, .func (.func 105) #[] #[]] w (MergeSays A (X ++ Y) B g rest w) := by
  have h := sym_any (X.length + Y.length) A X Y B g cap n _ _ _ rest w (Nat.le_refl _) hX0 hY0 hX hY hp hr hL hn rfl rfl rfl
  rw [ha, hm, hb] at h
  exact h
theorem tag_of {X U V Y : List T} {Z : List T} (hU : (U ++ V).Pairwise (fun x y => x.2 < y.2)) (hX : X.Perm U) (hY : ∀ y ∈ Y, y ∈ V) : ∀ x ∈ X, ∀ y ∈ Y, x.2 < y.2 := fun x hx y hy => (List.pairwise_append.1 hU).2.2 x (hX.mem_iff.1 hx) y (hY y hy)
def StabSays (U : List T) (g : Nat) (rest : List Value) (w : World) (e : Ending) (w' : World) : Prop := e = .returned (.tuple #[]) ∧ ∃ S, S.Perm U ∧ S.Pairwise lt ∧ Rb w' g (fs S) rest ∧ Kp g w w'
theorem ne_of_pos {l : List T} (h : 0 < l.length) : l ≠ [] := List.length_pos_iff.1 h

end Go.Proofs.YteieikgkmfglaaaGreatDoor

