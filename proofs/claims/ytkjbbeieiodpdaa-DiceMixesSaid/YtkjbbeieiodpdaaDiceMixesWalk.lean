/- The walk of DiceMixes. -/
import Derived.Test.YtkjbbeieiodpdaaDiceM
import Derived.ProofKit
import Derived.OpenShut
import Derived.IntWalk
namespace Go.Proofs.Ytkjbbeieiodpdaa.diceMixes
open Go.RowKit

theorem count_step (xs : List Int) (j : Nat) (h : j < xs.length) (v : Int) : (xs.take (j + 1)).count v = (xs.take j).count v + (if xs[j] = v then 1 else 0) := by
  rw [List.take_succ_eq_append_getElem h, List.count_append, List.count_singleton]
  simp

/-- one item stays that item. -/
theorem mix_five (z s b : Nat) (w : World) (h : Di w z s) (hb : w.heap[b]? = some (.cells #[.int .i64 5] 3 (0, 0))) :
    Calls Try.prog 6 #[.pointer (some ⟨z, 0, none⟩), .slice (some ⟨b, 0, none⟩) 1 1] w fun e w' => ∃ x c, e = .returned (.tuple #[.slice (some x) 1 c, .nilIface]) ∧ w'.cell? x = some (.int .i64 5) ∧ Kp z w w' := by
  have hk : Bk w b [5] #[] := by
    unfold Bk
    rw [hb]
    simp [intCells]
  refine (mix_any z s _ [5] w h (hk.ro (c := 1) (by simp) (by omega)) (by simp)).mono ?_
  rintro e w1 ⟨t, u, ys, -, hp, rfl, -, hr, hk⟩
  obtain rfl := List.perm_singleton.1 hp
  obtain ⟨a, c, rfl, -, -, hc⟩ := hr
  obtain ⟨x, rfl, -, hx⟩ := hc (by simp)
  exact ⟨x, c, rfl, hx 0 5 rfl, hk⟩

set_option maxHeartbeats 1000000 in
theorem walk_full (a0 : Int) (a1 : Option Addr) (len1 cap1 : Nat) (a2 : Int) (w : World) (hl : 200 < len1) :
    Calls Try.prog 3 #[.int .i64 a0, .slice a1 len1 cap1, .int .i64 a2] w fun e w' => e = .returned (.bool true) ∧ Below w.heap.size w w' := by
  go_enter Try.func3, Try.ntmps3
  go_wp2_with fail
  refine (new_di 1 _).mono ?_
  rintro e w1 ⟨sf, -, rfl, d1, b1, z1⟩
  have D1 : Hid (Di w1 w.heap.size sf) := d1
  have B1 : Hid (Below w.heap.size w w1) := b1
  have Z1 : Hid (w1.heap.size = w.heap.size + 1) := z1
  clear d1 b1 z1
  go_wp2_with fail
  refine (mix_five w.heap.size sf w1.heap.size _ (D1.out.below ((Below.refl _ _).alloc (Nat.le_refl _) _)) (by show (w1.heap.push _)[w1.heap.size]? = _; simp)).mono ?_
  rintro e w2 ⟨x, c, rfl, hc, hk⟩
  have B2 : Hid (Below w.heap.size w w2) := Kp.below (B1.out.trans (((Below.refl _ _).alloc (Nat.le_refl _) _).mono (by have := Z1.out; omega))) hk (by have := Z1.out; simp; omega) (Nat.le_refl _)
  clear hk D1 B1 Z1
  go_wp2_with fail
  refine (new_di a0 _).mono ?_
  rintro e w3 ⟨sa, -, rfl, -, b3, -⟩
  have B3 : Hid (Below w.heap.size w w3) := B2.out.trans (b3.mono B2.out.size)
  clear b3 B2
  go_wp2_with fail
  refine (new_di a0 _).mono ?_
  rintro e w4 ⟨sb, -, rfl, -, b4, -⟩
  have B4 : Hid (Below w.heap.size w w4) := B3.out.trans (b4.mono B3.out.size)
  clear b4 B3
  go_wp2_with fail
  refine (mix_full _ a1 len1 cap1 _ hl).mono ?_
  rintro e w5 ⟨rfl, rfl⟩
  go_wp2_with fail
  refine (mix_full _ a1 len1 cap1 _ hl).mono ?_
  rintro e w5 ⟨rfl, rfl⟩
  have hl2 : (200 : Int) < (len1 : Int) := by omega
  go_wp2
  go_ret
  exact ⟨by simp, B4⟩

set_option maxHeartbeats 1000000 in
theorem walk_few (a0 : Int) (v : Value) (xs : List Int) (a2 : Int) (w : World) (hv : Ro w v xs) (hl : xs.length ≤ 200) :
    Calls Try.prog 3 #[.int .i64 a0, v, .int .i64 a2] w fun e w' => e = .returned (.bool true) ∧ Below w.heap.size w w' := by
  have V : Hid (Ro w v xs) := hv
  obtain ⟨a1, cap1, rfl, -⟩ := hv
  go_enter Try.func3, Try.ntmps3
  go_wp2_with fail
  refine (new_di 1 _).mono ?_
  rintro e w1 ⟨sf, -, rfl, d1, b1, z1⟩
  have D1 : Hid (Di w1 w.heap.size sf) := d1
  have B1 : Hid (Below w.heap.size w w1) := b1
  have Z1 : Hid (w1.heap.size = w.heap.size + 1) := z1
  clear d1 b1 z1
  go_wp2_with fail
  refine (mix_five w.heap.size sf w1.heap.size _ (D1.out.below ((Below.refl _ _).alloc (Nat.le_refl _) _)) (by show (w1.heap.push _)[w1.heap.size]? = _; simp)).mono ?_
  rintro e w2 ⟨x, c, rfl, hc, hk⟩
  have B2 : Hid (Below w.heap.size w w2) := Kp.below (B1.out.trans (((Below.refl _ _).alloc (Nat.le_refl _) _).mono (by have := Z1.out; omega))) hk (by have := Z1.out; simp; omega) (Nat.le_refl _)
  clear hk D1 B1 Z1
  go_wp2_with fail
  clear hc
  refine (new_di a0 _).mono ?_
  rintro e w3 ⟨sa, ea, rfl, d3, b3, z3⟩
  have B3 : Hid (Below w.heap.size w w3) := B2.out.trans (b3.mono B2.out.size)
  have D3 : Hid (Di w3 w2.heap.size sa) := d3
  have Z3 : Hid (w3.heap.size = w2.heap.size + 1) := z3
  have E3 : Hid (sa = Dm.bitsOf a0) := ea
  clear b3 d3 z3 ea
  go_wp2_with fail
  refine (new_di a0 _).mono ?_
  rintro e w4 ⟨sb, eb, rfl, d4, b4, z4⟩
  have B4 : Hid (Below w.heap.size w w4) := B3.out.trans (b4.mono B3.out.size)
  have D3 : Hid (Di w4 w2.heap.size sa) := D3.out.below b4
  have es : sb = sa := eb.trans E3.out.symm
  subst es
  have D4 : Hid (Di w4 w3.heap.size sb) := d4
  have Z2 : Hid (w.heap.size ≤ w2.heap.size) := B2.out.size
  clear b4 d4 z4 eb E3 B3 B2
  have V4 : Hid (Ro w4 (.slice a1 xs.length cap1) xs) := V.out.below B4
  go_wp2_with fail
  refine (mix_any _ _ _ _ _ D3 V4 hl).mono ?_
  rintro e w5 ⟨ta, ux, ys, m5, p5, rfl, d5, r5, k5⟩
  have M5 : Hid (Dm.Mx (xs.length - 1) sb xs ta ys) := m5
  have P5 : Hid (ys.Perm xs) := p5
  have D4 : Hid (Di w5 w3.heap.size sb) := D4.out.kp k5 (by have := Z3.out; omega)
  have V5 : Hid (Ro w5 (.slice a1 xs.length cap1) xs) := V4.out.di k5 D3
  have B5 : Hid (Below w.heap.size w w5) := Kp.below B4.out k5 B4.out.size Z2
  have D3 : Hid (Di w5 w2.heap.size ta) := d5
  have R5 : Hid (Ro w5 ux ys) := r5
  clear m5 p5 d5 r5 k5 B4 V4 V
  go_wp2_with fail
  refine (mix_any _ _ _ _ _ D4 V5 hl).mono ?_
  rintro e w6 ⟨tb, uy, zs, m6, p6, rfl, d6, r6, k6⟩
  obtain ⟨e1, e2⟩ := m6.uniq M5.out
  have D3 : Hid (Di w6 w2.heap.size ta) := D3.out.kp k6 (by have := Z3.out; omega)
  have V6 : Hid (Ro w6 (.slice a1 xs.length cap1) xs) := V5.out.di k6 D4
  have R6 : Hid (Ro w6 ux ys) := R5.out.di k6 D4
  have B6 : Hid (Below w.heap.size w w6) := Kp.below B5.out k6 B5.out.size (by have := Z2.out; have := Z3.out; omega)
  rw [e2] at r6
  have S6 : Hid (Ro w6 uy ys) := r6
  clear m6 p6 d6 r6 k6 B5 V5 M5 R5 D4 e1 e2
  have yl : ys.length = xs.length := P5.out.length_eq
  obtain ⟨ax, cx, rfl, -⟩ : ∃ ax cx, ux = .slice ax ys.length cx ∧ True := by
    obtain ⟨ax, cx, h, -⟩ := R6.out
    exact ⟨ax, cx, h, trivial⟩
  rw [yl] at R6 ⊢
  have Yl : Hid (ys.length = xs.length) := yl
  clear yl
  go_wp2_with fail
  refine (ints_any _ _ _ _ _ R6 S6).mono ?_
  rintro e w7 ⟨rfl, q7, rfl⟩
  rw [decide_eq_true rfl]
  have D7 : Hid (Di (w6.drewN q7) w2.heap.size ta) := D3.out.drewN _
  have V7 : Hid (Ro (w6.drewN q7) (.slice a1 xs.length cap1) xs) := V6.out.drewN _
  have R7 : Hid (Ro (w6.drewN q7) (.slice ax xs.length cx) ys) := R6.out.drewN _
  have B7 : Hid (Below w.heap.size w (w6.drewN q7)) := below_drewN B6.out _
  clear D3 V6 R6 B6 S6
  generalize w6.drewN q7 = w8 at *
  go_wp2_with fail
  go_loopw [17] (fun i W => ∃ (k n : Nat), k ≤ xs.length ∧ i = .int .i64 (k : Nat) ∧ W = w8.drewN n) (fun i _ => xs.length - (intOf i).toNat)
  case atStart => exact ⟨0, 0, Nat.zero_le _, rfl, rfl⟩
  case round =>
    obtain ⟨k, n, hk, rfl, rfl⟩ := hrel
    by_cases h0 : k = xs.length
    · subst h0
      have D8 : Hid (Di (w8.drewN n) w2.heap.size ta) := D7.out.drewN _
      have B8 : Hid (Below w.heap.size w (w8.drewN n)) := below_drewN B7.out _
      clear D7 B7 V7 R7
      generalize w8.drewN n = w9 at *
      by_cases hn : 1 ≤ a2 ∧ a2 ≤ 1000000
      · obtain ⟨m, rfl⟩ : ∃ m : Nat, a2 = m := ⟨a2.toNat, by omega⟩
        have m0 : 0 < m := by omega
        have m1 : m ≤ 1000000 := by omega
        clear hn
        go_wp2_with fail
        refine (Below_ok _ _ m _ m0 m1 D8).mono ?_
        rintro e w10 ⟨t, u, hb, rfl, -, k10, -⟩
        have lu := hb.lt m0
        have B10 : Hid (Below w.heap.size w w10) := Kp.below B8.out k10 B8.out.size Z2
        clear hb k10
        go_wp2
        go_ret
        exact ⟨rfl, B10⟩
      · have Hn : Hid (¬ (1 ≤ a2 ∧ a2 ≤ 1000000)) := hn
        clear hn
        go_wp2_with fail
        refine (Below_bad _ a2 _ Hn).mono ?_
        rintro e w10 ⟨rfl, rfl⟩
        have ho : a2 < 1 ∨ (¬ a2 < 1 ∧ 1000000 < a2) := by have := Hn.out; omega
        rcases ho with h1 | ⟨h1, h2⟩
        · go_wp2
          go_ret
          exact ⟨rfl, B8⟩
        · go_wp2
          go_ret
          exact ⟨rfl, B8⟩
    · have hkx : k < xs.length := by omega
      obtain ⟨x0, rfl, -, hx⟩ : ∃ x, a1 = some x ∧ True ∧ ∀ i d, xs[i]? = some d → w8.cell? (x.add i) = some (.int .i64 d) := by
        obtain ⟨a, c, h1, -, -, h4⟩ := V7.out
        obtain ⟨x, rfl, -, h5⟩ := h4 (by intro h; rw [h] at hkx; simp at hkx)
        injection h1 with h6
        exact ⟨x, h6, trivial, h5⟩
      obtain ⟨y0, rfl, -, hy⟩ : ∃ x, ax = some x ∧ True ∧ ∀ i d, ys[i]? = some d → w8.cell? (x.add i) = some (.int .i64 d) := by
        obtain ⟨a, c, h1, -, -, h4⟩ := R7.out
        obtain ⟨x, rfl, -, h5⟩ := h4 (by intro h; have := Yl.out; rw [h] at this; simp at this; omega)
        injection h1 with h6
        exact ⟨x, h6, trivial, h5⟩
      have Hx : Hid (∀ i d, xs[i]? = some d → w8.cell? (x0.add i) = some (.int .i64 d)) := hx
      have Hy : Hid (∀ i d, ys[i]? = some d → w8.cell? (y0.add i) = some (.int .i64 d)) := hy
      have ci := hx k xs[k] (List.getElem?_eq_getElem hkx)
      generalize xs[k] = v at *
      clear hx hy
      go_wp2_with fail
      go_loopw [18, 19, 20] (fun p q i W => ∃ (j m : Nat), j ≤ xs.length ∧ i = .int .i64 (j : Nat) ∧ p = .int .i64 ((xs.take j).count v : Nat) ∧ q = .int .i64 ((ys.take j).count v : Nat) ∧ W = w8.drewN m) (fun _ _ i _ => xs.length - (intOf i).toNat)
      case atStart => exact ⟨0, n, Nat.zero_le _, rfl, by simp, by simp, rfl⟩
      case round =>
        obtain ⟨j, m, hj, rfl, rfl, rfl, rfl⟩ := hrel
        by_cases h1 : j = xs.length
        · subst h1
          have e1 : List.count v (List.take xs.length xs) = List.count v (List.take xs.length ys) := by
            rw [List.take_of_length_le (Nat.le_refl _), ← Yl.out, List.take_of_length_le (Nat.le_refl _)]
            exact (P5.out.count_eq v).symm
          rw [e1]
          generalize List.count v (List.take xs.length ys) = C at *
          clear e1
          go_wp2
          go_round
          case rel => exact ⟨k + 1, _, by omega, by go_num, rfl⟩
          case measure => simp [intOf]; omega
        · have hjx : j < xs.length := by omega
          have hjy : j < ys.length := by rw [Yl.out]; exact hjx
          have cx := Hx.out j xs[j] (List.getElem?_eq_getElem hjx)
          have cy := Hy.out j ys[j] (List.getElem?_eq_getElem hjy)
          have s1 := count_step xs j hjx v
          have s2 := count_step ys j hjy v
          have b1 : (xs.take j).count v ≤ 200 := Nat.le_trans List.count_le_length (by rw [List.length_take]; omega)
          have b2 : (ys.take j).count v ≤ 200 := Nat.le_trans List.count_le_length (by rw [List.length_take]; omega)
          generalize xs[j] = d1 at *
          generalize ys[j] = d2 at *
          by_cases q1 : d1 = v
          · rw [if_pos q1] at s1
            subst q1
            by_cases q2 : d2 = d1
            · rw [if_pos q2] at s2
              subst q2
              have S1 : Hid (List.count _ (List.take (j + 1) xs) = _) := s1
              have S2 : Hid (List.count _ (List.take (j + 1) ys) = _) := s2
              clear s1 s2
              go_wp2
              go_quiet (fail)
              go_wp2
              go_quiet (fail)
              go_wp2
              go_round
              case rel => exact ⟨j + 1, _, by omega, by go_num, by rw [S1.out]; go_num, by rw [S2.out]; go_num, rfl⟩
              case measure => simp [intOf]; omega
            · rw [if_neg q2] at s2
              have S1 : Hid (List.count _ (List.take (j + 1) xs) = _) := s1
              have S2 : Hid (List.count _ (List.take (j + 1) ys) = _) := s2
              clear s1 s2
              go_wp2
              go_quiet (fail)
              go_wp2
              go_quiet (fail)
              go_wp2
              go_round
              case rel => exact ⟨j + 1, _, by omega, by go_num, by rw [S1.out]; go_num, by rw [S2.out]; go_num, rfl⟩
              case measure => simp [intOf]; omega
          · rw [if_neg q1] at s1
            by_cases q2 : d2 = v
            · rw [if_pos q2] at s2
              subst q2
              have S1 : Hid (List.count _ (List.take (j + 1) xs) = _) := s1
              have S2 : Hid (List.count _ (List.take (j + 1) ys) = _) := s2
              clear s1 s2
              go_wp2
              go_quiet (fail)
              go_wp2
              go_quiet (fail)
              go_wp2
              go_round
              case rel => exact ⟨j + 1, _, by omega, by go_num, by rw [S1.out]; go_num, by rw [S2.out]; go_num, rfl⟩
              case measure => simp [intOf]; omega
            · rw [if_neg q2] at s2
              have S1 : Hid (List.count _ (List.take (j + 1) xs) = _) := s1
              have S2 : Hid (List.count _ (List.take (j + 1) ys) = _) := s2
              clear s1 s2
              go_wp2
              go_quiet (fail)
              go_wp2
              go_quiet (fail)
              go_wp2
              go_round
              case rel => exact ⟨j + 1, _, by omega, by go_num, by rw [S1.out]; go_num, by rw [S2.out]; go_num, rfl⟩
              case measure => simp [intOf]; omega

theorem walk (a0 : Int) (a1 : Option Addr) (len1 cap1 : Nat) (z1 : List Int) (a2 : Int) (w : World) (_ : (Lit.int .i64 a0).wf = true) (w1 : IsRow .i64 w a1 len1 cap1 z1) (_ : (Lit.int .i64 a2).wf = true) :
    Calls Try.prog 3 #[.int .i64 a0, .slice a1 len1 cap1, .int .i64 a2] w fun e w' => e = .returned (.bool true) ∧ Below w.heap.size w w' := by
  by_cases hl : 200 < len1
  · exact walk_full a0 a1 len1 cap1 a2 w hl
  · refine walk_few a0 _ (z1.take len1) a2 w w1.ro ?_
    rw [List.length_take]
    omega
end Go.Proofs.Ytkjbbeieiodpdaa.diceMixes
