/- What the reference answers of products and quotients. -/
import Derived.Test.YthdpafcodmlenaaDoorBigN
import Derived.Test.YthdpafcodmlenaaDoorBigI
import Derived.Test.YthdpafcodmlenaaDoorBigJ
namespace Go.Proofs.YthdpafcodmlenaaDoor
open Go.RowKit

theorem mul_said : MulSaid := fun z xb yb x y w hz hx hy a b c d => int_mul z xb yb x y w hz hx hy a b c d
theorem add_said : AddSaid := fun z xb yb nx ny nr u v N w hz a b c d h => int_add_by z xb yb nx ny nr u v N w hz a b c d h
theorem sub_said : SubSaid := fun z xb yb nx ny nr u v N w hz a b c d h => int_sub_by z xb yb nx ny nr u v N w hz a b c d h

set_option maxHeartbeats 400000 in
theorem fits_yes (n : Int) (w : World) (h : InL n) :
    Calls Tryd.prog 11 #[.int .i64 n] w fun e w' => e = .returned (.bool true) ∧ w' = w := by
  obtain ⟨h1, h2⟩ := h
  go_enter Tryd.func11, Tryd.ntmps11
  go_wp2
  go_ret
  exact ⟨rfl, rfl⟩

set_option maxHeartbeats 400000 in
theorem fits_no (n : Int) (w : World) (h : ¬ InL n) :
    Calls Tryd.prog 11 #[.int .i64 n] w fun e w' => e = .returned (.bool false) ∧ w' = w := by
  have ho : ¬ -1099511627776 ≤ n ∨ (-1099511627776 ≤ n ∧ ¬ n ≤ 1099511627776) := by unfold InL at h; omega
  clear h
  rcases ho with h1 | ⟨h1, h2⟩
  · go_enter Tryd.func11, Tryd.ntmps11
    go_wp2
    go_ret
    exact ⟨rfl, rfl⟩
  · go_enter Tryd.func11, Tryd.ntmps11
    go_wp2
    go_ret
    exact ⟨rfl, rfl⟩

theorem fits_any (n : Int) (w : World) :
    Calls Tryd.prog 11 #[.int .i64 n] w fun e w' => ∃ t : Bool, e = .returned (.bool t) ∧ w' = w := by
  by_cases h : InL n
  · refine (fits_yes n w h).mono ?_
    rintro e w1 ⟨rfl, rfl⟩
    exact ⟨true, rfl, rfl⟩
  · refine (fits_no n w h).mono ?_
    rintro e w1 ⟨rfl, rfl⟩
    exact ⟨false, rfl, rfl⟩

theorem prod_bd (a b : Int) (ha : InL a) (hb : InL b) : -1208925819614629174706176 ≤ a * b ∧ a * b ≤ 1208925819614629174706176 := by
  obtain ⟨s, hs, s0, s1, -⟩ := siz_get a ha
  obtain ⟨t, ht, t0, t1, -⟩ := siz_get b hb
  have hp := Ma.siz_mul a b s t hs ht
  have hm : s * t ≤ 1099511627776 * 1099511627776 := Int.mul_le_mul s1 t1 t0 (by omega)
  unfold Ma.Siz at hp
  omega

/-- a rest of a division by 65536 leaves a quotient below 2^64. -/
theorem quo_small (t : Int) (ht : -1208925819614629174706176 ≤ t) (h : Int.tmod t 65536 < 0) : -18446744073709551616 < Int.tdiv t 65536 := by
  have h1 := Int.mul_tdiv_add_tmod t 65536
  omega

set_option maxHeartbeats 1000000 in
theorem ref_mul_in (a b : Int) (w : World) (ha : InL a) (hb : InL b) :
    Calls Tryd.prog 4 #[.int .i64 a, .int .i64 b] w fun e w' => (InL (a * b / 65536) ∧ e = .returned (.tuple #[.int .i64 (a * b / 65536), .int .i64 0]) ∨ ¬ InL (a * b / 65536) ∧ e = .returned (.tuple #[.int .i64 0, .int .i64 4])) ∧ Below w.heap.size w w' := by
  have pb := prod_bd a b ha hb
  have PB : Hid (-1208925819614629174706176 ≤ a * b ∧ a * b ≤ 1208925819614629174706176) := pb
  have Ha : Hid (InL a) := ha
  have Hb : Hid (InL b) := hb
  obtain ⟨a1, a2⟩ := ha
  obtain ⟨b1, b2⟩ := hb
  clear pb
  go_enter Tryd.func4, Tryd.ntmps4
  go_wp2_with fail
  refine Calls.mono (fits_yes a _ Ha) ?_
  rintro e w1 ⟨rfl, rfl⟩
  go_wp2_with fail
  refine Calls.mono (fits_yes b _ Hb) ?_
  rintro e w1 ⟨rfl, rfl⟩
  go_wp2_with fail
  refine Calls.mono (big_int a _ (by omega) (by omega)) ?_
  rintro e w2 ⟨rfl, hi2, hc2, hl2⟩
  have P2 : Hid (IntAt w2 w1.heap.size a) := hi2
  have B2 : Hid (Below w1.heap.size w1 w2) := hc2
  have L2 : Hid (w1.heap.size < w2.heap.size) := hl2
  clear hi2 hc2 hl2
  go_wp2_with fail
  refine Calls.mono (big_int b _ (by omega) (by omega)) ?_
  rintro e w3 ⟨rfl, hi3, hc3, hl3⟩
  have Q3 : Hid (IntAt w3 w2.heap.size b) := hi3
  have P3 : Hid (IntAt w3 w1.heap.size a) := IntAt.below P2.out hc3
  have B3 : Hid (Below w1.heap.size w1 w3) := B2.out.trans (hc3.mono B2.out.size)
  clear hi3 hc3 hl3
  go_wp2_with fail
  refine Calls.mono (int_mul w1.heap.size w1.heap.size w2.heap.size a b _ P3.out.zb P3 Q3 (by omega) (by omega) (by omega) (by omega)) ?_
  rintro e w4 ⟨rfl, hi4, hk4⟩
  have P4 : Hid (IntAt w4 w1.heap.size (a * b)) := hi4
  have B4 : Hid (Below w1.heap.size w1 w4) := Kp.below B3.out hk4 B3.out.size (Nat.le_refl _)
  clear hi4 hk4
  go_wp2_with fail
  refine Calls.mono (big_int 65536 _ (by omega) (by omega)) ?_
  rintro e w5 ⟨rfl, hi5, hc5, hl5⟩
  have S5 : Hid (IntAt w5 w4.heap.size 65536) := hi5
  have P5 : Hid (IntAt w5 w1.heap.size (a * b)) := IntAt.below P4.out hc5
  have B5 : Hid (Below w1.heap.size w1 w5) := B4.out.trans (hc5.mono B4.out.size)
  have N5 : Hid (w1.heap.size ≠ w4.heap.size) := by have := P4.out.lt; unfold Hid; omega
  have G5 : Hid (w1.heap.size ≤ w4.heap.size) := B4.out.size
  clear hi5 hc5 hl5
  go_wp2_with fail
  refine Calls.mono (floor_any add_said sub_said w1.heap.size w4.heap.size (a * b) 65536 _ P5 S5 N5 (by omega) (by omega) (by have := PB.out; omega) (by
    intro t ht h
    have e : (((65536 : Int).natAbs : Int)) = 65536 := rfl
    rw [e] at h ⊢
    have := PB.out
    exact quo_small t (by omega) h)) ?_
  rintro e w6 ⟨hc, hk6⟩
  have ef : Ma.flr (a * b) 65536 = a * b / 65536 := by unfold Ma.flr; rw [if_pos (by omega)]
  rw [ef] at hc
  have B6 : Hid (Below w1.heap.size w1 w6) := B5.out.trans ⟨hk6.os, hk6.tape, hk6.output, hk6.size, fun k hk => hk6.block k (Nat.lt_of_lt_of_le hk B5.out.size) (fun hm => by
    have := G5.out
    rcases List.mem_cons.1 hm with h | h
    · omega
    · have := List.mem_singleton.1 h; omega)⟩
  clear hk6 ef
  rcases hc with ⟨h1, rfl⟩ | ⟨h1, rfl⟩
  · have H1 : Hid (InL (a * b / 65536)) := h1
    clear h1
    go_wp2
    go_ret2
    exact ⟨.inl ⟨H1, rfl⟩, B6⟩
  · have H1 : Hid (¬ InL (a * b / 65536)) := h1
    clear h1
    go_wp2
    go_ret2
    exact ⟨.inr ⟨H1, rfl⟩, B6⟩

set_option maxHeartbeats 400000 in
theorem ref_mul_out (a b : Int) (w : World) (h : ¬ (InL a ∧ InL b)) :
    Calls Tryd.prog 4 #[.int .i64 a, .int .i64 b] w fun e w' => e = .returned (.tuple #[.int .i64 0, .int .i64 1]) ∧ Below w.heap.size w w' := by
  by_cases ha : InL a
  · have hb : ¬ InL b := fun hb => h ⟨ha, hb⟩
    have Ha : Hid (InL a) := ha
    have Hb : Hid (¬ InL b) := hb
    clear h ha hb
    go_enter Tryd.func4, Tryd.ntmps4
    go_wp2_with fail
    refine Calls.mono (fits_yes a _ Ha) ?_
    rintro e w1 ⟨rfl, rfl⟩
    go_wp2_with fail
    refine Calls.mono (fits_no b _ Hb) ?_
    rintro e w1 ⟨rfl, rfl⟩
    go_wp2
    go_ret2
    exact ⟨rfl, Below.refl _ _⟩
  · have Ha : Hid (¬ InL a) := ha
    clear h ha
    go_enter Tryd.func4, Tryd.ntmps4
    go_wp2_with fail
    refine Calls.mono (fits_no a _ Ha) ?_
    rintro e w1 ⟨rfl, rfl⟩
    go_wp2_with fail
    refine Calls.mono (fits_any b _) ?_
    rintro e w1 ⟨t, rfl, rfl⟩
    go_wp2
    go_ret2
    exact ⟨rfl, Below.refl _ _⟩

set_option maxHeartbeats 1000000 in
theorem ref_div_in (a b : Int) (w : World) (ha : InL a) (hb : InL b) (b0 : b ≠ 0) :
    Calls Tryd.prog 7 #[.int .i64 a, .int .i64 b] w fun e w' => (InL (Ma.flr (a * 65536) b) ∧ e = .returned (.tuple #[.int .i64 (Ma.flr (a * 65536) b), .int .i64 0]) ∨ ¬ InL (Ma.flr (a * 65536) b) ∧ e = .returned (.tuple #[.int .i64 0, .int .i64 4])) ∧ Below w.heap.size w w' := by
  have Ha : Hid (InL a) := ha
  have Hb : Hid (InL b) := hb
  obtain ⟨a1, a2⟩ := ha
  obtain ⟨b1, b2⟩ := hb
  have hb0 : (b == 0) = false := beq_eq_false_iff_ne.2 b0
  have BN : Hid (b ≠ 0) := b0
  clear b0
  go_enter Tryd.func7, Tryd.ntmps7
  go_wp2_with fail
  refine Calls.mono (fits_yes a _ Ha) ?_
  rintro e w1 ⟨rfl, rfl⟩
  go_wp2_with fail
  refine Calls.mono (fits_yes b _ Hb) ?_
  rintro e w1 ⟨rfl, rfl⟩
  go_wp2_with fail
  refine Calls.mono (big_int a _ (by omega) (by omega)) ?_
  rintro e w2 ⟨rfl, hi2, hc2, hl2⟩
  have P2 : Hid (IntAt w2 w1.heap.size a) := hi2
  have B2 : Hid (Below w1.heap.size w1 w2) := hc2
  clear hi2 hc2 hl2
  go_wp2_with fail
  refine Calls.mono (big_int 65536 _ (by omega) (by omega)) ?_
  rintro e w3 ⟨rfl, hi3, hc3, hl3⟩
  have Q3 : Hid (IntAt w3 w2.heap.size 65536) := hi3
  have P3 : Hid (IntAt w3 w1.heap.size a) := IntAt.below P2.out hc3
  have B3 : Hid (Below w1.heap.size w1 w3) := B2.out.trans (hc3.mono B2.out.size)
  clear hi3 hc3 hl3
  go_wp2_with fail
  refine Calls.mono (int_mul w1.heap.size w1.heap.size w2.heap.size a 65536 _ P3.out.zb P3 Q3 (by omega) (by omega) (by omega) (by omega)) ?_
  rintro e w4 ⟨rfl, hi4, hk4⟩
  have P4 : Hid (IntAt w4 w1.heap.size (a * 65536)) := hi4
  have B4 : Hid (Below w1.heap.size w1 w4) := Kp.below B3.out hk4 B3.out.size (Nat.le_refl _)
  clear hi4 hk4
  go_wp2_with fail
  refine Calls.mono (big_int b _ (by omega) (by omega)) ?_
  rintro e w5 ⟨rfl, hi5, hc5, hl5⟩
  have S5 : Hid (IntAt w5 w4.heap.size b) := hi5
  have P5 : Hid (IntAt w5 w1.heap.size (a * 65536)) := IntAt.below P4.out hc5
  have B5 : Hid (Below w1.heap.size w1 w5) := B4.out.trans (hc5.mono B4.out.size)
  have N5 : Hid (w1.heap.size ≠ w4.heap.size) := by have := P4.out.lt; unfold Hid; omega
  have G5 : Hid (w1.heap.size ≤ w4.heap.size) := B4.out.size
  clear hi5 hc5 hl5
  go_wp2_with fail
  refine Calls.mono (floor_any add_said sub_said w1.heap.size w4.heap.size (a * 65536) b _ P5 S5 N5 BN (by omega) (by omega) (by
    intro t ht h
    have y0 : 0 < (b.natAbs : Int) := by have := BN.out; omega
    obtain ⟨f1, f2, f3⟩ := fl_neg t (b.natAbs : Int) y0 h
    have f4 := (ediv_bd t (b.natAbs : Int) y0)
    rcases Int.lt_or_le t 0 with h5 | h5
    · have := (f4.2 h5).1
      omega
    · have := (f4.1 h5).1
      omega)) ?_
  rintro e w6 ⟨hc, hk6⟩
  have B6 : Hid (Below w1.heap.size w1 w6) := B5.out.trans ⟨hk6.os, hk6.tape, hk6.output, hk6.size, fun k hk => hk6.block k (Nat.lt_of_lt_of_le hk B5.out.size) (fun hm => by
    have := G5.out
    rcases List.mem_cons.1 hm with h | h
    · omega
    · have := List.mem_singleton.1 h; omega)⟩
  clear hk6
  rcases hc with ⟨h1, rfl⟩ | ⟨h1, rfl⟩
  · have H1 : Hid (InL (Ma.flr (a * 65536) b)) := h1
    clear h1
    go_wp2
    go_ret2
    exact ⟨.inl ⟨H1, rfl⟩, B6⟩
  · have H1 : Hid (¬ InL (Ma.flr (a * 65536) b)) := h1
    clear h1
    go_wp2
    go_ret2
    exact ⟨.inr ⟨H1, rfl⟩, B6⟩

set_option maxHeartbeats 400000 in
theorem ref_div_out (a b : Int) (w : World) (h : ¬ (InL a ∧ InL b ∧ b ≠ 0)) :
    Calls Tryd.prog 7 #[.int .i64 a, .int .i64 b] w fun e w' => e = .returned (.tuple #[.int .i64 0, .int .i64 1]) ∧ Below w.heap.size w w' := by
  by_cases ha : InL a
  · by_cases hb : InL b
    · obtain rfl : b = 0 := by
        by_cases h0 : b = 0
        · exact h0
        · exact absurd ⟨ha, hb, h0⟩ h
      have Ha : Hid (InL a) := ha
      have Hb : Hid (InL 0) := hb
      clear h ha hb
      go_enter Tryd.func7, Tryd.ntmps7
      go_wp2_with fail
      refine Calls.mono (fits_yes a _ Ha) ?_
      rintro e w1 ⟨rfl, rfl⟩
      go_wp2_with fail
      refine Calls.mono (fits_yes 0 _ Hb) ?_
      rintro e w1 ⟨rfl, rfl⟩
      go_wp2
      go_ret2
      exact ⟨rfl, Below.refl _ _⟩
    · have Ha : Hid (InL a) := ha
      have Hb : Hid (¬ InL b) := hb
      clear h ha hb
      go_enter Tryd.func7, Tryd.ntmps7
      go_wp2_with fail
      refine Calls.mono (fits_yes a _ Ha) ?_
      rintro e w1 ⟨rfl, rfl⟩
      go_wp2_with fail
      refine Calls.mono (fits_no b _ Hb) ?_
      rintro e w1 ⟨rfl, rfl⟩
      go_wp2
      go_ret2
      exact ⟨rfl, Below.refl _ _⟩
  · have Ha : Hid (¬ InL a) := ha
    clear h ha
    go_enter Tryd.func7, Tryd.ntmps7
    go_wp2_with fail
    refine Calls.mono (fits_no a _ Ha) ?_
    rintro e w1 ⟨rfl, rfl⟩
    go_wp2_with fail
    refine Calls.mono (fits_any b _) ?_
    rintro e w1 ⟨t, rfl, rfl⟩
    go_wp2
    go_ret2
    exact ⟨rfl, Below.refl _ _⟩
end Go.Proofs.YthdpafcodmlenaaDoor
