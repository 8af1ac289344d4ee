/- What the reference's floor does. -/
import Derived.Test.YthdpafcodmlenaaDoorBigM
import Derived.Test.YthdpafcodmlenaaDoorBigC
import Derived.Test.YthdpafcodmlenaaDoorMul
import Derived.Test.YthdpafcodmlenaaDoorFixG
namespace Go.Proofs.YthdpafcodmlenaaDoor
open Go.RowKit

theorem ediv_bd (x y : Int) (hy : 0 < y) : (0 ≤ x → 0 ≤ x / y ∧ x / y ≤ x) ∧ (x < 0 → x ≤ x / y ∧ x / y < 0) := by
  refine ⟨fun h => ⟨Int.ediv_nonneg h (by omega), Int.ediv_le_self y h⟩, fun h => ⟨?_, (Int.ediv_lt_iff_lt_mul hy).2 (by omega)⟩⟩
  refine (Int.le_ediv_iff_mul_le hy).2 ?_
  have : x * y ≤ x * 1 := Int.mul_le_mul_of_nonpos_left (by omega) (by omega)
  omega

/-- the two that floor makes. -/
theorem two_new (w : World) : Zb ((w.alloc (.cells #[.bool false, .slice none 0 0] 45)).alloc (.cells #[.bool false, .slice none 0 0] 45)) w.heap.size ∧
    Zb ((w.alloc (.cells #[.bool false, .slice none 0 0] 45)).alloc (.cells #[.bool false, .slice none 0 0] 45)) (w.heap.size + 1) := by
  refine ⟨Zb.below (zb_new w _) ((Below.refl _ _).alloc (Nat.le_refl _) _), ?_⟩
  have h := zb_new (w.alloc (.cells #[.bool false, .slice none 0 0] 45)) (.slice none 0 0)
  simpa using h

theorem ord_le (x y : Int) (h : x ≤ y) : ord x y ≤ 0 := by
  unfold ord
  split
  · omega
  · rw [if_neg (by omega)]; exact Int.le_refl _

set_option maxHeartbeats 2000000 in
theorem floor_pos_hi (hA : AddSaid) (hS : SubSaid) (xb yb : Nat) (x y : Int) (w : World) (hx : IntAt w xb x) (hy : IntAt w yb y) (hxy : xb ≠ yb) (y0 : 0 < y) (yl : y < 18446744073709551616)
    (hl : (-18446744073709551616 < x ∧ x < 18446744073709551616) ∨ (-79228162514264337593543950336 < x ∧ x < 79228162514264337593543950336 ∧ y < 4294967296)) (hq : Int.tmod x y < 0 → -18446744073709551616 < Int.tdiv x y) (hf : 1099511627776 < x / y) :
    Calls Tryd.prog 14 #[.pointer (some ⟨xb, 0, none⟩), .pointer (some ⟨yb, 0, none⟩)] w fun e w' => e = .returned (.tuple #[.int .i64 0, .int .i64 4]) ∧ Kn [xb, yb] w w' := by
  have xs : -79228162514264337593543950336 < x ∧ x < 79228162514264337593543950336 := by omega
  have A1 : Hid AddSaid := hA
  have S1 : Hid SubSaid := hS
  have Hx : Hid (IntAt w xb x) := hx
  have Hy : Hid (IntAt w yb y) := hy
  have Hxy : Hid (xb ≠ yb) := hxy
  have Y0 : Hid (0 < y) := y0
  have Yl : Hid (y < 18446744073709551616) := yl
  have Hl : Hid ((-18446744073709551616 < x ∧ x < 18446744073709551616) ∨ (-79228162514264337593543950336 < x ∧ x < 79228162514264337593543950336 ∧ y < 4294967296)) := hl
  have Hq : Hid (Int.tmod x y < 0 → -18446744073709551616 < Int.tdiv x y) := hq
  obtain ⟨bd1, bd2⟩ := ediv_bd x y y0
  obtain ⟨f, hfe⟩ : ∃ f, f = x / y := ⟨_, rfl⟩
  rw [← hfe] at bd1 bd2 hf
  have fb : -79228162514264337593543950336 < f ∧ f < 79228162514264337593543950336 := by
    rcases Int.lt_or_le x 0 with h | h
    · have := bd2 h; omega
    · have := bd1 h; omega
  have FB : Hid (-79228162514264337593543950336 < f ∧ f < 79228162514264337593543950336) := fb
  have FE : Hid (f = x / y) := hfe
  have O1 : Hid (ord f 1099511627776 = 1) := by unfold Hid ord; rw [if_neg (by omega), if_pos hf]
  have Sg : Hid ((if y = 0 then 0 else if y < 0 then -1 else 1 : Int) = 1) := by unfold Hid; rw [if_neg (by omega), if_neg (by omega)]
  have Xs : Hid (-79228162514264337593543950336 < x ∧ x < 79228162514264337593543950336) := by unfold Hid; omega
  have Ys : Hid (-79228162514264337593543950336 < y ∧ y < 79228162514264337593543950336) := by unfold Hid; omega
  clear hA hS hx hy hxy y0 yl hl hq xs bd1 bd2 fb hfe hf
  obtain ⟨n1, n2⟩ := two_new w
  have b0 : Below w.heap.size w ((w.alloc (.cells #[.bool false, .slice none 0 0] 45)).alloc (.cells #[.bool false, .slice none 0 0] 45)) := ((Below.refl _ _).alloc (Nat.le_refl _) _).alloc (by simp) _
  go_enter Tryd.func14, Tryd.ntmps14
  go_wp2_with fail
  generalize ((w.alloc (.cells #[.bool false, .slice none 0 0] 45)).alloc (.cells #[.bool false, .slice none 0 0] 45)) = W0 at *
  have N1 : Hid (Zb W0 w.heap.size) := n1
  have N2 : Hid (Zb W0 (w.heap.size + 1)) := n2
  have B0 : Hid (Below w.heap.size w W0) := b0
  clear n1 n2 b0
  refine Calls.mono (int_sign yb y _ (IntAt.below Hy.out B0)) ?_
  rintro e w0 ⟨rfl, rfl⟩
  rw [Sg.out]
  have X2 : Hid (IntAt w0 xb x) := IntAt.below Hx.out B0
  have Y2 : Hid (IntAt w0 yb y) := IntAt.below Hy.out B0
  have K2 : Hid (Kn [xb, yb] w w0) := Kn.of B0.out
  go_wp2_with fail
  refine Calls.mono (int_divmod A1 S1 w.heap.size xb yb (w.heap.size + 1) x y _ N1 N2 (by omega) X2 Y2 Y0 Yl Hl Hq) ?_
  rintro e w3 ⟨rfl, hi3, hk3⟩
  rw [← FE.out] at hi3
  have Q3 : Hid (IntAt w3 w.heap.size f) := hi3
  have K3 : Hid (Kn [xb, yb] w w3) := K2.out.low hk3 (fun z hz hlt => by
    rcases List.mem_cons.1 hz with rfl | hz
    · omega
    · have := List.mem_singleton.1 hz; omega)
  clear hi3 hk3
  go_wp2_with fail
  refine Calls.mono (big_int 1099511627776 _ (by omega) (by omega)) ?_
  rintro e w4 ⟨rfl, hi4, hb4, hl4⟩
  have M4 : Hid (IntAt w4 w3.heap.size 1099511627776) := hi4
  have Q4 : Hid (IntAt w4 w.heap.size f) := IntAt.below Q3.out hb4
  have K4 : Hid (Kn [xb, yb] w w4) := K3.out.trans (Kn.of hb4)
  clear hi4 hb4 hl4
  go_wp2_with fail
  refine Calls.mono (big_int (-1099511627776) _ (by omega) (by omega)) ?_
  rintro e w5 ⟨rfl, hi5, hb5, hl5⟩
  have L5 : Hid (IntAt w5 w4.heap.size (-1099511627776)) := hi5
  have M5 : Hid (IntAt w5 w3.heap.size 1099511627776) := IntAt.below M4.out hb5
  have Q5 : Hid (IntAt w5 w.heap.size f) := IntAt.below Q4.out hb5
  have K5 : Hid (Kn [xb, yb] w w5) := K4.out.trans (Kn.of hb5)
  clear hi5 hb5 hl5
  go_wp2_with fail
  refine Calls.mono (int_cmp w.heap.size w3.heap.size f 1099511627776 _ Q5 M5 FB.out.1 FB.out.2 (by omega) (by omega)) ?_
  rintro e w6 ⟨rfl, hb6⟩
  have L6 : Hid (IntAt w6 w4.heap.size (-1099511627776)) := IntAt.below L5.out hb6
  have Q6 : Hid (IntAt w6 w.heap.size f) := IntAt.below Q5.out hb6
  have K6 : Hid (Kn [xb, yb] w w6) := K5.out.trans (Kn.of hb6)
  clear hb6
  rw [O1.out]
  go_wp2
  go_ret2
  exact ⟨rfl, K6⟩

set_option maxHeartbeats 2000000 in
theorem floor_pos_lo (hA : AddSaid) (hS : SubSaid) (xb yb : Nat) (x y : Int) (w : World) (hx : IntAt w xb x) (hy : IntAt w yb y) (hxy : xb ≠ yb) (y0 : 0 < y) (yl : y < 18446744073709551616)
    (hl : (-18446744073709551616 < x ∧ x < 18446744073709551616) ∨ (-79228162514264337593543950336 < x ∧ x < 79228162514264337593543950336 ∧ y < 4294967296)) (hq : Int.tmod x y < 0 → -18446744073709551616 < Int.tdiv x y) (hf : x / y < -1099511627776) :
    Calls Tryd.prog 14 #[.pointer (some ⟨xb, 0, none⟩), .pointer (some ⟨yb, 0, none⟩)] w fun e w' => e = .returned (.tuple #[.int .i64 0, .int .i64 4]) ∧ Kn [xb, yb] w w' := by
  have xs : -79228162514264337593543950336 < x ∧ x < 79228162514264337593543950336 := by omega
  have A1 : Hid AddSaid := hA
  have S1 : Hid SubSaid := hS
  have Hx : Hid (IntAt w xb x) := hx
  have Hy : Hid (IntAt w yb y) := hy
  have Hxy : Hid (xb ≠ yb) := hxy
  have Y0 : Hid (0 < y) := y0
  have Yl : Hid (y < 18446744073709551616) := yl
  have Hl : Hid ((-18446744073709551616 < x ∧ x < 18446744073709551616) ∨ (-79228162514264337593543950336 < x ∧ x < 79228162514264337593543950336 ∧ y < 4294967296)) := hl
  have Hq : Hid (Int.tmod x y < 0 → -18446744073709551616 < Int.tdiv x y) := hq
  obtain ⟨bd1, bd2⟩ := ediv_bd x y y0
  obtain ⟨f, hfe⟩ : ∃ f, f = x / y := ⟨_, rfl⟩
  rw [← hfe] at bd1 bd2 hf
  have fb : -79228162514264337593543950336 < f ∧ f < 79228162514264337593543950336 := by
    rcases Int.lt_or_le x 0 with h | h
    · have := bd2 h; omega
    · have := bd1 h; omega
  have FB : Hid (-79228162514264337593543950336 < f ∧ f < 79228162514264337593543950336) := fb
  have FE : Hid (f = x / y) := hfe
  have O1 : Hid (ord f 1099511627776 = -1) := by unfold Hid ord; rw [if_pos (by omega)]
  have O2 : Hid (ord f (-1099511627776) = -1) := by unfold Hid ord; rw [if_pos hf]
  have Sg : Hid ((if y = 0 then 0 else if y < 0 then -1 else 1 : Int) = 1) := by unfold Hid; rw [if_neg (by omega), if_neg (by omega)]
  have Xs : Hid (-79228162514264337593543950336 < x ∧ x < 79228162514264337593543950336) := by unfold Hid; omega
  have Ys : Hid (-79228162514264337593543950336 < y ∧ y < 79228162514264337593543950336) := by unfold Hid; omega
  clear hA hS hx hy hxy y0 yl hl hq xs bd1 bd2 fb hfe hf
  obtain ⟨n1, n2⟩ := two_new w
  have b0 : Below w.heap.size w ((w.alloc (.cells #[.bool false, .slice none 0 0] 45)).alloc (.cells #[.bool false, .slice none 0 0] 45)) := ((Below.refl _ _).alloc (Nat.le_refl _) _).alloc (by simp) _
  go_enter Tryd.func14, Tryd.ntmps14
  go_wp2_with fail
  generalize ((w.alloc (.cells #[.bool false, .slice none 0 0] 45)).alloc (.cells #[.bool false, .slice none 0 0] 45)) = W0 at *
  have N1 : Hid (Zb W0 w.heap.size) := n1
  have N2 : Hid (Zb W0 (w.heap.size + 1)) := n2
  have B0 : Hid (Below w.heap.size w W0) := b0
  clear n1 n2 b0
  refine Calls.mono (int_sign yb y _ (IntAt.below Hy.out B0)) ?_
  rintro e w0 ⟨rfl, rfl⟩
  rw [Sg.out]
  have X2 : Hid (IntAt w0 xb x) := IntAt.below Hx.out B0
  have Y2 : Hid (IntAt w0 yb y) := IntAt.below Hy.out B0
  have K2 : Hid (Kn [xb, yb] w w0) := Kn.of B0.out
  go_wp2_with fail
  refine Calls.mono (int_divmod A1 S1 w.heap.size xb yb (w.heap.size + 1) x y _ N1 N2 (by omega) X2 Y2 Y0 Yl Hl Hq) ?_
  rintro e w3 ⟨rfl, hi3, hk3⟩
  rw [← FE.out] at hi3
  have Q3 : Hid (IntAt w3 w.heap.size f) := hi3
  have K3 : Hid (Kn [xb, yb] w w3) := K2.out.low hk3 (fun z hz hlt => by
    rcases List.mem_cons.1 hz with rfl | hz
    · omega
    · have := List.mem_singleton.1 hz; omega)
  clear hi3 hk3
  go_wp2_with fail
  refine Calls.mono (big_int 1099511627776 _ (by omega) (by omega)) ?_
  rintro e w4 ⟨rfl, hi4, hb4, hl4⟩
  have M4 : Hid (IntAt w4 w3.heap.size 1099511627776) := hi4
  have Q4 : Hid (IntAt w4 w.heap.size f) := IntAt.below Q3.out hb4
  have K4 : Hid (Kn [xb, yb] w w4) := K3.out.trans (Kn.of hb4)
  clear hi4 hb4 hl4
  go_wp2_with fail
  refine Calls.mono (big_int (-1099511627776) _ (by omega) (by omega)) ?_
  rintro e w5 ⟨rfl, hi5, hb5, hl5⟩
  have L5 : Hid (IntAt w5 w4.heap.size (-1099511627776)) := hi5
  have M5 : Hid (IntAt w5 w3.heap.size 1099511627776) := IntAt.below M4.out hb5
  have Q5 : Hid (IntAt w5 w.heap.size f) := IntAt.below Q4.out hb5
  have K5 : Hid (Kn [xb, yb] w w5) := K4.out.trans (Kn.of hb5)
  clear hi5 hb5 hl5
  go_wp2_with fail
  refine Calls.mono (int_cmp w.heap.size w3.heap.size f 1099511627776 _ Q5 M5 FB.out.1 FB.out.2 (by omega) (by omega)) ?_
  rintro e w6 ⟨rfl, hb6⟩
  have L6 : Hid (IntAt w6 w4.heap.size (-1099511627776)) := IntAt.below L5.out hb6
  have Q6 : Hid (IntAt w6 w.heap.size f) := IntAt.below Q5.out hb6
  have K6 : Hid (Kn [xb, yb] w w6) := K5.out.trans (Kn.of hb6)
  clear hb6
  rw [O1.out]
  go_wp2_with fail
  refine Calls.mono (int_cmp w.heap.size w4.heap.size f (-1099511627776) _ Q6 L6 FB.out.1 FB.out.2 (by omega) (by omega)) ?_
  rintro e w7 ⟨rfl, hb7⟩
  have Q7 : Hid (IntAt w7 w.heap.size f) := IntAt.below Q6.out hb7
  have K7 : Hid (Kn [xb, yb] w w7) := K6.out.trans (Kn.of hb7)
  clear hb7
  rw [O2.out]
  go_wp2
  go_ret2
  exact ⟨rfl, K7⟩

set_option maxHeartbeats 2000000 in
theorem floor_pos_in (hA : AddSaid) (hS : SubSaid) (xb yb : Nat) (x y : Int) (w : World) (hx : IntAt w xb x) (hy : IntAt w yb y) (hxy : xb ≠ yb) (y0 : 0 < y) (yl : y < 18446744073709551616)
    (hl : (-18446744073709551616 < x ∧ x < 18446744073709551616) ∨ (-79228162514264337593543950336 < x ∧ x < 79228162514264337593543950336 ∧ y < 4294967296)) (hq : Int.tmod x y < 0 → -18446744073709551616 < Int.tdiv x y) (hf1 : -1099511627776 ≤ x / y) (hf2 : x / y ≤ 1099511627776) :
    Calls Tryd.prog 14 #[.pointer (some ⟨xb, 0, none⟩), .pointer (some ⟨yb, 0, none⟩)] w fun e w' => e = .returned (.tuple #[.int .i64 (x / y), .int .i64 0]) ∧ Kn [xb, yb] w w' := by
  have xs : -79228162514264337593543950336 < x ∧ x < 79228162514264337593543950336 := by omega
  have A1 : Hid AddSaid := hA
  have S1 : Hid SubSaid := hS
  have Hx : Hid (IntAt w xb x) := hx
  have Hy : Hid (IntAt w yb y) := hy
  have Hxy : Hid (xb ≠ yb) := hxy
  have Y0 : Hid (0 < y) := y0
  have Yl : Hid (y < 18446744073709551616) := yl
  have Hl : Hid ((-18446744073709551616 < x ∧ x < 18446744073709551616) ∨ (-79228162514264337593543950336 < x ∧ x < 79228162514264337593543950336 ∧ y < 4294967296)) := hl
  have Hq : Hid (Int.tmod x y < 0 → -18446744073709551616 < Int.tdiv x y) := hq
  obtain ⟨bd1, bd2⟩ := ediv_bd x y y0
  obtain ⟨f, hfe⟩ : ∃ f, f = x / y := ⟨_, rfl⟩
  rw [← hfe] at bd1 bd2 hf1 hf2 ⊢
  have fb : -79228162514264337593543950336 < f ∧ f < 79228162514264337593543950336 := by
    rcases Int.lt_or_le x 0 with h | h
    · have := bd2 h; omega
    · have := bd1 h; omega
  have FB : Hid (-79228162514264337593543950336 < f ∧ f < 79228162514264337593543950336) := fb
  have FE : Hid (f = x / y) := hfe
  have o1 : ord f 1099511627776 ≤ 0 := by exact ord_le f _ hf2
  have o2 : 0 ≤ ord f (-1099511627776) := by unfold ord; rw [if_neg (by omega)]; split <;> omega
  have ob1 := (ord_bd f 1099511627776).1
  have ob2 := (ord_bd f (-1099511627776)).2
  have F1 : Hid (-1099511627776 ≤ f) := hf1
  have F2 : Hid (f ≤ 1099511627776) := hf2
  have Sg : Hid ((if y = 0 then 0 else if y < 0 then -1 else 1 : Int) = 1) := by unfold Hid; rw [if_neg (by omega), if_neg (by omega)]
  have Xs : Hid (-79228162514264337593543950336 < x ∧ x < 79228162514264337593543950336) := by unfold Hid; omega
  have Ys : Hid (-79228162514264337593543950336 < y ∧ y < 79228162514264337593543950336) := by unfold Hid; omega
  clear hA hS hx hy hxy y0 yl hl hq xs bd1 bd2 fb hfe hf1 hf2
  obtain ⟨n1, n2⟩ := two_new w
  have b0 : Below w.heap.size w ((w.alloc (.cells #[.bool false, .slice none 0 0] 45)).alloc (.cells #[.bool false, .slice none 0 0] 45)) := ((Below.refl _ _).alloc (Nat.le_refl _) _).alloc (by simp) _
  go_enter Tryd.func14, Tryd.ntmps14
  go_wp2_with fail
  generalize ((w.alloc (.cells #[.bool false, .slice none 0 0] 45)).alloc (.cells #[.bool false, .slice none 0 0] 45)) = W0 at *
  have N1 : Hid (Zb W0 w.heap.size) := n1
  have N2 : Hid (Zb W0 (w.heap.size + 1)) := n2
  have B0 : Hid (Below w.heap.size w W0) := b0
  clear n1 n2 b0
  refine Calls.mono (int_sign yb y _ (IntAt.below Hy.out B0)) ?_
  rintro e w0 ⟨rfl, rfl⟩
  rw [Sg.out]
  have X2 : Hid (IntAt w0 xb x) := IntAt.below Hx.out B0
  have Y2 : Hid (IntAt w0 yb y) := IntAt.below Hy.out B0
  have K2 : Hid (Kn [xb, yb] w w0) := Kn.of B0.out
  go_wp2_with fail
  refine Calls.mono (int_divmod A1 S1 w.heap.size xb yb (w.heap.size + 1) x y _ N1 N2 (by omega) X2 Y2 Y0 Yl Hl Hq) ?_
  rintro e w3 ⟨rfl, hi3, hk3⟩
  rw [← FE.out] at hi3
  have Q3 : Hid (IntAt w3 w.heap.size f) := hi3
  have K3 : Hid (Kn [xb, yb] w w3) := K2.out.low hk3 (fun z hz hlt => by
    rcases List.mem_cons.1 hz with rfl | hz
    · omega
    · have := List.mem_singleton.1 hz; omega)
  clear hi3 hk3
  go_wp2_with fail
  refine Calls.mono (big_int 1099511627776 _ (by omega) (by omega)) ?_
  rintro e w4 ⟨rfl, hi4, hb4, hl4⟩
  have M4 : Hid (IntAt w4 w3.heap.size 1099511627776) := hi4
  have Q4 : Hid (IntAt w4 w.heap.size f) := IntAt.below Q3.out hb4
  have K4 : Hid (Kn [xb, yb] w w4) := K3.out.trans (Kn.of hb4)
  clear hi4 hb4 hl4
  go_wp2_with fail
  refine Calls.mono (big_int (-1099511627776) _ (by omega) (by omega)) ?_
  rintro e w5 ⟨rfl, hi5, hb5, hl5⟩
  have L5 : Hid (IntAt w5 w4.heap.size (-1099511627776)) := hi5
  have M5 : Hid (IntAt w5 w3.heap.size 1099511627776) := IntAt.below M4.out hb5
  have Q5 : Hid (IntAt w5 w.heap.size f) := IntAt.below Q4.out hb5
  have K5 : Hid (Kn [xb, yb] w w5) := K4.out.trans (Kn.of hb5)
  clear hi5 hb5 hl5
  go_wp2_with fail
  refine Calls.mono (int_cmp w.heap.size w3.heap.size f 1099511627776 _ Q5 M5 FB.out.1 FB.out.2 (by omega) (by omega)) ?_
  rintro e w6 ⟨rfl, hb6⟩
  have L6 : Hid (IntAt w6 w4.heap.size (-1099511627776)) := IntAt.below L5.out hb6
  have Q6 : Hid (IntAt w6 w.heap.size f) := IntAt.below Q5.out hb6
  have K6 : Hid (Kn [xb, yb] w w6) := K5.out.trans (Kn.of hb6)
  clear hb6
  generalize ord f 1099511627776 = u1 at *
  go_wp2_with fail
  refine Calls.mono (int_cmp w.heap.size w4.heap.size f (-1099511627776) _ Q6 L6 FB.out.1 FB.out.2 (by omega) (by omega)) ?_
  rintro e w7 ⟨rfl, hb7⟩
  have Q7 : Hid (IntAt w7 w.heap.size f) := IntAt.below Q6.out hb7
  have K7 : Hid (Kn [xb, yb] w w7) := K6.out.trans (Kn.of hb7)
  clear hb7
  generalize ord f (-1099511627776) = u2 at *
  go_wp2_with fail
  refine Calls.mono (int_i64 w.heap.size f _ Q7 F1 F2) ?_
  rintro e w8 ⟨rfl, rfl⟩
  go_wp2
  go_ret2
  exact ⟨rfl, K7⟩

set_option maxHeartbeats 2000000 in
theorem floor_neg_hi (hA : AddSaid) (hS : SubSaid) (xb yb : Nat) (x y : Int) (w : World) (hx : IntAt w xb x) (hy : IntAt w yb y) (hxy : xb ≠ yb) (y0 : 0 < (-y)) (yl : (-y) < 18446744073709551616)
    (hl : (-18446744073709551616 < (-x) ∧ (-x) < 18446744073709551616) ∨ (-79228162514264337593543950336 < (-x) ∧ (-x) < 79228162514264337593543950336 ∧ (-y) < 4294967296)) (hq : Int.tmod (-x) (-y) < 0 → -18446744073709551616 < Int.tdiv (-x) (-y)) (hf : 1099511627776 < (-x) / (-y)) :
    Calls Tryd.prog 14 #[.pointer (some ⟨xb, 0, none⟩), .pointer (some ⟨yb, 0, none⟩)] w fun e w' => e = .returned (.tuple #[.int .i64 0, .int .i64 4]) ∧ Kn [xb, yb] w w' := by
  have xs : -79228162514264337593543950336 < (-x) ∧ (-x) < 79228162514264337593543950336 := by omega
  have A1 : Hid AddSaid := hA
  have S1 : Hid SubSaid := hS
  have Hx : Hid (IntAt w xb x) := hx
  have Hy : Hid (IntAt w yb y) := hy
  have Hxy : Hid (xb ≠ yb) := hxy
  have Y0 : Hid (0 < (-y)) := y0
  have Yl : Hid ((-y) < 18446744073709551616) := yl
  have Hl : Hid ((-18446744073709551616 < (-x) ∧ (-x) < 18446744073709551616) ∨ (-79228162514264337593543950336 < (-x) ∧ (-x) < 79228162514264337593543950336 ∧ (-y) < 4294967296)) := hl
  have Hq : Hid (Int.tmod (-x) (-y) < 0 → -18446744073709551616 < Int.tdiv (-x) (-y)) := hq
  obtain ⟨bd1, bd2⟩ := ediv_bd (-x) (-y) y0
  obtain ⟨f, hfe⟩ : ∃ f, f = (-x) / (-y) := ⟨_, rfl⟩
  rw [← hfe] at bd1 bd2 hf
  have fb : -79228162514264337593543950336 < f ∧ f < 79228162514264337593543950336 := by
    rcases Int.lt_or_le (-x) 0 with h | h
    · have := bd2 h; omega
    · have := bd1 h; omega
  have FB : Hid (-79228162514264337593543950336 < f ∧ f < 79228162514264337593543950336) := fb
  have FE : Hid (f = (-x) / (-y)) := hfe
  have O1 : Hid (ord f 1099511627776 = 1) := by unfold Hid ord; rw [if_neg (by omega), if_pos hf]
  have Sg : Hid ((if y = 0 then 0 else if y < 0 then -1 else 1 : Int) = -1) := by unfold Hid; rw [if_neg (by omega), if_pos (by omega)]
  have Xs : Hid (-79228162514264337593543950336 < x ∧ x < 79228162514264337593543950336) := by unfold Hid; omega
  have Ys : Hid (-79228162514264337593543950336 < y ∧ y < 79228162514264337593543950336) := by unfold Hid; omega
  clear hA hS hx hy hxy y0 yl hl hq xs bd1 bd2 fb hfe hf
  obtain ⟨n1, n2⟩ := two_new w
  have b0 : Below w.heap.size w ((w.alloc (.cells #[.bool false, .slice none 0 0] 45)).alloc (.cells #[.bool false, .slice none 0 0] 45)) := ((Below.refl _ _).alloc (Nat.le_refl _) _).alloc (by simp) _
  go_enter Tryd.func14, Tryd.ntmps14
  go_wp2_with fail
  generalize ((w.alloc (.cells #[.bool false, .slice none 0 0] 45)).alloc (.cells #[.bool false, .slice none 0 0] 45)) = W0 at *
  have N1 : Hid (Zb W0 w.heap.size) := n1
  have N2 : Hid (Zb W0 (w.heap.size + 1)) := n2
  have B0 : Hid (Below w.heap.size w W0) := b0
  clear n1 n2 b0
  refine Calls.mono (int_sign yb y _ (IntAt.below Hy.out B0)) ?_
  rintro e w0 ⟨rfl, rfl⟩
  rw [Sg.out]
  go_wp2_with fail
  refine Calls.mono (int_neg xb xb x _ (IntAt.below Hx.out B0).zb (IntAt.below Hx.out B0) Xs) ?_
  rintro e w1 ⟨rfl, hi1, hk1⟩
  have X1 : Hid (IntAt w1 xb (-x)) := hi1
  have Y1 : Hid (IntAt w1 yb y) := IntAt.kp (IntAt.below Hy.out B0) hk1 (IntAt.below Hx.out B0).zb (Ne.symm Hxy)
  have P1 : Hid (Zb w1 w.heap.size) := Zb.kp N1.out hk1 (by have := Hx.out.lt; omega)
  have P2 : Hid (Zb w1 (w.heap.size + 1)) := Zb.kp N2.out hk1 (by have := Hx.out.lt; omega)
  have K1 : Hid (Kn [xb, yb] w w1) := (Kn.of B0.out).trans (Kn.p hk1 (fun _ => by simp))
  clear hi1 hk1
  go_wp2_with fail
  refine Calls.mono (int_neg yb yb y _ Y1.out.zb Y1 Ys) ?_
  rintro e w2 ⟨rfl, hi2, hk2⟩
  have Y2 : Hid (IntAt w2 yb (-y)) := hi2
  have X2 : Hid (IntAt w2 xb (-x)) := IntAt.kp X1.out hk2 Y1.out.zb Hxy
  have Q1 : Hid (Zb w2 w.heap.size) := Zb.kp P1.out hk2 (by have := Hy.out.lt; omega)
  have Q2 : Hid (Zb w2 (w.heap.size + 1)) := Zb.kp P2.out hk2 (by have := Hy.out.lt; omega)
  have K2 : Hid (Kn [xb, yb] w w2) := K1.out.trans (Kn.p hk2 (fun _ => by simp))
  clear hi2 hk2
  go_wp2_with fail
  refine Calls.mono (int_divmod A1 S1 w.heap.size xb yb (w.heap.size + 1) (-x) (-y) _ Q1 Q2 (by omega) X2 Y2 Y0 Yl Hl Hq) ?_
  rintro e w3 ⟨rfl, hi3, hk3⟩
  rw [← FE.out] at hi3
  have Q3 : Hid (IntAt w3 w.heap.size f) := hi3
  have K3 : Hid (Kn [xb, yb] w w3) := K2.out.low hk3 (fun z hz hlt => by
    rcases List.mem_cons.1 hz with rfl | hz
    · omega
    · have := List.mem_singleton.1 hz; omega)
  clear hi3 hk3
  go_wp2_with fail
  refine Calls.mono (big_int 1099511627776 _ (by omega) (by omega)) ?_
  rintro e w4 ⟨rfl, hi4, hb4, hl4⟩
  have M4 : Hid (IntAt w4 w3.heap.size 1099511627776) := hi4
  have Q4 : Hid (IntAt w4 w.heap.size f) := IntAt.below Q3.out hb4
  have K4 : Hid (Kn [xb, yb] w w4) := K3.out.trans (Kn.of hb4)
  clear hi4 hb4 hl4
  go_wp2_with fail
  refine Calls.mono (big_int (-1099511627776) _ (by omega) (by omega)) ?_
  rintro e w5 ⟨rfl, hi5, hb5, hl5⟩
  have L5 : Hid (IntAt w5 w4.heap.size (-1099511627776)) := hi5
  have M5 : Hid (IntAt w5 w3.heap.size 1099511627776) := IntAt.below M4.out hb5
  have Q5 : Hid (IntAt w5 w.heap.size f) := IntAt.below Q4.out hb5
  have K5 : Hid (Kn [xb, yb] w w5) := K4.out.trans (Kn.of hb5)
  clear hi5 hb5 hl5
  go_wp2_with fail
  refine Calls.mono (int_cmp w.heap.size w3.heap.size f 1099511627776 _ Q5 M5 FB.out.1 FB.out.2 (by omega) (by omega)) ?_
  rintro e w6 ⟨rfl, hb6⟩
  have L6 : Hid (IntAt w6 w4.heap.size (-1099511627776)) := IntAt.below L5.out hb6
  have Q6 : Hid (IntAt w6 w.heap.size f) := IntAt.below Q5.out hb6
  have K6 : Hid (Kn [xb, yb] w w6) := K5.out.trans (Kn.of hb6)
  clear hb6
  rw [O1.out]
  go_wp2
  go_ret2
  exact ⟨rfl, K6⟩

set_option maxHeartbeats 2000000 in
theorem floor_neg_lo (hA : AddSaid) (hS : SubSaid) (xb yb : Nat) (x y : Int) (w : World) (hx : IntAt w xb x) (hy : IntAt w yb y) (hxy : xb ≠ yb) (y0 : 0 < (-y)) (yl : (-y) < 18446744073709551616)
    (hl : (-18446744073709551616 < (-x) ∧ (-x) < 18446744073709551616) ∨ (-79228162514264337593543950336 < (-x) ∧ (-x) < 79228162514264337593543950336 ∧ (-y) < 4294967296)) (hq : Int.tmod (-x) (-y) < 0 → -18446744073709551616 < Int.tdiv (-x) (-y)) (hf : (-x) / (-y) < -1099511627776) :
    Calls Tryd.prog 14 #[.pointer (some ⟨xb, 0, none⟩), .pointer (some ⟨yb, 0, none⟩)] w fun e w' => e = .returned (.tuple #[.int .i64 0, .int .i64 4]) ∧ Kn [xb, yb] w w' := by
  have xs : -79228162514264337593543950336 < (-x) ∧ (-x) < 79228162514264337593543950336 := by omega
  have A1 : Hid AddSaid := hA
  have S1 : Hid SubSaid := hS
  have Hx : Hid (IntAt w xb x) := hx
  have Hy : Hid (IntAt w yb y) := hy
  have Hxy : Hid (xb ≠ yb) := hxy
  have Y0 : Hid (0 < (-y)) := y0
  have Yl : Hid ((-y) < 18446744073709551616) := yl
  have Hl : Hid ((-18446744073709551616 < (-x) ∧ (-x) < 18446744073709551616) ∨ (-79228162514264337593543950336 < (-x) ∧ (-x) < 79228162514264337593543950336 ∧ (-y) < 4294967296)) := hl
  have Hq : Hid (Int.tmod (-x) (-y) < 0 → -18446744073709551616 < Int.tdiv (-x) (-y)) := hq
  obtain ⟨bd1, bd2⟩ := ediv_bd (-x) (-y) y0
  obtain ⟨f, hfe⟩ : ∃ f, f = (-x) / (-y) := ⟨_, rfl⟩
  rw [← hfe] at bd1 bd2 hf
  have fb : -79228162514264337593543950336 < f ∧ f < 79228162514264337593543950336 := by
    rcases Int.lt_or_le (-x) 0 with h | h
    · have := bd2 h; omega
    · have := bd1 h; omega
  have FB : Hid (-79228162514264337593543950336 < f ∧ f < 79228162514264337593543950336) := fb
  have FE : Hid (f = (-x) / (-y)) := hfe
  have O1 : Hid (ord f 1099511627776 = -1) := by unfold Hid ord; rw [if_pos (by omega)]
  have O2 : Hid (ord f (-1099511627776) = -1) := by unfold Hid ord; rw [if_pos hf]
  have Sg : Hid ((if y = 0 then 0 else if y < 0 then -1 else 1 : Int) = -1) := by unfold Hid; rw [if_neg (by omega), if_pos (by omega)]
  have Xs : Hid (-79228162514264337593543950336 < x ∧ x < 79228162514264337593543950336) := by unfold Hid; omega
  have Ys : Hid (-79228162514264337593543950336 < y ∧ y < 79228162514264337593543950336) := by unfold Hid; omega
  clear hA hS hx hy hxy y0 yl hl hq xs bd1 bd2 fb hfe hf
  obtain ⟨n1, n2⟩ := two_new w
  have b0 : Below w.heap.size w ((w.alloc (.cells #[.bool false, .slice none 0 0] 45)).alloc (.cells #[.bool false, .slice none 0 0] 45)) := ((Below.refl _ _).alloc (Nat.le_refl _) _).alloc (by simp) _
  go_enter Tryd.func14, Tryd.ntmps14
  go_wp2_with fail
  generalize ((w.alloc (.cells #[.bool false, .slice none 0 0] 45)).alloc (.cells #[.bool false, .slice none 0 0] 45)) = W0 at *
  have N1 : Hid (Zb W0 w.heap.size) := n1
  have N2 : Hid (Zb W0 (w.heap.size + 1)) := n2
  have B0 : Hid (Below w.heap.size w W0) := b0
  clear n1 n2 b0
  refine Calls.mono (int_sign yb y _ (IntAt.below Hy.out B0)) ?_
  rintro e w0 ⟨rfl, rfl⟩
  rw [Sg.out]
  go_wp2_with fail
  refine Calls.mono (int_neg xb xb x _ (IntAt.below Hx.out B0).zb (IntAt.below Hx.out B0) Xs) ?_
  rintro e w1 ⟨rfl, hi1, hk1⟩
  have X1 : Hid (IntAt w1 xb (-x)) := hi1
  have Y1 : Hid (IntAt w1 yb y) := IntAt.kp (IntAt.below Hy.out B0) hk1 (IntAt.below Hx.out B0).zb (Ne.symm Hxy)
  have P1 : Hid (Zb w1 w.heap.size) := Zb.kp N1.out hk1 (by have := Hx.out.lt; omega)
  have P2 : Hid (Zb w1 (w.heap.size + 1)) := Zb.kp N2.out hk1 (by have := Hx.out.lt; omega)
  have K1 : Hid (Kn [xb, yb] w w1) := (Kn.of B0.out).trans (Kn.p hk1 (fun _ => by simp))
  clear hi1 hk1
  go_wp2_with fail
  refine Calls.mono (int_neg yb yb y _ Y1.out.zb Y1 Ys) ?_
  rintro e w2 ⟨rfl, hi2, hk2⟩
  have Y2 : Hid (IntAt w2 yb (-y)) := hi2
  have X2 : Hid (IntAt w2 xb (-x)) := IntAt.kp X1.out hk2 Y1.out.zb Hxy
  have Q1 : Hid (Zb w2 w.heap.size) := Zb.kp P1.out hk2 (by have := Hy.out.lt; omega)
  have Q2 : Hid (Zb w2 (w.heap.size + 1)) := Zb.kp P2.out hk2 (by have := Hy.out.lt; omega)
  have K2 : Hid (Kn [xb, yb] w w2) := K1.out.trans (Kn.p hk2 (fun _ => by simp))
  clear hi2 hk2
  go_wp2_with fail
  refine Calls.mono (int_divmod A1 S1 w.heap.size xb yb (w.heap.size + 1) (-x) (-y) _ Q1 Q2 (by omega) X2 Y2 Y0 Yl Hl Hq) ?_
  rintro e w3 ⟨rfl, hi3, hk3⟩
  rw [← FE.out] at hi3
  have Q3 : Hid (IntAt w3 w.heap.size f) := hi3
  have K3 : Hid (Kn [xb, yb] w w3) := K2.out.low hk3 (fun z hz hlt => by
    rcases List.mem_cons.1 hz with rfl | hz
    · omega
    · have := List.mem_singleton.1 hz; omega)
  clear hi3 hk3
  go_wp2_with fail
  refine Calls.mono (big_int 1099511627776 _ (by omega) (by omega)) ?_
  rintro e w4 ⟨rfl, hi4, hb4, hl4⟩
  have M4 : Hid (IntAt w4 w3.heap.size 1099511627776) := hi4
  have Q4 : Hid (IntAt w4 w.heap.size f) := IntAt.below Q3.out hb4
  have K4 : Hid (Kn [xb, yb] w w4) := K3.out.trans (Kn.of hb4)
  clear hi4 hb4 hl4
  go_wp2_with fail
  refine Calls.mono (big_int (-1099511627776) _ (by omega) (by omega)) ?_
  rintro e w5 ⟨rfl, hi5, hb5, hl5⟩
  have L5 : Hid (IntAt w5 w4.heap.size (-1099511627776)) := hi5
  have M5 : Hid (IntAt w5 w3.heap.size 1099511627776) := IntAt.below M4.out hb5
  have Q5 : Hid (IntAt w5 w.heap.size f) := IntAt.below Q4.out hb5
  have K5 : Hid (Kn [xb, yb] w w5) := K4.out.trans (Kn.of hb5)
  clear hi5 hb5 hl5
  go_wp2_with fail
  refine Calls.mono (int_cmp w.heap.size w3.heap.size f 1099511627776 _ Q5 M5 FB.out.1 FB.out.2 (by omega) (by omega)) ?_
  rintro e w6 ⟨rfl, hb6⟩
  have L6 : Hid (IntAt w6 w4.heap.size (-1099511627776)) := IntAt.below L5.out hb6
  have Q6 : Hid (IntAt w6 w.heap.size f) := IntAt.below Q5.out hb6
  have K6 : Hid (Kn [xb, yb] w w6) := K5.out.trans (Kn.of hb6)
  clear hb6
  rw [O1.out]
  go_wp2_with fail
  refine Calls.mono (int_cmp w.heap.size w4.heap.size f (-1099511627776) _ Q6 L6 FB.out.1 FB.out.2 (by omega) (by omega)) ?_
  rintro e w7 ⟨rfl, hb7⟩
  have Q7 : Hid (IntAt w7 w.heap.size f) := IntAt.below Q6.out hb7
  have K7 : Hid (Kn [xb, yb] w w7) := K6.out.trans (Kn.of hb7)
  clear hb7
  rw [O2.out]
  go_wp2
  go_ret2
  exact ⟨rfl, K7⟩

set_option maxHeartbeats 2000000 in
theorem floor_neg_in (hA : AddSaid) (hS : SubSaid) (xb yb : Nat) (x y : Int) (w : World) (hx : IntAt w xb x) (hy : IntAt w yb y) (hxy : xb ≠ yb) (y0 : 0 < (-y)) (yl : (-y) < 18446744073709551616)
    (hl : (-18446744073709551616 < (-x) ∧ (-x) < 18446744073709551616) ∨ (-79228162514264337593543950336 < (-x) ∧ (-x) < 79228162514264337593543950336 ∧ (-y) < 4294967296)) (hq : Int.tmod (-x) (-y) < 0 → -18446744073709551616 < Int.tdiv (-x) (-y)) (hf1 : -1099511627776 ≤ (-x) / (-y)) (hf2 : (-x) / (-y) ≤ 1099511627776) :
    Calls Tryd.prog 14 #[.pointer (some ⟨xb, 0, none⟩), .pointer (some ⟨yb, 0, none⟩)] w fun e w' => e = .returned (.tuple #[.int .i64 ((-x) / (-y)), .int .i64 0]) ∧ Kn [xb, yb] w w' := by
  have xs : -79228162514264337593543950336 < (-x) ∧ (-x) < 79228162514264337593543950336 := by omega
  have A1 : Hid AddSaid := hA
  have S1 : Hid SubSaid := hS
  have Hx : Hid (IntAt w xb x) := hx
  have Hy : Hid (IntAt w yb y) := hy
  have Hxy : Hid (xb ≠ yb) := hxy
  have Y0 : Hid (0 < (-y)) := y0
  have Yl : Hid ((-y) < 18446744073709551616) := yl
  have Hl : Hid ((-18446744073709551616 < (-x) ∧ (-x) < 18446744073709551616) ∨ (-79228162514264337593543950336 < (-x) ∧ (-x) < 79228162514264337593543950336 ∧ (-y) < 4294967296)) := hl
  have Hq : Hid (Int.tmod (-x) (-y) < 0 → -18446744073709551616 < Int.tdiv (-x) (-y)) := hq
  obtain ⟨bd1, bd2⟩ := ediv_bd (-x) (-y) y0
  obtain ⟨f, hfe⟩ : ∃ f, f = (-x) / (-y) := ⟨_, rfl⟩
  rw [← hfe] at bd1 bd2 hf1 hf2 ⊢
  have fb : -79228162514264337593543950336 < f ∧ f < 79228162514264337593543950336 := by
    rcases Int.lt_or_le (-x) 0 with h | h
    · have := bd2 h; omega
    · have := bd1 h; omega
  have FB : Hid (-79228162514264337593543950336 < f ∧ f < 79228162514264337593543950336) := fb
  have FE : Hid (f = (-x) / (-y)) := hfe
  have o1 : ord f 1099511627776 ≤ 0 := by exact ord_le f _ hf2
  have o2 : 0 ≤ ord f (-1099511627776) := by unfold ord; rw [if_neg (by omega)]; split <;> omega
  have ob1 := (ord_bd f 1099511627776).1
  have ob2 := (ord_bd f (-1099511627776)).2
  have F1 : Hid (-1099511627776 ≤ f) := hf1
  have F2 : Hid (f ≤ 1099511627776) := hf2
  have Sg : Hid ((if y = 0 then 0 else if y < 0 then -1 else 1 : Int) = -1) := by unfold Hid; rw [if_neg (by omega), if_pos (by omega)]
  have Xs : Hid (-79228162514264337593543950336 < x ∧ x < 79228162514264337593543950336) := by unfold Hid; omega
  have Ys : Hid (-79228162514264337593543950336 < y ∧ y < 79228162514264337593543950336) := by unfold Hid; omega
  clear hA hS hx hy hxy y0 yl hl hq xs bd1 bd2 fb hfe hf1 hf2
  obtain ⟨n1, n2⟩ := two_new w
  have b0 : Below w.heap.size w ((w.alloc (.cells #[.bool false, .slice none 0 0] 45)).alloc (.cells #[.bool false, .slice none 0 0] 45)) := ((Below.refl _ _).alloc (Nat.le_refl _) _).alloc (by simp) _
  go_enter Tryd.func14, Tryd.ntmps14
  go_wp2_with fail
  generalize ((w.alloc (.cells #[.bool false, .slice none 0 0] 45)).alloc (.cells #[.bool false, .slice none 0 0] 45)) = W0 at *
  have N1 : Hid (Zb W0 w.heap.size) := n1
  have N2 : Hid (Zb W0 (w.heap.size + 1)) := n2
  have B0 : Hid (Below w.heap.size w W0) := b0
  clear n1 n2 b0
  refine Calls.mono (int_sign yb y _ (IntAt.below Hy.out B0)) ?_
  rintro e w0 ⟨rfl, rfl⟩
  rw [Sg.out]
  go_wp2_with fail
  refine Calls.mono (int_neg xb xb x _ (IntAt.below Hx.out B0).zb (IntAt.below Hx.out B0) Xs) ?_
  rintro e w1 ⟨rfl, hi1, hk1⟩
  have X1 : Hid (IntAt w1 xb (-x)) := hi1
  have Y1 : Hid (IntAt w1 yb y) := IntAt.kp (IntAt.below Hy.out B0) hk1 (IntAt.below Hx.out B0).zb (Ne.symm Hxy)
  have P1 : Hid (Zb w1 w.heap.size) := Zb.kp N1.out hk1 (by have := Hx.out.lt; omega)
  have P2 : Hid (Zb w1 (w.heap.size + 1)) := Zb.kp N2.out hk1 (by have := Hx.out.lt; omega)
  have K1 : Hid (Kn [xb, yb] w w1) := (Kn.of B0.out).trans (Kn.p hk1 (fun _ => by simp))
  clear hi1 hk1
  go_wp2_with fail
  refine Calls.mono (int_neg yb yb y _ Y1.out.zb Y1 Ys) ?_
  rintro e w2 ⟨rfl, hi2, hk2⟩
  have Y2 : Hid (IntAt w2 yb (-y)) := hi2
  have X2 : Hid (IntAt w2 xb (-x)) := IntAt.kp X1.out hk2 Y1.out.zb Hxy
  have Q1 : Hid (Zb w2 w.heap.size) := Zb.kp P1.out hk2 (by have := Hy.out.lt; omega)
  have Q2 : Hid (Zb w2 (w.heap.size + 1)) := Zb.kp P2.out hk2 (by have := Hy.out.lt; omega)
  have K2 : Hid (Kn [xb, yb] w w2) := K1.out.trans (Kn.p hk2 (fun _ => by simp))
  clear hi2 hk2
  go_wp2_with fail
  refine Calls.mono (int_divmod A1 S1 w.heap.size xb yb (w.heap.size + 1) (-x) (-y) _ Q1 Q2 (by omega) X2 Y2 Y0 Yl Hl Hq) ?_
  rintro e w3 ⟨rfl, hi3, hk3⟩
  rw [← FE.out] at hi3
  have Q3 : Hid (IntAt w3 w.heap.size f) := hi3
  have K3 : Hid (Kn [xb, yb] w w3) := K2.out.low hk3 (fun z hz hlt => by
    rcases List.mem_cons.1 hz with rfl | hz
    · omega
    · have := List.mem_singleton.1 hz; omega)
  clear hi3 hk3
  go_wp2_with fail
  refine Calls.mono (big_int 1099511627776 _ (by omega) (by omega)) ?_
  rintro e w4 ⟨rfl, hi4, hb4, hl4⟩
  have M4 : Hid (IntAt w4 w3.heap.size 1099511627776) := hi4
  have Q4 : Hid (IntAt w4 w.heap.size f) := IntAt.below Q3.out hb4
  have K4 : Hid (Kn [xb, yb] w w4) := K3.out.trans (Kn.of hb4)
  clear hi4 hb4 hl4
  go_wp2_with fail
  refine Calls.mono (big_int (-1099511627776) _ (by omega) (by omega)) ?_
  rintro e w5 ⟨rfl, hi5, hb5, hl5⟩
  have L5 : Hid (IntAt w5 w4.heap.size (-1099511627776)) := hi5
  have M5 : Hid (IntAt w5 w3.heap.size 1099511627776) := IntAt.below M4.out hb5
  have Q5 : Hid (IntAt w5 w.heap.size f) := IntAt.below Q4.out hb5
  have K5 : Hid (Kn [xb, yb] w w5) := K4.out.trans (Kn.of hb5)
  clear hi5 hb5 hl5
  go_wp2_with fail
  refine Calls.mono (int_cmp w.heap.size w3.heap.size f 1099511627776 _ Q5 M5 FB.out.1 FB.out.2 (by omega) (by omega)) ?_
  rintro e w6 ⟨rfl, hb6⟩
  have L6 : Hid (IntAt w6 w4.heap.size (-1099511627776)) := IntAt.below L5.out hb6
  have Q6 : Hid (IntAt w6 w.heap.size f) := IntAt.below Q5.out hb6
  have K6 : Hid (Kn [xb, yb] w w6) := K5.out.trans (Kn.of hb6)
  clear hb6
  generalize ord f 1099511627776 = u1 at *
  go_wp2_with fail
  refine Calls.mono (int_cmp w.heap.size w4.heap.size f (-1099511627776) _ Q6 L6 FB.out.1 FB.out.2 (by omega) (by omega)) ?_
  rintro e w7 ⟨rfl, hb7⟩
  have Q7 : Hid (IntAt w7 w.heap.size f) := IntAt.below Q6.out hb7
  have K7 : Hid (Kn [xb, yb] w w7) := K6.out.trans (Kn.of hb7)
  clear hb7
  generalize ord f (-1099511627776) = u2 at *
  go_wp2_with fail
  refine Calls.mono (int_i64 w.heap.size f _ Q7 F1 F2) ?_
  rintro e w8 ⟨rfl, rfl⟩
  go_wp2
  go_ret2
  exact ⟨rfl, K7⟩

/-- what floor answers, of numbers for which no long division is needed. -/
theorem floor_any (hA : AddSaid) (hS : SubSaid) (xb yb : Nat) (x y : Int) (w : World) (hx : IntAt w xb x) (hy : IntAt w yb y) (hxy : xb ≠ yb) (y0 : y ≠ 0) (yl : -18446744073709551616 < y ∧ y < 18446744073709551616)
    (hl : (-18446744073709551616 < x ∧ x < 18446744073709551616) ∨ (-79228162514264337593543950336 < x ∧ x < 79228162514264337593543950336 ∧ -4294967296 < y ∧ y < 4294967296)) (hq : ∀ t : Int, (t = x ∨ t = -x) → Int.tmod t (y.natAbs : Int) < 0 → -18446744073709551616 < Int.tdiv t (y.natAbs : Int)) :
    Calls Tryd.prog 14 #[.pointer (some ⟨xb, 0, none⟩), .pointer (some ⟨yb, 0, none⟩)] w fun e w' => (InL (Ma.flr x y) ∧ e = .returned (.tuple #[.int .i64 (Ma.flr x y), .int .i64 0]) ∨ ¬ InL (Ma.flr x y) ∧ e = .returned (.tuple #[.int .i64 0, .int .i64 4])) ∧ Kn [xb, yb] w w' := by
  by_cases hp : 0 < y
  · have ef : Ma.flr x y = x / y := by unfold Ma.flr; rw [if_pos hp]
    have ey : (y.natAbs : Int) = y := by omega
    rw [ey] at hq
    rw [ef]
    by_cases h1 : 1099511627776 < x / y
    · refine (floor_pos_hi hA hS xb yb x y w hx hy hxy hp (by omega) (by omega) (hq x (.inl rfl)) h1).mono ?_
      rintro e w1 ⟨rfl, k⟩
      exact ⟨.inr ⟨fun h => by have := h.2; omega, rfl⟩, k⟩
    · by_cases h2 : x / y < -1099511627776
      · refine (floor_pos_lo hA hS xb yb x y w hx hy hxy hp (by omega) (by omega) (hq x (.inl rfl)) h2).mono ?_
        rintro e w1 ⟨rfl, k⟩
        exact ⟨.inr ⟨fun h => by have := h.1; omega, rfl⟩, k⟩
      · refine (floor_pos_in hA hS xb yb x y w hx hy hxy hp (by omega) (by omega) (hq x (.inl rfl)) (by omega) (by omega)).mono ?_
        rintro e w1 ⟨rfl, k⟩
        exact ⟨.inl ⟨⟨by omega, by omega⟩, rfl⟩, k⟩
  · have ef : Ma.flr x y = (-x) / (-y) := by unfold Ma.flr; rw [if_neg hp]
    have ey : (y.natAbs : Int) = -y := by omega
    rw [ey] at hq
    rw [ef]
    by_cases h1 : 1099511627776 < (-x) / (-y)
    · refine (floor_neg_hi hA hS xb yb x y w hx hy hxy (by omega) (by omega) (by omega) (hq (-x) (.inr rfl)) h1).mono ?_
      rintro e w1 ⟨rfl, k⟩
      exact ⟨.inr ⟨fun h => by have := h.2; omega, rfl⟩, k⟩
    · by_cases h2 : (-x) / (-y) < -1099511627776
      · refine (floor_neg_lo hA hS xb yb x y w hx hy hxy (by omega) (by omega) (by omega) (hq (-x) (.inr rfl)) h2).mono ?_
        rintro e w1 ⟨rfl, k⟩
        exact ⟨.inr ⟨fun h => by have := h.1; omega, rfl⟩, k⟩
      · refine (floor_neg_in hA hS xb yb x y w hx hy hxy (by omega) (by omega) (by omega) (hq (-x) (.inr rfl)) (by omega) (by omega)).mono ?_
        rintro e w1 ⟨rfl, k⟩
        exact ⟨.inl ⟨⟨by omega, by omega⟩, rfl⟩, k⟩
end Go.Proofs.YthdpafcodmlenaaDoor
