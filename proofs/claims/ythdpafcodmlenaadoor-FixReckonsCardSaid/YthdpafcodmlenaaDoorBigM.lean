/- Whole numbers of any size: what DivMod does, where it needs no long division. -/
import Derived.Test.YthdpafcodmlenaaDoorBigL
namespace Go.Proofs.YthdpafcodmlenaaDoor
open Go.RowKit

set_option maxHeartbeats 2000000 in
theorem int_divmod (hA : AddSaid) (hS : SubSaid) (z xb yb m : Nat) (x y : Int) (w : World) (hz : Zb w z) (hm : Zb w m) (hzm : z ≠ m) (hx : IntAt w xb x) (hy : IntAt w yb y) (y0 : 0 < y) (yl : y < 18446744073709551616)
    (hl : (-18446744073709551616 < x ∧ x < 18446744073709551616) ∨ (-79228162514264337593543950336 < x ∧ x < 79228162514264337593543950336 ∧ y < 4294967296)) (hq : x.tmod y < 0 → -18446744073709551616 < x.tdiv y) :
    Calls Tryd.prog 26 #[.pointer (some ⟨z, 0, none⟩), .pointer (some ⟨xb, 0, none⟩), .pointer (some ⟨yb, 0, none⟩), .pointer (some ⟨m, 0, none⟩)] w fun e w' => e = .returned (.tuple #[.pointer (some ⟨z, 0, none⟩), .pointer (some ⟨m, 0, none⟩)]) ∧ IntAt w' z (x / y) ∧ Kn [z, m] w w' := by
  have A1 : Hid AddSaid := hA
  have S1 : Hid SubSaid := hS
  have Hz : Hid (Zb w z) := hz
  have Hm : Hid (Zb w m) := hm
  have Hzm : Hid (z ≠ m) := hzm
  have Hx : Hid (IntAt w xb x) := hx
  have Hy : Hid (IntAt w yb y) := hy
  have Y0 : Hid (0 < y) := y0
  have Yl : Hid (y < 18446744073709551616) := yl
  have Hl : Hid ((-18446744073709551616 < x ∧ x < 18446744073709551616) ∨ (-79228162514264337593543950336 < x ∧ x < 79228162514264337593543950336 ∧ y < 4294967296)) := hl
  have Hq : Hid (x.tmod y < 0 → -18446744073709551616 < x.tdiv y) := hq
  clear hA hS hz hm hzm hx hy y0 yl hl hq
  go_enter Tryd.func26, Tryd.ntmps26
  go_wp2_with fail
  refine Calls.mono (int_set w.heap.size yb y _ (zb_new w _) (IntAt.below Hy.out ((Below.refl _ _).alloc (Nat.le_refl _) _)) (by have a := Y0.out; have b := Yl.out; omega)) ?_
  rintro e w1 ⟨rfl, hi1, hk1⟩
  have B1 : Hid (Below w.heap.size w w1) := Kp.below ((Below.refl _ _).alloc (Nat.le_refl _) _) hk1 (by simp) (Nat.le_refl _)
  have D1 : Hid (IntAt w1 w.heap.size y) := hi1
  clear hi1 hk1
  go_wp2_with fail
  refine Calls.mono (int_quo z xb yb m x y _ (Zb.below Hz B1) (Zb.below Hm B1) Hzm (IntAt.below Hx.out B1) (IntAt.below Hy.out B1) (by have a := Y0.out; omega) (by have a := Y0.out; have b := Yl.out; omega) (by have a := Y0.out; have b := Hl.out; omega)) ?_
  rintro e w2 ⟨rfl, hi2, hj2, hk2⟩
  have K2 : Hid (Kn [z, m] w1 w2) := Kn.q hk2 (by simp) (by simp)
  have Z2 : Hid (∀ t ∈ [z, m], t < w1.heap.size → Zb w1 t) := fun t ht _ => by
    rcases List.mem_cons.1 ht with rfl | ht
    · exact Zb.below Hz B1
    · rw [List.mem_singleton.1 ht]; exact Zb.below Hm B1
  have N2 : Hid (w.heap.size ∉ [z, m]) := fun ht => by
    rcases List.mem_cons.1 ht with h | h
    · have := Zb.lt Hz.out; omega
    · have := Zb.lt Hm.out; have e := List.mem_singleton.1 h; omega
  have D2 : Hid (IntAt w2 w.heap.size y) := Kn.int D1.out K2 Z2 N2
  have Q2 : Hid (IntAt w2 z (x.tdiv y)) := hi2
  have R2 : Hid (IntAt w2 m (x.tmod y)) := hj2
  have W2 : Hid (Kn [z, m] w w2) := (Kn.of B1.out).trans K2
  obtain ⟨_, _, cm0, -⟩ := hj2.open
  obtain ⟨_, _, cd0, -⟩ := D2.out.open
  clear hi2 hj2 hk2
  by_cases hneg : x.tmod y < 0
  · have e1 : decide (x.tmod y < 0) = true := by simp [hneg]
    have e2 : decide (y < 0) = false := by have a := Y0.out; simp; omega
    rw [e1] at cm0
    rw [e2] at cd0
    obtain ⟨f1, f2, f3⟩ := fl_neg x y Y0 hneg
    have F1 : Hid (x.tdiv y - 1 = x / y) := f1
    have F2 : Hid (x.tdiv y ≤ 0) := f2
    have F3 : Hid (-(x.tmod y) < y) := f3
    have F4 : Hid (-18446744073709551616 < x.tdiv y) := Hq.out hneg
    have F5 : Hid (x.tmod y < 0) := hneg
    clear e1 e2 f1 f2 f3 hneg
    go_wp2_with fail
    refine Calls.mono (new_int 1 _ (by omega) (by omega)) ?_
    rintro e w3 ⟨rfl, hi3, hb3, hl3⟩
    have O3 : Hid (IntAt w3 w2.heap.size 1) := hi3
    have B3 : Hid (Below w2.heap.size w2 w3) := hb3
    clear hi3 hb3 hl3
    go_wp2_with fail
    refine Calls.mono (sub_one S1 z w2.heap.size (x.tdiv y) _ (IntAt.below Q2.out B3) O3 F2 F4) ?_
    rintro e w4 ⟨rfl, hi4, hk4⟩
    rw [F1.out] at hi4
    have Q4 : Hid (IntAt w4 z (x / y)) := hi4
    have K4 : Hid (Kp z w3 w4) := hk4
    have Zz : Hid (Zb w3 z) := Zb.below Q2.out.zb B3
    have R4 : Hid (IntAt w4 m (x.tmod y)) := IntAt.kp (IntAt.below R2.out B3) hk4 Zz (Ne.symm Hzm)
    have D4 : Hid (IntAt w4 w.heap.size y) := IntAt.kp (IntAt.below D2.out B3) hk4 Zz (by have := Zb.lt Hz.out; omega)
    clear hi4 hk4
    go_wp2_with fail
    refine Calls.mono (add_up A1 m w.heap.size (x.tmod y) y _ R4 D4 F5 F3 Yl) ?_
    rintro e w5 ⟨rfl, hi5, hk5⟩
    have Q5 : Hid (IntAt w5 z (x / y)) := IntAt.kp Q4.out hk5 R4.out.zb Hzm
    have K5 : Hid (Kp m w4 w5) := hk5
    clear hi5 hk5
    go_wp2
    go_ret2
    refine ⟨rfl, Q5, ?_⟩
    exact ((W2.out.trans (Kn.of B3.out)).trans (Kn.p K4.out (fun _ => by simp))).trans (Kn.p K5.out (fun _ => by simp))
  · have e1 : decide (x.tmod y < 0) = false := by simp; omega
    rw [e1] at cm0
    have F1 : Hid (IntAt w2 z (x / y)) := by
      have a := Q2.out
      rw [fl_pos x y Y0 (by omega)] at a
      exact a
    clear e1 hneg Q2
    go_wp2
    go_ret2
    exact ⟨rfl, F1, W2⟩
end Go.Proofs.YthdpafcodmlenaaDoor
