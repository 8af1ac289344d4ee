import Derived.Test.YthnfaflhecfnfaaDoorFixW
import Derived.Test.YthnfaflhecfnfaaDoorFixB
namespace Go.Proofs.YthnfaflhecfnfaaDoor
open Go.RowKit

def In6 (x : Int) : Prop := -1000000 ≤ x ∧ x ≤ 1000000

section
variable (a b c d : Int) (w : World)
theorem idx0 : (Instr.index 82 (.agg #[.int .i64 a, .int .i64 b, .int .i64 c, .int .i64 d]) (.int .i64 0)).run Tryd.prog w = .ok (.int .i64 a) w := by kernel_rfl
theorem idx1 : (Instr.index 82 (.agg #[.int .i64 a, .int .i64 b, .int .i64 c, .int .i64 d]) (.int .i64 1)).run Tryd.prog w = .ok (.int .i64 b) w := by kernel_rfl
theorem idx2 : (Instr.index 82 (.agg #[.int .i64 a, .int .i64 b, .int .i64 c, .int .i64 d]) (.int .i64 2)).run Tryd.prog w = .ok (.int .i64 c) w := by kernel_rfl
theorem idx3 : (Instr.index 82 (.agg #[.int .i64 a, .int .i64 b, .int .i64 c, .int .i64 d]) (.int .i64 3)).run Tryd.prog w = .ok (.int .i64 d) w := by kernel_rfl
end

theorem sqb (x : Int) (h1 : -2000000 ≤ x) (h2 : x ≤ 2000000) : 0 ≤ x * x ∧ x * x ≤ 4000000000000 := by
  rcases Int.le_total 0 x with h | h
  · exact ⟨Int.mul_nonneg h h, Ma.mul_mono x 2000000 h h2⟩
  · have e : x * x = (-x) * (-x) := by rw [Int.neg_mul_neg]
    rw [e]
    exact ⟨Int.mul_nonneg (by omega) (by omega), Ma.mul_mono (-x) 2000000 (by omega) (by omega)⟩

set_option maxHeartbeats 400000 in
theorem far_ok (a b c d : Int) (w : World) (ha : In6 a) (hb : In6 b) (hc : In6 c) (hd : In6 d) :
    Calls Tryd.prog 34 #[.int .i64 a, .int .i64 b, .int .i64 c, .int .i64 d] w fun e w' => ∃ r, Ma.Sq r ((a - c) * (a - c) + (b - d) * (b - d)) ∧ e = .returned (.tuple #[.int .i64 r, .nilIface]) ∧ w' = w := by
  obtain ⟨ha1, ha2⟩ := ha
  obtain ⟨hb1, hb2⟩ := hb
  obtain ⟨hc1, hc2⟩ := hc
  obtain ⟨hd1, hd2⟩ := hd
  have i0 := idx0 a b c d
  have i1 := idx1 a b c d
  have i2 := idx2 a b c d
  have i3 := idx3 a b c d
  go_enter Tryd.func34, Tryd.ntmps34
  go_wp2
  go_loop [19] (fun i => ∃ k : Nat, k ≤ 4 ∧ i = .int .i64 k) (fun i => 4 - (intOf i).toNat)
  case atStart => exact ⟨0, by omega, rfl⟩
  case round =>
    obtain ⟨k, hk, rfl⟩ := hrel
    match k, hk with
    | 0, _ =>
      go_wp2_with (go_at_call 43; refine (within_yes _ _ _ (by omega) (by omega) (by omega) (by omega)).mono ?_; rintro e w' ⟨rfl, rfl⟩)
      go_round
      case rel => exact ⟨1, by omega, rfl⟩
      case measure => simp [intOf]
    | 1, _ =>
      go_wp2_with (go_at_call 43; refine (within_yes _ _ _ (by omega) (by omega) (by omega) (by omega)).mono ?_; rintro e w' ⟨rfl, rfl⟩)
      go_round
      case rel => exact ⟨2, by omega, rfl⟩
      case measure => simp [intOf]
    | 2, _ =>
      go_wp2_with (go_at_call 43; refine (within_yes _ _ _ (by omega) (by omega) (by omega) (by omega)).mono ?_; rintro e w' ⟨rfl, rfl⟩)
      go_round
      case rel => exact ⟨3, by omega, rfl⟩
      case measure => simp [intOf]
    | 3, _ =>
      go_wp2_with (go_at_call 43; refine (within_yes _ _ _ (by omega) (by omega) (by omega) (by omega)).mono ?_; rintro e w' ⟨rfl, rfl⟩)
      go_round
      case rel => exact ⟨4, by omega, rfl⟩
      case measure => simp [intOf]
    | 4, _ =>
      have s1 := sqb (a - c) (by omega) (by omega)
      have s2 := sqb (b - d) (by omega) (by omega)
      obtain ⟨s10, s11⟩ := s1
      obtain ⟨s20, s21⟩ := s2
      go_wp2_with (go_at_call 44; refine (root_any _ _ (by omega) (by omega)).mono ?_; rintro e w' ⟨r, hr, rfl, rfl⟩)
      go_ret2
      exact ⟨r, hr, rfl, rfl⟩

end Go.Proofs.YthnfaflhecfnfaaDoor
