/- What the reference answers of roots, and of how far it is. -/
import Derived.Test.YthnfaflhecfnfaaDoorRows
import Derived.Test.YthnfaflhecfnfaaDoorMath
import Derived.Test.YthnfaflhecfnfaaDoorFixC
namespace Go.Proofs.YthnfaflhecfnfaaDoor
open Go.RowKit

set_option maxHeartbeats 400000 in
theorem ref_root (n : Int) (w : World) (h0 : 0 ≤ n) (h1 : n ≤ 9223372036854775807) :
    Calls Tryd.prog 51 #[.int .i64 n] w fun e w' => ∃ r, Ma.Sq r n ∧ e = .returned (.int .i64 r) ∧ w' = w := by
  go_enter Tryd.func51, Tryd.ntmps51
  go_wp2
  go_loop [3, 4] (fun low high => ∃ l h : Int, low = .int .i64 l ∧ high = .int .i64 h ∧ 0 ≤ l ∧ l < h ∧ h ≤ 3037000500 ∧ l * l ≤ n ∧ n < h * h) (fun low high => (intOf high - intOf low).toNat)
  case atStart => exact ⟨0, 3037000500, rfl, rfl, by omega, by omega, by omega, by omega, by omega⟩
  case round =>
    obtain ⟨l, h, rfl, rfl, l0, lh, hh, hl, hu⟩ := hrel
    by_cases ht : 1 < h - l
    · have Hl : Hid (l * l ≤ n) := hl
      have Hu : Hid (n < h * h) := hu
      clear hl hu
      have m1 : l < (l + h) / 2 := by omega
      have m2 : (l + h) / 2 < h := by omega
      have m3 := Ma.mul_mono ((l + h) / 2) 3037000499 (by omega) (by omega)
      have m4 := Int.mul_nonneg (a := (l + h) / 2) (b := (l + h) / 2) (by omega) (by omega)
      by_cases hm : (l + h) / 2 * ((l + h) / 2) ≤ n
      · go_wp2
        go_round
        case rel => exact ⟨(l + h) / 2, h, rfl, rfl, by omega, m2, hh, hm, Hu⟩
        case measure => simp [intOf]; omega
      · go_wp2
        go_round
        case rel => exact ⟨l, (l + h) / 2, rfl, rfl, l0, m1, by omega, Hl, by omega⟩
        case measure => simp [intOf]; omega
    · have e : h = l + 1 := by omega
      subst e
      have Hl : Hid (Ma.Sq l n) := ⟨l0, hl, hu⟩
      clear hl hu
      go_wp2
      go_ret
      exact ⟨l, Hl, rfl, rfl⟩

set_option maxHeartbeats 400000 in
theorem ref_far (a b c d : Int) (w : World) (ha : In6 a) (hb : In6 b) (hc : In6 c) (hd : In6 d) :
    Calls Tryd.prog 42 #[.int .i64 a, .int .i64 b, .int .i64 c, .int .i64 d] w fun e w' => ∃ r, Ma.Sq r ((a - c) * (a - c) + (b - d) * (b - d)) ∧ e = .returned (.int .i64 r) ∧ w' = w := by
  obtain ⟨ha1, ha2⟩ := ha
  obtain ⟨hb1, hb2⟩ := hb
  obtain ⟨hc1, hc2⟩ := hc
  obtain ⟨hd1, hd2⟩ := hd
  obtain ⟨s10, s11⟩ := sqb (a - c) (by omega) (by omega)
  obtain ⟨s20, s21⟩ := sqb (b - d) (by omega) (by omega)
  go_enter Tryd.func42, Tryd.ntmps42
  go_wp2_with (go_at_call 51; refine (ref_root _ _ (by omega) (by omega)).mono ?_; rintro e w' ⟨r, hr, rfl, rfl⟩)
  go_ret
  exact ⟨r, hr, rfl, rfl⟩
end Go.Proofs.YthnfaflhecfnfaaDoor
