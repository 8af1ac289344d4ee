import Derived.Test.YthnfaflhecfnfaaDoorRows
import Derived.Test.YthnfaflhecfnfaaDoorMath
import Derived.WalkKit
import Derived.WalkSpells
import Derived.WalkLawsBesides
namespace Go.Proofs.YthnfaflhecfnfaaDoor
open Go.RowKit

set_option maxHeartbeats 400000 in
theorem root_neg (n : Int) (w : World) (h : n < 0) :
    Calls Tryd.prog 44 #[.int .i64 n] w fun e w' => e = .returned (.tuple #[.int .i64 0, .iface 54 (.int .i64 1)]) ∧ w' = w := by
  go_enter Tryd.func44, Tryd.ntmps44
  go_wp2
  go_ret2
  exact ⟨rfl, rfl⟩

theorem half_pw (k : Nat) : Ma.pw (k + 1) / 2 = Ma.pw k := by rw [Ma.pw_succ]; omega

set_option maxHeartbeats 400000 in
theorem root_any (n : Int) (w : World) (h0 : 0 ≤ n) (h1 : n ≤ 9223372036854775807) :
    Calls Tryd.prog 44 #[.int .i64 n] w fun e w' => ∃ r, Ma.Sq r n ∧ e = .returned (.tuple #[.int .i64 r, .nilIface]) ∧ w' = w := by
  go_enter Tryd.func44, Tryd.ntmps44
  go_wp2
  go_loop [4, 5] (fun root bit => ∃ (k : Nat) (r b : Int), k ≤ 32 ∧ root = .int .i64 r ∧ bit = .int .i64 b ∧ b = Ma.pw k / 2 ∧ 0 ≤ r ∧ r * r ≤ n ∧ n < (r + Ma.pw k) * (r + Ma.pw k)) (fun _ bit => (intOf bit).toNat)
  case atStart => exact ⟨32, 0, 2147483648, by omega, rfl, rfl, by rw [Ma.pw_32]; omega, by omega, by omega, by rw [Ma.pw_32]; omega⟩
  case round =>
    obtain ⟨k, r, b, hk, rfl, rfl, hb, hr, hl, hu⟩ := hrel
    by_cases hz : k = 0
    · subst hz
      have hb0 : b = 0 := by rw [hb, Ma.pw_zero]; omega
      subst hb0
      clear hb
      rw [Ma.pw_zero] at hu
      go_wp2
      go_ret2
      exact ⟨r, ⟨hr, hl, hu⟩, rfl, rfl⟩
    · obtain ⟨j, rfl⟩ : ∃ j, k = j + 1 := ⟨k - 1, by omega⟩
      have hp := Ma.pw_pos j
      have hq := Ma.pw_mono j 31 (by omega)
      have e31 : Ma.pw 31 = 2147483648 := by unfold Ma.pw; decide
      rw [e31] at hq
      clear e31
      rw [half_pw] at hb
      rw [Ma.pw_succ] at hu
      have hb1 : 0 < b := by omega
      have hb2 : b ≤ 2147483648 := by omega
      have hr2 := Ma.root_small r n hl h1
      have hsum : r + 2 * Ma.pw j = r + b + b := by omega
      rw [hsum] at hu
      clear hsum
      have Hb : Hid (b = Ma.pw j) := hb
      have HH : Hid (b / 2 = Ma.pw j / 2) := by rw [hb]; rfl
      clear hb hp hq
      have Hu : Hid (n < (r + b + b) * (r + b + b)) := hu
      have Hl : Hid (r * r ≤ n) := hl
      clear hu hl
      by_cases ht : r + b ≤ n / (r + b)
      · have Ht : Hid ((r + b) * (r + b) ≤ n) := (Ma.test_iff (r + b) n (by omega)).1 ht
        go_wp2
        go_round
        case rel => exact ⟨j, r + b, b / 2, by omega, rfl, rfl, HH, by omega, Ht, by rw [← Hb]; exact Hu⟩
        case measure => simp [intOf]; omega
      · have Ht : Hid (n < (r + b) * (r + b)) := by
          have := mt (Ma.test_iff (r + b) n (by omega)).2 ht
          unfold Hid; omega
        go_wp2
        go_round
        case rel => exact ⟨j, r, b / 2, by omega, rfl, rfl, HH, by omega, Hl, by rw [← Hb]; exact Ht⟩
        case measure => simp [intOf]; omega

end Go.Proofs.YthnfaflhecfnfaaDoor
