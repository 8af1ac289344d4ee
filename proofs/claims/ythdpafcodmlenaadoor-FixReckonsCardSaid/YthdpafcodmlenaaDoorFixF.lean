import Derived.Test.YthdpafcodmlenaaDoorFixE
import Derived.Test.YthdpafcodmlenaaDoorDown
namespace Go.Proofs.YthdpafcodmlenaaDoor
open Go.RowKit

theorem ret_int {k : IntKind} {a b : Int} (h : a = b) : Ending.returned (.int k a) = .returned (.int k b) := by rw [h]

set_option maxHeartbeats 400000 in
theorem down_any (a b : Int) (w : World) (a1 : -72057594037993471 ≤ a) (a2 : a ≤ 72057594037993471) (b0 : b ≠ 0) (b1 : -1099511627776 ≤ b) (b2 : b ≤ 1099511627776) :
    Calls Tryd.prog 20 #[.int .i64 a, .int .i64 b] w fun e w' => e = .returned (.int .i64 (Ma.flr a b)) ∧ w' = w := by
  by_cases ha : a < 0 <;> by_cases hb : b < 0
  · obtain ⟨k, k1, k2, k3, k4⟩ := Ma.down_nn a b ha hb
    have K4 : Hid (Ma.flr a b = k) := k4
    clear k4
    go_enter Tryd.func20, Tryd.ntmps20
    go_wp2
    all_goals
      go_ret
      exact ⟨ret_int K4.out.symm, rfl⟩
  · obtain ⟨k, k1, k2, k3, k4, k5⟩ := Ma.down_np a b ha (by omega)
    by_cases hm : a.tmod b = 0
    · have K4 : Hid (Ma.flr a b = -k) := k4 hm
      clear k4 k5
      go_enter Tryd.func20, Tryd.ntmps20
      go_wp2
      go_ret
      exact ⟨ret_int K4.out.symm, rfl⟩
    · have K4 : Hid (Ma.flr a b = -k - 1) := k5 hm
      have hm2 : (a.tmod b != 0) = true := by simp [hm]
      clear k4 k5
      go_enter Tryd.func20, Tryd.ntmps20
      go_wp2
      go_ret
      exact ⟨ret_int K4.out.symm, rfl⟩
  · obtain ⟨k, k1, k2, k3, k4, k5⟩ := Ma.down_pn a b (by omega) hb
    rw [Int.tmod_eq_emod_of_nonneg (by omega)] at k4 k5
    by_cases hm : a % b = 0
    · have K4 : Hid (Ma.flr a b = -k) := k4 hm
      clear k4 k5
      go_enter Tryd.func20, Tryd.ntmps20
      go_wp2
      go_ret
      exact ⟨ret_int K4.out.symm, rfl⟩
    · have K4 : Hid (Ma.flr a b = -k - 1) := k5 hm
      have hm2 : (a % b != 0) = true := by simp [hm]
      clear k4 k5
      go_enter Tryd.func20, Tryd.ntmps20
      go_wp2
      go_ret
      exact ⟨ret_int K4.out.symm, rfl⟩
  · obtain ⟨k, k1, k2, k3, k4⟩ := Ma.down_pp a b (by omega) (by omega)
    have K4 : Hid (Ma.flr a b = a / b) := by
      have : a / b = a.tdiv b := (Int.tdiv_eq_ediv_of_nonneg (by omega)).symm
      rw [this, k3]; exact k4
    clear k3 k4
    go_enter Tryd.func20, Tryd.ntmps20
    go_wp2
    all_goals
      go_ret
      exact ⟨ret_int K4.out.symm, rfl⟩
end Go.Proofs.YthdpafcodmlenaaDoor
