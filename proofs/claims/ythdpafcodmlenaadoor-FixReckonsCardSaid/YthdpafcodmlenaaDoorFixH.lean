import Derived.Test.YthdpafcodmlenaaDoorFixG
namespace Go.Proofs.YthdpafcodmlenaaDoor
open Go.RowKit

set_option maxHeartbeats 400000 in
theorem div_range (a b : Int) (w : World) (h : ¬ (InL a ∧ InL b ∧ b ≠ 0)) :
    Calls Tryd.prog 8 #[.int .i64 a, .int .i64 b] w fun e w' => e = .returned (.tuple #[.int .i64 0, .iface 36 (.int .i64 1)]) ∧ w' = w := by
  by_cases ha : InL a
  · by_cases hb : InL b
    · obtain rfl : b = 0 := by
        by_cases h0 : b = 0
        · exact h0
        · exact absurd ⟨ha, hb, h0⟩ h
      obtain ⟨ha1, ha2⟩ := ha
      clear h hb
      go_enter Tryd.func8, Tryd.ntmps8
      go_wp2_with fail
      refine (within_yes _ _ _ (by omega) (by omega) (by omega) (by omega)).mono ?_
      rintro e w1 ⟨rfl, rfl⟩
      go_wp2_with fail
      refine (within_yes _ _ _ (by omega) (by omega) (by omega) (by omega)).mono ?_
      rintro e w1 ⟨rfl, rfl⟩
      go_wp2
      go_ret2
      exact ⟨rfl, rfl⟩
    · have ho := outL b hb
      obtain ⟨ha1, ha2⟩ := ha
      clear h hb
      go_enter Tryd.func8, Tryd.ntmps8
      go_wp2_with fail
      refine (within_yes _ _ _ (by omega) (by omega) (by omega) (by omega)).mono ?_
      rintro e w1 ⟨rfl, rfl⟩
      go_wp2_with fail
      refine (within_no _ _ _ (by omega) (by omega) (by omega)).mono ?_
      rintro e w1 ⟨rfl, rfl⟩
      go_wp2
      go_ret2
      exact ⟨rfl, rfl⟩
  · have ho := outL a ha
    clear h ha
    go_enter Tryd.func8, Tryd.ntmps8
    go_wp2_with fail
    refine (within_no _ _ _ (by omega) (by omega) (by omega)).mono ?_
    rintro e w1 ⟨rfl, rfl⟩
    go_wp2
    go_ret2
    exact ⟨rfl, rfl⟩

set_option maxHeartbeats 400000 in
theorem div_in (a b : Int) (w : World) (ha : InL a) (hb : InL b) (b0 : b ≠ 0) :
    Calls Tryd.prog 8 #[.int .i64 a, .int .i64 b] w fun e w' => (InL (Ma.flr (a * 65536) b) ∧ e = .returned (.tuple #[.int .i64 (Ma.flr (a * 65536) b), .nilIface]) ∨ ¬ InL (Ma.flr (a * 65536) b) ∧ e = .returned (.tuple #[.int .i64 0, .iface 36 (.int .i64 4)])) ∧ w' = w := by
  obtain ⟨ha1, ha2⟩ := ha
  obtain ⟨hb1, hb2⟩ := hb
  go_enter Tryd.func8, Tryd.ntmps8
  go_wp2_with fail
  refine (within_yes _ _ _ (by omega) (by omega) (by omega) (by omega)).mono ?_
  rintro e w1 ⟨rfl, rfl⟩
  go_wp2_with fail
  refine (within_yes _ _ _ (by omega) (by omega) (by omega) (by omega)).mono ?_
  rintro e w1 ⟨rfl, rfl⟩
  go_wp2_with fail
  refine (down_any _ _ _ (by omega) (by omega) b0 hb1 hb2).mono ?_
  rintro e w1 ⟨rfl, rfl⟩
  go_wp2_with fail
  by_cases hr : InL (Ma.flr (a * 65536) b)
  · refine (bounded_ok _ _ hr.1 hr.2).mono ?_
    rintro e w1 ⟨rfl, rfl⟩
    have HR : Hid (InL (Ma.flr (a * 65536) b)) := hr
    clear hr
    go_wp2
    go_ret2
    exact ⟨.inl ⟨HR, rfl⟩, rfl⟩
  · refine (bounded_bad _ _ hr).mono ?_
    rintro e w1 ⟨rfl, rfl⟩
    have HR : Hid (¬ InL (Ma.flr (a * 65536) b)) := hr
    clear hr
    go_wp2
    go_ret2
    exact ⟨.inr ⟨HR, rfl⟩, rfl⟩

end Go.Proofs.YthdpafcodmlenaaDoor
