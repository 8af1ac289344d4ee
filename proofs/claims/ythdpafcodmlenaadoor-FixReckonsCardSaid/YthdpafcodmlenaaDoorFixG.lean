import Derived.Test.YthdpafcodmlenaaDoorFixF
namespace Go.Proofs.YthdpafcodmlenaaDoor
open Go.RowKit

def InL (x : Int) : Prop := -1099511627776 ≤ x ∧ x ≤ 1099511627776

theorem outL (x : Int) (h : ¬ InL x) : x < -1099511627776 ∨ 1099511627776 < x := by unfold InL at h; omega

theorem siz_get (x : Int) (h : InL x) : ∃ s, Ma.Siz x s ∧ 0 ≤ s ∧ s ≤ 1099511627776 ∧ (x ≠ 0 → 0 < s) := by
  unfold InL at h
  by_cases h0 : 0 ≤ x
  · exact ⟨x, .inl ⟨h0, rfl⟩, by omega, by omega, by omega⟩
  · exact ⟨-x, .inr ⟨by omega, rfl⟩, by omega, by omega, by omega⟩

set_option maxHeartbeats 400000 in
theorem mul_range (a b : Int) (w : World) (h : ¬ (InL a ∧ InL b)) :
    Calls Tryd.prog 5 #[.int .i64 a, .int .i64 b] w fun e w' => e = .returned (.tuple #[.int .i64 0, .iface 36 (.int .i64 1)]) ∧ w' = w := by
  by_cases ha : InL a
  · have hb := outL b (fun hb => h ⟨ha, hb⟩)
    obtain ⟨ha1, ha2⟩ := ha
    clear h
    go_enter Tryd.func5, Tryd.ntmps5
    go_wp2_with fail
    refine (within_yes _ _ _ (by omega) (by omega) (by omega) (by omega)).mono ?_
    rintro e w1 ⟨rfl, rfl⟩
    go_wp2_with fail
    refine (within_no _ _ _ (by omega) (by omega) (by omega)).mono ?_
    rintro e w1 ⟨rfl, rfl⟩
    go_wp2
    go_ret2
    exact ⟨rfl, rfl⟩
  · have ho := outL a ha
    clear h ha
    go_enter Tryd.func5, Tryd.ntmps5
    go_wp2_with fail
    refine (within_no _ _ _ (by omega) (by omega) (by omega)).mono ?_
    rintro e w1 ⟨rfl, rfl⟩
    go_wp2
    go_ret2
    exact ⟨rfl, rfl⟩

set_option maxHeartbeats 400000 in
theorem mul_zero (a : Int) (w : World) (ha : InL a) :
    Calls Tryd.prog 5 #[.int .i64 a, .int .i64 0] w fun e w' => e = .returned (.tuple #[.int .i64 0, .nilIface]) ∧ w' = w := by
  obtain ⟨ha1, ha2⟩ := ha
  go_enter Tryd.func5, Tryd.ntmps5
  go_wp2_with fail
  refine (within_yes _ _ _ (by omega) (by omega) (by omega) (by omega)).mono ?_
  rintro e w1 ⟨rfl, rfl⟩
  go_wp2_with fail
  refine (within_yes _ _ _ (by omega) (by omega) (by omega) (by omega)).mono ?_
  rintro e w1 ⟨rfl, rfl⟩
  go_wp2_with fail
  refine (whole_any _ _).mono ?_
  rintro e w1 ⟨rfl, rfl⟩
  go_wp2_with fail
  refine (bounded_ok _ _ (by omega) (by omega)).mono ?_
  rintro e w1 ⟨rfl, rfl⟩
  go_wp2
  go_ret2
  exact ⟨rfl, rfl⟩

set_option maxHeartbeats 400000 in
theorem mul_over (a b s t : Int) (w : World) (ha : InL a) (hb : InL b) (b0 : b ≠ 0) (hs : Ma.Siz a s) (ht : Ma.Siz b t) (t0 : 0 < t) (t1 : t ≤ 1099511627776) (h : 72057594037993471 / t < s) :
    Calls Tryd.prog 5 #[.int .i64 a, .int .i64 b] w fun e w' => e = .returned (.tuple #[.int .i64 0, .iface 36 (.int .i64 4)]) ∧ w' = w := by
  obtain ⟨ha1, ha2⟩ := ha
  obtain ⟨hb1, hb2⟩ := hb
  have HS : Hid (Ma.Siz a s) := hs
  have HT : Hid (Ma.Siz b t) := ht
  clear hs ht
  go_enter Tryd.func5, Tryd.ntmps5
  go_wp2_with fail
  refine (within_yes _ _ _ (by omega) (by omega) (by omega) (by omega)).mono ?_
  rintro e w1 ⟨rfl, rfl⟩
  go_wp2_with fail
  refine (within_yes _ _ _ (by omega) (by omega) (by omega) (by omega)).mono ?_
  rintro e w1 ⟨rfl, rfl⟩
  go_wp2_with fail
  refine (size_any _ s _ HS (by omega)).mono ?_
  rintro e w1 ⟨rfl, rfl⟩
  go_wp2_with fail
  refine (size_any _ t _ HT (by omega)).mono ?_
  rintro e w1 ⟨rfl, rfl⟩
  go_wp2
  go_ret2
  exact ⟨rfl, rfl⟩

set_option maxHeartbeats 400000 in
theorem mul_under (a b s t : Int) (w : World) (ha : InL a) (hb : InL b) (b0 : b ≠ 0) (hs : Ma.Siz a s) (ht : Ma.Siz b t) (t0 : 0 < t) (t1 : t ≤ 1099511627776) (h : ¬ 72057594037993471 / t < s)
    (p1 : -72057594037993471 ≤ a * b) (p2 : a * b ≤ 72057594037993471) :
    Calls Tryd.prog 5 #[.int .i64 a, .int .i64 b] w fun e w' => (InL (a * b / 65536) ∧ e = .returned (.tuple #[.int .i64 (a * b / 65536), .nilIface]) ∨ ¬ InL (a * b / 65536) ∧ e = .returned (.tuple #[.int .i64 0, .iface 36 (.int .i64 4)])) ∧ w' = w := by
  obtain ⟨ha1, ha2⟩ := ha
  obtain ⟨hb1, hb2⟩ := hb
  have HS : Hid (Ma.Siz a s) := hs
  have HT : Hid (Ma.Siz b t) := ht
  clear hs ht
  go_enter Tryd.func5, Tryd.ntmps5
  go_wp2_with fail
  refine (within_yes _ _ _ (by omega) (by omega) (by omega) (by omega)).mono ?_
  rintro e w1 ⟨rfl, rfl⟩
  go_wp2_with fail
  refine (within_yes _ _ _ (by omega) (by omega) (by omega) (by omega)).mono ?_
  rintro e w1 ⟨rfl, rfl⟩
  go_wp2_with fail
  refine (size_any _ s _ HS (by omega)).mono ?_
  rintro e w1 ⟨rfl, rfl⟩
  go_wp2_with fail
  refine (size_any _ t _ HT (by omega)).mono ?_
  rintro e w1 ⟨rfl, rfl⟩
  go_wp2_with fail
  refine (whole_any _ _).mono ?_
  rintro e w1 ⟨rfl, rfl⟩
  go_wp2_with fail
  by_cases hr : InL (a * b / 65536)
  · refine (bounded_ok _ _ hr.1 hr.2).mono ?_
    rintro e w1 ⟨rfl, rfl⟩
    have HR : Hid (InL (a * b / 65536)) := hr
    clear hr
    go_wp2
    go_ret2
    exact ⟨.inl ⟨HR, rfl⟩, rfl⟩
  · refine (bounded_bad _ _ hr).mono ?_
    rintro e w1 ⟨rfl, rfl⟩
    have HR : Hid (¬ InL (a * b / 65536)) := hr
    clear hr
    go_wp2
    go_ret2
    exact ⟨.inr ⟨HR, rfl⟩, rfl⟩

theorem mul_in (a b : Int) (w : World) (ha : InL a) (hb : InL b) :
    Calls Tryd.prog 5 #[.int .i64 a, .int .i64 b] w fun e w' => (InL (a * b / 65536) ∧ e = .returned (.tuple #[.int .i64 (a * b / 65536), .nilIface]) ∨ ¬ InL (a * b / 65536) ∧ e = .returned (.tuple #[.int .i64 0, .iface 36 (.int .i64 4)])) ∧ w' = w := by
  by_cases b0 : b = 0
  · subst b0
    refine (mul_zero a w ha).mono ?_
    rintro e w1 ⟨rfl, rfl⟩
    have e0 : a * 0 / 65536 = 0 := by simp
    rw [e0]
    exact ⟨.inl ⟨by unfold InL; omega, rfl⟩, rfl⟩
  · obtain ⟨s, hs, s0, s1, -⟩ := siz_get a ha
    obtain ⟨t, ht, t0, t1, t2⟩ := siz_get b hb
    have hp := Ma.siz_mul a b s t hs ht
    by_cases h : 72057594037993471 / t < s
    · refine (mul_over a b s t w ha hb b0 hs ht (t2 b0) t1 h).mono ?_
      rintro e w1 ⟨rfl, rfl⟩
      exact ⟨.inr ⟨Ma.full_of _ _ hp ((Ma.quo_test s t (t2 b0)).1 h), rfl⟩, rfl⟩
    · have h' : s * t ≤ 72057594037993471 := by
        have := mt (Ma.quo_test s t (t2 b0)).2 h
        omega
      have hf := Ma.fits_of _ _ hp h'
      exact mul_under a b s t w ha hb b0 hs ht (t2 b0) t1 h hf.1 hf.2

end Go.Proofs.YthdpafcodmlenaaDoor
