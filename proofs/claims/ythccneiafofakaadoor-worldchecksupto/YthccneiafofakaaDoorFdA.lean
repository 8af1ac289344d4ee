/- Fields: what is wrong with a cell, with a field. -/
import Derived.Test.YthccneiafofakaaDoorFdMath
import Derived.Test.YthccneiafofakaaDoorErA
import Derived.Test.YthccneiafofakaaDoorIntsR
namespace Go.Proofs.YthccneiafofakaaDoor
open Go.RowKit

set_option maxHeartbeats 400000 in
theorem fin_any (x a b : Int) (w : World) :
    Calls Tryd.prog 110 #[.int .i64 x, .int .i64 a, .int .i64 b] w fun e w' => e = .returned (.bool (decide (a ≤ x ∧ x ≤ b))) ∧ w' = w := by
  by_cases h1 : a ≤ x
  · by_cases h2 : x ≤ b
    · go_enter Tryd.func110, Tryd.ntmps110
      go_wp2
      go_ret
      exact ⟨by simp [h1, h2], rfl⟩
    · go_enter Tryd.func110, Tryd.ntmps110
      go_wp2
      go_ret
      exact ⟨by simp; omega, rfl⟩
  · go_enter Tryd.func110, Tryd.ntmps110
    go_wp2
    go_ret
    exact ⟨by simp; omega, rfl⟩
theorem fin_yes (x a b : Int) (w : World) (h1 : a ≤ x) (h2 : x ≤ b) :
    Calls Tryd.prog 110 #[.int .i64 x, .int .i64 a, .int .i64 b] w fun e w' => e = .returned (.bool true) ∧ w' = w :=
  (fin_any x a b w).mono fun e w' ⟨h, hw⟩ => ⟨by rw [h, decide_eq_true ⟨h1, h2⟩], hw⟩
theorem fin_no (x a b : Int) (w : World) (h : x < a ∨ b < x) :
    Calls Tryd.prog 110 #[.int .i64 x, .int .i64 a, .int .i64 b] w fun e w' => e = .returned (.bool false) ∧ w' = w :=
  (fin_any x a b w).mono fun e w' ⟨h', hw⟩ => ⟨by rw [h', decide_eq_false (by omega)], hw⟩

set_option maxHeartbeats 400000 in
theorem cell_any (g o : Int) (w : World) :
    Calls Tryd.prog 111 #[.int .i64 g, .int .i64 o] w fun e w' => ∃ v, e = .returned v ∧ Er v (Fd.cellFault g o) ∧ w' = w := by
  unfold Fd.cellFault
  by_cases h1 : 0 ≤ g ∧ g ≤ 3
  · obtain ⟨h1a, h1b⟩ := h1
    by_cases h2 : 0 ≤ o ∧ o ≤ 1000000
    · obtain ⟨h2a, h2b⟩ := h2
      rw [if_neg (by omega)]
      by_cases h3 : 0 < o
      · by_cases h4 : g = 0
        · subst h4
          rw [if_neg (by omega)]
          go_enter Tryd.func111, Tryd.ntmps111
          go_wp2_with (go_at_call 110; refine (fin_yes _ _ _ _ (by omega) (by omega)).mono ?_; rintro e w' ⟨rfl, rfl⟩)
          go_ret
          exact ⟨_, rfl, Er.nil, rfl⟩
        · rw [if_pos ⟨h3, h4⟩]
          go_enter Tryd.func111, Tryd.ntmps111
          go_wp2_with (go_at_call 110; refine (fin_yes _ _ _ _ (by omega) (by omega)).mono ?_; rintro e w' ⟨rfl, rfl⟩)
          go_ret
          exact ⟨_, rfl, Er.no (by decide), rfl⟩
      · rw [if_neg (by omega)]
        go_enter Tryd.func111, Tryd.ntmps111
        go_wp2_with (go_at_call 110; refine (fin_yes _ _ _ _ (by omega) (by omega)).mono ?_; rintro e w' ⟨rfl, rfl⟩)
        go_ret
        exact ⟨_, rfl, Er.nil, rfl⟩
    · rw [if_pos (by omega)]
      have h2' : o < 0 ∨ 1000000 < o := by omega
      clear h2
      go_enter Tryd.func111, Tryd.ntmps111
      go_wp2_with fail
      refine (fin_yes _ _ _ _ (by omega) (by omega)).mono ?_
      rintro e w' ⟨rfl, rfl⟩
      go_wp2_with fail
      refine (fin_no _ _ _ _ h2').mono ?_
      rintro e w' ⟨rfl, rfl⟩
      go_wp2
      go_ret
      exact ⟨_, rfl, Er.no (by decide), rfl⟩
  · rw [if_pos (by omega)]
    have h1' : g < 0 ∨ 3 < g := by omega
    clear h1
    go_enter Tryd.func111, Tryd.ntmps111
    go_wp2_with fail
    refine (fin_no _ _ _ _ h1').mono ?_
    rintro e w' ⟨rfl, rfl⟩
    go_wp2
    go_ret
    exact ⟨_, rfl, Er.no (by decide), rfl⟩
theorem cell_ok (g o : Int) (w : World) (h : Fd.cellFault g o = 0) :
    Calls Tryd.prog 111 #[.int .i64 g, .int .i64 o] w fun e w' => e = .returned .nilIface ∧ w' = w := by
  refine (cell_any g o w).mono ?_
  rintro e w' ⟨v, rfl, hv, rfl⟩
  rcases hv with ⟨_, rfl⟩ | ⟨hn, _⟩
  · exact ⟨rfl, rfl⟩
  · exact absurd h hn
theorem cell_bad (g o f : Int) (w : World) (h : Fd.cellFault g o = f) (hf : f ≠ 0) :
    Calls Tryd.prog 111 #[.int .i64 g, .int .i64 o] w fun e w' => e = .returned (.iface 72 (.int .i64 f)) ∧ w' = w := by
  refine (cell_any g o w).mono ?_
  rintro e w' ⟨v, rfl, hv, rfl⟩
  rw [h] at hv
  rcases hv with ⟨hn, _⟩ | ⟨_, rfl⟩
  · exact absurd hn hf
  · exact ⟨rfl, rfl⟩
end Go.Proofs.YthccneiafofakaaDoor
