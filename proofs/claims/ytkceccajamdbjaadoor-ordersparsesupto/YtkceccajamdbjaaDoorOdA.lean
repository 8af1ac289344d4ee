/- The program's orders: what is wrong with one. -/
import Derived.Test.YtkceccajamdbjaaDoorOdM
import Derived.Test.YtkceccajamdbjaaDoorErA
import Derived.Laws.Closers25
import Derived.IntWalk
namespace Go.Proofs.YtkceccajamdbjaaDoor
open Go.RowKit
set_option linter.unusedVariables false

set_option maxHeartbeats 400000 in
theorem owin_any (x b : Int) (w : World) :
    Calls Tryd.prog 51 #[.int .i64 x, .int .i64 b] w fun e w' => e = .returned (.bool (decide (0 ≤ x ∧ x ≤ b))) ∧ w' = w := by
  by_cases h1 : 0 ≤ x
  · by_cases h2 : x ≤ b
    · go_enter Tryd.func51, Tryd.ntmps51
      go_wp2
      go_ret
      exact ⟨by simp [h1, h2], rfl⟩
    · go_enter Tryd.func51, Tryd.ntmps51
      go_wp2
      go_ret
      exact ⟨by simp; omega, rfl⟩
  · go_enter Tryd.func51, Tryd.ntmps51
    go_wp2
    go_ret
    exact ⟨by simp; omega, rfl⟩
theorem owin_is (x b : Int) (r : Bool) (h : decide (0 ≤ x ∧ x ≤ b) = r) : Hid (∀ w, Calls Tryd.prog 51 #[.int .i64 x, .int .i64 b] w fun e w' => e = .returned (.bool r) ∧ w' = w) :=
  fun w => (owin_any x b w).mono fun e w' ⟨h', hw⟩ => ⟨by rw [h', h], hw⟩

def OrdSays (o : OrV) (w : World) (e : Ending) (w' : World) : Prop := ∃ v, e = .returned v ∧ Er v (Od.fault o) ∧ Below w.heap.size w w'
set_option maxRecDepth 100000 in
set_option maxHeartbeats 4000000 in
theorem checkOrder_any (o : OrV) (w : World) : Calls Tryd.prog 29 #[o.val] w (OrdSays o w) := by
  obtain ⟨p, u, n, a⟩ := o
  have BB : Hid (Below w.heap.size w (w.alloc (Obj.cells #[.int .i64 p, .int .i64 u, .int .i64 n, .int .i64 a] 51))) := (Below.refl _ _).alloc (Nat.le_refl _) _
  have bad1 : Od.bad ⟨p, u, n, a⟩ → ∀ w', Hid (Below w.heap.size w w') → OrdSays ⟨p, u, n, a⟩ w (.returned (.iface 68 (.int .i64 1))) w' := fun hb w' hB => ⟨_, rfl, by rw [Od.fault_bad hb]; exact Er.no (by decide), hB⟩
  have B1 : Hid (Od.bad ⟨p, u, n, a⟩ → ∀ w', Hid (Below w.heap.size w w') → OrdSays ⟨p, u, n, a⟩ w (.returned (.iface 68 (.int .i64 1))) w') := bad1
  clear bad1
  unfold OrV.val
  simp only
  by_cases h1 : 0 ≤ p ∧ p ≤ 3
  · have W1 := owin_is p 3 true (decide_eq_true h1)
    by_cases h2 : 0 ≤ u ∧ u ≤ 1000000
    · have W2 := owin_is u 1000000 true (decide_eq_true h2)
      by_cases h3 : 0 ≤ a ∧ a ≤ 1000000
      · have W3 := owin_is a 1000000 true (decide_eq_true h3)
        by_cases h4 : 0 ≤ n ∧ n ≤ 3
        · have W4 := owin_is n 3 true (decide_eq_true h4)
          by_cases h5 : n = 0
          · subst h5
            by_cases h6 : a = 0
            · subst h6
              go_enter Tryd.func29, Tryd.ntmps29
              go_wp2_with fail
              refine (W1.out _).mono ?_
              rintro e w' ⟨rfl, rfl⟩
              go_wp2_with fail
              refine (W2.out _).mono ?_
              rintro e w' ⟨rfl, rfl⟩
              go_wp2_with fail
              refine (W3.out _).mono ?_
              rintro e w' ⟨rfl, rfl⟩
              go_wp2_with fail
              refine (W4.out _).mono ?_
              rintro e w' ⟨rfl, rfl⟩
              go_wp2
              go_ret
              exact ⟨_, rfl, by rw [Od.fault_ok (by unfold Od.bad; simp only; omega)]; exact Er.nil, BB⟩
            · have h6b : (a == 0) = false := beq_eq_false_iff_ne.2 h6
              go_enter Tryd.func29, Tryd.ntmps29
              go_wp2_with fail
              refine (W1.out _).mono ?_
              rintro e w' ⟨rfl, rfl⟩
              go_wp2_with fail
              refine (W2.out _).mono ?_
              rintro e w' ⟨rfl, rfl⟩
              go_wp2_with fail
              refine (W3.out _).mono ?_
              rintro e w' ⟨rfl, rfl⟩
              go_wp2_with fail
              refine (W4.out _).mono ?_
              rintro e w' ⟨rfl, rfl⟩
              go_wp2
              go_ret
              exact B1.out (.inr (.inr (.inr (.inr (.inr (.inr (.inr (.inr ⟨rfl, h6⟩)))))))) _ BB
          · have h5b : (n == 0) = false := beq_eq_false_iff_ne.2 h5
            go_enter Tryd.func29, Tryd.ntmps29
            go_wp2_with fail
            refine (W1.out _).mono ?_
            rintro e w' ⟨rfl, rfl⟩
            go_wp2_with fail
            refine (W2.out _).mono ?_
            rintro e w' ⟨rfl, rfl⟩
            go_wp2_with fail
            refine (W3.out _).mono ?_
            rintro e w' ⟨rfl, rfl⟩
            go_wp2_with fail
            refine (W4.out _).mono ?_
            rintro e w' ⟨rfl, rfl⟩
            go_wp2
            go_ret
            exact ⟨_, rfl, by rw [Od.fault_ok (by unfold Od.bad; simp only; omega)]; exact Er.nil, BB⟩
        · have W4 := owin_is n 3 false (decide_eq_false h4)
          go_enter Tryd.func29, Tryd.ntmps29
          go_wp2_with fail
          refine (W1.out _).mono ?_
          rintro e w' ⟨rfl, rfl⟩
          go_wp2_with fail
          refine (W2.out _).mono ?_
          rintro e w' ⟨rfl, rfl⟩
          go_wp2_with fail
          refine (W3.out _).mono ?_
          rintro e w' ⟨rfl, rfl⟩
          go_wp2_with fail
          refine (W4.out _).mono ?_
          rintro e w' ⟨rfl, rfl⟩
          go_wp2
          go_ret
          exact B1.out (by unfold Od.bad; simp only; omega) _ BB
      · have W3 := owin_is a 1000000 false (decide_eq_false h3)
        go_enter Tryd.func29, Tryd.ntmps29
        go_wp2_with fail
        refine (W1.out _).mono ?_
        rintro e w' ⟨rfl, rfl⟩
        go_wp2_with fail
        refine (W2.out _).mono ?_
        rintro e w' ⟨rfl, rfl⟩
        go_wp2_with fail
        refine (W3.out _).mono ?_
        rintro e w' ⟨rfl, rfl⟩
        go_wp2
        go_ret
        exact B1.out (by unfold Od.bad; simp only; omega) _ BB
    · have W2 := owin_is u 1000000 false (decide_eq_false h2)
      go_enter Tryd.func29, Tryd.ntmps29
      go_wp2_with fail
      refine (W1.out _).mono ?_
      rintro e w' ⟨rfl, rfl⟩
      go_wp2_with fail
      refine (W2.out _).mono ?_
      rintro e w' ⟨rfl, rfl⟩
      go_wp2
      go_ret
      exact B1.out (by unfold Od.bad; simp only; omega) _ BB
  · have W1 := owin_is p 3 false (decide_eq_false h1)
    go_enter Tryd.func29, Tryd.ntmps29
    go_wp2_with fail
    refine (W1.out _).mono ?_
    rintro e w' ⟨rfl, rfl⟩
    go_wp2
    go_ret
    exact B1.out (by unfold Od.bad; simp only; omega) _ BB
end Go.Proofs.YtkceccajamdbjaaDoor
