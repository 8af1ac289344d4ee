/- The reference's orders: the fault of one. -/
import Derived.Test.YtkceccajamdbjaaDoorOdM
import Derived.Test.YtkceccajamdbjaaDoorKeep
import Derived.Laws.Closers25
import Derived.IntWalk
namespace Go.Proofs.YtkceccajamdbjaaDoor
open Go.RowKit
set_option linter.unusedVariables false

set_option maxRecDepth 100000 in
set_option maxHeartbeats 4000000 in
theorem ref_order (o : OrV) (w : World) : Calls Tryd.prog 27 #[o.val] w fun e w' => e = .returned (.int .i64 (Od.fault o)) ∧ Below w.heap.size w w' := by
  obtain ⟨p, u, n, a⟩ := o
  have BB : Hid (Below w.heap.size w (w.alloc (Obj.cells #[.int .i64 p, .int .i64 u, .int .i64 n, .int .i64 a] 51))) := (Below.refl _ _).alloc (Nat.le_refl _) _
  have B1 : Hid (Od.bad ⟨p, u, n, a⟩ → Od.fault ⟨p, u, n, a⟩ = 1) := Od.fault_bad
  have B0 : Hid (¬ Od.bad ⟨p, u, n, a⟩ → Od.fault ⟨p, u, n, a⟩ = 0) := Od.fault_ok
  unfold OrV.val
  simp only
  by_cases h0 : p < 0
  · go_enter Tryd.func27, Tryd.ntmps27
    go_wp2
    go_ret
    exact ⟨by rw [B1.out (by unfold Od.bad; simp only; omega)]; rfl, BB⟩
  · skip
    by_cases h1 : 3 < p
    · go_enter Tryd.func27, Tryd.ntmps27
      go_wp2
      go_ret
      exact ⟨by rw [B1.out (by unfold Od.bad; simp only; omega)]; rfl, BB⟩
    · skip
      by_cases h2 : u < 0
      · go_enter Tryd.func27, Tryd.ntmps27
        go_wp2
        go_ret
        exact ⟨by rw [B1.out (by unfold Od.bad; simp only; omega)]; rfl, BB⟩
      · skip
        by_cases h3 : 1000000 < u
        · go_enter Tryd.func27, Tryd.ntmps27
          go_wp2
          go_ret
          exact ⟨by rw [B1.out (by unfold Od.bad; simp only; omega)]; rfl, BB⟩
        · skip
          by_cases h4 : a < 0
          · go_enter Tryd.func27, Tryd.ntmps27
            go_wp2
            go_ret
            exact ⟨by rw [B1.out (by unfold Od.bad; simp only; omega)]; rfl, BB⟩
          · skip
            by_cases h5 : 1000000 < a
            · go_enter Tryd.func27, Tryd.ntmps27
              go_wp2
              go_ret
              exact ⟨by rw [B1.out (by unfold Od.bad; simp only; omega)]; rfl, BB⟩
            · skip
              by_cases h6 : n < 0
              · go_enter Tryd.func27, Tryd.ntmps27
                go_wp2
                go_ret
                exact ⟨by rw [B1.out (by unfold Od.bad; simp only; omega)]; rfl, BB⟩
              · skip
                by_cases h7 : 3 < n
                · go_enter Tryd.func27, Tryd.ntmps27
                  go_wp2
                  go_ret
                  exact ⟨by rw [B1.out (by unfold Od.bad; simp only; omega)]; rfl, BB⟩
                · skip
                  by_cases h8 : n = 0
                  · subst h8
                    by_cases h9 : a = 0
                    · subst h9
                      go_enter Tryd.func27, Tryd.ntmps27
                      go_wp2
                      go_ret
                      exact ⟨by rw [B0.out (by unfold Od.bad; simp only; omega)]; rfl, BB⟩
                    · have h9b : (a == 0) = false := beq_eq_false_iff_ne.2 h9
                      go_enter Tryd.func27, Tryd.ntmps27
                      go_wp2
                      go_ret
                      exact ⟨by rw [B1.out (.inr (.inr (.inr (.inr (.inr (.inr (.inr (.inr ⟨rfl, h9⟩))))))))]; rfl, BB⟩
                  · have h8b : (n == 0) = false := beq_eq_false_iff_ne.2 h8
                    go_enter Tryd.func27, Tryd.ntmps27
                    go_wp2
                    go_ret
                    exact ⟨by rw [B0.out (by unfold Od.bad; simp only; omega)]; rfl, BB⟩
end Go.Proofs.YtkceccajamdbjaaDoor
