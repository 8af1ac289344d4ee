/- Fields: the place of a cell. -/
import Derived.Test.YtogdaegnpoknlaaDoorFdLine
import Derived.Test.YtogdaegnpoknlaaDoorFdB
import Derived.Test.YtogdaegnpoknlaaDoorFdOwn
namespace Go.Proofs.YtogdaegnpoknlaaDoor
open Go.RowKit
set_option linter.unusedVariables false

set_option maxHeartbeats 400000 in
theorem place_any (W a c r : Nat) (w : World) (h1 : 0 < W) (h2 : W ≤ 12) (h3 : a ≤ 144) (hc : a % W = c) (hr : a / W = r) :
    Calls Tryd.prog 40 #[.int .i64 (W : Nat), .int .i64 (a : Nat)] w fun e w' => e = .returned (.tuple #[.int .i64 (c : Nat), .int .i64 (r : Nat)]) ∧ ∃ n, w' = w.drewN n := by
  have hw : ¬ (W : Int) = 0 := by omega
  have e1 : (a : Int) % (W : Int) = (c : Nat) := by rw [← hc]; rfl
  have e2 : (a : Int) / (W : Int) = (r : Nat) := by rw [← hr]; rfl
  have l1 : r ≤ 144 := by rw [← hr]; exact Nat.le_trans (Nat.div_le_self _ _) h3
  clear hc hr
  go_enter Tryd.func40, Tryd.ntmps40
  go_wp2
  go_quiet (fail)
  go_wp2
  go_ret2
  exact ⟨by show Ending.returned (.tuple #[.int .i64 ((a : Int) % W), .int .i64 r]) = _; rw [e1], _, rfl⟩
end Go.Proofs.YtogdaegnpoknlaaDoor
