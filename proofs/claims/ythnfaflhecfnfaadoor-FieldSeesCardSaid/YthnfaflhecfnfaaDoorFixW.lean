import Derived.Test.YthnfaflhecfnfaaDoorRows
import Derived.WalkKit
import Derived.WalkSpells
import Derived.WalkLawsBesides
namespace Go.Proofs.YthnfaflhecfnfaaDoor
open Go.RowKit

set_option maxHeartbeats 400000 in
theorem within_yes (x m : Int) (w : World) (h1 : -m ≤ x) (h2 : x ≤ m) (m0 : 0 ≤ m) (m1 : m ≤ 2000000000000) :
    Calls Tryd.prog 43 #[.int .i64 x, .int .i64 m] w fun e w' => e = .returned (.bool true) ∧ w' = w := by
  go_enter Tryd.func43, Tryd.ntmps43
  go_wp2
  go_ret
  exact ⟨rfl, rfl⟩

set_option maxHeartbeats 400000 in
theorem within_no (x m : Int) (w : World) (h : x < -m ∨ m < x) (m0 : 0 ≤ m) (m1 : m ≤ 2000000000000) :
    Calls Tryd.prog 43 #[.int .i64 x, .int .i64 m] w fun e w' => e = .returned (.bool false) ∧ w' = w := by
  rcases h with h | h
  · have h' : ¬ -m ≤ x := by omega
    go_enter Tryd.func43, Tryd.ntmps43
    go_wp2
    go_ret
    exact ⟨rfl, rfl⟩
  · have h' : -m ≤ x := by omega
    have h'' : ¬ x ≤ m := by omega
    go_enter Tryd.func43, Tryd.ntmps43
    go_wp2
    go_ret
    exact ⟨rfl, rfl⟩

end Go.Proofs.YthnfaflhecfnfaaDoor
