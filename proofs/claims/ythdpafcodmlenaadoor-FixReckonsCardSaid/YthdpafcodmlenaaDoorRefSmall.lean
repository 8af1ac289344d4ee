/- What the reference answers of numbers from -10^6 to 10^6. -/
import Derived.Test.YthdpafcodmlenaaDoorRows
import Derived.WalkKit
import Derived.WalkSpells
import Derived.WalkLawsBesides
namespace Go.Proofs.YthdpafcodmlenaaDoor
open Go.RowKit

def In6 (x : Int) : Prop := -1000000 ≤ x ∧ x ≤ 1000000

theorem out6 (x : Int) (h : ¬ In6 x) : x < -1000000 ∨ 1000000 < x := by unfold In6 at h; omega

set_option maxHeartbeats 400000 in
theorem small_yes (n : Int) (w : World) (h : In6 n) :
    Calls Tryd.prog 9 #[.int .i64 n] w fun e w' => e = .returned (.bool true) ∧ w' = w := by
  obtain ⟨h1, h2⟩ := h
  go_enter Tryd.func9, Tryd.ntmps9
  go_wp2
  go_ret
  exact ⟨rfl, rfl⟩

set_option maxHeartbeats 400000 in
theorem small_no (n : Int) (w : World) (h : ¬ In6 n) :
    Calls Tryd.prog 9 #[.int .i64 n] w fun e w' => e = .returned (.bool false) ∧ w' = w := by
  have ho : ¬ -1000000 ≤ n ∨ (-1000000 ≤ n ∧ ¬ n ≤ 1000000) := by unfold In6 at h; omega
  clear h
  rcases ho with h1 | ⟨h1, h2⟩
  · go_enter Tryd.func9, Tryd.ntmps9
    go_wp2
    go_ret
    exact ⟨rfl, rfl⟩
  · go_enter Tryd.func9, Tryd.ntmps9
    go_wp2
    go_ret
    exact ⟨rfl, rfl⟩

end Go.Proofs.YthdpafcodmlenaaDoor
