/- The program's kinds: a mark, as text. -/
import Derived.Test.YtkceccajamdbjaaDoorKdE
import Derived.Test.YtkceccajamdbjaaDoorPwA
namespace Go.Proofs.YtkceccajamdbjaaDoor
open Go.RowKit
set_option linter.unusedVariables false

theorem mark_any (b : Bool) (c : UInt8) (w : World) :
    Calls Tryd.prog 48 #[.bool b, .string ⟨#[c]⟩] w fun e w' => e = .returned (.string ⟨(Kd.flag b c).toArray⟩) ∧ w' = w := by
  cases b with
  | true =>
    go_enter Tryd.func48, Tryd.ntmps48
    go_wp2
    go_ret
    exact ⟨rfl, rfl⟩
  | false =>
    go_enter Tryd.func48, Tryd.ntmps48
    go_wp2
    go_ret
    exact ⟨rfl, rfl⟩
end Go.Proofs.YtkceccajamdbjaaDoor
