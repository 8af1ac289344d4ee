/- How long a list of orders is that came in. -/
import Derived.Test.YtbomnicnoanjlaaDoorZLockWaits4
namespace Go.Proofs.YtbomnicnoanjlaaDoor
open Go.ChangeShapes Go.WideShapes Go.ChangeAt Go.RowKit
set_option linter.unusedVariables false

theorem ors_sized {H : Type} {enc : TypeId × Value → H} {W : World} {base : Nat} {held : Bool} {v : Value} {d : DataW H} {p : List MemPlace} (h : DataW.Trod enc Tryd.prog W base (fun _ => true) held 23 v d p)
    (hz : ∀ n ∈ d.weights Tryd.prog 23, n ≤ reachBytes) {ks : List OrV} (hk : Orl W v ks) : ks.length * 32 ≤ reachBytes := by
  have hk' := hk
  obtain ⟨a, c, rfl, -⟩ := hk'
  obtain ⟨fuel, h⟩ := h
  exact ors_size (v := .slice a ks.length c) h hz ks hk
end Go.Proofs.YtbomnicnoanjlaaDoor

