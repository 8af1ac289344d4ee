/- An error that is told. -/
import Derived.Test.YthccneiafofakaaDoorRows
namespace Go.Proofs.YthccneiafofakaaDoor

/-- v tells the fault n. -/
def Er (v : Value) (n : Int) : Prop := (n = 0 ∧ v = .nilIface) ∨ (n ≠ 0 ∧ v = .iface 72 (.int .i64 n))
theorem Er.nil : Er .nilIface 0 := .inl ⟨rfl, rfl⟩
theorem Er.no {n : Int} (h : n ≠ 0) : Er (.iface 72 (.int .i64 n)) n := .inr ⟨h, rfl⟩
end Go.Proofs.YthccneiafofakaaDoor
