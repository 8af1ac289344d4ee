/- An error that is told. -/
import Derived.Test.YtefepjiajgoomaaDoorRows
namespace Go.Proofs.YtefepjiajgoomaaDoor

/-- v tells the fault n. -/
def Er (v : Value) (n : Int) : Prop := (n = 0 ∧ v = .nilIface) ∨ (n ≠ 0 ∧ v = .iface 77 (.int .i64 n))
theorem Er.nil : Er .nilIface 0 := .inl ⟨rfl, rfl⟩
theorem Er.no {n : Int} (h : n ≠ 0) : Er (.iface 77 (.int .i64 n)) n := .inr ⟨h, rfl⟩
end Go.Proofs.YtefepjiajgoomaaDoor
