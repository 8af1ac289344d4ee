/- Bytes that came in. -/
import Derived.Test.YthccneiafofakaaDoorIntsR
import Derived.Lib.Bytealg
namespace Go.Proofs.YthccneiafofakaaDoor
open Go.RowKit
set_option linter.unusedVariables false

/-- v is a slice of the bytes l. -/
def By (w : World) (v : Value) (l : List UInt8) : Prop := ∃ (a : Option Addr) (c : Nat), v = .slice a l.length c ∧ l.length ≤ c ∧ c ≤ maxLen ∧ (l ≠ [] → ∃ x, a = some x ∧ x.block < w.heap.size ∧ ∀ (i : Nat) d, l[i]? = some d → w.cell? (x.add i) = some (.int .u8 (d.toNat : Int)))
theorem By.below {w w' : World} {v : Value} {l : List UInt8} (h : By w v l) (hb : Below w.heap.size w w') : By w' v l := by
  obtain ⟨a, c, h1, h2, h3, h4⟩ := h
  refine ⟨a, c, h1, h2, h3, fun hn => ?_⟩
  obtain ⟨x, e, hx, hk⟩ := h4 hn
  refine ⟨x, e, Nat.lt_of_lt_of_le hx hb.size, fun i d hi => ?_⟩
  rw [hb.cell (p := x.add i) (by rw [add_block]; exact hx)]
  exact hk i d hi
end Go.Proofs.YthccneiafofakaaDoor
