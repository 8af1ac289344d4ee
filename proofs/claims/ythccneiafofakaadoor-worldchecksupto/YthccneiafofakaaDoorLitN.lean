/- A list of integers that is written out, of any length. -/
import Derived.Test.YthccneiafofakaaDoorIntsR
namespace Go.Proofs.YthccneiafofakaaDoor
open Go.RowKit
set_option linter.unusedVariables false

/-- any. -/
theorem Ro.lit {w : World} {z : Nat} (xs : List Int) (cs : Array Value) (hc : cs.toList = xs.map (Value.int .i64)) (hl : xs.length ≤ 1000) (hz : w.heap.size = z) : Ro (w.alloc (.cells cs 3)) (.slice (some ⟨z, 0, none⟩) xs.length xs.length) xs := by
  subst hz
  refine ⟨_, xs.length, rfl, Nat.le_refl _, by omega, fun _ => ⟨_, rfl, by simp, fun i d hd => ?_⟩⟩
  rw [Addr.add_lit, Nat.zero_add]
  have hh := heap_alloc_new w (.cells cs 3)
  simp only [World.cell?, hh]
  rw [← Array.getElem?_toList, hc, List.getElem?_map, hd]
  rfl
end Go.Proofs.YthccneiafofakaaDoor
