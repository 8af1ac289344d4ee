/- orders.names, as it is laid. -/
import Derived.Test.YtkceccajamdbjaaDoorOdW
import Derived.ProofKit
import Derived.OpenShut
import Derived.LaidLaws
import Derived.LaidHandle
import Derived.ChangeMaps5
namespace Go.Proofs.YtkceccajamdbjaaDoor
open Go.ChangeShapes Go.WideShapes Go.ChangeAt Go.RowKit
set_option linter.unusedVariables false

theorem names_g : Tryd.prog.globalNamed "marchland/orders.names" = some 0 := by kernel_rfl
theorem names_t : (Tryd.prog.globals[0]?).map (·.type) = some 102 := by kernel_rfl
theorem str_cs : Tryd.prog.cellsOf 9 = 1 := by kernel_rfl
theorem l4 {α : Type} {l : List α} (h : l.length = 4) : ∃ a b c d, l = [a, b, c, d] := by
  match l, h with
  | [a, b, c, d], _ => exact ⟨a, b, c, d, rfl⟩
theorem text_cell {w : World} {fuel : Nat} {cs : List Value} {l : List UInt8} {y : DataW Unit × List MemPlace} (h : DataW.trod (fun _ => ()) Tryd.prog w 0 (fun _ => true) false fuel 9 cs = some y) (hy : y.1 = .lit (.string l)) : cs = [.string ⟨l.toArray⟩] := by
  obtain ⟨s, e0, f0, -⟩ := DataW.trod_string Tryd.underlying9 h
  rw [f0] at hy
  simp only [DataW.lit.injEq, Lit.string.injEq] at hy
  rw [e0]
  congr 2
  exact WideShapes.bytes_inj (by rw [hy])
set_option maxRecDepth 100000 in
theorem nm_of_laid {w : World} {r : List (String × DataW Unit)} (h : laidMet Tryd.prog (("marchland/orders.names", Rows.laid_marchland_orders_names) :: r) w) : Nm w := by
  obtain ⟨ps, ⟨g, t, cs, fuel, p, q, h1, h2, h3, h4, -, -⟩, -, -⟩ := h
  obtain rfl := Option.some.inj (names_g.symm.trans h1)
  obtain rfl := Option.some.inj (names_t.symm.trans h2)
  obtain ⟨xs, m, -, hx, hl, hn, hi⟩ := DataW.trod_array Tryd.underlying102 h4
  have hd : xs.map (·.1) = [.lit (.string [115, 116, 111, 112]), .lit (.string [109, 97, 114, 99, 104]), .lit (.string [103, 97, 116, 104, 101, 114]), .lit (.string [116, 114, 97, 105, 110])] := by
    have e : Rows.laid_marchland_orders_names = DataW.agg (xs.map (·.1)) := congrArg Prod.fst hx
    unfold Rows.laid_marchland_orders_names at e
    injection e with e
    exact e.symm
  obtain ⟨x0, x1, x2, x3, rfl⟩ := l4 hn
  simp only [List.map_cons, List.map_nil, List.cons.injEq, and_true] at hd
  obtain ⟨d0, d1, d2, d3⟩ := hd
  have i0 := text_cell (hi 0 (by decide)) d0
  have i1 := text_cell (hi 1 (by decide)) d1
  have i2 := text_cell (hi 2 (by decide)) d2
  have i3 := text_cell (hi 3 (by decide)) d3
  rw [str_cs] at i0 i1 i2 i3
  have ec : ∀ k : Nat, w.cell? ⟨0, k, none⟩ = cs.toList[k]? := fun k => by
    have e := World.var?_cell names_g h3 k
    rw [e, Array.getElem?_toList]
  have g0 : ∀ k v, (cs.toList.drop (k * 1)).take 1 = [v] → cs.toList[k]? = some v := by
    intro k v e
    have := congrArg (fun l => l[0]?) e
    simpa [List.getElem?_take, List.getElem?_drop] using this
  exact ⟨(ec 0).trans (g0 0 _ i0), (ec 1).trans (g0 1 _ i1), (ec 2).trans (g0 2 _ i2), (ec 3).trans (g0 3 _ i3)⟩
end Go.Proofs.YtkceccajamdbjaaDoor
