/- Two small fields, as the laws have them. -/
import Derived.Test.YtogdaegnpoknlaaDoorPsM
import Derived.Test.YtogdaegnpoknlaaDoorPwG
import Derived.Test.YtogdaegnpoknlaaDoorPwX
namespace Go.Proofs.YtogdaegnpoknlaaDoor
open Go.RowKit Wy
set_option linter.unusedVariables false

theorem good6 : Fd.Good 3 2 [0, 1, 0, 0, 3, 0] [0, 0, 0, 0, 0, 0] := by
  refine ⟨by decide, by decide, by decide, by decide, rfl, rfl, fun i g o hg ho => ?_⟩
  match i, hg, ho with
  | 0, hg, ho => simp at hg ho; omega
  | 1, hg, ho => simp at hg ho; omega
  | 2, hg, ho => simp at hg ho; omega
  | 3, hg, ho => simp at hg ho; omega
  | 4, hg, ho => simp at hg ho; omega
  | 5, hg, ho => simp at hg ho; omega
  | i + 6, hg, ho => simp at hg
theorem one_far (v : Value) (w : World) (h : Fl w v 3 2 [0, 1, 0, 0, 3, 0] [0, 0, 0, 0, 0, 0]) (hs : Sd w) :
    Calls Tryd.prog 8 #[v, .int .i64 2, .bool false] w fun e w' => ∃ u, e = .returned (.tuple #[u, .nilIface]) ∧ Ro w' u [5, 1, 0, 4, 2, 1] ∧ Below w.heap.size w w' := by
  refine (Far_ok v 3 2 [0, 1, 0, 0, 3, 0] [0, 0, 0, 0, 0, 0] 2 false w h hs good6 (by decide)).mono ?_
  rintro e w' ⟨u, l, rfl, hu, ⟨hf, _⟩, hb⟩
  have e : [5, 1, 0, 4, 2, 1] = l := six.uniq hf
  exact ⟨u, rfl, by rw [e]; exact hu, hb⟩
theorem good3 : Fd.Good 3 1 [0, 3, 0] [0, 0, 0] := by
  refine ⟨by decide, by decide, by decide, by decide, rfl, rfl, fun i g o hg ho => ?_⟩
  match i, hg, ho with
  | 0, hg, ho => simp at hg ho; omega
  | 1, hg, ho => simp at hg ho; omega
  | 2, hg, ho => simp at hg ho; omega
  | i + 3, hg, ho => simp at hg
theorem one_reach (v : Value) (w : World) (h : Fl w v 3 1 [0, 3, 0] [0, 0, 0]) (hs : Sd w) :
    Calls Tryd.prog 14 #[v, .int .i64 0, .int .i64 2, .bool false] w fun e w' => ∃ u, e = .returned (.tuple #[u, .nilIface]) ∧ Ro w' u [0, 1] ∧ Below w.heap.size w w' := by
  refine (Reach_ok v 3 1 [0, 3, 0] [0, 0, 0] 0 2 false w h hs good3 (by decide) (by decide) (by decide)).mono ?_
  rintro e w' ⟨u, l, rfl, hf, hu, hb⟩
  have e : [0, 2, 3] = l := three.uniq hf
  subst e
  exact ⟨u, rfl, hu, hb⟩
end Go.Proofs.YtogdaegnpoknlaaDoor
