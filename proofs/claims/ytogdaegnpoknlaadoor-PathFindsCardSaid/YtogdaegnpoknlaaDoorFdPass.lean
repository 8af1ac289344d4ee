/- Ways, found by going over all cells till nothing gets nearer: plain mathematics. -/
import Derived.Test.YtogdaegnpoknlaaDoorFdWay
namespace Go.Proofs.YtogdaegnpoknlaaDoor.Wy
set_option linter.unusedVariables false
variable {nb : Nat → List Int} {st : Nat → Nat → Int} {t n : Nat}

/-- what holds all the time. -/
structure Rt (nb : Nat → List Int) (st : Nat → Nat → Int) (t n : Nat) (l : List Int) : Prop where
  len : l.length = n
  here : l[t]? = some 0
  sound : Sound nb st t l
  flat : Flat l
theorem Rt.start (ht : t < n) : Rt nb st t n ((List.replicate n (-1)).set t 0) :=
  have h := Wk.start (nb := nb) (st := st) ht
  ⟨h.len, h.here, h.sound, h.flat⟩
theorem Rt.set (E : Even nb st n) {l : List Int} {i j : Nat} {x y : Int} (h : Rt nb st t n l) (hj : (j : Int) ∈ nb i) (hx : l[i]? = some x) (hy : l[j]? = some y) (h0 : 0 < st i j) (y0 : 0 ≤ y) (hn : x < 0 ∨ st i j + y < x) :
    Rt nb st t n (l.set i (st i j + y)) ∧ left (2 * n + 1) (l.set i (st i j + y)) < left (2 * n + 1) l := by
  refine ⟨⟨by simp [h.len], ?_, h.sound.set hy hj h0 y0, h.flat.set hx hy y0 h0 (E.two _ _) hn⟩, left_set h.flat h.len hx hy y0 h0 (E.two _ _) hn⟩
  rw [List.getElem?_set]
  by_cases e : i = t
  · subst e
    rw [h.here] at hx
    injection hx with hx
    omega
  · rw [if_neg e]
    exact h.here

/-- all ahead of i, and k cells beside it, have been looked at, and nothing got nearer. -/
def Fine (nb : Nat → List Int) (st : Nat → Nat → Int) (l : List Int) (i k : Nat) : Prop := (∀ i', i' < i → Shut nb st l i') ∧ ∀ (q j : Nat), q < k → (nb i)[q]? = some (j : Int) → Pr nb st l i j
theorem Fine.start (l : List Int) : Fine nb st l 0 0 := ⟨fun i h => absurd h (Nat.not_lt_zero _), fun q j h => absurd h (Nat.not_lt_zero _)⟩
theorem Fine.step {l : List Int} {i j k : Nat} {x y : Int} (h : Fine nb st l i k) (hk : (nb i)[k]? = some (j : Int)) (hx : l[i]? = some x) (hy : l[j]? = some y) (hs : 0 < st i j → 0 ≤ y → 0 ≤ x ∧ x ≤ st i j + y) : Fine nb st l i (k + 1) := by
  refine ⟨h.1, fun q j' hq hj => ?_⟩
  by_cases e : q = k
  · subst e
    rw [hk] at hj
    injection hj with hj
    have : j = j' := by omega
    subst this
    intro x' y' hx' hy' _ h0 y0
    rw [hx] at hx'
    rw [hy] at hy'
    injection hx' with hx'
    injection hy' with hy'
    subst hx'
    subst hy'
    exact hs h0 y0
  · exact h.2 q j' (by omega) hj
theorem Fine.next {l : List Int} {i : Nat} (h : Fine nb st l i (nb i).length) : Fine nb st l (i + 1) 0 := by
  refine ⟨fun i' hi => ?_, fun q j h => absurd h (Nat.not_lt_zero _)⟩
  by_cases e : i' = i
  · subst e
    intro j x y hx hy hj h0 y0
    obtain ⟨q, hq⟩ := List.mem_iff_getElem?.1 hj
    exact h.2 q j (List.getElem?_eq_some_iff.1 hq).1 hq x y hx hy hj h0 y0
  · exact h.1 i' (by omega)
theorem Rt.far {l : List Int} (E : Even nb st n) (h : Rt nb st t n l) (hf : Fine nb st l n 0) : IsFar nb st t n l := far_of h.len E.lt h.here h.sound hf.1
end Go.Proofs.YtogdaegnpoknlaaDoor.Wy
