/- What may be reached, and the ways there: plain mathematics. -/
import Derived.Test.YtogdaegnpoknlaaDoorPsM
namespace Go.Proofs.YtogdaegnpoknlaaDoor.Wy

/-- from where a way begins, each cell of it may be reached. -/
theorem Pth.reach {nb : Nat → List Int} {ss l : List Int} {t i : Nat} {p : List Int} (h : Pth nb ss l t i p) (h0 : 0 ≤ l.getD t 0) : ∀ (k x : Nat), p[k]? = some (x : Int) → ∃ d, Way nb (fun _ j => ss.getD j 0) x i d ∧ d + l.getD x 0 = l.getD i 0 ∧ 0 ≤ l.getD x 0 := by
  induction h with
  | here =>
    intro k x hx
    cases k with
    | zero =>
      simp at hx
      have : t = x := by omega
      subst this
      exact ⟨0, .here, by omega, h0⟩
    | succ k => simp at hx
  | @step i j p h1 h2 h3 ih =>
    intro k x hx
    have is := h2.is
    cases k with
    | zero =>
      simp at hx
      have : i = x := by omega
      subst this
      exact ⟨0, .here, by omega, by omega⟩
    | succ k =>
      obtain ⟨d, hw, he, hn⟩ := ih k x (by simpa using hx)
      exact ⟨_, .step is.1 is.2.1 hw, by show ss.getD j 0 + d + _ = _; omega, hn⟩
/-- there and back: how far it is to a cell is how far from there. -/
theorem far_back {nb : Nat → List Int} {ss : List Int} {a c n : Nat} {l l' : List Int} (E : Even nb (fun _ j => ss.getD j 0) n) (h : IsFar nb (fun i _ => ss.getD i 0) a n l) (h' : IsFar nb (fun _ j => ss.getD j 0) c n l') (ha : a < n) (hc : c < n) : l'.getD a 0 = l.getD c 0 :=
  (least_get h' ha).uniq ((least_get (st := fun i _ => ss.getD i 0) h hc).turn (s := fun j => ss.getD j 0) E hc ha)
/-- the cells of a way to what may be reached may be reached. -/
theorem way_in {nb : Nat → List Int} {ss : List Int} {a c n x k : Nat} {l l' p : List Int} {m : Int} (E : Even nb (fun _ j => ss.getD j 0) n) (h : IsFar nb (fun i _ => ss.getD i 0) a n l) (h' : IsFar nb (fun _ j => ss.getD j 0) c n l') (ha : a < n) (hc : c < n) (hm : l.getD c 0 ≤ m) (hp : Pth nb ss l' c a p) (hx : p[k]? = some (x : Int)) (hxn : x < n) : (x : Int) ∈ rch l m n := by
  have h0 : 0 ≤ l'.getD c 0 := by rw [getD_of (h'.here hc)]; omega
  obtain ⟨d, hw, he, hn⟩ := hp.reach h0 k x hx
  have e := far_back E h h' ha hc
  have ls := (least_get (st := fun i _ => ss.getD i 0) h hxn).turn (s := fun j => ss.getD j 0) E hxn ha
  refine rch_mem.2 ⟨x, rfl, hxn, ?_⟩
  rcases ls with ⟨_, k1⟩ | ⟨k1, k2⟩
  · exact absurd hw (k1 _)
  · have := k1.nonneg
    have := k2 _ hw
    omega
theorem rch_mono {l : List Int} {m m' : Int} {n : Nat} (h : m ≤ m') {x : Int} (hx : x ∈ rch l m n) : x ∈ rch l m' n := by
  obtain ⟨i, h1, h2, h3, h4⟩ := rch_mem.1 hx
  exact rch_mem.2 ⟨i, h1, h2, h3, by omega⟩
theorem rise_at {A : List Int} (h : A.Pairwise (· < ·)) {i : Nat} {x y : Int} (hx : A[i]? = some x) (hy : A[i + 1]? = some y) : x < y := by
  obtain ⟨h1, e1⟩ := List.getElem?_eq_some_iff.1 hx
  obtain ⟨h2, e2⟩ := List.getElem?_eq_some_iff.1 hy
  have := (List.pairwise_iff_getElem.1 h) i (i + 1) h1 h2 (Nat.lt_succ_self _)
  rw [e1, e2] at this
  exact this
end Go.Proofs.YtogdaegnpoknlaaDoor.Wy
