/- The next cell on a way, the way, and what may be reached: plain mathematics. -/
import Derived.Test.YtogdaegnpoknlaaDoorFdWay
import Derived.Test.YtogdaegnpoknlaaDoorIdx
namespace Go.Proofs.YtogdaegnpoknlaaDoor.Wy

theorem any_take {p : Int → Bool} {xs : List Int} {k m : Nat} {x : Int} (h : (xs.take k).any p = false) (hm : m < k) (hx : xs[m]? = some x) : p x = false := by
  rw [List.any_eq_false] at h
  have := h x (by
    rw [List.mem_iff_getElem?]
    exact ⟨m, by rw [List.getElem?_take, if_pos hm]; exact hx⟩)
  cases hp : p x with
  | false => rfl
  | true => exact absurd hp this
theorem fst_uniq {p : Int → Bool} {xs : List Int} {r r' : Int} (h : Fst p xs r) (h' : Fst p xs r') : r = r' := by
  rcases h with ⟨rfl, h⟩ | ⟨k, x, rfl, h1, h2, h3⟩
  · rcases h' with ⟨rfl, h'⟩ | ⟨k', x', rfl, h1', h2', h3'⟩
    · rfl
    · rw [List.any_eq_false] at h
      exact absurd h2' (h x' (List.mem_of_getElem? h1'))
  · rcases h' with ⟨rfl, h'⟩ | ⟨k', x', rfl, h1', h2', h3'⟩
    · rw [List.any_eq_false] at h'
      exact absurd h2 (h' x (List.mem_of_getElem? h1))
    · rcases Nat.lt_trichotomy k k' with hk | hk | hk
      · have := any_take h3' hk h1
        rw [h2] at this
        cases this
      · rw [hk]
      · have := any_take h3 hk h1'
        rw [h2'] at this
        cases this
theorem fst_ex (p : Int → Bool) (xs : List Int) : ∃ r, Fst p xs r := by
  have key : ∀ k, k ≤ xs.length → (∃ r, Fst p xs r) ∨ (xs.take k).any p = false := by
    intro k
    induction k with
    | zero => intro _; exact .inr (by simp)
    | succ k ih =>
      intro hk
      rcases ih (by omega) with h | h
      · exact .inl h
      · cases hp : p xs[k] with
        | true => exact .inl ⟨k, .inr ⟨k, xs[k], rfl, List.getElem?_eq_getElem (by omega), hp, h⟩⟩
        | false => exact .inr (by rw [any_next (by omega), h, hp]; rfl)
  rcases key xs.length (Nat.le_refl _) with h | h
  · exact h
  · rw [List.take_of_length_le (Nat.le_refl _)] at h
    exact ⟨-1, .inl ⟨rfl, h⟩⟩

/-- x is on a shortest way from i. -/
def pn (ss l : List Int) (i : Nat) (x : Int) : Bool := decide (0 < ss.getD x.toNat 0) && (decide (0 ≤ l.getD x.toNat 0) && decide (ss.getD x.toNat 0 + l.getD x.toNat 0 = l.getD i 0))
/-- j is the first beside i that is. -/
def Nx (nb : Nat → List Int) (ss l : List Int) (i j : Nat) : Prop := ∃ k : Nat, (nb i)[k]? = some (j : Int) ∧ pn ss l i j = true ∧ ((nb i).take k).any (pn ss l i) = false
theorem take_any {p : Int → Bool} {xs : List Int} {k m : Nat} {x : Int} (h : (xs.take k).any p = false) (hm : m < k) (hx : xs[m]? = some x) : p x = false := by
  rw [List.any_eq_false] at h
  have := h x (by
    rw [List.mem_iff_getElem?]
    exact ⟨m, by rw [List.getElem?_take, if_pos hm]; exact hx⟩)
  cases hp : p x with
  | false => rfl
  | true => exact absurd hp this
theorem Nx.uniq {nb : Nat → List Int} {ss l : List Int} {i j j' : Nat} (h : Nx nb ss l i j) (h' : Nx nb ss l i j') : j = j' := by
  obtain ⟨k, h1, h2, h3⟩ := h
  obtain ⟨k', h1', h2', h3'⟩ := h'
  rcases Nat.lt_trichotomy k k' with hk | hk | hk
  · have := take_any h3' hk h1
    rw [h2] at this
    cases this
  · subst hk
    rw [h1] at h1'
    injection h1' with h1'
    omega
  · have := take_any h3 hk h1'
    rw [h2'] at this
    cases this
theorem pn_true {ss l : List Int} {i : Nat} {x : Int} (h : pn ss l i x = true) : 0 < ss.getD x.toNat 0 ∧ 0 ≤ l.getD x.toNat 0 ∧ ss.getD x.toNat 0 + l.getD x.toNat 0 = l.getD i 0 := by
  unfold pn at h
  simp only [Bool.and_eq_true, decide_eq_true_eq] at h
  exact h
theorem Nx.is {nb : Nat → List Int} {ss l : List Int} {i j : Nat} (h : Nx nb ss l i j) : (j : Int) ∈ nb i ∧ 0 < ss.getD j 0 ∧ 0 ≤ l.getD j 0 ∧ ss.getD j 0 + l.getD j 0 = l.getD i 0 := by
  obtain ⟨k, h1, h2, -⟩ := h
  have := pn_true h2
  rw [Int.toNat_natCast] at this
  exact ⟨List.mem_of_getElem? h1, this⟩
/-- what IndexFunc finds. -/
theorem fst_nx {nb : Nat → List Int} {ss l : List Int} {i n : Nat} {r : Int} (E : ∀ x, x ∈ nb i → ∃ j : Nat, x = j ∧ j < n) (h : Fst (pn ss l i) (nb i) r) (hx : ∃ x ∈ nb i, pn ss l i x = true) : ∃ k j : Nat, r = k ∧ j < n ∧ (nb i)[k]? = some (j : Int) ∧ Nx nb ss l i j := by
  rcases h with ⟨_, h⟩ | ⟨k, x, h1, h2, h3, h4⟩
  · obtain ⟨x, hm, hp⟩ := hx
    rw [List.any_eq_false] at h
    exact absurd hp (h x hm)
  · obtain ⟨j, rfl, hj⟩ := E x (List.mem_of_getElem? h2)
    exact ⟨k, j, h1, hj, h2, k, h2, h3, h4⟩
theorem getD_of {l : List Int} {i : Nat} {x : Int} (h : l[i]? = some x) : l.getD i 0 = x := by rw [List.getD_eq_getElem?_getD, h]; rfl
/-- from where a way leads, one is there. -/
theorem has_next {nb : Nat → List Int} {ss l : List Int} {t n i : Nat} (E : Even nb (fun _ j => ss.getD j 0) n) (h : IsFar nb (fun _ j => ss.getD j 0) t n l) (hi : i < n) (h0 : 0 ≤ l.getD i 0) (ht : i ≠ t) : ∃ x ∈ nb i, pn ss l i x = true := by
  have hl : i < l.length := by rw [h.1]; exact hi
  have e := List.getElem?_eq_getElem hl
  rw [getD_of e] at h0
  obtain ⟨j, y, h1, h2, h3, h4, h5⟩ := h.next E.lt e h0 ht
  refine ⟨j, h1, ?_⟩
  unfold pn
  rw [Int.toNat_natCast, getD_of h2, getD_of e, decide_eq_true h3, decide_eq_true h4, decide_eq_true h5.symm]
  rfl

/-- j is the next cell; whereto itself, if it is there. -/
def Nxt (nb : Nat → List Int) (ss l : List Int) (t i j : Nat) : Prop := (i = t ∧ j = i) ∨ (i ≠ t ∧ Nx nb ss l i j)
theorem Nxt.uniq {nb : Nat → List Int} {ss l : List Int} {t i j j' : Nat} (h : Nxt nb ss l t i j) (h' : Nxt nb ss l t i j') : j = j' := by
  rcases h with ⟨h1, h2⟩ | ⟨h1, h2⟩
  · rcases h' with ⟨_, h4⟩ | ⟨h3, _⟩
    · rw [h2, h4]
    · exact absurd h1 h3
  · rcases h' with ⟨h3, _⟩ | ⟨_, h4⟩
    · exact absurd h3 h1
    · exact h2.uniq h4

/-- p is the way from a cell. -/
inductive Pth (nb : Nat → List Int) (ss l : List Int) (t : Nat) : Nat → List Int → Prop
  | here : Pth nb ss l t t [(t : Int)]
  | step {i j : Nat} {p : List Int} : i ≠ t → Nx nb ss l i j → Pth nb ss l t j p → Pth nb ss l t i ((i : Int) :: p)
theorem Pth.uniq {nb : Nat → List Int} {ss l : List Int} {t i : Nat} {p p' : List Int} (h : Pth nb ss l t i p) (h' : Pth nb ss l t i p') : p = p' := by
  induction h generalizing p' with
  | here =>
    cases h' with
    | here => rfl
    | step h1 _ _ => exact absurd rfl h1
  | step h1 h2 h3 ih =>
    cases h' with
    | here => exact absurd rfl h1
    | step h1' h2' h3' =>
      have := h2.uniq h2'
      subst this
      rw [ih h3']
theorem Pth.head {nb : Nat → List Int} {ss l : List Int} {t i : Nat} {p : List Int} (h : Pth nb ss l t i p) : p[0]? = some (i : Int) := by
  cases h <;> rfl
theorem Pth.last {nb : Nat → List Int} {ss l : List Int} {t i : Nat} {p : List Int} (h : Pth nb ss l t i p) : p.getLast? = some (t : Int) := by
  induction h with
  | here => rfl
  | step h1 h2 h3 ih =>
    rename_i i j p
    cases p with
    | nil => simp at ih
    | cons a p => rw [List.getLast?_cons_cons]; exact ih
/-- the second cell of a way. -/
theorem Pth.second {nb : Nat → List Int} {ss l : List Int} {t i : Nat} {p : List Int} (h : Pth nb ss l t i p) (hi : i ≠ t) : ∃ j : Nat, p[1]? = some (j : Int) ∧ Nx nb ss l i j := by
  cases h with
  | here => exact absurd rfl hi
  | step h1 h2 h3 => exact ⟨_, by simpa using h3.head, h2⟩

/-- of the first k cells those that are no further than most. -/
def rch (l : List Int) (most : Int) (k : Nat) : List Int := ((List.range k).filter fun i => decide (0 ≤ l.getD i 0 ∧ l.getD i 0 ≤ most)).map Int.ofNat
theorem rch_zero (l : List Int) (most : Int) : rch l most 0 = [] := rfl
theorem rch_succ (l : List Int) (most : Int) (k : Nat) : rch l most (k + 1) = rch l most k ++ (if 0 ≤ l.getD k 0 ∧ l.getD k 0 ≤ most then [(k : Int)] else []) := by
  unfold rch
  rw [List.range_succ, List.filter_append, List.map_append]
  congr 1
  by_cases h : 0 ≤ l.getD k 0 ∧ l.getD k 0 ≤ most
  · rw [if_pos h, List.filter_cons_of_pos (by simpa using h)]
    rfl
  · rw [if_neg h, List.filter_cons_of_neg (by simpa using h)]
    rfl
theorem rch_len (l : List Int) (most : Int) (k : Nat) : (rch l most k).length ≤ k := by
  unfold rch
  rw [List.length_map]
  exact Nat.le_trans (List.length_filter_le _ _) (by simp)
theorem rch_mem {l : List Int} {most : Int} {k : Nat} {x : Int} : x ∈ rch l most k ↔ ∃ i : Nat, x = i ∧ i < k ∧ 0 ≤ l.getD i 0 ∧ l.getD i 0 ≤ most := by
  unfold rch
  simp only [List.mem_map, List.mem_filter, List.mem_range, decide_eq_true_eq]
  constructor
  · rintro ⟨i, ⟨h1, h2⟩, rfl⟩
    exact ⟨i, rfl, h1, h2⟩
  · rintro ⟨i, rfl, h1, h2⟩
    exact ⟨i, ⟨h1, h2⟩, rfl⟩
theorem rch_rise (l : List Int) (most : Int) (k : Nat) : (rch l most k).Pairwise (· < ·) := by
  unfold rch
  rw [List.pairwise_map]
  exact (List.pairwise_lt_range.filter _).imp (fun h => by simpa using h)
end Go.Proofs.YtogdaegnpoknlaaDoor.Wy
