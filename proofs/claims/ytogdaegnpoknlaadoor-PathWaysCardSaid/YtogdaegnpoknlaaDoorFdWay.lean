/- Ways: plain mathematics. nb: the cells beside one; st: how far it is from one to another one that is beside; t: whereto. -/
import Derived.Test.YtogdaegnpoknlaaDoorFdNear
namespace Go.Proofs.YtogdaegnpoknlaaDoor.Wy

/-- there is a way from a cell to t whose steps come to d. -/
inductive Way (nb : Nat → List Int) (st : Nat → Nat → Int) (t : Nat) : Nat → Int → Prop
  | here : Way nb st t t 0
  | step {i j : Nat} {d : Int} : (j : Int) ∈ nb i → 0 < st i j → Way nb st t j d → Way nb st t i (st i j + d)

section
variable {nb : Nat → List Int} {st : Nat → Nat → Int} {t : Nat}

theorem Way.nonneg {i : Nat} {d : Int} (h : Way nb st t i d) : 0 ≤ d := by
  induction h with
  | here => omega
  | step _ h1 _ ih => omega

/-- x is how far it is from i: -1, if there is no way. -/
def Least (nb : Nat → List Int) (st : Nat → Nat → Int) (t i : Nat) (x : Int) : Prop :=
  (x = -1 ∧ ∀ d, ¬ Way nb st t i d) ∨ (Way nb st t i x ∧ ∀ d, Way nb st t i d → x ≤ d)
theorem Least.uniq {i : Nat} {x y : Int} (hx : Least nb st t i x) (hy : Least nb st t i y) : x = y := by
  rcases hx with ⟨rfl, hx⟩ | ⟨h1, h2⟩
  · rcases hy with ⟨rfl, _⟩ | ⟨h3, _⟩
    · rfl
    · exact absurd h3 (hx _)
  · rcases hy with ⟨rfl, hy⟩ | ⟨h3, h4⟩
    · exact absurd h1 (hy _)
    · have := h2 _ h3
      have := h4 _ h1
      omega
theorem Least.ge {i : Nat} {x : Int} (h : Least nb st t i x) : -1 ≤ x := by
  rcases h with ⟨rfl, _⟩ | ⟨h, _⟩
  · omega
  · have := h.nonneg; omega

/-- the list of all. -/
def IsFar (nb : Nat → List Int) (st : Nat → Nat → Int) (t n : Nat) (l : List Int) : Prop := l.length = n ∧ ∀ (i : Nat) x, l[i]? = some x → Least nb st t i x
theorem IsFar.uniq {n : Nat} {l m : List Int} (hl : IsFar nb st t n l) (hm : IsFar nb st t n m) : l = m := by
  apply List.ext_getElem?
  intro i
  by_cases h : i < n
  · have h1 : i < l.length := by rw [hl.1]; exact h
    have h2 : i < m.length := by rw [hm.1]; exact h
    rw [List.getElem?_eq_getElem h1, List.getElem?_eq_getElem h2, (hl.2 i _ (List.getElem?_eq_getElem h1)).uniq (hm.2 i _ (List.getElem?_eq_getElem h2))]
  · rw [List.getElem?_eq_none (by rw [hl.1]; omega), List.getElem?_eq_none (by rw [hm.1]; omega)]

/-- what is told is so: there is such a way. -/
def Sound (nb : Nat → List Int) (st : Nat → Nat → Int) (t : Nat) (l : List Int) : Prop := ∀ (i : Nat) x, l[i]? = some x → x = -1 ∨ Way nb st t i x
/-- from no cell is it further than from one beside it, and the step onto that. -/
def Shut (nb : Nat → List Int) (st : Nat → Nat → Int) (l : List Int) (i : Nat) : Prop := ∀ (j : Nat) x y, l[i]? = some x → l[j]? = some y → (j : Int) ∈ nb i → 0 < st i j → 0 ≤ y → 0 ≤ x ∧ x ≤ st i j + y

/-- what is sound and shut is how far it is. -/
theorem far_of {n : Nat} {l : List Int} (hn : l.length = n) (hnb : ∀ (i j : Nat), i < n → (j : Int) ∈ nb i → j < n) (ht : l[t]? = some 0) (hs : Sound nb st t l) (hc : ∀ i, i < n → Shut nb st l i) : IsFar nb st t n l := by
  have key : ∀ i d, Way nb st t i d → i < n → ∃ x, l[i]? = some x ∧ 0 ≤ x ∧ x ≤ d := by
    intro i d h
    induction h with
    | here => intro _; exact ⟨0, ht, by omega, by omega⟩
    | @step i j d h1 h2 h3 ih =>
      intro hi
      obtain ⟨y, hy, y0, yd⟩ := ih (hnb i j hi h1)
      have hx : i < l.length := by rw [hn]; exact hi
      have := hc i hi j _ y (List.getElem?_eq_getElem hx) hy h1 h2 y0
      exact ⟨_, List.getElem?_eq_getElem hx, this.1, by omega⟩
  refine ⟨hn, fun i x hx => ?_⟩
  have hi : i < n := by rw [← hn]; exact (List.getElem?_eq_some_iff.1 hx).1
  rcases hs i x hx with rfl | hw
  · refine .inl ⟨rfl, fun d hd => ?_⟩
    obtain ⟨x, h1, h2, -⟩ := key i d hd hi
    rw [hx] at h1
    injection h1 with h1
    omega
  · refine .inr ⟨hw, fun d hd => ?_⟩
    obtain ⟨y, h1, h2, h3⟩ := key i d hd hi
    rw [hx] at h1
    injection h1 with h1
    omega
/-- and the other way round. -/
theorem IsFar.sound {n : Nat} {l : List Int} (h : IsFar nb st t n l) : Sound nb st t l := fun i x hx => by
  rcases h.2 i x hx with ⟨rfl, _⟩ | ⟨h, _⟩
  · exact .inl rfl
  · exact .inr h
theorem IsFar.shut {n : Nat} {l : List Int} (h : IsFar nb st t n l) (i : Nat) : Shut nb st l i := by
  intro j x y hx hy hj hs y0
  rcases h.2 j y hy with ⟨rfl, _⟩ | ⟨hy1, _⟩
  · omega
  · have hw := Way.step hj hs hy1
    rcases h.2 i x hx with ⟨rfl, hx1⟩ | ⟨hx1, hx2⟩
    · exact absurd hw (hx1 _)
    · exact ⟨hx1.nonneg, hx2 _ hw⟩
theorem IsFar.here {n : Nat} {l : List Int} (h : IsFar nb st t n l) (ht : t < n) : l[t]? = some 0 := by
  have hl : t < l.length := by rw [h.1]; exact ht
  have h1 := List.getElem?_eq_getElem hl
  rcases h.2 t _ h1 with ⟨_, h2⟩ | ⟨h2, h3⟩
  · exact absurd Way.here (h2 0)
  · have := h3 0 .here
    have := h2.nonneg
    rw [h1, show l[t] = 0 by omega]
/-- from where there is a way, one is beside that is on a shortest. -/
theorem IsFar.next {n : Nat} {l : List Int} (h : IsFar nb st t n l) (hnb : ∀ (i j : Nat), i < n → (j : Int) ∈ nb i → j < n) {i : Nat} {x : Int} (hx : l[i]? = some x) (x0 : 0 ≤ x) (hi : i ≠ t) :
    ∃ (j : Nat) (y : Int), (j : Int) ∈ nb i ∧ l[j]? = some y ∧ 0 < st i j ∧ 0 ≤ y ∧ x = st i j + y := by
  have hin : i < n := by rw [← h.1]; exact (List.getElem?_eq_some_iff.1 hx).1
  rcases h.2 i x hx with ⟨rfl, _⟩ | ⟨hw, hl⟩
  · omega
  · cases hw with
    | here => exact absurd rfl hi
    | @step _ j d h1 h2 h3 =>
      have hj : j < l.length := by rw [h.1]; exact hnb i j hin h1
      have hy := List.getElem?_eq_getElem hj
      refine ⟨j, _, h1, hy, h2, ?_, ?_⟩
      · rcases h.2 j _ hy with ⟨_, h4⟩ | ⟨h4, _⟩
        · exact absurd h3 (h4 _)
        · exact h4.nonneg
      · rcases h.2 j _ hy with ⟨_, h4⟩ | ⟨h4, h5⟩
        · exact absurd h3 (h4 _)
        · have a1 := h5 _ h3
          have a2 := hl _ (Way.step h1 h2 h4)
          omega

/-- one cell nearer. -/
theorem Sound.set {l : List Int} {i j : Nat} {y : Int} (h : Sound nb st t l) (hy : l[j]? = some y) (hj : (j : Int) ∈ nb i) (hs : 0 < st i j) (y0 : 0 ≤ y) : Sound nb st t (l.set i (st i j + y)) := by
  intro k x hk
  rw [List.getElem?_set] at hk
  by_cases e : i = k
  · subst e
    by_cases hl : i < l.length
    · simp only [hl, if_true] at hk
      injection hk with hk
      subst hk
      rcases h j y hy with rfl | hw
      · omega
      · exact .inr (.step hj hs hw)
    · simp [hl] at hk
  · rw [if_neg e] at hk
    exact h k x hk
end

/-! how often a cell may get nearer. -/
/-- what is left. -/
def left (M : Nat) (l : List Int) : Nat := (l.map fun x => if x < 0 then M else x.toNat).sum
/-- how many are told. -/
def told (l : List Int) : Nat := (l.map fun x => if x < 0 then 0 else 1).sum
theorem sum_set (f : Int → Nat) (l : List Int) (i : Nat) (x v : Int) (h : l[i]? = some x) : ((l.set i v).map f).sum + f x = (l.map f).sum + f v := by
  induction l generalizing i with
  | nil => simp at h
  | cons a l ih =>
    cases i with
    | zero =>
      simp at h
      subst h
      simp
      omega
    | succ i =>
      simp at h
      have := ih i h
      simp only [List.set_cons_succ, List.map_cons, List.sum_cons]
      omega
theorem left_le (M : Nat) (l : List Int) (h : ∀ x ∈ l, x ≤ M) : left M l ≤ l.length * M := by
  unfold left
  induction l with
  | nil => simp
  | cons a l ih =>
    have h1 := ih (fun x hx => h x (List.mem_cons_of_mem _ hx))
    have h2 := h a (List.mem_cons_self ..)
    simp only [List.map_cons, List.sum_cons, List.length_cons, Nat.add_mul, Nat.one_mul]
    split <;> omega
theorem told_le (l : List Int) : told l ≤ l.length := by
  unfold told
  induction l with
  | nil => simp
  | cons a l ih =>
    simp only [List.map_cons, List.sum_cons, List.length_cons]
    split <;> omega
/-- no cell is further than two for each that is told, but one. -/
def Flat (l : List Int) : Prop := ∀ (i : Nat) x, l[i]? = some x → x < 0 ∨ x + 2 ≤ 2 * told l
theorem Flat.set {l : List Int} {i j : Nat} {x y s : Int} (h : Flat l) (hx : l[i]? = some x) (hy : l[j]? = some y) (y0 : 0 ≤ y) (s0 : 0 < s) (s2 : s ≤ 2) (hn : x < 0 ∨ s + y < x) : Flat (l.set i (s + y)) := by
  have e := sum_set (fun x => if x < 0 then 0 else 1) l i x (s + y) hx
  have ht : told (l.set i (s + y)) + (if x < 0 then 0 else 1) = told l + 1 := by
    unfold told
    rw [e, if_neg (show ¬ s + y < 0 by omega)]
  have hyl := h j y hy
  have hxl := h i x hx
  intro k z hk
  rw [List.getElem?_set] at hk
  by_cases ek : i = k
  · subst ek
    have hl : i < l.length := (List.getElem?_eq_some_iff.1 hx).1
    simp only [hl, if_true] at hk
    injection hk with hk
    subst hk
    right
    by_cases q : x < 0
    · rw [if_pos q] at ht; omega
    · rw [if_neg q] at ht; omega
  · rw [if_neg ek] at hk
    have hz := h k z hk
    by_cases q : x < 0
    · rw [if_pos q] at ht; omega
    · rw [if_neg q] at ht; omega
theorem left_set {l : List Int} {i j n : Nat} {x y s : Int} (h : Flat l) (hl : l.length = n) (hx : l[i]? = some x) (hy : l[j]? = some y) (y0 : 0 ≤ y) (s0 : 0 < s) (s2 : s ≤ 2) (hn : x < 0 ∨ s + y < x) : left (2 * n + 1) (l.set i (s + y)) < left (2 * n + 1) l := by
  have e := sum_set (fun x => if x < 0 then 2 * n + 1 else x.toNat) l i x (s + y) hx
  have hyl := h j y hy
  have ht := told_le l
  unfold left
  rw [if_neg (show ¬ s + y < 0 by omega)] at e
  by_cases q : x < 0
  · rw [if_pos q] at e; omega
  · rw [if_neg q] at e; omega
/-! a list of cells to go on from. -/
section
variable {nb : Nat → List Int} {st : Nat → Nat → Int} {t n : Nat}

/-- Shut, of one pair. -/
def Pr (nb : Nat → List Int) (st : Nat → Nat → Int) (l : List Int) (i j : Nat) : Prop := ∀ x y, l[i]? = some x → l[j]? = some y → (j : Int) ∈ nb i → 0 < st i j → 0 ≤ y → 0 ≤ x ∧ x ≤ st i j + y

/-- cells beside one another are so either way; none is beside itself; a step is 2 at most. -/
structure Even (nb : Nat → List Int) (st : Nat → Nat → Int) (n : Nat) : Prop where
  cell : ∀ (i : Nat) x, i < n → x ∈ nb i → ∃ j : Nat, x = j ∧ j < n ∧ (i : Int) ∈ nb j
  other : ∀ (i : Nat), i < n → (i : Int) ∉ nb i
  two : ∀ i j, st i j ≤ 2
theorem Even.lt (h : Even nb st n) : ∀ (i j : Nat), i < n → (j : Int) ∈ nb i → j < n := fun i j hi hj => by
  obtain ⟨k, e, hk, -⟩ := h.cell i j hi hj
  have : j = k := by omega
  omega
theorem Even.back (h : Even nb st n) {i j : Nat} (hi : i < n) (hj : (j : Int) ∈ nb i) : (i : Int) ∈ nb j := by
  obtain ⟨k, e, hk, hb⟩ := h.cell i j hi hj
  have : j = k := by omega
  rw [this]
  exact hb

/-- between two rounds: td, the cells to go on from. -/
structure Wk (nb : Nat → List Int) (st : Nat → Nat → Int) (t n : Nat) (l : List Int) (td : List Nat) : Prop where
  len : l.length = n
  here : l[t]? = some 0
  sound : Sound nb st t l
  flat : Flat l
  todo : ∀ j ∈ td, ∃ y, l[j]? = some y ∧ 0 ≤ y
  shut : ∀ i j, j ∉ td → Pr nb st l i j
/-- in a round: k cells beside the first one have been looked at. -/
structure Wi (nb : Nat → List Int) (st : Nat → Nat → Int) (t n : Nat) (l : List Int) (a : Nat) (rest : List Nat) (k : Nat) : Prop where
  wk : Wk nb st t n l (a :: rest)
  mid : ∀ (q i : Nat), q < k → (nb a)[q]? = some (i : Int) → Pr nb st l i a

theorem Wk.start (ht : t < n) : Wk nb st t n ((List.replicate n (-1)).set t 0) [t] := by
  have get : ∀ (i : Nat) x, ((List.replicate n (-1 : Int)).set t 0)[i]? = some x → (i = t ∧ x = 0) ∨ (i ≠ t ∧ x = -1) := by
    intro i x hx
    rw [List.getElem?_set] at hx
    by_cases e : t = i
    · subst e
      rw [if_pos rfl, List.length_replicate, if_pos ht] at hx
      injection hx with hx
      exact .inl ⟨rfl, hx.symm⟩
    · rw [if_neg e, List.getElem?_replicate] at hx
      split at hx
      · injection hx with hx
        exact .inr ⟨fun h => e h.symm, hx.symm⟩
      · cases hx
  have h0 : ((List.replicate n (-1 : Int)).set t 0)[t]? = some 0 := by
    rw [List.getElem?_set, if_pos rfl, List.length_replicate, if_pos ht]
  refine ⟨by simp, h0, fun i x hx => ?_, fun i x hx => ?_, fun j hj => ?_, fun i j hj x y hx hy => ?_⟩
  · rcases get i x hx with ⟨rfl, rfl⟩ | ⟨_, rfl⟩
    · exact .inr .here
    · exact .inl rfl
  · rcases get i x hx with ⟨rfl, rfl⟩ | ⟨_, rfl⟩
    · right
      have e := sum_set (fun x => if x < 0 then 0 else 1) (List.replicate n (-1)) i (-1) 0 (by rw [List.getElem?_replicate, if_pos ht])
      have : told ((List.replicate n (-1)).set i 0) = ((List.replicate n (-1 : Int)).map fun x => if x < 0 then 0 else 1).sum + 1 := by
        unfold told
        simpa using e
      omega
    · left; omega
  · simp at hj
    subst hj
    exact ⟨0, h0, by omega⟩
  · intro _ _ y0
    rcases get j y hy with ⟨rfl, rfl⟩ | ⟨_, rfl⟩
    · simp at hj
    · omega

theorem left_start (ht : t < n) (hn : n ≤ 144) : left (2 * n + 1) ((List.replicate n (-1)).set t 0) ≤ 41616 := by
  refine Nat.le_trans (left_le _ _ fun x hx => ?_) ?_
  · rcases List.mem_or_eq_of_mem_set hx with h | h
    · rw [List.eq_of_mem_replicate h]; omega
    · omega
  · rw [List.length_set, List.length_replicate]
    exact Nat.mul_le_mul hn (show 2 * n + 1 ≤ 289 by omega)

theorem Wi.skip {l : List Int} {a b k : Nat} {rest : List Nat} {x y : Int} (h : Wi nb st t n l a rest k) (hb : (nb a)[k]? = some (b : Int)) (hx : l[b]? = some x) (hy : l[a]? = some y) (hs : 0 < st b a → 0 ≤ x ∧ x ≤ st b a + y) : Wi nb st t n l a rest (k + 1) := by
  refine ⟨h.wk, fun q i hq hi => ?_⟩
  by_cases e : q = k
  · subst e
    rw [hb] at hi
    injection hi with hi
    have : b = i := by omega
    subst this
    intro x' y' hx' hy' _ h0 _
    rw [hx] at hx'
    rw [hy] at hy'
    injection hx' with hx'
    injection hy' with hy'
    subst hx'
    subst hy'
    exact hs h0
  · exact h.mid q i (by omega) hi

theorem Wi.set {l : List Int} {a b k : Nat} {rest : List Nat} {x y : Int} (E : Even nb st n) (h : Wi nb st t n l a rest k) (hb : (nb a)[k]? = some (b : Int)) (hx : l[b]? = some x) (hy : l[a]? = some y) (h0 : 0 < st b a) (hn : x < 0 ∨ st b a + y < x) :
    Wi nb st t n (l.set b (st b a + y)) a (rest ++ [b]) (k + 1) ∧ left (2 * n + 1) (l.set b (st b a + y)) < left (2 * n + 1) l := by
  have an : a < n := by rw [← h.wk.len]; exact (List.getElem?_eq_some_iff.1 hy).1
  have bn : b < l.length := (List.getElem?_eq_some_iff.1 hx).1
  have hm : (b : Int) ∈ nb a := List.mem_of_getElem? hb
  have hm' := E.back an hm
  have hab : b ≠ a := by
    rintro rfl
    exact E.other b an hm
  obtain ⟨y1, hy1, y0⟩ := h.wk.todo a (List.mem_cons_self ..)
  rw [hy] at hy1
  injection hy1 with hy1
  subst hy1
  have hbt : b ≠ t := by
    rintro rfl
    rw [h.wk.here] at hx
    injection hx with hx
    omega
  have get : ∀ (i : Nat) z, (l.set b (st b a + y))[i]? = some z → (i = b ∧ z = st b a + y) ∨ (i ≠ b ∧ l[i]? = some z) := by
    intro i z hz
    rw [List.getElem?_set] at hz
    by_cases e : b = i
    · subst e
      rw [if_pos rfl, if_pos bn] at hz
      injection hz with hz
      exact .inl ⟨rfl, hz.symm⟩
    · rw [if_neg e] at hz
      exact .inr ⟨fun h => e h.symm, hz⟩
  have keep : ∀ (i : Nat), i ≠ b → (l.set b (st b a + y))[i]? = l[i]? := by
    intro i hi
    rw [List.getElem?_set, if_neg (fun h => hi h.symm)]
  refine ⟨⟨⟨by simp [h.wk.len], ?_, h.wk.sound.set hy hm' h0 y0, h.wk.flat.set hx hy y0 h0 (E.two _ _) hn, fun j hj => ?_, fun i j hj => ?_⟩, fun q i hq hi => ?_⟩, left_set h.wk.flat h.wk.len hx hy y0 h0 (E.two _ _) hn⟩
  · rw [keep t (fun h => hbt h.symm)]
    exact h.wk.here
  · by_cases e : j = b
    · subst e
      exact ⟨st j a + y, by rw [List.getElem?_set, if_pos rfl, if_pos bn], by omega⟩
    · rw [keep j e]
      refine h.wk.todo j ?_
      simp only [List.mem_cons, List.mem_append, List.not_mem_nil, or_false] at hj ⊢
      rcases hj with hj | hj | hj
      · exact .inl hj
      · exact .inr hj
      · exact absurd hj e
  · have hj1 : j ∉ a :: rest := by
      simp only [List.mem_cons, List.mem_append, List.not_mem_nil, or_false, not_or] at hj ⊢
      exact ⟨hj.1, hj.2.1⟩
    have hj2 : j ≠ b := by
      simp only [List.mem_cons, List.mem_append, List.not_mem_nil, or_false, not_or] at hj
      exact hj.2.2
    have P := h.wk.shut i j hj1
    intro x' y' hx' hy' hn' h0' y0'
    rw [keep j hj2] at hy'
    rcases get i x' hx' with ⟨rfl, rfl⟩ | ⟨_, hx1⟩
    · have := P x y' hx hy' hn' h0' y0'
      omega
    · exact P x' y' hx1 hy' hn' h0' y0'
  · intro x' y' hx' hy' hn' h0' y0'
    rw [keep a (fun h => hab h.symm), hy] at hy'
    injection hy' with hy'
    subst hy'
    rcases get i x' hx' with ⟨rfl, rfl⟩ | ⟨ib, hx1⟩
    · omega
    · have hq' : q < k := by
        rcases Nat.lt_or_ge q k with h | h
        · exact h
        · have : q = k := by omega
          subst this
          rw [hb] at hi
          injection hi with hi
          exact absurd (by omega) ib
      exact h.mid q i hq' hi x' y hx1 hy hn' h0' y0'

theorem Wi.done {l : List Int} {a : Nat} {rest : List Nat} (E : Even nb st n) (h : Wi nb st t n l a rest (nb a).length) : Wk nb st t n l rest := by
  refine ⟨h.wk.len, h.wk.here, h.wk.sound, h.wk.flat, fun j hj => h.wk.todo j (List.mem_cons_of_mem _ hj), fun i j hj => ?_⟩
  by_cases e : j = a
  · subst e
    intro x y hx hy hn h0 y0
    have hi : i < n := by rw [← h.wk.len]; exact (List.getElem?_eq_some_iff.1 hx).1
    obtain ⟨q, hq⟩ := List.mem_iff_getElem?.1 (E.back hi hn)
    exact h.mid q i (List.getElem?_eq_some_iff.1 hq).1 hq x y hx hy hn h0 y0
  · exact h.wk.shut i j (by simp [e, hj])
theorem Wk.far {l : List Int} (E : Even nb st n) (h : Wk nb st t n l []) : IsFar nb st t n l := far_of h.len E.lt h.here h.sound fun i hi j => h.shut i j (by simp)
end

/-! there and back. -/
theorem Way.snoc {nb : Nat → List Int} {s : Nat → Int} {a i j : Nat} {d : Int} (h : Way nb (fun _ j => s j) j a d) (hi : (i : Int) ∈ nb j) (h0 : 0 < s i) : Way nb (fun _ j => s j) i a (d + s i) := by
  induction h with
  | here =>
    have := Way.step (st := fun _ j => s j) hi h0 .here
    rwa [show s i + 0 = 0 + s i by omega] at this
  | @step p q d h1 h2 h3 ih =>
    have := Way.step (st := fun _ j => s j) h1 h2 ih
    rwa [show s q + (d + s i) = s q + d + s i by omega] at this
theorem Way.snoc' {nb : Nat → List Int} {s : Nat → Int} {a i j : Nat} {d : Int} (h : Way nb (fun i _ => s i) j a d) (hi : (i : Int) ∈ nb j) (h0 : 0 < s j) : Way nb (fun i _ => s i) i a (d + s j) := by
  induction h with
  | here =>
    have := Way.step (st := fun i _ => s i) hi h0 .here
    rwa [show s j + 0 = 0 + s j by omega] at this
  | @step p q d h1 h2 h3 ih =>
    have := Way.step (st := fun i _ => s i) h1 h2 ih
    rwa [show s p + (d + s j) = s p + d + s j by omega] at this
theorem Way.turn {nb : Nat → List Int} {s : Nat → Int} {n : Nat} (E : Even nb (fun _ j => s j) n) {t i : Nat} {d : Int} (h : Way nb (fun i _ => s i) t i d) (hi : i < n) : Way nb (fun _ j => s j) i t d := by
  induction h with
  | here => exact .here
  | @step i j d h1 h2 h3 ih =>
    have := (ih (E.lt _ _ hi h1)).snoc (E.back hi h1) h2
    rwa [show d + s i = s i + d by omega] at this
theorem Way.turn' {nb : Nat → List Int} {s : Nat → Int} {n : Nat} (E : Even nb (fun _ j => s j) n) {t i : Nat} {d : Int} (h : Way nb (fun _ j => s j) t i d) (hi : i < n) : Way nb (fun i _ => s i) i t d := by
  induction h with
  | here => exact .here
  | @step i j d h1 h2 h3 ih =>
    have := (ih (E.lt _ _ hi h1)).snoc' (E.back hi h1) h2
    rwa [show d + s j = s j + d by omega] at this
theorem Least.turn {nb : Nat → List Int} {s : Nat → Int} {n : Nat} (E : Even nb (fun _ j => s j) n) {t i : Nat} {x : Int} (h : Least nb (fun i _ => s i) t i x) (hi : i < n) (ht : t < n) : Least nb (fun _ j => s j) i t x := by
  rcases h with ⟨rfl, h⟩ | ⟨h1, h2⟩
  · exact .inl ⟨rfl, fun d hd => h d (hd.turn' E ht)⟩
  · exact .inr ⟨h1.turn E hi, fun d hd => h2 d (hd.turn' E ht)⟩

/-- a field's. -/
theorem even_near {W H : Nat} (hW : 0 < W) {st : Nat → Nat → Int} (h2 : ∀ i j, st i j ≤ 2) : Even (Fd.near W H) st (W * H) := by
  refine ⟨fun i x hi hx => ?_, fun i hi hx => ?_, h2⟩
  · obtain ⟨t, h1, h3, h4⟩ := Fd.near_cell hW hi hx
    exact ⟨t, h1, h3, h4⟩
  · have := Fd.near_mem.1 hx
    omega
end Go.Proofs.YtogdaegnpoknlaaDoor.Wy
