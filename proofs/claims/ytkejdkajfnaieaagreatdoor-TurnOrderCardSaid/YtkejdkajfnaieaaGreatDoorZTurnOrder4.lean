/- Ways: plain mathematics. nb: the cells beside one; st: how far it is from one to another one that is beside; t: whereto. · How far each cell is from one, as the program finds it: it goes on from the cells of a list till there is none. · Lands: how far it is to a cell, and from one. · The next cell on a way, the way, and what may be reached: plain mathematics. · The calls of package path: what they say where something is wrong; how far it is. · The calls of package path: what may be reached. · works.Spot: the nearest cell that will do; whether nobody is on a cell. · A region that draws its order, in which calls that change memory stand in one order, and what else there is reads what they leave: it may be walked in an order of one's own. · A region that draws its order: what reads, and calls in one order, first, in an order of one's own; then what turns what was read, each the only one that may come. · A world's value: its five slices; its field. · works.Spot: where a new unit would come. · api.Event: records in memory. · works.Train as mathematics: who waits, who comes, who stays. · Behind training a world is right; who is trained comes once. Plain mathematics. · works.Dig as mathematics: who takes how much, who brings what. · Slices of api.Unit: a whole list behind another one. · Units in a block that may be written. -/
import Derived.Test.YtkejdkajfnaieaaGreatDoorZTurnOrder3
import Derived.Test.YtkejdkajfnaieaaGreatDoorZTurnOrder1
import Derived.StillTail
import Derived.Below
namespace Go.Proofs.YtkejdkajfnaieaaGreatDoor.Wy

/-- there is a way from a cell to t whose steps come to d. -/
inductive Way (nb : Nat → List Int) (st : Nat → Nat → Int) (t : Nat) : Nat → Int → Prop
  | here : Way nb st t t 0
  | step {i j : Nat} {d : Int} : (j : Int) ∈ nb i → 0 < st i j → Way nb st t j d → Way nb st t i (st i j + d)

section
variable {nb : Nat → List Int} {st : Nat → Nat → Int} {t : Nat}

theorem Way.nonneg {i : Nat} {d : Int} (h : Way nb st t i d) : 0 ≤ d := by
  induction h with
  | here => omega
  | step _ h1 _ ih => omega

/-- x is how far it is from i: -1, if there is no way. -/
def Least (nb : Nat → List Int) (st : Nat → Nat → Int) (t i : Nat) (x : Int) : Prop :=
  (x = -1 ∧ ∀ d, ¬ Way nb st t i d) ∨ (Way nb st t i x ∧ ∀ d, Way nb st t i d → x ≤ d)
theorem Least.uniq {i : Nat} {x y : Int} (hx : Least nb st t i x) (hy : Least nb st t i y) : x = y := by
  rcases hx with ⟨rfl, hx⟩ | ⟨h1, h2⟩
  · rcases hy with ⟨rfl, _⟩ | ⟨h3, _⟩
    · rfl
    · exact absurd h3 (hx _)
  · rcases hy with ⟨rfl, hy⟩ | ⟨h3, h4⟩
    · exact absurd h1 (hy _)
    · have := h2 _ h3
      have := h4 _ h1
      omega
theorem Least.ge {i : Nat} {x : Int} (h : Least nb st t i x) : -1 ≤ x := by
  rcases h with ⟨rfl, _⟩ | ⟨h, _⟩
  · omega
  · have := h.nonneg; omega

/-- the list of all. -/
def IsFar (nb : Nat → List Int) (st : Nat → Nat → Int) (t n : Nat) (l : List Int) : Prop := l.length = n ∧ ∀ (i : Nat) x, l[i]? = some x → Least nb st t i x
theorem IsFar.uniq {n : Nat} {l m : List Int} (hl : IsFar nb st t n l) (hm : IsFar nb st t n m) : l = m := by
  apply List.ext_getElem?
  intro i
  by_cases h : i < n
  · have h1 : i < l.length := by rw [hl.1]; exact h
    have h2 : i < m.length := by rw [hm.1]; exact h
    rw [List.getElem?_eq_getElem h1, List.getElem?_eq_getElem h2, (hl.2 i _ (List.getElem?_eq_getElem h1)).uniq (hm.2 i _ (List.getElem?_eq_getElem h2))]
  · rw [List.getElem?_eq_none (by rw [hl.1]; omega), List.getElem?_eq_none (by rw [hm.1]; omega)]

/-- what is told is so: there is such a way. -/
def Sound (nb : Nat → List Int) (st : Nat → Nat → Int) (t : Nat) (l : List Int) : Prop := ∀ (i : Nat) x, l[i]? = some x → x = -1 ∨ Way nb st t i x
/-- from no cell is it further than from one beside it, and the step onto that. -/
def Shut (nb : Nat → List Int) (st : Nat → Nat → Int) (l : List Int) (i : Nat) : Prop := ∀ (j : Nat) x y, l[i]? = some x → l[j]? = some y → (j : Int) ∈ nb i → 0 < st i j → 0 ≤ y → 0 ≤ x ∧ x ≤ st i j + y

/-- what is sound and shut is how far it is. -/
theorem far_of {n : Nat} {l : List Int} (hn : l.length = n) (hnb : ∀ (i j : Nat), i < n → (j : Int) ∈ nb i → j < n) (ht : l[t]? = some 0) (hs : Sound nb st t l) (hc : ∀ i, i < n → Shut nb st l i) : IsFar nb st t n l := by
  have key : ∀ i d, Way nb st t i d → i < n → ∃ x, l[i]? = some x ∧ 0 ≤ x ∧ x ≤ d := by
    intro i d h
    induction h with
    | here => intro _; exact ⟨0, ht, by omega, by omega⟩
    | @step i j d h1 h2 h3 ih =>
      intro hi
      obtain ⟨y, hy, y0, yd⟩ := ih (hnb i j hi h1)
      have hx : i < l.length := by rw [hn]; exact hi
      have := hc i hi j _ y (List.getElem?_eq_getElem hx) hy h1 h2 y0
      exact ⟨_, List.getElem?_eq_getElem hx, this.1, by omega⟩
  refine ⟨hn, fun i x hx => ?_⟩
  have hi : i < n := by rw [← hn]; exact (List.getElem?_eq_some_iff.1 hx).1
  rcases hs i x hx with rfl | hw
  · refine .inl ⟨rfl, fun d hd => ?_⟩
    obtain ⟨x, h1, h2, -⟩ := key i d hd hi
    rw [hx] at h1
    injection h1 with h1
    omega
  · refine .inr ⟨hw, fun d hd => ?_⟩
    obtain ⟨y, h1, h2, h3⟩ := key i d hd hi
    rw [hx] at h1
    injection h1 with h1
    omega
/-- and the other way round. -/
theorem IsFar.sound {n : Nat} {l : List Int} (h : IsFar nb st t n l) : Sound nb st t l := fun i x hx => by
  rcases h.2 i x hx with ⟨rfl, _⟩ | ⟨h, _⟩
  · exact .inl rfl
  · exact .inr h
theorem IsFar.shut {n : Nat} {l : List Int} (h : IsFar nb st t n l) (i : Nat) : Shut nb st l i := by
  intro j x y hx hy hj hs y0
  rcases h.2 j y hy with ⟨rfl, _⟩ | ⟨hy1, _⟩
  · omega
  · have hw := Way.step hj hs hy1
    rcases h.2 i x hx with ⟨rfl, hx1⟩ | ⟨hx1, hx2⟩
    · exact absurd hw (hx1 _)
    · exact ⟨hx1.nonneg, hx2 _ hw⟩
theorem IsFar.here {n : Nat} {l : List Int} (h : IsFar nb st t n l) (ht : t < n) : l[t]? = some 0 := by
  have hl : t < l.length := by rw [h.1]; exact ht
  have h1 := List.getElem?_eq_getElem hl
  rcases h.2 t _ h1 with ⟨_, h2⟩ | ⟨h2, h3⟩
  · exact absurd Way.here (h2 0)
  · have := h3 0 .here
    have := h2.nonneg
    rw [h1, show l[t] = 0 by omega]
/-- from where there is a way, one is beside that is on a shortest. -/
theorem IsFar.next {n : Nat} {l : List Int} (h : IsFar nb st t n l) (hnb : ∀ (i j : Nat), i < n → (j : Int) ∈ nb i → j < n) {i : Nat} {x : Int} (hx : l[i]? = some x) (x0 : 0 ≤ x) (hi : i ≠ t) :
    ∃ (j : Nat) (y : Int), (j : Int) ∈ nb i ∧ l[j]? = some y ∧ 0 < st i j ∧ 0 ≤ y ∧ x = st i j + y := by
  have hin : i < n := by rw [← h.1]; exact (List.getElem?_eq_some_iff.1 hx).1
  rcases h.2 i x hx with ⟨rfl, _⟩ | ⟨hw, hl⟩
  · omega
  · cases hw with
    | here => exact absurd rfl hi
    | @step _ j d h1 h2 h3 =>
      have hj : j < l.length := by rw [h.1]; exact hnb i j hin h1
      have hy := List.getElem?_eq_getElem hj
      refine ⟨j, _, h1, hy, h2, ?_, ?_⟩
      · rcases h.2 j _ hy with ⟨_, h4⟩ | ⟨h4, _⟩
        · exact absurd h3 (h4 _)
        · exact h4.nonneg
      · rcases h.2 j _ hy with ⟨_, h4⟩ | ⟨h4, h5⟩
        · exact absurd h3 (h4 _)
        · have a1 := h5 _ h3
          have a2 := hl _ (Way.step h1 h2 h4)
          omega

/-- one cell nearer. -/
theorem Sound.set {l : List Int} {i j : Nat} {y : Int} (h : Sound nb st t l) (hy : l[j]? = some y) (hj : (j : Int) ∈ nb i) (hs : 0 < st i j) (y0 : 0 ≤ y) : Sound nb st t (l.set i (st i j + y)) := by
  intro k x hk
  rw [List.getElem?_set] at hk
  by_cases e : i = k
  · subst e
    by_cases hl : i < l.length
    · simp only [hl, if_true] at hk
      injection hk with hk
      subst hk
      rcases h j y hy with rfl | hw
      · omega
      · exact .inr (.step hj hs hw)
    · simp [hl] at hk
  · rw [if_neg e] at hk
    exact h k x hk
end

/-! how often a cell may get nearer. -/
/-- what is left. -/
def left (M : Nat) (l : List Int) : Nat := (l.map fun x => if x < 0 then M else x.toNat).sum
/-- how many are told. -/
def told (l : List Int) : Nat := (l.map fun x => if x < 0 then 0 else 1).sum
theorem sum_set (f : Int → Nat) (l : List Int) (i : Nat) (x v : Int) (h : l[i]? = some x) : ((l.set i v).map f).sum + f x = (l.map f).sum + f v := by
  induction l generalizing i with
  | nil => simp at h
  | cons a l ih =>
    cases i with
    | zero =>
      simp at h
      subst h
      simp
      omega
    | succ i =>
      simp at h
      have := ih i h
      simp only [List.set_cons_succ, List.map_cons, List.sum_cons]
      omega
theorem left_le (M : Nat) (l : List Int) (h : ∀ x ∈ l, x ≤ M) : left M l ≤ l.length * M := by
  unfold left
  induction l with
  | nil => simp
  | cons a l ih =>
    have h1 := ih (fun x hx => h x (List.mem_cons_of_mem _ hx))
    have h2 := h a (List.mem_cons_self ..)
    simp only [List.map_cons, List.sum_cons, List.length_cons, Nat.add_mul, Nat.one_mul]
    split <;> omega
theorem told_le (l : List Int) : told l ≤ l.length := by
  unfold told
  induction l with
  | nil => simp
  | cons a l ih =>
    simp only [List.map_cons, List.sum_cons, List.length_cons]
    split <;> omega
/-- no cell is further than two for each that is told, but one. -/
def Flat (l : List Int) : Prop := ∀ (i : Nat) x, l[i]? = some x → x < 0 ∨ x + 2 ≤ 2 * told l
theorem Flat.set {l : List Int} {i j : Nat} {x y s : Int} (h : Flat l) (hx : l[i]? = some x) (hy : l[j]? = some y) (y0 : 0 ≤ y) (s0 : 0 < s) (s2 : s ≤ 2) (hn : x < 0 ∨ s + y < x) : Flat (l.set i (s + y)) := by
  have e := sum_set (fun x => if x < 0 then 0 else 1) l i x (s + y) hx
  have ht : told (l.set i (s + y)) + (if x < 0 then 0 else 1) = told l + 1 := by
    unfold told
    rw [e, if_neg (show ¬ s + y < 0 by omega)]
  have hyl := h j y hy
  have hxl := h i x hx
  intro k z hk
  rw [List.getElem?_set] at hk
  by_cases ek : i = k
  · subst ek
    have hl : i < l.length := (List.getElem?_eq_some_iff.1 hx).1
    simp only [hl, if_true] at hk
    injection hk with hk
    subst hk
    right
    by_cases q : x < 0
    · rw [if_pos q] at ht; omega
    · rw [if_neg q] at ht; omega
  · rw [if_neg ek] at hk
    have hz := h k z hk
    by_cases q : x < 0
    · rw [if_pos q] at ht; omega
    · rw [if_neg q] at ht; omega
theorem left_set {l : List Int} {i j n : Nat} {x y s : Int} (h : Flat l) (hl : l.length = n) (hx : l[i]? = some x) (hy : l[j]? = some y) (y0 : 0 ≤ y) (s0 : 0 < s) (s2 : s ≤ 2) (hn : x < 0 ∨ s + y < x) : left (2 * n + 1) (l.set i (s + y)) < left (2 * n + 1) l := by
  have e := sum_set (fun x => if x < 0 then 2 * n + 1 else x.toNat) l i x (s + y) hx
  have hyl := h j y hy
  have ht := told_le l
  unfold left
  rw [if_neg (show ¬ s + y < 0 by omega)] at e
  by_cases q : x < 0
  · rw [if_pos q] at e; omega
  · rw [if_neg q] at e; omega
/-! a list of cells to go on from. -/
section
variable {nb : Nat → List Int} {st : Nat → Nat → Int} {t n : Nat}

/-- Shut, of one pair. -/
def Pr (nb : Nat → List Int) (st : Nat → Nat → Int) (l : List Int) (i j : Nat) : Prop := ∀ x y, l[i]? = some x → l[j]? = some y → (j : Int) ∈ nb i → 0 < st i j → 0 ≤ y → 0 ≤ x ∧ x ≤ st i j + y

/-- cells beside one another are so either way; none is beside itself; a step is 2 at most. -/
structure Even (nb : Nat → List Int) (st : Nat → Nat → Int) (n : Nat) : Prop where
  cell : ∀ (i : Nat) x, i < n → x ∈ nb i → ∃ j : Nat, x = j ∧ j < n ∧ (i : Int) ∈ nb j
  other : ∀ (i : Nat), i < n → (i : Int) ∉ nb i
  two : ∀ i j, st i j ≤ 2
theorem Even.lt (h : Even nb st n) : ∀ (i j : Nat), i < n → (j : Int) ∈ nb i → j < n := fun i j hi hj => by
  obtain ⟨k, e, hk, -⟩ := h.cell i j hi hj
  have : j = k := by omega
  omega
theorem Even.back (h : Even nb st n) {i j : Nat} (hi : i < n) (hj : (j : Int) ∈ nb i) : (i : Int) ∈ nb j := by
  obtain ⟨k, e, hk, hb⟩ := h.cell i j hi hj
  have : j = k := by omega
  rw [this]
  exact hb

/-- between two rounds: td, the cells to go on from. -/
structure Wk (nb : Nat → List Int) (st : Nat → Nat → Int) (t n : Nat) (l : List Int) (td : List Nat) : Prop where
  len : l.length = n
  here : l[t]? = some 0
  sound : Sound nb st t l
  flat : Flat l
  todo : ∀ j ∈ td, ∃ y, l[j]? = some y ∧ 0 ≤ y
  shut : ∀ i j, j ∉ td → Pr nb st l i j
/-- in a round: k cells beside the first one have been looked at. -/
structure Wiy (nb : Nat → List Int) (st : Nat → Nat → Int) (t n : Nat) (l : List Int) (a : Nat) (rest : List Nat) (k : Nat) : Prop where
  wk : Wk nb st t n l (a :: rest)
  mid : ∀ (q i : Nat), q < k → (nb a)[q]? = some (i : Int) → Pr nb st l i a

theorem Wk.start (ht : t < n) : Wk nb st t n ((List.replicate n (-1)).set t 0) [t] := by
  have get : ∀ (i : Nat) x, ((List.replicate n (-1 : Int)).set t 0)[i]? = some x → (i = t ∧ x = 0) ∨ (i ≠ t ∧ x = -1) := by
    intro i x hx
    rw [List.getElem?_set] at hx
    by_cases e : t = i
    · subst e
      rw [if_pos rfl, List.length_replicate, if_pos ht] at hx
      injection hx with hx
      exact .inl ⟨rfl, hx.symm⟩
    · rw [if_neg e, List.getElem?_replicate] at hx
      split at hx
      · injection hx with hx
        exact .inr ⟨fun h => e h.symm, hx.symm⟩
      · cases hx
  have h0 : ((List.replicate n (-1 : Int)).set t 0)[t]? = some 0 := by
    rw [List.getElem?_set, if_pos rfl, List.length_replicate, if_pos ht]
  refine ⟨by simp, h0, fun i x hx => ?_, fun i x hx => ?_, fun j hj => ?_, fun i j hj x y hx hy => ?_⟩
  · rcases get i x hx with ⟨rfl, rfl⟩ | ⟨_, rfl⟩
    · exact .inr .here
    · exact .inl rfl
  · rcases get i x hx with ⟨rfl, rfl⟩ | ⟨_, rfl⟩
    · right
      have e := sum_set (fun x => if x < 0 then 0 else 1) (List.replicate n (-1)) i (-1) 0 (by rw [List.getElem?_replicate, if_pos ht])
      have : told ((List.replicate n (-1)).set i 0) = ((List.replicate n (-1 : Int)).map fun x => if x < 0 then 0 else 1).sum + 1 := by
        unfold told
        simpa using e
      omega
    · left; omega
  · simp at hj
    subst hj
    exact ⟨0, h0, by omega⟩
  · intro _ _ y0
    rcases get j y hy with ⟨rfl, rfl⟩ | ⟨_, rfl⟩
    · simp at hj
    · omega

theorem left_start (ht : t < n) (hn : n ≤ 144) : left (2 * n + 1) ((List.replicate n (-1)).set t 0) ≤ 41616 := by
  refine Nat.le_trans (left_le _ _ fun x hx => ?_) ?_
  · rcases List.mem_or_eq_of_mem_set hx with h | h
    · rw [List.eq_of_mem_replicate h]; omega
    · omega
  · rw [List.length_set, List.length_replicate]
    exact Nat.mul_le_mul hn (show 2 * n + 1 ≤ 289 by omega)

theorem Wiy.skip {l : List Int} {a b k : Nat} {rest : List Nat} {x y : Int} (h : Wiy nb st t n l a rest k) (hb : (nb a)[k]? = some (b : Int)) (hx : l[b]? = some x) (hy : l[a]? = some y) (hs : 0 < st b a → 0 ≤ x ∧ x ≤ st b a + y) : Wiy nb st t n l a rest (k + 1) := by
  refine ⟨h.wk, fun q i hq hi => ?_⟩
  by_cases e : q = k
  · subst e
    rw [hb] at hi
    injection hi with hi
    have : b = i := by omega
    subst this
    intro x' y' hx' hy' _ h0 _
    rw [hx] at hx'
    rw [hy] at hy'
    injection hx' with hx'
    injection hy' with hy'
    subst hx'
    subst hy'
    exact hs h0
  · exact h.mid q i (by omega) hi

theorem Wiy.set {l : List Int} {a b k : Nat} {rest : List Nat} {x y : Int} (E : Even nb st n) (h : Wiy nb st t n l a rest k) (hb : (nb a)[k]? = some (b : Int)) (hx : l[b]? = some x) (hy : l[a]? = some y) (h0 : 0 < st b a) (hn : x < 0 ∨ st b a + y < x) :
    Wiy nb st t n (l.set b (st b a + y)) a (rest ++ [b]) (k + 1) ∧ left (2 * n + 1) (l.set b (st b a + y)) < left (2 * n + 1) l := by
  have an : a < n := by rw [← h.wk.len]; exact (List.getElem?_eq_some_iff.1 hy).1
  have bn : b < l.length := (List.getElem?_eq_some_iff.1 hx).1
  have hm : (b : Int) ∈ nb a := List.mem_of_getElem? hb
  have hm' := E.back an hm
  have hab : b ≠ a := by
    rintro rfl
    exact E.other b an hm
  obtain ⟨y1, hy1, y0⟩ := h.wk.todo a (List.mem_cons_self ..)
  rw [hy] at hy1
  injection hy1 with hy1
  subst hy1
  have hbt : b ≠ t := by
    rintro rfl
    rw [h.wk.here] at hx
    injection hx with hx
    omega
  have get : ∀ (i : Nat) z, (l.set b (st b a + y))[i]? = some z → (i = b ∧ z = st b a + y) ∨ (i ≠ b ∧ l[i]? = some z) := by
    intro i z hz
    rw [List.getElem?_set] at hz
    by_cases e : b = i
    · subst e
      rw [if_pos rfl, if_pos bn] at hz
      injection hz with hz
      exact .inl ⟨rfl, hz.symm⟩
    · rw [if_neg e] at hz
      exact .inr ⟨fun h => e h.symm, hz⟩
  have keep : ∀ (i : Nat), i ≠ b → (l.set b (st b a + y))[i]? = l[i]? := by
    intro i hi
    rw [List.getElem?_set, if_neg (fun h => hi h.symm)]
  refine ⟨⟨⟨by simp [h.wk.len], ?_, h.wk.sound.set hy hm' h0 y0, h.wk.flat.set hx hy y0 h0 (E.two _ _) hn, fun j hj => ?_, fun i j hj => ?_⟩, fun q i hq hi => ?_⟩, left_set h.wk.flat h.wk.len hx hy y0 h0 (E.two _ _) hn⟩
  · rw [keep t (fun h => hbt h.symm)]
    exact h.wk.here
  · by_cases e : j = b
    · subst e
      exact ⟨st j a + y, by rw [List.getElem?_set, if_pos rfl, if_pos bn], by omega⟩
    · rw [keep j e]
      refine h.wk.todo j ?_
      simp only [List.mem_cons, List.mem_append, List.not_mem_nil, or_false] at hj ⊢
      rcases hj with hj | hj | hj
      · exact .inl hj
      · exact .inr hj
      · exact absurd hj e
  · have hj1 : j ∉ a :: rest := by
      simp only [List.mem_cons, List.mem_append, List.not_mem_nil, or_false, not_or] at hj ⊢
      exact ⟨hj.1, hj.2.1⟩
    have hj2 : j ≠ b := by
      simp only [List.mem_cons, List.mem_append, List.not_mem_nil, or_false, not_or] at hj
      exact hj.2.2
    have P := h.wk.shut i j hj1
    intro x' y' hx' hy' hn' h0' y0'
    rw [keep j hj2] at hy'
    rcases get i x' hx' with ⟨rfl, rfl⟩ | ⟨_, hx1⟩
    · have := P x y' hx hy' hn' h0' y0'
      omega
    · exact P x' y' hx1 hy' hn' h0' y0'
  · intro x' y' hx' hy' hn' h0' y0'
    rw [keep a (fun h => hab h.symm), hy] at hy'
    injection hy' with hy'
    subst hy'
    rcases get i x' hx' with ⟨rfl, rfl⟩ | ⟨ib, hx1⟩
    · omega
    · have hq' : q < k := by
        rcases Nat.lt_or_ge q k with h | h
        · exact h
        · have : q = k := by omega
          subst this
          rw [hb] at hi
          injection hi with hi
          exact absurd (by omega) ib
      exact h.mid q i hq' hi x' y hx1 hy hn' h0' y0'

theorem Wiy.done {l : List Int} {a : Nat} {rest : List Nat} (E : Even nb st n) (h : Wiy nb st t n l a rest (nb a).length) : Wk nb st t n l rest := by
  refine ⟨h.wk.len, h.wk.here, h.wk.sound, h.wk.flat, fun j hj => h.wk.todo j (List.mem_cons_of_mem _ hj), fun i j hj => ?_⟩
  by_cases e : j = a
  · subst e
    intro x y hx hy hn h0 y0
    have hi : i < n := by rw [← h.wk.len]; exact (List.getElem?_eq_some_iff.1 hx).1
    obtain ⟨q, hq⟩ := List.mem_iff_getElem?.1 (E.back hi hn)
    exact h.mid q i (List.getElem?_eq_some_iff.1 hq).1 hq x y hx hy hn h0 y0
  · exact h.wk.shut i j (by simp [e, hj])
theorem Wk.far {l : List Int} (E : Even nb st n) (h : Wk nb st t n l []) : IsFar nb st t n l := far_of h.len E.lt h.here h.sound fun i hi j => h.shut i j (by simp)
end

/-! there and back. -/
theorem Way.snoc {nb : Nat → List Int} {s : Nat → Int} {a i j : Nat} {d : Int} (h : Way nb (fun _ j => s j) j a d) (hi : (i : Int) ∈ nb j) (h0 : 0 < s i) : Way nb (fun _ j => s j) i a (d + s i) := by
  induction h with
  | here =>
    have := Way.step (st := fun _ j => s j) hi h0 .here
    rwa [show s i + 0 = 0 + s i by omega] at this
  | @step p q d h1 h2 h3 ih =>
    have := Way.step (st := fun _ j => s j) h1 h2 ih
    rwa [show s q + (d + s i) = s q + d + s i by omega] at this
theorem Way.snoc' {nb : Nat → List Int} {s : Nat → Int} {a i j : Nat} {d : Int} (h : Way nb (fun i _ => s i) j a d) (hi : (i : Int) ∈ nb j) (h0 : 0 < s j) : Way nb (fun i _ => s i) i a (d + s j) := by
  induction h with
  | here =>
    have := Way.step (st := fun i _ => s i) hi h0 .here
    rwa [show s j + 0 = 0 + s j by omega] at this
  | @step p q d h1 h2 h3 ih =>
    have := Way.step (st := fun i _ => s i) h1 h2 ih
    rwa [show s p + (d + s j) = s p + d + s j by omega] at this
theorem Way.turn {nb : Nat → List Int} {s : Nat → Int} {n : Nat} (E : Even nb (fun _ j => s j) n) {t i : Nat} {d : Int} (h : Way nb (fun i _ => s i) t i d) (hi : i < n) : Way nb (fun _ j => s j) i t d := by
  induction h with
  | here => exact .here
  | @step i j d h1 h2 h3 ih =>
    have := (ih (E.lt _ _ hi h1)).snoc (E.back hi h1) h2
    rwa [show d + s i = s i + d by omega] at this
theorem Way.turn' {nb : Nat → List Int} {s : Nat → Int} {n : Nat} (E : Even nb (fun _ j => s j) n) {t i : Nat} {d : Int} (h : Way nb (fun _ j => s j) t i d) (hi : i < n) : Way nb (fun i _ => s i) i t d := by
  induction h with
  | here => exact .here
  | @step i j d h1 h2 h3 ih =>
    have := (ih (E.lt _ _ hi h1)).snoc' (E.back hi h1) h2
    rwa [show d + s j = s j + d by omega] at this
theorem Least.turn {nb : Nat → List Int} {s : Nat → Int} {n : Nat} (E : Even nb (fun _ j => s j) n) {t i : Nat} {x : Int} (h : Least nb (fun i _ => s i) t i x) (hi : i < n) (ht : t < n) : Least nb (fun _ j => s j) i t x := by
  rcases h with ⟨rfl, h⟩ | ⟨h1, h2⟩
  · exact .inl ⟨rfl, fun d hd => h d (hd.turn' E ht)⟩
  · exact .inr ⟨h1.turn E hi, fun d hd => h2 d (hd.turn' E ht)⟩

/-- a field's. -/
theorem even_near {W H : Nat} (hW : 0 < W) {st : Nat → Nat → Int} (h2 : ∀ i j, st i j ≤ 2) : Even (Fd.near W H) st (W * H) := by
  refine ⟨fun i x hi hx => ?_, fun i hi hx => ?_, h2⟩
  · obtain ⟨t, h1, h3, h4⟩ := Fd.near_cell hW hi hx
    exact ⟨t, h1, h3, h4⟩
  · have := Fd.near_mem.1 hx
    omega
end Go.Proofs.YtkejdkajfnaieaaGreatDoor.Wy

namespace Go.Proofs.YtkejdkajfnaieaaGreatDoor
open Go.RowKit Wy
set_option linter.unusedVariables false

/-- what is left, as memory has it. -/
def wleft (w : World) (b M : Nat) : Nat := match w.heap[b]? with
  | some (.cells cs _ _) => left M (cs.toList.map intOf)
  | _ => 0
theorem Bk.left {w : World} {b : Nat} {l : List Int} (h : Bk w b l #[]) (M : Nat) : wleft w b M = Wy.left M l := by
  unfold Bk at h
  unfold wleft
  rw [h]
  simp [intCells, intOf, Function.comp_def]
/-- how long a slice is. -/
def vlen : Value → Nat
  | .slice _ n _ => n
  | _ => 0
theorem Qu.vlen {w : World} {base : Nat} {v : Value} {xs : List Int} (h : Qu w base v xs) : vlen v = xs.length := by
  obtain ⟨g, off, cap, cur, h1, -⟩ := h
  rw [h1]
  rfl

theorem cell_new {w : World} {z : Nat} (d : Value) (hz : w.heap.size = z) : (w.alloc (Obj.cells #[d] 3)).cell? ⟨z, 0, none⟩ = some d := by
  subst hz
  simp

def ints (td : List Nat) : List Int := td.map Int.ofNat
theorem ints_len (td : List Nat) : (ints td).length = td.length := by simp [ints]

set_option maxRecDepth 100000 in
set_option maxHeartbeats 4000000 in
theorem spread_ok (K : Nat) (eK : ∀ args w, (callFunc K args).run Tryz.prog w = .ok (.enter K args) w) (q v : Value) (n t : Nat) (nb : Nat → List Int) (ss : List Int) (st : Nat → Nat → Int) (w : World) (h : Ld w v n nb ss) (E : Even nb st n) (ht : t < n) (hn : n ≤ 144) (h4 : ∀ i, (nb i).length ≤ 4)
    (hon : ∀ w' (i j : Nat), i < n → j < n → Below w.heap.size w w' → Calls Tryz.prog K #[.int .i64 (i : Nat), .int .i64 (j : Nat), q] w' fun e w'' => e = .returned (.int .i64 (st j i)) ∧ w'' = w') :
    Calls Tryz.prog 213 #[v, .int .i64 (t : Nat), .func (Fn.func K) #[] #[q]] w fun e w' => ∃ b l, e = .returned (.slice (some ⟨b, 0, none⟩) n n) ∧ w.heap.size ≤ b ∧ Bk w' b l #[] ∧ (IsFar nb st t n l ∧ Flat l) ∧ Below w.heap.size w w' := by
  obtain ⟨u1, u2, rfl, ⟨x, c, rfl, c1, c2, hx⟩, ⟨a2, d, rfl, d1, d2, ca⟩, hl⟩ := h
  rw [hl] at d1 ⊢
  have Hx : Hid (∀ i, i < n → ∃ u, w.cell? (x.add i) = some u ∧ Ro w u (nb i)) := hx
  have Ho : Hid (∀ w' (i j : Nat), i < n → j < n → Below w.heap.size w w' → Calls Tryz.prog K #[.int .i64 (i : Nat), .int .i64 (j : Nat), q] w' fun e w'' => e = .returned (.int .i64 (st j i)) ∧ w'' = w') := hon
  have H4 : Hid (∀ i, (nb i).length ≤ 4) := h4
  have E0 : Hid (Even nb st n) := E
  clear hx ca hon h4 E hl
  go_enter Tryz.func213, Tryz.ntmps213
  go_wp2_with fail
  refine (repeat_ok (-1) _ n _ (Ro.lit1 (w := w.alloc _) (-1) (by simp)) (by omega) hn).mono ?_
  rintro e w1 ⟨b, rfl, hbz, hbk, hbel⟩
  have bz : Hid (w.heap.size + 2 ≤ b) := by unfold Hid; simpa using hbz
  have B1 : Hid (Below w.heap.size w w1) := (((Below.refl _ _).alloc (Nat.le_refl _) _).alloc (by simp) _).trans (hbel.mono (by simp; omega))
  have X1 : Hid (Bl w1 w.heap.size (.slice (some x) n c) (.slice a2 n d)) := ((Bl.mk' (w := w) (.slice (some x) n c) (.slice a2 n d) rfl).below ((Below.refl _ _).alloc (Nat.le_refl _) (Obj.cells #[Value.int IntKind.i64 (-1)] 3)) (by simp)).below hbel (by simp; omega)
  have K1 : Hid (Bk w1 b (List.replicate n (-1)) #[]) := hbk
  have ct := hbk.cell (i := t) (d := -1) (by rw [List.getElem?_replicate, if_pos ht])
  have ft := hbk.thaw t
  clear hbz hbk hbel
  have k12 := Kp.set (z := b) w1 t (.int .i64 0)
  have K2 : Hid (Bk (w1.setCell ⟨b, t, none⟩ (.int .i64 0)) b ((List.replicate n (-1)).set t 0) #[]) := K1.out.set t 0 (by simp; exact ht)
  have X2 : Hid (Bl (w1.setCell ⟨b, t, none⟩ (.int .i64 0)) w.heap.size (.slice (some x) n c) (.slice a2 n d)) := X1.out.kp k12 (by have := bz.out; omega)
  have B2 : Hid (Below w.heap.size w (w1.setCell ⟨b, t, none⟩ (.int .i64 0))) := k12.below B1.out B1.out.size (by have := bz.out; omega)
  have Z2 : Hid ((w1.setCell ⟨b, t, none⟩ (.int .i64 0)).heap.size = w1.heap.size) := by unfold Hid; simp
  have bB : Hid (b < w1.heap.size) := K1.out.lt
  clear k12 K1 X1 B1
  go_wp2_with fail
  generalize w1.setCell ⟨b, t, none⟩ (.int .i64 0) = w2 at *
  clear ct ft
  obtain ⟨B, hB⟩ : ∃ B, w1.heap.size = B := ⟨_, rfl⟩
  rw [hB] at bB Z2 ⊢
  have Q3 : Hid (Qu (w2.alloc (Obj.cells #[.int .i64 (t : Nat)] 3)) B (.slice (some ⟨B, 0, none⟩) 1 1) (ints [t])) := Qu.one (w := w2) (t : Nat) (by rw [Z2.out]; exact Nat.le_refl _) Z2.out
  have b23 : Below w2.heap.size w2 (w2.alloc (Obj.cells #[.int .i64 (t : Nat)] 3)) := (Below.refl _ _).alloc (Nat.le_refl _) _
  have K3 : Hid (Bk (w2.alloc (Obj.cells #[.int .i64 (t : Nat)] 3)) b ((List.replicate n (-1)).set t 0) #[]) := K2.out.below b23
  have X3 : Hid (Bl (w2.alloc (Obj.cells #[.int .i64 (t : Nat)] 3)) w.heap.size (.slice (some x) n c) (.slice a2 n d)) := X2.out.below b23 X2.out.lt
  have B3 : Hid (Below w.heap.size w (w2.alloc (Obj.cells #[.int .i64 (t : Nat)] 3))) := B2.out.trans (b23.mono B2.out.size)
  have S3 : Hid (B ≤ (w2.alloc (Obj.cells #[.int .i64 (t : Nat)] 3)).heap.size) := by
    have := b23.size
    rw [Z2.out] at this
    exact this
  generalize w2.alloc (Obj.cells #[.int .i64 (t : Nat)] 3) = w3 at *
  clear K2 X2 B2 Z2 b23 hB
  go_loopw [8] (fun v W' => ∃ l td, Qu W' B v (ints td) ∧ Bk W' b l #[] ∧ Wk nb st t n l td ∧ Bl W' w.heap.size (.slice (some x) n c) (.slice a2 n d) ∧ Below w.heap.size w W' ∧ B ≤ W'.heap.size ∧ 2 * left (2 * n + 1) l + td.length ≤ 100000) (fun v W' => 2 * wleft W' b (2 * n + 1) + vlen v)
  case atStart => exact ⟨_, [t], Q3, K3, Wk.start ht, X3, B3, S3, by have := left_start ht hn; simp only [List.length_cons, List.length_nil]; omega⟩
  case round =>
    obtain ⟨l, td, hq, hk, hw, hxx, hb, hsz, hmx⟩ := hrel
    clear Q3 K3 X3 B3 S3
    have Kb : Hid (Bk wr b l #[]) := hk
    have Ww : Hid (Wk nb st t n l td) := hw
    have X : Hid (Bl wr w.heap.size (.slice (some x) n c) (.slice a2 n d)) := hxx
    have Bw : Hid (Below w.heap.size w wr) := hb
    have Sz : Hid (B ≤ wr.heap.size) := hsz
    clear hk hw hxx hb hsz
    cases td with
    | nil =>
      obtain ⟨g, off, cap, cur, rfl, -, -, -⟩ := hq
      go_wp2
      go_ret
      exact ⟨b, l, rfl, by have := bz.out; omega, Kb, ⟨Ww.out.far E0.out, Ww.out.flat⟩, Bw⟩
    | cons a rest =>
      have Q : Hid (Qu wr B u8 (ints (a :: rest))) := hq
      have an : a < n := by
        obtain ⟨y, hy, -⟩ := Ww.out.todo a (List.mem_cons_self ..)
        have := (List.getElem?_eq_some_iff.1 hy).1
        rw [Ww.out.len] at this
        exact this
      obtain ⟨m0, hm0⟩ : ∃ m0, 2 * wleft wr b (2 * n + 1) + vlen u8 = m0 := ⟨_, rfl⟩
      have M0 : Hid (2 * wleft wr b (2 * n + 1) + vlen u8 = m0) := hm0
      have ML : Hid (2 * left (2 * n + 1) l + rest.length + 1 ≤ m0) := by
        unfold Hid
        rw [← hm0, Kb.out.left, hq.vlen, ints_len]
        simp only [List.length_cons]
        omega
      have m9 : m0 ≤ 100000 := by
        rw [← hm0, Kb.out.left, hq.vlen, ints_len]
        exact hmx
      clear hm0 hmx
      obtain ⟨g, off, cap, hu8, o1, o2, hc⟩ := Qu.first (x := (a : Int)) (xs := ints rest) hq
      subst hu8
      clear hq
      obtain ⟨u, hu, hr⟩ := Hx.out a an
      have hu' : wr.cell? (x.add a) = some u := by rw [Bw.out.cell (p := x.add a) (by have := cell_lt hu; rw [add_block] at this ⊢; exact this)]; exact hu
      have Hr0 : Hid (Ro w u (nb a)) := hr
      obtain ⟨a3, c3, rfl, e1, e2, -⟩ := hr
      have L4 := H4.out a
      have x0 := X.out.c0
      clear hu
      go_wp2_with fail
      clear hc x0 hu' o1 o2 ht
      go_loopw [8, 37] (fun v i W' => ∃ l rest k, i = .int .i64 (k : Nat) ∧ k ≤ (nb a).length ∧ Qu W' B v (ints (a :: rest)) ∧ Bk W' b l #[] ∧ Wiy nb st t n l a rest k ∧ Bl W' w.heap.size (.slice (some x) n c) (.slice a2 n d) ∧ Below w.heap.size w W' ∧ B ≤ W'.heap.size ∧ 2 * left (2 * n + 1) l + rest.length + 1 ≤ m0) (fun _ i _ => (nb a).length - (intOf i).toNat)
      case atStart => exact ⟨l, rest, 0, rfl, Nat.zero_le _, Q, Kb, ⟨Ww, fun q i hq => absurd hq (Nat.not_lt_zero _)⟩, X, Bw, Sz, ML⟩
      case round =>
        clear Q Kb Ww X ML
        obtain ⟨l, rest, k, rfl, hk, hq, hkb, hwi, hx, hb, hsz, hml⟩ := hrel
        have Q : Hid (Qu wr B u8 (ints (a :: rest))) := hq
        have Kb : Hid (Bk wr b l #[]) := hkb
        have Wiy : Hid (Wiy nb st t n l a rest k) := hwi
        have X : Hid (Bl wr w.heap.size (.slice (some x) n c) (.slice a2 n d)) := hx
        have Bw' : Hid (Below w.heap.size w wr) := hb
        have Sz' : Hid (B ≤ wr.heap.size) := hsz
        have ML : Hid (2 * left (2 * n + 1) l + rest.length + 1 ≤ m0) := hml
        clear hkb hwi hx hb hsz hml
        by_cases h0 : k = (nb a).length
        · have Wds : Hid (Wk nb st t n l rest) := by
            have := Wiy.out
            rw [h0] at this
            exact this.done E0.out
          subst h0
          obtain ⟨v', qv, sv⟩ := Qu.rest (x := (a : Int)) (xs := ints rest) Q.out
          have Q' : Hid (Qu wr B v' (ints rest)) := qv
          clear qv hq Q Wiy
          go_wp2
          go_round
          case rel => exact ⟨l, rest, Q', Kb, Wds, X, Bw', Sz', by have := ML.out; omega⟩
          case measure =>
            rw [Kb.out.left, Q'.out.vlen, ints_len]
            have := ML.out
            have := M0.out
            omega
        · have hkl : k < (nb a).length := by omega
          obtain ⟨j, hj, jn, -⟩ := E0.out.cell a _ an (List.getElem_mem hkl)
          have Hj : Hid ((nb a)[k]? = some (j : Int)) := by unfold Hid; rw [List.getElem?_eq_getElem hkl, hj]
          clear hj
          obtain ⟨a4, c4, e4, -, -, ca⟩ := Hr0.out.below Bw'.out
          injection e4 with e5 e6 e7
          subst e5
          obtain ⟨y, rfl, -, hy⟩ := ca (by intro h; rw [h] at hkl; simp at hkl)
          have cj := hy k _ Hj.out
          clear hy e6 e7 ca hq
          have l2 := E0.out.two j a
          obtain ⟨yv, hyv, y0⟩ := Wiy.out.wk.todo a (List.mem_cons_self ..)
          have ll : l.length = n := Wiy.out.wk.len
          obtain ⟨xv, hxv⟩ : ∃ xv, l[j]? = some xv := ⟨l[j]'(by rw [ll]; exact jn), List.getElem?_eq_getElem _⟩
          have tl := told_le l
          have fx := Wiy.out.wk.flat j xv hxv
          have fy := Wiy.out.wk.flat a yv hyv
          have xb : xv ≤ 288 := by omega
          have yb : yv ≤ 288 := by omega
          have xm : -1 ≤ xv := by
            rcases Wiy.out.wk.sound j xv hxv with h | h
            · omega
            · have := h.nonneg; omega
          have cx := Kb.out.cell hxv
          have cy := Kb.out.cell hyv
          have fz := Kb.out.thaw j
          clear tl fx fy ll
          go_wp2_with fail
          refine (Ho.out wr a j an jn Bw'.out).mono ?_
          rintro e w' ⟨rfl, rfl⟩
          obtain ⟨m, hm⟩ : ∃ m, st j a = m := ⟨_, rfl⟩
          have HD : Hid (st j a = m) := hm
          rw [hm] at l2 ⊢
          clear hm
          by_cases h1 : 0 < m
          · by_cases h2 : xv < 0
            · have HS := Wiy.out.set E0.out Hj.out hxv hyv (by rw [HD.out]; exact h1) (.inl h2)
              rw [HD.out, Int.add_comm m yv] at HS
              have HT : Hid (Wy.Wiy nb st t n (l.set j (yv + m)) a (rest ++ [j]) (k + 1) ∧ left (2 * n + 1) (l.set j (yv + m)) < left (2 * n + 1) l) := HS
              clear HS HD
              go_wp2
              go_quiet (fail)
              have kq : Below w'.heap.size w' (w'.drewN nq) := _root_.Go.below_drewN (Below.refl _ _) _
              have K5 : Hid (Bk (w'.drewN nq) b l #[]) := Kb.out.below kq
              have Q5 : Hid (Qu (w'.drewN nq) B u8 (ints (a :: rest))) := Q.out.below kq
              have X5 : Hid (Bl (w'.drewN nq) w.heap.size (.slice (some x) n c) (.slice a2 n d)) := X.out.below kq X.out.lt
              have B5 : Hid (Below w.heap.size w (w'.drewN nq)) := Bw'.out.trans (kq.mono Bw'.out.size)
              have S5 : Hid (B ≤ (w'.drewN nq).heap.size) := Nat.le_trans Sz'.out kq.size
              generalize w'.drewN nq = w5 at *
              clear Kb Q X Bw' Sz' kq cx cy fz cj
              have cx := K5.out.cell hxv
              have cy := K5.out.cell hyv
              have fz := K5.out.thaw j
              have k6 := Kp.set (z := b) w5 j (.int .i64 (yv + m))
              have K6 : Hid (Bk (w5.setCell ⟨b, j, none⟩ (.int .i64 (yv + m))) b (l.set j (yv + m)) #[]) := K5.out.set j (yv + m) (List.getElem?_eq_some_iff.1 hxv).1
              have Q6 : Hid (Qu (w5.setCell ⟨b, j, none⟩ (.int .i64 (yv + m))) B u8 (ints (a :: rest))) := Q5.out.kp k6 bB.out
              have X6 : Hid (Bl (w5.setCell ⟨b, j, none⟩ (.int .i64 (yv + m))) w.heap.size (.slice (some x) n c) (.slice a2 n d)) := X5.out.kp k6 (by have := bz.out; omega)
              have B6 : Hid (Below w.heap.size w (w5.setCell ⟨b, j, none⟩ (.int .i64 (yv + m)))) := k6.below B5.out B5.out.size (by have := bz.out; omega)
              have S6 : Hid (B ≤ (w5.setCell ⟨b, j, none⟩ (.int .i64 (yv + m))).heap.size) := Nat.le_trans S5.out k6.size
              clear k6 K5 Q5 X5 B5 S5 hxv hyv
              have RL : Hid ((ints (a :: rest)).length ≤ 1000000) := by
                unfold Hid
                rw [ints_len]
                simp only [List.length_cons]
                have := ML.out
                omega
              have Sb : Hid (b < B ∧ w.heap.size < B) := by
                have := bz.out
                have := bB.out
                exact ⟨by omega, by omega⟩
              have Ba : Hid (Below (w5.setCell ⟨b, j, none⟩ (.int .i64 (yv + m))).heap.size (w5.setCell ⟨b, j, none⟩ (.int .i64 (yv + m))) ((w5.setCell ⟨b, j, none⟩ (.int .i64 (yv + m))).alloc (Obj.cells #[.int .i64 (j : Nat)] 3))) := (Below.refl _ _).alloc (Nat.le_refl _) _
              have Cd : Hid (((w5.setCell ⟨b, j, none⟩ (.int .i64 (yv + m))).alloc (Obj.cells #[.int .i64 (j : Nat)] 3)).cell? ⟨w5.heap.size, 0, none⟩ = some (.int .i64 (j : Nat))) := cell_new (w := w5.setCell ⟨b, j, none⟩ (.int .i64 (yv + m))) _ (World.size_setCell _ _ _)
              go_wp2_with (at_builtin; refine app_q _ rfl _ _ rfl B _ (ints (a :: rest)) rfl (Q6.out.below Ba.out) ⟨w5.heap.size, 0, none⟩ (j : Nat) rfl Cd.out RL.out (Nat.le_trans S6.out Ba.out.size) ?_)
              intro v7 w7 q7 b7
              have ba := Ba.out
              have Q7 : Hid (Qu w7 B v7 (ints (a :: (rest ++ [j])))) := by
                have e : ints (a :: (rest ++ [j])) = ints (a :: rest) ++ [(j : Int)] := by simp [ints]
                unfold Hid
                rw [e]
                exact q7
              have K7 : Hid (Bk w7 b (l.set j (yv + m)) #[]) := (K6.out.below ba).low b7 Sb.out.1
              have X7 : Hid (Bl w7 w.heap.size (.slice (some x) n c) (.slice a2 n d)) := (X6.out.below ba X6.out.lt).below b7 Sb.out.2
              have B7 : Hid (Below w.heap.size w w7) := (B6.out.trans (ba.mono B6.out.size)).trans (b7.mono (Nat.le_of_lt Sb.out.2))
              have S7 : Hid (B ≤ w7.heap.size) := Nat.le_trans (Nat.le_trans S6.out ba.size) b7.size
              clear q7 b7 ba Ba Cd K6 Q6 X6 B6 S6 cx cy fz
              go_wp2
              go_round
              case rel => exact ⟨l.set j (yv + m), rest ++ [j], k + 1, by go_num, by omega, Q7, K7, HT.out.1, X7, B7, S7, by have := HT.out.2; have := ML.out; simp only [List.length_append, List.length_cons, List.length_nil]; omega⟩
              case measure => simp [intOf]; omega
            · have h2' : decide (xv < 0) = false := decide_eq_false h2
              by_cases h3 : yv + m < xv
              · have HS := Wiy.out.set E0.out Hj.out hxv hyv (by rw [HD.out]; exact h1) (.inr (by rw [HD.out]; omega))
                rw [HD.out, Int.add_comm m yv] at HS
                have HT : Hid (Wy.Wiy nb st t n (l.set j (yv + m)) a (rest ++ [j]) (k + 1) ∧ left (2 * n + 1) (l.set j (yv + m)) < left (2 * n + 1) l) := HS
                clear HS HD
                go_wp2
                go_quiet (fail)
                have kq : Below w'.heap.size w' (w'.drewN nq) := _root_.Go.below_drewN (Below.refl _ _) _
                have K5 : Hid (Bk (w'.drewN nq) b l #[]) := Kb.out.below kq
                have Q5 : Hid (Qu (w'.drewN nq) B u8 (ints (a :: rest))) := Q.out.below kq
                have X5 : Hid (Bl (w'.drewN nq) w.heap.size (.slice (some x) n c) (.slice a2 n d)) := X.out.below kq X.out.lt
                have B5 : Hid (Below w.heap.size w (w'.drewN nq)) := Bw'.out.trans (kq.mono Bw'.out.size)
                have S5 : Hid (B ≤ (w'.drewN nq).heap.size) := Nat.le_trans Sz'.out kq.size
                generalize w'.drewN nq = w5 at *
                clear Kb Q X Bw' Sz' kq cx cy fz cj
                have cx := K5.out.cell hxv
                have cy := K5.out.cell hyv
                have fz := K5.out.thaw j
                have k6 := Kp.set (z := b) w5 j (.int .i64 (yv + m))
                have K6 : Hid (Bk (w5.setCell ⟨b, j, none⟩ (.int .i64 (yv + m))) b (l.set j (yv + m)) #[]) := K5.out.set j (yv + m) (List.getElem?_eq_some_iff.1 hxv).1
                have Q6 : Hid (Qu (w5.setCell ⟨b, j, none⟩ (.int .i64 (yv + m))) B u8 (ints (a :: rest))) := Q5.out.kp k6 bB.out
                have X6 : Hid (Bl (w5.setCell ⟨b, j, none⟩ (.int .i64 (yv + m))) w.heap.size (.slice (some x) n c) (.slice a2 n d)) := X5.out.kp k6 (by have := bz.out; omega)
                have B6 : Hid (Below w.heap.size w (w5.setCell ⟨b, j, none⟩ (.int .i64 (yv + m)))) := k6.below B5.out B5.out.size (by have := bz.out; omega)
                have S6 : Hid (B ≤ (w5.setCell ⟨b, j, none⟩ (.int .i64 (yv + m))).heap.size) := Nat.le_trans S5.out k6.size
                clear k6 K5 Q5 X5 B5 S5 hxv hyv
                have RL : Hid ((ints (a :: rest)).length ≤ 1000000) := by
                  unfold Hid
                  rw [ints_len]
                  simp only [List.length_cons]
                  have := ML.out
                  omega
                have Sb : Hid (b < B ∧ w.heap.size < B) := by
                  have := bz.out
                  have := bB.out
                  exact ⟨by omega, by omega⟩
                have Ba : Hid (Below (w5.setCell ⟨b, j, none⟩ (.int .i64 (yv + m))).heap.size (w5.setCell ⟨b, j, none⟩ (.int .i64 (yv + m))) ((w5.setCell ⟨b, j, none⟩ (.int .i64 (yv + m))).alloc (Obj.cells #[.int .i64 (j : Nat)] 3))) := (Below.refl _ _).alloc (Nat.le_refl _) _
                have Cd : Hid (((w5.setCell ⟨b, j, none⟩ (.int .i64 (yv + m))).alloc (Obj.cells #[.int .i64 (j : Nat)] 3)).cell? ⟨w5.heap.size, 0, none⟩ = some (.int .i64 (j : Nat))) := cell_new (w := w5.setCell ⟨b, j, none⟩ (.int .i64 (yv + m))) _ (World.size_setCell _ _ _)
                go_wp2_with (at_builtin; refine app_q _ rfl _ _ rfl B _ (ints (a :: rest)) rfl (Q6.out.below Ba.out) ⟨w5.heap.size, 0, none⟩ (j : Nat) rfl Cd.out RL.out (Nat.le_trans S6.out Ba.out.size) ?_)
                intro v7 w7 q7 b7
                have ba := Ba.out
                have Q7 : Hid (Qu w7 B v7 (ints (a :: (rest ++ [j])))) := by
                  have e : ints (a :: (rest ++ [j])) = ints (a :: rest) ++ [(j : Int)] := by simp [ints]
                  unfold Hid
                  rw [e]
                  exact q7
                have K7 : Hid (Bk w7 b (l.set j (yv + m)) #[]) := (K6.out.below ba).low b7 Sb.out.1
                have X7 : Hid (Bl w7 w.heap.size (.slice (some x) n c) (.slice a2 n d)) := (X6.out.below ba X6.out.lt).below b7 Sb.out.2
                have B7 : Hid (Below w.heap.size w w7) := (B6.out.trans (ba.mono B6.out.size)).trans (b7.mono (Nat.le_of_lt Sb.out.2))
                have S7 : Hid (B ≤ w7.heap.size) := Nat.le_trans (Nat.le_trans S6.out ba.size) b7.size
                clear q7 b7 ba Ba Cd K6 Q6 X6 B6 S6 cx cy fz
                go_wp2
                go_round
                case rel => exact ⟨l.set j (yv + m), rest ++ [j], k + 1, by go_num, by omega, Q7, K7, HT.out.1, X7, B7, S7, by have := HT.out.2; have := ML.out; simp only [List.length_append, List.length_cons, List.length_nil]; omega⟩
                case measure => simp [intOf]; omega
              · have h3' : decide (yv + m < xv) = false := decide_eq_false h3
                have HS : Hid (Wy.Wiy nb st t n l a rest (k + 1)) := Wiy.out.skip Hj.out hxv hyv (fun h => by rw [HD.out]; omega)
                clear HD
                go_wp2
                go_quiet (fail)
                have kq : Below w'.heap.size w' (w'.drewN nq) := _root_.Go.below_drewN (Below.refl _ _) _
                have Q5 : Hid (Qu (w'.drewN nq) B u8 (ints (a :: rest))) := Q.out.below kq
                have K5 : Hid (Bk (w'.drewN nq) b l #[]) := Kb.out.below kq
                have X5 : Hid (Bl (w'.drewN nq) w.heap.size (.slice (some x) n c) (.slice a2 n d)) := X.out.below kq X.out.lt
                have B5 : Hid (Below w.heap.size w (w'.drewN nq)) := Bw'.out.trans (kq.mono Bw'.out.size)
                have S5 : Hid (B ≤ (w'.drewN nq).heap.size) := Nat.le_trans Sz'.out kq.size
                generalize w'.drewN nq = w5 at *
                clear Kb Q X Bw' Sz' kq cx cy fz cj
                go_wp2
                go_round
                case rel => exact ⟨l, rest, k + 1, by go_num, by omega, Q5, K5, HS, X5, B5, S5, ML⟩
                case measure => simp [intOf]; omega
          · have h1' : decide (0 < m) = false := decide_eq_false h1
            have HS : Hid (Wy.Wiy nb st t n l a rest (k + 1)) := Wiy.out.skip Hj.out hxv hyv (fun h => absurd (by rw [HD.out] at h; exact h) h1)
            clear HD
            go_wp2
            go_quiet (fail)
            have kq : Below w'.heap.size w' (w'.drewN nq) := _root_.Go.below_drewN (Below.refl _ _) _
            have Q5 : Hid (Qu (w'.drewN nq) B u8 (ints (a :: rest))) := Q.out.below kq
            have K5 : Hid (Bk (w'.drewN nq) b l #[]) := Kb.out.below kq
            have X5 : Hid (Bl (w'.drewN nq) w.heap.size (.slice (some x) n c) (.slice a2 n d)) := X.out.below kq X.out.lt
            have B5 : Hid (Below w.heap.size w (w'.drewN nq)) := Bw'.out.trans (kq.mono Bw'.out.size)
            have S5 : Hid (B ≤ (w'.drewN nq).heap.size) := Nat.le_trans Sz'.out kq.size
            generalize w'.drewN nq = w5 at *
            clear Kb Q X Bw' Sz' kq cx cy fz cj
            go_wp2
            go_round
            case rel => exact ⟨l, rest, k + 1, by go_num, by omega, Q5, K5, HS, X5, B5, S5, ML⟩
            case measure => simp [intOf]; omega
end Go.Proofs.YtkejdkajfnaieaaGreatDoor

namespace Go.Proofs.YtkejdkajfnaieaaGreatDoor
open Go.RowKit Wy
set_option linter.unusedVariables false

theorem enter_from : ∀ args w, (callFunc 214 args).run Tryz.prog w = .ok (.enter 214 args) w := by
  intro args w
  go_simp

set_option maxHeartbeats 1000000 in
theorem on_from (z n : Nat) (u1 u2 : Value) (ss : List Int) (i j : Nat) (w : World) (X : Bl w z u1 u2) (hu : Ro w u2 ss) (hl : ss.length = n) (hi : j < n) :
    Calls Tryz.prog 214 #[.int .i64 (i : Nat), .int .i64 (j : Nat), .pointer (some ⟨z, 0, none⟩)] w fun e w' => e = .returned (.int .i64 (ss.getD j 0)) ∧ w' = w := by
  obtain ⟨a, c, rfl, c1, c2, ca⟩ := hu
  obtain ⟨x, rfl, -, hx⟩ := ca (by intro e; rw [e] at hl; simp at hl; omega)
  have e : ss[j]? = some (ss.getD j 0) := by rw [List.getD_eq_getElem?_getD, List.getElem?_eq_getElem (by omega)]; rfl
  have cx := hx j _ e
  have x1 := X.c1
  generalize ss.getD j 0 = s at *
  rw [hl] at *
  clear hx ca e X
  go_enter Tryz.func214, Tryz.ntmps214
  go_wp2
  go_ret
  exact ⟨rfl, rfl⟩

set_option maxHeartbeats 1000000 in
theorem farFrom_ok (v : Value) (n t : Nat) (nb : Nat → List Int) (ss : List Int) (w : World) (h : Ld w v n nb ss) (E : Even nb (fun i _ => ss.getD i 0) n) (ht : t < n) (hn : n ≤ 144) (h4 : ∀ i, (nb i).length ≤ 4) :
    Calls Tryz.prog 178 #[v, .int .i64 (t : Nat)] w fun e w' => ∃ b l, e = .returned (.slice (some ⟨b, 0, none⟩) n n) ∧ w.heap.size ≤ b ∧ Bk w' b l #[] ∧ (IsFar nb (fun i _ => ss.getD i 0) t n l ∧ Flat l) ∧ Below w.heap.size w w' := by
  have L0 : Hid (Ld w v n nb ss) := h
  have E0 : Hid (Even nb (fun i _ => ss.getD i 0) n) := E
  have T0 : Hid (t < n ∧ n ≤ 144 ∧ ∀ i, (nb i).length ≤ 4) := ⟨ht, hn, h4⟩
  obtain ⟨u1, u2, rfl, hb1, hr2, hl⟩ := h
  have R2 : Hid (Ro w u2 ss ∧ ss.length = n) := ⟨hr2, hl⟩
  obtain ⟨x1, c1, e1, -⟩ := hb1
  obtain ⟨x2, c2, e2, -⟩ := hr2
  clear ht hn h4 E hl
  have b0 : Below w.heap.size w (w.alloc (Obj.cells #[u1, u2] 232)) := (Below.refl _ _).alloc (Nat.le_refl _) _
  have X0 : Hid (Bl (w.alloc (Obj.cells #[u1, u2] 232)) w.heap.size u1 u2) := Bl.mk' u1 u2 rfl
  have B0 : Hid (Below w.heap.size w (w.alloc (Obj.cells #[u1, u2] 232))) := b0
  clear b0
  have hon : ∀ w' (i j : Nat), i < n → j < n → Below (w.alloc (Obj.cells #[u1, u2] 232)).heap.size (w.alloc (Obj.cells #[u1, u2] 232)) w' → Calls Tryz.prog 214 #[.int .i64 (i : Nat), .int .i64 (j : Nat), .pointer (some ⟨w.heap.size, 0, none⟩)] w' fun e w'' => e = .returned (.int .i64 ((fun i _ => ss.getD i 0) j i)) ∧ w'' = w' := fun w' i j hi hj hb =>
    on_from w.heap.size n u1 u2 ss i j w' (X0.out.below hb X0.out.lt) ((R2.out.1.below B0.out).below hb) R2.out.2 hj
  have Ho : Hid (∀ w' (i j : Nat), i < n → j < n → Below (w.alloc (Obj.cells #[u1, u2] 232)).heap.size (w.alloc (Obj.cells #[u1, u2] 232)) w' → Calls Tryz.prog 214 #[.int .i64 (i : Nat), .int .i64 (j : Nat), .pointer (some ⟨w.heap.size, 0, none⟩)] w' fun e w'' => e = .returned (.int .i64 ((fun i _ => ss.getD i 0) j i)) ∧ w'' = w') := hon
  clear hon
  subst e1
  subst e2
  go_enter Tryz.func178, Tryz.ntmps178
  go_wp2_with fail
  refine (spread_ok 214 enter_from _ _ n t nb ss _ _ (L0.out.below B0.out) E0.out T0.out.1 T0.out.2.1 T0.out.2.2 Ho.out).mono ?_
  rintro e w1 ⟨b, l, rfl, hbz, hbk, hf, hb⟩
  have P : Hid (w.heap.size ≤ b ∧ Bk w1 b l #[] ∧ (IsFar nb (fun i _ => ss.getD i 0) t n l ∧ Flat l) ∧ Below w.heap.size w w1) := ⟨Nat.le_trans B0.out.size hbz, hbk, hf, B0.out.trans (hb.mono B0.out.size)⟩
  clear hbz hbk hf hb Ho
  go_wp2
  go_ret
  exact ⟨b, l, rfl, P.out.1, P.out.2.1, P.out.2.2.1, P.out.2.2.2⟩
end Go.Proofs.YtkejdkajfnaieaaGreatDoor

namespace Go.Proofs.YtkejdkajfnaieaaGreatDoor.Wy

theorem any_take {p : Int → Bool} {xs : List Int} {k m : Nat} {x : Int} (h : (xs.take k).any p = false) (hm : m < k) (hx : xs[m]? = some x) : p x = false := by
  rw [List.any_eq_false] at h
  have := h x (by
    rw [List.mem_iff_getElem?]
    exact ⟨m, by rw [List.getElem?_take, if_pos hm]; exact hx⟩)
  cases hp : p x with
  | false => rfl
  | true => exact absurd hp this
theorem fst_uniq {p : Int → Bool} {xs : List Int} {r r' : Int} (h : Fst p xs r) (h' : Fst p xs r') : r = r' := by
  rcases h with ⟨rfl, h⟩ | ⟨k, x, rfl, h1, h2, h3⟩
  · rcases h' with ⟨rfl, h'⟩ | ⟨k', x', rfl, h1', h2', h3'⟩
    · rfl
    · rw [List.any_eq_false] at h
      exact absurd h2' (h x' (List.mem_of_getElem? h1'))
  · rcases h' with ⟨rfl, h'⟩ | ⟨k', x', rfl, h1', h2', h3'⟩
    · rw [List.any_eq_false] at h'
      exact absurd h2 (h' x (List.mem_of_getElem? h1))
    · rcases Nat.lt_trichotomy k k' with hk | hk | hk
      · have := any_take h3' hk h1
        rw [h2] at this
        cases this
      · rw [hk]
      · have := any_take h3 hk h1'
        rw [h2'] at this
        cases this
theorem fst_ex (p : Int → Bool) (xs : List Int) : ∃ r, Fst p xs r := by
  have key : ∀ k, k ≤ xs.length → (∃ r, Fst p xs r) ∨ (xs.take k).any p = false := by
    intro k
    induction k with
    | zero => intro _; exact .inr (by simp)
    | succ k ih =>
      intro hk
      rcases ih (by omega) with h | h
      · exact .inl h
      · cases hp : p xs[k] with
        | true => exact .inl ⟨k, .inr ⟨k, xs[k], rfl, List.getElem?_eq_getElem (by omega), hp, h⟩⟩
        | false => exact .inr (by rw [any_next (by omega), h, hp]; rfl)
  rcases key xs.length (Nat.le_refl _) with h | h
  · exact h
  · rw [List.take_of_length_le (Nat.le_refl _)] at h
    exact ⟨-1, .inl ⟨rfl, h⟩⟩

/-- x is on a shortest way from i. -/
def pn (ss l : List Int) (i : Nat) (x : Int) : Bool := decide (0 < ss.getD x.toNat 0) && (decide (0 ≤ l.getD x.toNat 0) && decide (ss.getD x.toNat 0 + l.getD x.toNat 0 = l.getD i 0))
/-- j is the first beside i that is. -/
def Nx (nb : Nat → List Int) (ss l : List Int) (i j : Nat) : Prop := ∃ k : Nat, (nb i)[k]? = some (j : Int) ∧ pn ss l i j = true ∧ ((nb i).take k).any (pn ss l i) = false
theorem take_any {p : Int → Bool} {xs : List Int} {k m : Nat} {x : Int} (h : (xs.take k).any p = false) (hm : m < k) (hx : xs[m]? = some x) : p x = false := by
  rw [List.any_eq_false] at h
  have := h x (by
    rw [List.mem_iff_getElem?]
    exact ⟨m, by rw [List.getElem?_take, if_pos hm]; exact hx⟩)
  cases hp : p x with
  | false => rfl
  | true => exact absurd hp this
theorem Nx.uniq {nb : Nat → List Int} {ss l : List Int} {i j j' : Nat} (h : Nx nb ss l i j) (h' : Nx nb ss l i j') : j = j' := by
  obtain ⟨k, h1, h2, h3⟩ := h
  obtain ⟨k', h1', h2', h3'⟩ := h'
  rcases Nat.lt_trichotomy k k' with hk | hk | hk
  · have := take_any h3' hk h1
    rw [h2] at this
    cases this
  · subst hk
    rw [h1] at h1'
    injection h1' with h1'
    omega
  · have := take_any h3 hk h1'
    rw [h2'] at this
    cases this
theorem pn_true {ss l : List Int} {i : Nat} {x : Int} (h : pn ss l i x = true) : 0 < ss.getD x.toNat 0 ∧ 0 ≤ l.getD x.toNat 0 ∧ ss.getD x.toNat 0 + l.getD x.toNat 0 = l.getD i 0 := by
  unfold pn at h
  simp only [Bool.and_eq_true, decide_eq_true_eq] at h
  exact h
theorem Nx.is {nb : Nat → List Int} {ss l : List Int} {i j : Nat} (h : Nx nb ss l i j) : (j : Int) ∈ nb i ∧ 0 < ss.getD j 0 ∧ 0 ≤ l.getD j 0 ∧ ss.getD j 0 + l.getD j 0 = l.getD i 0 := by
  obtain ⟨k, h1, h2, -⟩ := h
  have := pn_true h2
  rw [Int.toNat_natCast] at this
  exact ⟨List.mem_of_getElem? h1, this⟩
/-- what IndexFunc finds. -/
theorem fst_nx {nb : Nat → List Int} {ss l : List Int} {i n : Nat} {r : Int} (E : ∀ x, x ∈ nb i → ∃ j : Nat, x = j ∧ j < n) (h : Fst (pn ss l i) (nb i) r) (hx : ∃ x ∈ nb i, pn ss l i x = true) : ∃ k j : Nat, r = k ∧ j < n ∧ (nb i)[k]? = some (j : Int) ∧ Nx nb ss l i j := by
  rcases h with ⟨_, h⟩ | ⟨k, x, h1, h2, h3, h4⟩
  · obtain ⟨x, hm, hp⟩ := hx
    rw [List.any_eq_false] at h
    exact absurd hp (h x hm)
  · obtain ⟨j, rfl, hj⟩ := E x (List.mem_of_getElem? h2)
    exact ⟨k, j, h1, hj, h2, k, h2, h3, h4⟩
theorem getD_of {l : List Int} {i : Nat} {x : Int} (h : l[i]? = some x) : l.getD i 0 = x := by rw [List.getD_eq_getElem?_getD, h]; rfl
/-- from where a way leads, one is there. -/
theorem has_next {nb : Nat → List Int} {ss l : List Int} {t n i : Nat} (E : Even nb (fun _ j => ss.getD j 0) n) (h : IsFar nb (fun _ j => ss.getD j 0) t n l) (hi : i < n) (h0 : 0 ≤ l.getD i 0) (ht : i ≠ t) : ∃ x ∈ nb i, pn ss l i x = true := by
  have hl : i < l.length := by rw [h.1]; exact hi
  have e := List.getElem?_eq_getElem hl
  rw [getD_of e] at h0
  obtain ⟨j, y, h1, h2, h3, h4, h5⟩ := h.next E.lt e h0 ht
  refine ⟨j, h1, ?_⟩
  unfold pn
  rw [Int.toNat_natCast, getD_of h2, getD_of e, decide_eq_true h3, decide_eq_true h4, decide_eq_true h5.symm]
  rfl

/-- j is the next cell; whereto itself, if it is there. -/
def Nxt (nb : Nat → List Int) (ss l : List Int) (t i j : Nat) : Prop := (i = t ∧ j = i) ∨ (i ≠ t ∧ Nx nb ss l i j)
theorem Nxt.uniq {nb : Nat → List Int} {ss l : List Int} {t i j j' : Nat} (h : Nxt nb ss l t i j) (h' : Nxt nb ss l t i j') : j = j' := by
  rcases h with ⟨h1, h2⟩ | ⟨h1, h2⟩
  · rcases h' with ⟨_, h4⟩ | ⟨h3, _⟩
    · rw [h2, h4]
    · exact absurd h1 h3
  · rcases h' with ⟨h3, _⟩ | ⟨_, h4⟩
    · exact absurd h3 h1
    · exact h2.uniq h4

/-- p is the way from a cell. -/
inductive Pth (nb : Nat → List Int) (ss l : List Int) (t : Nat) : Nat → List Int → Prop
  | here : Pth nb ss l t t [(t : Int)]
  | step {i j : Nat} {p : List Int} : i ≠ t → Nx nb ss l i j → Pth nb ss l t j p → Pth nb ss l t i ((i : Int) :: p)
theorem Pth.uniq {nb : Nat → List Int} {ss l : List Int} {t i : Nat} {p p' : List Int} (h : Pth nb ss l t i p) (h' : Pth nb ss l t i p') : p = p' := by
  induction h generalizing p' with
  | here =>
    cases h' with
    | here => rfl
    | step h1 _ _ => exact absurd rfl h1
  | step h1 h2 h3 ih =>
    cases h' with
    | here => exact absurd rfl h1
    | step h1' h2' h3' =>
      have := h2.uniq h2'
      subst this
      rw [ih h3']
theorem Pth.head {nb : Nat → List Int} {ss l : List Int} {t i : Nat} {p : List Int} (h : Pth nb ss l t i p) : p[0]? = some (i : Int) := by
  cases h <;> rfl
theorem Pth.last {nb : Nat → List Int} {ss l : List Int} {t i : Nat} {p : List Int} (h : Pth nb ss l t i p) : p.getLast? = some (t : Int) := by
  induction h with
  | here => rfl
  | step h1 h2 h3 ih =>
    rename_i i j p
    cases p with
    | nil => simp at ih
    | cons a p => rw [List.getLast?_cons_cons]; exact ih
/-- the second cell of a way. -/
theorem Pth.second {nb : Nat → List Int} {ss l : List Int} {t i : Nat} {p : List Int} (h : Pth nb ss l t i p) (hi : i ≠ t) : ∃ j : Nat, p[1]? = some (j : Int) ∧ Nx nb ss l i j := by
  cases h with
  | here => exact absurd rfl hi
  | step h1 h2 h3 => exact ⟨_, by simpa using h3.head, h2⟩

/-- of the first k cells those that are no further than most. -/
def rch (l : List Int) (most : Int) (k : Nat) : List Int := ((List.range k).filter fun i => decide (0 ≤ l.getD i 0 ∧ l.getD i 0 ≤ most)).map Int.ofNat
theorem rch_zero (l : List Int) (most : Int) : rch l most 0 = [] := rfl
theorem rch_succ (l : List Int) (most : Int) (k : Nat) : rch l most (k + 1) = rch l most k ++ (if 0 ≤ l.getD k 0 ∧ l.getD k 0 ≤ most then [(k : Int)] else []) := by
  unfold rch
  rw [List.range_succ, List.filter_append, List.map_append]
  congr 1
  by_cases h : 0 ≤ l.getD k 0 ∧ l.getD k 0 ≤ most
  · rw [if_pos h, List.filter_cons_of_pos (by simpa using h)]
    rfl
  · rw [if_neg h, List.filter_cons_of_neg (by simpa using h)]
    rfl
theorem rch_len (l : List Int) (most : Int) (k : Nat) : (rch l most k).length ≤ k := by
  unfold rch
  rw [List.length_map]
  exact Nat.le_trans (List.length_filter_le _ _) (by simp)
theorem rch_mem {l : List Int} {most : Int} {k : Nat} {x : Int} : x ∈ rch l most k ↔ ∃ i : Nat, x = i ∧ i < k ∧ 0 ≤ l.getD i 0 ∧ l.getD i 0 ≤ most := by
  unfold rch
  simp only [List.mem_map, List.mem_filter, List.mem_range, decide_eq_true_eq]
  constructor
  · rintro ⟨i, ⟨h1, h2⟩, rfl⟩
    exact ⟨i, rfl, h1, h2⟩
  · rintro ⟨i, rfl, h1, h2⟩
    exact ⟨i, ⟨h1, h2⟩, rfl⟩
theorem rch_rise (l : List Int) (most : Int) (k : Nat) : (rch l most k).Pairwise (· < ·) := by
  unfold rch
  rw [List.pairwise_map]
  exact (List.pairwise_lt_range.filter _).imp (fun h => by simpa using h)
theorem get_some {l : List Int} {i n : Nat} (hl : l.length = n) (h : i < n) : l[i]? = some (l.getD i 0) := by rw [List.getD_eq_getElem?_getD, List.getElem?_eq_getElem (by omega)]; rfl
end Go.Proofs.YtkejdkajfnaieaaGreatDoor.Wy

namespace Go.Proofs.YtkejdkajfnaieaaGreatDoor
open Go.RowKit Wy
set_option linter.unusedVariables false

theorem onto_two (g : Int) (fl : Bool) : Fd.onto g fl ≤ 2 := by
  unfold Fd.onto
  repeat' split
  all_goals omega
theorem ss_two (gs : List Int) (fl : Bool) (j : Nat) : (gs.map fun g => Fd.onto g fl).getD j 0 ≤ 2 := by
  rw [List.getD_eq_getElem?_getD, List.getElem?_map]
  cases gs[j]? with
  | none => exact (by decide : (0 : Int) ≤ 2)
  | some g => exact onto_two g fl
theorem even_to {W H : Nat} (hW : 0 < W) (gs : List Int) (fl : Bool) : Even (Fd.near W H) (fun _ j => (gs.map fun g => Fd.onto g fl).getD j 0) (W * H) := even_near hW fun _ j => ss_two gs fl j
theorem even_from {W H : Nat} (hW : 0 < W) (gs : List Int) (fl : Bool) : Even (Fd.near W H) (fun i _ => (gs.map fun g => Fd.onto g fl).getD i 0) (W * H) := even_near hW fun i _ => ss_two gs fl i
theorem flat_le {n : Nat} {l : List Int} (h : Flat l) (hl : l.length = n) (hn : n ≤ 144) (j : Nat) : l.getD j 0 ≤ 288 := by
  rw [List.getD_eq_getElem?_getD]
  cases hx : l[j]? with
  | none => decide
  | some x =>
    have h1 := h j x hx
    have h2 := told_le l
    show x ≤ 288
    omega

theorem ask_all {F : Int} {n : Nat} {xs : List Int} : Fd.askFault F n xs = if F ≠ 0 then F else if xs.any (fun x => !decide (0 ≤ x ∧ x < (n : Int))) then 6 else 0 := by
  unfold Fd.askFault
  split
  · rfl
  · cases hx : xs.all (fun x => decide (0 ≤ x ∧ x < (n : Int))) with
    | true =>
      rw [if_pos rfl, if_neg]
      rw [List.all_eq_true] at hx
      simp only [List.any_eq_true, Bool.not_eq_true', not_exists, not_and]
      intro x hm
      rw [hx x hm]
      decide
    | false =>
      rw [if_neg (by decide), if_pos]
      rw [List.all_eq_false] at hx
      obtain ⟨x, hm, hx⟩ := hx
      exact List.any_eq_true.2 ⟨x, hm, by rw [Bool.not_eq_true] at hx; rw [hx]; rfl⟩

theorem look_no (v u : Value) (W H : Int) (gs os xs : List Int) (F : Int) (fl : Bool) (w : World) (h : Fl w v W H gs os) (hs : Sd w) (hu : Ro w u xs) (hF : Fd.askFault (Fd.fault W H gs os) gs.length xs = F) (h0 : F ≠ 0) :
    Calls Tryz.prog 177 #[v, .bool fl, u] w fun e w' => e = .returned (.tuple #[.agg #[.slice none 0 0, .slice none 0 0], .iface 97 (.int .i64 F)]) ∧ Below w.heap.size w w' := by
  rw [ask_all] at hF
  by_cases hf : Fd.fault W H gs os = 0
  · obtain ⟨W', H', rfl, rfl, G⟩ := Fd.fault_zero hf
    rw [if_neg (by rw [hf]; decide)] at hF
    have gl := G.gl
    cases hx : xs.any (fun x => !decide (0 ≤ x ∧ x < (gs.length : Int))) with
    | true =>
      rw [hx, if_pos rfl] at hF
      subst hF
      rw [gl] at hx
      exact look_none v u W' H' gs os xs fl w h G hs hu hx
    | false =>
      rw [hx] at hF
      exact absurd hF.symm h0
  · rw [if_pos hf] at hF
    exact look_bad v u W H gs os F fl w h hF h0

end Go.Proofs.YtkejdkajfnaieaaGreatDoor

namespace Go.Proofs.YtkejdkajfnaieaaGreatDoor
open Go.RowKit Wy
set_option linter.unusedVariables false

set_option maxHeartbeats 1000000 in
theorem Reach_bad (v : Value) (W H : Int) (gs os : List Int) (a b F : Int) (fl : Bool) (w : World) (h : Fl w v W H gs os) (hs : Sd w) (hF : Fd.askFault (Fd.fault W H gs os) gs.length [a] = F) (h0 : F ≠ 0) :
    Calls Tryz.prog 139 #[v, .int .i64 a, .int .i64 b, .bool fl] w fun e w' => e = .returned (.tuple #[.slice none 0 0, .iface 97 (.int .i64 F)]) ∧ Below w.heap.size w w' := by
  have F0 : Hid (Fl w v W H gs os) := h
  have S0 : Hid (Sd w) := hs
  have HF : Hid (Fd.askFault (Fd.fault W H gs os) gs.length [a] = F) := hF
  have H0 : Hid (F ≠ 0) := h0
  obtain ⟨u1, u2, rfl, ⟨a1, c, rfl, c1, c2, ca⟩, ⟨b1, d, rfl, d1, d2, cb⟩⟩ := h
  clear hF h0 ca cb hs
  go_enter Tryz.func139, Tryz.ntmps139
  go_wp2_with fail
  have b0 : Below w.heap.size w ((w.alloc (Obj.cells #[.int .i64 W, .int .i64 H, .slice a1 gs.length c, .slice b1 os.length d] 25)).alloc (Obj.cells #[.int .i64 a] 3)) := ((Below.refl _ _).alloc (Nat.le_refl _) _).alloc (by simp) _
  refine (look_no _ _ W H gs os [a] F fl _ (F0.out.below b0) (S0.out.below b0) (Ro.lit1 (w := w.alloc _) a (by simp)) HF.out H0.out).mono ?_
  rintro e w1 ⟨rfl, hb⟩
  have B1 : Hid (Below w.heap.size w w1) := b0.trans (hb.mono (by simp; omega))
  clear hb b0
  go_wp2
  go_ret2
  exact ⟨rfl, B1.out.alloc B1.out.size _⟩

set_option maxHeartbeats 1000000 in
theorem Reach_range (v : Value) (W H : Nat) (gs os : List Int) (a : Nat) (m : Int) (fl : Bool) (w : World) (h : Fl w v W H gs os) (hs : Sd w) (G : Fd.Good W H gs os) (ha : a < W * H) (hm : m < 0 ∨ 1000000 < m) :
    Calls Tryz.prog 139 #[v, .int .i64 (a : Nat), .int .i64 m, .bool fl] w fun e w' => e = .returned (.tuple #[.slice none 0 0, .iface 97 (.int .i64 1)]) ∧ Below w.heap.size w w' := by
  have F0 : Hid (Fl w v W H gs os) := h
  have S0 : Hid (Sd w) := hs
  have G0 : Hid (Fd.Good W H gs os) := G
  have A0 : Hid (a < W * H) := ha
  obtain ⟨u1, u2, rfl, ⟨a1, c, rfl, c1, c2, ca⟩, ⟨b1, d, rfl, d1, d2, cb⟩⟩ := h
  obtain ⟨ss, hss⟩ : ∃ ss, (gs.map fun g => Fd.onto g fl) = ss := ⟨_, rfl⟩
  have Hss : Hid ((gs.map fun g => Fd.onto g fl) = ss) := hss
  have E0 : Hid (Even (Fd.near W H) (fun i _ => ss.getD i 0) (W * H)) := by rw [← hss]; exact even_from G.w1 gs fl
  clear ca cb hs G ha hss
  go_enter Tryz.func139, Tryz.ntmps139
  go_wp2_with fail
  have b0 : Below w.heap.size w ((w.alloc (Obj.cells #[.int .i64 W, .int .i64 H, .slice a1 gs.length c, .slice b1 os.length d] 25)).alloc (Obj.cells #[.int .i64 (a : Nat)] 3)) := ((Below.refl _ _).alloc (Nat.le_refl _) _).alloc (by simp) _
  refine (look_ok _ _ W H gs os [(a : Int)] fl _ (F0.out.below b0) G0.out (S0.out.below b0) (Ro.lit1 (w := w.alloc _) (a : Int) (by simp)) (by have := A0.out; simp; omega)).mono ?_
  rintro e w1 ⟨⟨v1, rfl, hL⟩, hb⟩
  rw [Hss.out] at hL
  have B1 : Hid (Below w.heap.size w w1) := b0.trans (hb.mono (by simp; omega))
  have L1 : Hid (Ld w1 v1 (W * H) (Fd.near W H) ss) := hL
  obtain ⟨p1, p2, rfl, ⟨x1, k1, rfl, -⟩, ⟨x2, k2, rfl, -⟩, -⟩ := hL
  clear hb b0
  rcases hm with hm | hm
  · go_wp2
    go_ret2
    exact ⟨rfl, B1.out.alloc B1.out.size _⟩
  · have hm' : ¬ m < 0 := by omega
    go_wp2
    go_ret2
    exact ⟨rfl, B1.out.alloc B1.out.size _⟩

set_option maxRecDepth 100000 in
set_option maxHeartbeats 4000000 in
theorem Reach_ok (v : Value) (W H : Nat) (gs os : List Int) (a : Nat) (m : Int) (fl : Bool) (w : World) (h : Fl w v W H gs os) (hs : Sd w) (G : Fd.Good W H gs os) (ha : a < W * H) (m0 : 0 ≤ m) (m1 : m ≤ 1000000) :
    Calls Tryz.prog 139 #[v, .int .i64 (a : Nat), .int .i64 m, .bool fl] w fun e w' => ∃ u l, e = .returned (.tuple #[u, .nilIface]) ∧ IsFar (Fd.near W H) (fun i _ => (gs.map fun g => Fd.onto g fl).getD i 0) a (W * H) l ∧ Ro w' u (rch l m (W * H)) ∧ Below w.heap.size w w' := by
  have F0 : Hid (Fl w v W H gs os) := h
  have S0 : Hid (Sd w) := hs
  have G0 : Hid (Fd.Good W H gs os) := G
  have A0 : Hid (a < W * H) := ha
  obtain ⟨u1, u2, rfl, ⟨a1, c, rfl, c1, c2, ca⟩, ⟨b1, d, rfl, d1, d2, cb⟩⟩ := h
  obtain ⟨ss, hss⟩ : ∃ ss, (gs.map fun g => Fd.onto g fl) = ss := ⟨_, rfl⟩
  have Hss : Hid ((gs.map fun g => Fd.onto g fl) = ss) := hss
  have E0 : Hid (Even (Fd.near W H) (fun i _ => ss.getD i 0) (W * H)) := by rw [← hss]; exact even_from G.w1 gs fl
  rw [hss]
  obtain ⟨n, hn⟩ : ∃ n, W * H = n := ⟨_, rfl⟩
  have Hn : Hid (W * H = n) := hn
  rw [hn] at E0 ⊢
  clear ca cb hs G ha hss hn
  go_enter Tryz.func139, Tryz.ntmps139
  go_wp2_with fail
  have b0 : Below w.heap.size w ((w.alloc (Obj.cells #[.int .i64 W, .int .i64 H, .slice a1 gs.length c, .slice b1 os.length d] 25)).alloc (Obj.cells #[.int .i64 (a : Nat)] 3)) := ((Below.refl _ _).alloc (Nat.le_refl _) _).alloc (by simp) _
  refine (look_ok _ _ W H gs os [(a : Int)] fl _ (F0.out.below b0) G0.out (S0.out.below b0) (Ro.lit1 (w := w.alloc _) (a : Int) (by simp)) (by have := A0.out; simp; omega)).mono ?_
  rintro e w1 ⟨⟨v1, rfl, hL⟩, hb⟩
  rw [Hss.out, Hn.out] at hL
  have B1 : Hid (Below w.heap.size w w1) := b0.trans (hb.mono (by simp; omega))
  have L1 : Hid (Ld w1 v1 (n) (Fd.near W H) ss) := hL
  obtain ⟨p1, p2, rfl, ⟨x1, k1, rfl, -⟩, ⟨x2, k2, rfl, -⟩, -⟩ := hL
  clear hb b0
  have n0 : ¬ m < 0 := by omega
  have n1 : ¬ 1000000 < m := by omega
  go_wp2_with fail
  have b2 : Below w1.heap.size w1 (w1.alloc (Obj.cells #[.slice (some x1) (n) k1, .slice x2 ss.length k2] 232)) := (Below.refl _ _).alloc (Nat.le_refl _) _
  refine (farFrom_ok _ (n) a (Fd.near W H) ss _ (L1.out.below b2) E0.out (by rw [← Hn.out]; exact A0.out) (by rw [← Hn.out]; exact G0.out.pos.2) (Fd.near_len W H)).mono ?_
  rintro e w2 ⟨g, l, rfl, hbz, hbk, ⟨hf, hfl⟩, hb⟩
  have K2 : Hid (Bk w2 g l #[]) := hbk
  have HF : Hid (IsFar (Fd.near W H) (fun i _ => ss.getD i 0) a (n) l) := hf
  have B2 : Hid (Below w.heap.size w w2) := (B1.out.trans (b2.mono B1.out.size)).trans (hb.mono (Nat.le_trans B1.out.size b2.size))
  have N0 : n ≤ 144 := by rw [← Hn.out]; exact G0.out.pos.2
  clear hbz hbk hb b2 L1 B1 hf hfl n0 n1
  go_wp2_with fail
  go_loopw [12, 37] (fun v i W' => ∃ k : Nat, k ≤ n ∧ i = .int .i64 (k : Nat) ∧ Ow W' w2.heap.size v (rch l m k) ∧ Below w2.heap.size w2 W') (fun _ i _ => n - (intOf i).toNat)
  case atStart => exact ⟨0, Nat.zero_le _, rfl, Ow.nil _ _, Below.refl _ _⟩
  case round =>
    obtain ⟨k, hk, rfl, ho, hb⟩ := hrel
    have O : Hid (Ow wr w2.heap.size u12 (rch l m k)) := ho
    have B : Hid (Below w2.heap.size w2 wr) := hb
    clear ho hb
    by_cases h0 : k = n
    · subst h0
      go_wp2
      go_ret2
      exact ⟨_, l, rfl, HF, O.out.ro, B2.out.trans (B.out.mono B2.out.size)⟩
    · have hkn : k < n := by omega
      have Er : Hid (rch l m (k + 1) = rch l m k ++ (if 0 ≤ l.getD k 0 ∧ l.getD k 0 ≤ m then [(k : Int)] else [])) := rch_succ l m k
      have ck := (K2.out.below B.out).cell (get_some HF.out.1 hkn)
      have Lr : Hid ((rch l m k).length ≤ 1000000000) := Nat.le_trans (rch_len l m k) (by omega)
      generalize l.getD k 0 = y at *
      generalize rch l m k = rs at *
      by_cases h1 : 0 ≤ y
      · by_cases h2 : y ≤ m
        · have Er' : Hid (rch l m (k + 1) = rs ++ [(k : Int)]) := by
            have := Er.out
            rw [if_pos ⟨h1, h2⟩] at this
            exact this
          have ba : Below wr.heap.size wr (wr.alloc (Obj.cells #[.int .i64 (k : Nat)] 3)) := (Below.refl _ _).alloc (Nat.le_refl _) _
          have O5 : Hid (Ow (wr.alloc (Obj.cells #[.int .i64 (k : Nat)] 3)) w2.heap.size u12 rs) := O.out.below ba
          have B5 : Hid (Below w2.heap.size w2 (wr.alloc (Obj.cells #[.int .i64 (k : Nat)] 3))) := B.out.trans (ba.mono B.out.size)
          have Cd : Hid ((wr.alloc (Obj.cells #[.int .i64 (k : Nat)] 3)).cell? ⟨wr.heap.size, 0, none⟩ = some (.int .i64 (k : Nat))) := by unfold Hid; simp
          clear ba Er O B
          go_wp2_with (at_builtin; refine app_int _ rfl _ _ rfl w2.heap.size _ rs rfl O5.out ⟨wr.heap.size, 0, none⟩ (k : Nat) rfl Cd.out Lr.out B5.out.size ?_)
          intro g6 cap6 w6 o6 gr6 at6 lt6
          have O6 : Hid (Ow w6 w2.heap.size (.slice (some ⟨g6, 0, none⟩) (rs.length + 1) cap6) (rs ++ [(k : Int)])) := o6
          have B6 : Hid (Below w2.heap.size w2 w6) := B5.out.trans ((Below.refl _ _).grown gr6 B5.out.size (fun k hk => (O5.out.block k hk).1))
          clear o6 gr6 at6 lt6 O5 B5 Cd
          go_wp2
          go_round
          case rel => exact ⟨k + 1, by omega, by go_num, by rw [Er'.out]; exact O6, B6⟩
          case measure => simp [intOf]; omega
        · have Er' : Hid (rch l m (k + 1) = rs) := by
            have := Er.out
            rw [if_neg (fun h => h2 h.2), List.append_nil] at this
            exact this
          clear Er
          go_wp2
          go_round
          case rel => exact ⟨k + 1, by omega, by go_num, by rw [Er'.out]; exact O, B⟩
          case measure => simp [intOf]; omega
      · have Er' : Hid (rch l m (k + 1) = rs) := by
          have := Er.out
          rw [if_neg (fun h => h1 h.1), List.append_nil] at this
          exact this
        clear Er
        go_wp2
        go_round
        case rel => exact ⟨k + 1, by omega, by go_num, by rw [Er'.out]; exact O, B⟩
        case measure => simp [intOf]; omega
end Go.Proofs.YtkejdkajfnaieaaGreatDoor

namespace Go.Proofs.YtkejdkajfnaieaaGreatDoor
open Go.RowKit Wy
set_option linter.unusedVariables false

set_option maxHeartbeats 2000000 in
/-- IndexFunc of numbers, with a function that may make memory. -/
theorem idxb_any (K : Nat) (eK : ∀ args w, (callFunc K args).run Tryz.prog w = .ok (.enter K args) w) (u : Value) (cs : Array Value) (xs : List Int) (p : Int → Bool) (w : World) (hu : Ro w u xs)
    (hp : ∀ W, Below w.heap.size w W → ∀ x : Int, Calls Tryz.prog K (#[.int .i64 x] ++ cs) W fun e w' => e = .returned (.bool (p x)) ∧ Below W.heap.size W w') :
    Calls Tryz.prog 140 #[u, .func (Fn.func K) #[] cs] w fun e w' => ∃ r : Int, e = .returned (.int .i64 r) ∧ Fst p xs r ∧ Below w.heap.size w w' := by
  have R0 : Hid (Ro w u xs) := hu
  obtain ⟨a, c, rfl, c1, c2, ca⟩ := hu
  have Hp : Hid (∀ W, Below w.heap.size w W → ∀ x : Int, Calls Tryz.prog K (#[.int .i64 x] ++ cs) W fun e w' => e = .returned (.bool (p x)) ∧ Below W.heap.size W w') := hp
  clear ca hp
  go_enter Tryz.func140, Tryz.ntmps140
  go_wp2
  go_loopw [8] (fun i W' => ∃ k : Nat, k ≤ xs.length ∧ i = .int .i64 (k : Nat) ∧ (xs.take k).any p = false ∧ Below w.heap.size w W') (fun i _ => xs.length - (intOf i).toNat)
  case atStart => exact ⟨0, Nat.zero_le _, rfl, by simp, Below.refl _ _⟩
  case round =>
    obtain ⟨k, hk, rfl, ht, hb⟩ := hrel
    have Ht : Hid ((xs.take k).any p = false) := ht
    have B : Hid (Below w.heap.size w wr) := hb
    clear ht hb
    by_cases h0 : k = xs.length
    · subst h0
      go_wp2
      go_ret
      refine ⟨_, rfl, .inl ⟨rfl, ?_⟩, B⟩
      have := Ht.out
      rw [List.take_of_length_le (Nat.le_refl _)] at this
      exact this
    · have hkx : k < xs.length := by omega
      obtain ⟨a', c', he, -, -, hca⟩ := R0.out.below B.out
      injection he with he1 he2 he3
      subst he1
      obtain ⟨x, rfl, -, hx⟩ := hca (by intro h; rw [h] at hkx; simp at hkx)
      obtain ⟨y, hy⟩ : ∃ y, xs[k]? = some y := ⟨_, List.getElem?_eq_getElem hkx⟩
      have cx : wr.cell? (x.add k) = some (.int .i64 y) := hx k y hy
      have hc := Hp.out wr B.out y
      have Hs : Hid ((xs.take (k + 1)).any p = ((xs.take k).any p || p y)) := by
        unfold Hid
        rw [any_next hkx]
        obtain ⟨hi, e⟩ := List.getElem?_eq_some_iff.1 hy
        rw [e]
      have Hm : Hid (xs[k]? = some y) := hy
      clear hx hca hy he2 he3
      cases hy : p y with
      | true =>
        rw [hy] at hc
        have Hc : Hid (Calls Tryz.prog K (#[.int .i64 y] ++ cs) wr fun e w' => e = .returned (.bool true) ∧ Below wr.heap.size wr w') := hc
        have Hy : Hid (p y = true) := hy
        clear hc hy
        go_wp2_with fail
        refine Calls.mono Hc.out ?_
        rintro e w1 ⟨rfl, b1⟩
        have B1 : Hid (Below w.heap.size w w1) := B.out.trans (b1.mono B.out.size)
        clear b1
        go_wp2
        go_ret
        exact ⟨_, rfl, .inr ⟨k, y, rfl, Hm, Hy, Ht⟩, B1⟩
      | false =>
        rw [hy] at hc
        have Hc : Hid (Calls Tryz.prog K (#[.int .i64 y] ++ cs) wr fun e w' => e = .returned (.bool false) ∧ Below wr.heap.size wr w') := hc
        have Hy : Hid (p y = false) := hy
        clear hc hy
        go_wp2_with fail
        refine Calls.mono Hc.out ?_
        rintro e w1 ⟨rfl, b1⟩
        have B1 : Hid (Below w.heap.size w w1) := B.out.trans (b1.mono B.out.size)
        clear b1
        go_wp2
        go_round
        case rel => exact ⟨k + 1, by omega, by go_num, by have := Hs.out; rw [Ht.out, Hy.out] at this; exact this, B1⟩
        case measure => simp [intOf]; omega

/-- what nearest tells, where l is how far each cell is: the first of the nearest that will do, within three. -/
def NearSays (l : List Int) (n : Nat) (p : Int → Bool) (c F : Int) : Prop :=
  (F = 6 ∧ c = 0 ∧ ∀ m : Nat, m ≤ 3 → (rch l m n).any p = false) ∨ (F = 0 ∧ ∃ m k : Nat, m ≤ 3 ∧ (rch l m n)[k]? = some c ∧ p c = true ∧ ((rch l m n).take k).any p = false ∧ ∀ j : Nat, j < m → (rch l j n).any p = false)

set_option maxRecDepth 100000 in
set_option maxHeartbeats 4000000 in
theorem nearest_ok (K : Nat) (eK : ∀ args w, (callFunc K args).run Tryz.prog w = .ok (.enter K args) w) (cs : Array Value) (p : Int → Bool) (v : Value) (W H : Nat) (gs os : List Int) (a : Nat) (fl : Bool) (w : World) (h : Fl w v W H gs os) (hs : Sd w) (G : Fd.Good W H gs os) (ha : a < W * H)
    (hp : ∀ V, Below w.heap.size w V → ∀ x : Int, Calls Tryz.prog K (#[.int .i64 x] ++ cs) V fun e w' => e = .returned (.bool (p x)) ∧ Below V.heap.size V w') :
    Calls Tryz.prog 98 #[v, .int .i64 (a : Nat), .bool fl, .func (Fn.func K) #[] cs] w fun e w' => ∃ l c r F, e = .returned (.tuple #[.int .i64 c, r]) ∧ IsFar (Fd.near W H) (fun i _ => (gs.map fun g => Fd.onto g fl).getD i 0) a (W * H) l ∧ Er r F ∧ NearSays l (W * H) p c F ∧ Below w.heap.size w w' := by
  have F0 : Hid (Fl w v W H gs os) := h
  have S0 : Hid (Sd w) := hs
  have G0 : Hid (Fd.Good W H gs os ∧ a < W * H) := ⟨G, ha⟩
  have Hp : Hid (∀ V, Below w.heap.size w V → ∀ x : Int, Calls Tryz.prog K (#[.int .i64 x] ++ cs) V fun e w' => e = .returned (.bool (p x)) ∧ Below V.heap.size V w') := hp
  obtain ⟨u1, u2, rfl, -, -⟩ := h
  clear hs G ha hp
  go_enter Tryz.func98, Tryz.ntmps98
  go_upto_region 1 with fail
  have B0 : Hid (Below w.heap.size w (w.alloc (.cells #[.int .i64 (W : Int), .int .i64 (H : Int), u1, u2] 25))) := (Below.refl _ _).alloc (Nat.le_refl _) _
  have X0 : Hid (Bf (w.alloc (.cells #[.int .i64 (W : Int), .int .i64 (H : Int), u1, u2] 25)) w.heap.size W H u1 u2) := Bf.mk' W H u1 u2 rfl
  generalize (w.alloc (.cells #[.int .i64 (W : Int), .int .i64 (H : Int), u1, u2] 25)) = w0 at *
  go_wp2
  go_loopw [14] (fun i V => ∃ k : Nat, k ≤ 4 ∧ i = .int .i64 (k : Nat) ∧ (∀ l, IsFar (Fd.near W H) (fun i _ => (gs.map fun g => Fd.onto g fl).getD i 0) a (W * H) l → ∀ j : Nat, j < k → (rch l j (W * H)).any p = false) ∧ (0 < k → ∃ l, IsFar (Fd.near W H) (fun i _ => (gs.map fun g => Fd.onto g fl).getD i 0) a (W * H) l) ∧ Bf V w.heap.size W H u1 u2 ∧ Below w.heap.size w V) (fun i _ => 4 - (intOf i).toNat)
  case atStart => exact ⟨0, by omega, rfl, fun l _ j hj => by omega, fun h => by omega, X0.out, B0.out⟩
  case round =>
    obtain ⟨k, hk, rfl, hN, hL, hX, hB⟩ := hrel
    have N : Hid (∀ l, IsFar (Fd.near W H) (fun i _ => (gs.map fun g => Fd.onto g fl).getD i 0) a (W * H) l → ∀ j : Nat, j < k → (rch l j (W * H)).any p = false) := hN
    have L : Hid (0 < k → ∃ l, IsFar (Fd.near W H) (fun i _ => (gs.map fun g => Fd.onto g fl).getD i 0) a (W * H) l) := hL
    have X : Hid (Bf wr w.heap.size W H u1 u2) := hX
    have B : Hid (Below w.heap.size w wr) := hB
    clear hN hL hX hB X0 B0
    by_cases h0 : k = 4
    · subst h0
      go_wp2
      go_ret2
      obtain ⟨l, hl⟩ := L.out (by omega)
      exact ⟨l, 0, _, 6, rfl, hl, Er.no (by decide), .inl ⟨rfl, rfl, fun m hm => N.out l hl m (by omega)⟩, B.out⟩
    · have hk4 : k < 4 := by omega
      have hki : ((k : Nat) : Int) < 4 := by omega
      obtain ⟨x0, x1, x2, x3⟩ := X.out
      go_wp2_with fail
      refine (Reach_ok _ W H gs os a (k : Nat) fl wr (F0.out.below B.out) (S0.out.below B.out) G0.out.1 G0.out.2 (by omega) (by omega)).mono ?_
      rintro e w1 ⟨u, l, rfl, hl, hr, hb⟩
      have B1 : Hid (Below w.heap.size w w1) := B.out.trans (hb.mono B.out.size)
      have X1 : Hid (Bf w1 w.heap.size W H u1 u2) := X.out.below hb X.out.lt
      have HL : Hid (IsFar (Fd.near W H) (fun i _ => (gs.map fun g => Fd.onto g fl).getD i 0) a (W * H) l) := hl
      have RO : Hid (Ro w1 u (rch l (k : Nat) (W * H))) := hr
      clear hb hl hr x0 x1 x2 x3 X B
      go_wp2_with fail
      refine (idxb_any K eK _ cs (rch l (k : Nat) (W * H)) p w1 RO.out (fun V hV x => Hp.out V (B1.out.trans (hV.mono B1.out.size)) x)).mono ?_
      rintro e w2 ⟨r, rfl, hf, hb⟩
      have B2 : Hid (Below w.heap.size w w2) := B1.out.trans (hb.mono B1.out.size)
      have X2 : Hid (Bf w2 w.heap.size W H u1 u2) := X1.out.below hb X1.out.lt
      have RO2 : Hid (Ro w2 u (rch l (k : Nat) (W * H))) := RO.out.below hb
      clear hb X1 B1 RO
      rcases hf with ⟨rfl, hno⟩ | ⟨j, c, rfl, hj, hpc, htk⟩
      · have NO : Hid ((rch l (k : Nat) (W * H)).any p = false) := hno
        clear hno
        go_wp2
        go_round
        case rel => exact ⟨k + 1, by omega, by go_num, fun l' hl' j hj => by
          by_cases hjk : j < k
          · exact N.out l' hl' j hjk
          · have : j = k := by omega
            subst this
            rw [hl'.uniq HL.out]; exact NO.out, fun _ => ⟨l, HL.out⟩, X2.out, B2.out⟩
        case measure => simp [intOf]; omega
      · have FJ : Hid ((rch l (k : Nat) (W * H))[j]? = some c ∧ p c = true ∧ ((rch l (k : Nat) (W * H)).take j).any p = false) := ⟨hj, hpc, htk⟩
        have hjl : j < (rch l (k : Nat) (W * H)).length := (List.getElem?_eq_some_iff.1 hj).1
        obtain ⟨ad, cp, rfl, -, -, hca⟩ := RO2.out
        obtain ⟨x, rfl, -, hx⟩ := hca (by intro h; rw [h] at hjl; simp at hjl)
        have cx : w2.cell? (x.add j) = some (.int .i64 c) := hx j c hj
        clear hj hpc htk hx hca
        go_wp2
        go_ret2
        exact ⟨l, c, _, 0, rfl, HL.out, Er.nil, .inr ⟨rfl, k, j, by omega, FJ.out.1, FJ.out.2.1, FJ.out.2.2, fun i hi => N.out l HL.out i hi⟩, B2.out⟩

set_option maxHeartbeats 1000000 in
theorem sat_any (u : UnV) (at_ : Int) (b : Nat) (w : World) (hc : w.cell? ⟨b, 0, none⟩ = some (.int .i64 at_)) :
    Calls Tryz.prog 97 #[u.val, .pointer (some ⟨b, 0, none⟩)] w fun e w' => e = .returned (.bool (u.at_ == at_)) ∧ Below w.heap.size w w' := by
  have hb : b < w.heap.size := cell_lt hc
  have hne : b ≠ w.heap.size := by omega
  unfold UnV.val
  go_enter Tryz.func97, Tryz.ntmps97
  go_wp2
  go_ret
  exact ⟨rfl, (Below.refl _ _).alloc (Nat.le_refl _) _⟩
set_option maxHeartbeats 2000000 in
/-- whether nobody is on a cell. -/
theorem free_any (us : List UnV) (at_ : Int) (b : Nat) (u : Value) (w : World) (hc : w.cell? ⟨b, 7, none⟩ = some u) (hu : Unl w u us) :
    Calls Tryz.prog 95 #[.int .i64 at_, .pointer (some ⟨b, 0, none⟩)] w fun e w' => e = .returned (.bool (!us.any (fun u => u.at_ == at_))) ∧ Below w.heap.size w w' := by
  have U : Hid (Unl w u us) := hu
  have hb : b < w.heap.size := cell_lt hc
  have hne : b ≠ w.heap.size := by omega
  clear hu
  go_enter Tryz.func95, Tryz.ntmps95
  go_upto_region 1 with fail
  have B0 : Hid (Below w.heap.size w (w.alloc (Obj.cells #[.int .i64 at_] 3))) := (Below.refl _ _).alloc (Nat.le_refl _) _
  have C0 : Hid ((w.alloc (Obj.cells #[.int .i64 at_] 3)).cell? ⟨w.heap.size, 0, none⟩ = some (.int .i64 at_)) := cell_of_new (by simp) rfl
  have c7 : (w.alloc (Obj.cells #[.int .i64 at_] 3)).cell? ⟨b, 7, none⟩ = some u := by rw [B0.out.cell (p := ⟨b, 7, none⟩) hb]; exact hc
  generalize (w.alloc (Obj.cells #[.int .i64 at_] 3)) = w0 at *
  go_wp2_with fail
  refine (hasu_any 97 (by intro args w; go_simp) u #[.pointer (some ⟨w.heap.size, 0, none⟩)] us (fun u => u.at_ == at_) w0 (U.out.below B0.out) (fun V hV k => sat_any k at_ w.heap.size V (by rw [hV.cell (p := ⟨w.heap.size, 0, none⟩) (cell_lt C0.out)]; exact C0.out))).mono ?_
  rintro e w1 ⟨rfl, hb1⟩
  have B1 : Hid (Below w.heap.size w w1) := B0.out.trans (hb1.mono B0.out.size)
  obtain ⟨m, hm⟩ : ∃ m, us.any (fun u => u.at_ == at_) = m := ⟨_, rfl⟩
  have HM : Hid (us.any (fun u => u.at_ == at_) = m) := hm
  rw [hm]
  clear hb1 hm c7 hc
  go_wp2
  go_ret
  exact ⟨by rw [HM.out]; rfl, B1.out⟩
end Go.Proofs.YtkejdkajfnaieaaGreatDoor

namespace Go.Proofs.YtkejdkajfnaieaaGreatDoor
open Go Go.RowKit
set_option linter.unusedVariables false

section
variable {P : Program} {ops : Array Oper} {md : Region.Mode} {C : World → Prop} {Q : Exit → Act → World → Prop}

/-- the operation gives v in each of the worlds C, and turns nothing. -/
def YieldsS (P : Program) (ops : Array Oper) (C : World → Prop) (o : Oper) (v : Value) (a : Act) : Prop :=
  Region.wanted o (yielded ops a.tmps) = true ∧ ∀ W, C W → (execOp a.eval o).run P W = .ok (.value v) W
/-- the operation goes on, to a world of C. -/
def StepS (P : Program) (ops : Array Oper) (C : World → Prop) (o : Oper) (K : Act → World → Prop) (a : Act) (W : World) : Prop :=
  Region.wanted o (yielded ops a.tmps) = true ∧
   ((∃ v W', (execOp a.eval o).run P W = .ok (.value v) W' ∧ C W' ∧ K (a.put o.dst v) W') ∨ (∃ W', (execOp a.eval o).run P W = .ok .skip W' ∧ C W' ∧ K (a.put o.dst undef) W') ∨
    ∃ f args, (execOp a.eval o).run P W = .ok (.enter f args) W ∧ Calls P f args W (fun e w' => ∃ v, e = .returned v ∧ C w' ∧ K (a.put o.dst v) w'))
theorem StepS.mono {o : Oper} {K K' : Act → World → Prop} {a : Act} {W : World} (h : ∀ a W, C W → K a W → K' a W) (hh : StepS P ops C o K a W) : StepS P ops C o K' a W := by
  obtain ⟨h1, h2⟩ := hh
  refine ⟨h1, ?_⟩
  rcases h2 with ⟨v, W', e, hc, hk⟩ | ⟨W', e, hc, hk⟩ | ⟨f, args, e, hc⟩
  · exact .inl ⟨v, W', e, hc, h _ _ hc hk⟩
  · exact .inr (.inl ⟨W', e, hc, h _ _ hc hk⟩)
  · exact .inr (.inr ⟨f, args, e, hc.mono fun e w' ⟨v, he, hw, hk⟩ => ⟨v, he, hw, h _ _ hw hk⟩⟩)
theorem YieldsS.step {o : Oper} {v : Value} {K : Act → World → Prop} {a : Act} {W : World} (hy : YieldsS P ops C o v a) (hC : C W) (h : K (a.put o.dst v) W) : StepS P ops C o K a W :=
  ⟨hy.1, .inl ⟨v, W, hy.2 W hC, hC, h⟩⟩
theorem StepS.put {oi oj : Oper} {v : Value} (hap : oi.apart ops oj = true)
    (hsi : ∀ cs b, oi.op ≠ .select cs b) (hsj : ∀ cs b, oj.op ≠ .select cs b) {K : Act → World → Prop} {a : Act} {W : World}
    (hy : YieldsS P ops C oi v a) (h : StepS P ops C oj K (a.put oi.dst v) W) :
    StepS P ops C oj (fun a' w' => YieldsS P ops C oi v a' ∧ K (a'.put oi.dst v) w') a W := by
  obtain ⟨h1, h2, h3⟩ := Oper.apart_spec hap
  have keep : ∀ u, YieldsS P ops C oi v (a.put oj.dst u) := fun u => by
    unfold YieldsS at *
    rw [execOp_put oi hsi a oj.dst u h3, wanted_put oi a oj.dst u h3]
    exact hy
  unfold StepS at *
  rw [wanted_put oj a oi.dst v h1, execOp_put oj hsj a oi.dst v h1] at h
  obtain ⟨hw, h⟩ := h
  refine ⟨hw, ?_⟩
  rcases h with ⟨u, W', e, hc, hk⟩ | ⟨W', e, hc, hk⟩ | ⟨f, args, e, hc⟩
  · exact .inl ⟨u, W', e, hc, keep u, by rw [← Act.put_comm a v u h2]; exact hk⟩
  · exact .inr (.inl ⟨W', e, hc, keep _, by rw [← Act.put_comm a v _ h2]; exact hk⟩)
  · exact .inr (.inr ⟨f, args, e, hc.mono fun e w' ⟨u, he, hw, hk⟩ => ⟨u, he, hw, keep u, by rw [← Act.put_comm a v u h2]; exact hk⟩⟩)
def wpAnyS (P : Program) (md : Region.Mode) (ops : Array Oper) (C : World → Prop) (Q : Exit → Act → World → Prop) : Nat → Array Bool → Act → World → Prop
  | 0, listed, a, W => Region.ready md ops listed = [] ∧ Q .normal a W
  | f + 1, listed, a, W => Region.ready md ops listed ≠ [] ∧ ∀ i ∈ Region.ready md ops listed, ∃ o, ops[i]? = some o ∧ StepS P ops C o (wpAnyS P md ops C Q f (listed.setIfInBounds i true)) a W
theorem wpAny_of_S : ∀ (f : Nat) (listed : Array Bool) (a : Act) (W : World), wpAnyS P md ops C Q f listed a W → wpAny P md ops Q f listed a W
  | 0, listed, a, W, h => h
  | f + 1, listed, a, W, h => by
    refine ⟨fun h0 => absurd h0 h.1, fun i hi => ?_⟩
    obtain ⟨o, ho, hs⟩ := h.2 i hi
    unfold wpOp
    simp only [ho]
    obtain ⟨hw, hs⟩ := hs
    rw [if_pos hw]
    refine .inl ?_
    unfold Oper.wp
    rcases hs with ⟨v, W', e, -, hk⟩ | ⟨W', e, -, hk⟩ | ⟨g, args, e, hc⟩
    · rw [e]; exact wpAny_of_S f _ _ _ hk
    · rw [e]; exact wpAny_of_S f _ _ _ hk
    · rw [e]
      exact hc.mono fun e w' ⟨v, he, _, hk⟩ => by subst he; exact wpAny_of_S f _ _ _ hk
theorem wpAnyS_first {i : Nat} {oi : Oper} {v : Value} (hi : ops[i]? = some oi) (hsel : ∀ (j : Nat) (o : Oper) cs b, ops[j]? = some o → o.op ≠ .select cs b) :
    ∀ (f : Nat) (listed : Array Bool) (a : Act) (W : World),
      (∀ j oj, ops[j]? = some oj → j ≠ i → listed.getD j true = false → (∀ e ∈ oj.after, Region.binds md e = true → e.on ≠ i) → oi.apart ops oj = true) →
      i ∈ Region.ready md ops listed → YieldsS P ops C oi v a → C W →
      wpAnyS P md ops C Q f (listed.setIfInBounds i true) (a.put oi.dst v) W → wpAnyS P md ops C Q (f + 1) listed a W := by
  intro f
  induction f with
  | zero =>
    intro listed a W _ hr hy hC H
    refine ⟨fun h => (by rw [h] at hr; cases hr), fun j hj => ?_⟩
    by_cases hji : j = i
    · subst hji; exact ⟨oi, hi, hy.step hC H⟩
    · have := ready_mono hj hji
      rw [H.1] at this
      cases this
  | succ f ih =>
    intro listed a W hfree hr hy hC H
    refine ⟨fun h => (by rw [h] at hr; cases hr), fun j hj => ?_⟩
    by_cases hji : j = i
    · subst hji; exact ⟨oi, hi, hy.step hC H⟩
    · obtain ⟨o', ho', h1⟩ := H.2 j (ready_mono hj hji)
      obtain ⟨hjun, oj, hoj, hall⟩ := mem_ready.1 hj
      obtain rfl : o' = oj := Option.some.inj (ho'.symm.trans hoj)
      have hnot : ∀ e ∈ o'.after, Region.binds md e = true → e.on ≠ i := fun e he hb heq => by
        have h1 := hall e he hb
        have h0 := (mem_ready.1 hr).1
        rw [heq, getD_both h0] at h1
        cases h1
      have h2 := StepS.put (hfree j o' hoj hji hjun hnot) (fun cs b => hsel i oi cs b hi) (fun cs b => hsel j o' cs b hoj) hy h1
      have hfree' : ∀ k ok, ops[k]? = some ok → k ≠ i → (listed.setIfInBounds j true).getD k true = false →
          (∀ e ∈ ok.after, Region.binds md e = true → e.on ≠ i) → oi.apart ops ok = true := fun k ok hk hki hun hno => by
        refine hfree k ok hk hki ?_ hno
        by_cases hjk : j = k
        · subst hjk; exact hjun
        · rw [getD_set_ne true hjk] at hun; exact hun
      refine ⟨o', hoj, h2.mono fun a' W' hC' h3 => ih (listed.setIfInBounds j true) a' W' hfree' (ready_mono hr (Ne.symm hji)) h3.1 hC' ?_⟩
      rw [Array.setIfInBounds_comm _ _ hji]
      exact h3.2
/-- an order of one's own: those marked true read, and may come at any time; of the others each is the only one that may come. -/
def wpSched (P : Program) (ops : Array Oper) (C : World → Prop) (Q : Exit → Act → World → Prop) : List (Bool × Nat) → Act → World → Prop
  | [], a, W => Q .normal a W
  | (true, i) :: r, a, W => ∃ o v, ops[i]? = some o ∧ YieldsS P ops C o v a ∧ wpSched P ops C Q r (a.put o.dst v) W
  | (false, i) :: r, a, W => ∃ o, ops[i]? = some o ∧ StepS P ops C o (wpSched P ops C Q r) a W
def schedB (md : Region.Mode) (ops : Array Oper) : List (Bool × Nat) → Array Bool → Bool
  | [], listed => (Region.ready md ops listed).isEmpty
  | (true, i) :: r, listed => (Region.ready md ops listed).contains i && (Region.free md ops listed i && schedB md ops r (listed.setIfInBounds i true))
  | (false, i) :: r, listed => decide (Region.ready md ops listed = [i]) && schedB md ops r (listed.setIfInBounds i true)
theorem wpAnyS_of_sched (hsel : Region.noSelect ops = true) : ∀ (s : List (Bool × Nat)) (listed : Array Bool) (a : Act) (W : World), schedB md ops s listed = true → C W → wpSched P ops C Q s a W → wpAnyS P md ops C Q s.length listed a W
  | [], listed, a, W, hB, hC, h => ⟨by simpa [schedB] using hB, h⟩
  | (true, i) :: r, listed, a, W, hB, hC, h => by
    simp only [schedB, Bool.and_eq_true] at hB
    obtain ⟨hr, hf, hB⟩ := hB
    obtain ⟨o, v, ho, hy, hk⟩ := h
    have hr' : i ∈ Region.ready md ops listed := by simpa using hr
    exact wpAnyS_first ho (Region.noSelect_spec hsel) r.length listed a W (Region.free_spec ho hf) hr' hy hC (wpAnyS_of_sched hsel r _ _ _ hB hC hk)
  | (false, i) :: r, listed, a, W, hB, hC, h => by
    simp only [schedB, Bool.and_eq_true, decide_eq_true_eq] at hB
    obtain ⟨hr, hB⟩ := hB
    obtain ⟨o, ho, hs⟩ := h
    refine ⟨fun h => (by rw [hr] at h; cases h), fun j hj => ?_⟩
    rw [hr] at hj
    obtain rfl : j = i := by simpa using hj
    exact ⟨o, ho, hs.mono fun a' W' hC' hk => wpAnyS_of_sched hsel r _ _ _ hB hC' hk⟩
theorem wp_region_sched {id : Nat} {a : Act} {w : World} (s : List (Bool × Nat)) (C : World → Prop) (hm : P.follows .mixedOrders = true) (hs : Region.noSelect ops = true) (hl : s.length = ops.size) (hB : schedB .any ops s (Array.replicate ops.size false) = true)
    (hC : C { w with drawn := w.drawn + 1 }) (h : wpSched P ops C Q s a { w with drawn := w.drawn + 1 }) : (Code.region id ops true).wp P Q a w := by
  refine wp_region_any hm ?_
  rw [← hl]
  exact wpAny_of_S _ _ _ _ (wpAnyS_of_sched hs s _ a _ (by rw [hl]; exact hB) hC h)
theorem sched_read {i : Nat} {r : List (Bool × Nat)} {o : Oper} {a : Act} {W : World} (ho : ops[i]? = some o) (v : Value) (hw : Region.wanted o (yielded ops a.tmps) = true) (hr : ∀ W, C W → (execOp a.eval o).run P W = .ok (.value v) W) (h : wpSched P ops C Q r (a.put o.dst v) W) : wpSched P ops C Q ((true, i) :: r) a W :=
  ⟨o, v, ho, ⟨hw, hr⟩, h⟩
theorem sched_call {i : Nat} {r : List (Bool × Nat)} {o : Oper} {a : Act} {W : World} (ho : ops[i]? = some o) (f : FuncId) (args : Array Value) (hw : Region.wanted o (yielded ops a.tmps) = true) (hr : (execOp a.eval o).run P W = .ok (.enter f args) W)
    (hc : Calls P f args W (fun e w' => ∃ v, e = .returned v ∧ C w' ∧ wpSched P ops C Q r (a.put o.dst v) w')) : wpSched P ops C Q ((false, i) :: r) a W :=
  ⟨o, ho, hw, .inr (.inr ⟨f, args, hr, hc⟩)⟩
theorem sched_value {i : Nat} {r : List (Bool × Nat)} {o : Oper} {a : Act} {W : World} (ho : ops[i]? = some o) (v : Value) (W' : World) (hw : Region.wanted o (yielded ops a.tmps) = true) (hr : (execOp a.eval o).run P W = .ok (.value v) W') (hC : C W') (h : wpSched P ops C Q r (a.put o.dst v) W') : wpSched P ops C Q ((false, i) :: r) a W :=
  ⟨o, ho, hw, .inl ⟨v, W', hr, hC, h⟩⟩
theorem sched_skip {i : Nat} {r : List (Bool × Nat)} {o : Oper} {a : Act} {W : World} (ho : ops[i]? = some o) (W' : World) (hw : Region.wanted o (yielded ops a.tmps) = true) (hr : (execOp a.eval o).run P W = .ok .skip W') (hC : C W') (h : wpSched P ops C Q r (a.put o.dst undef) W') : wpSched P ops C Q ((false, i) :: r) a W :=
  ⟨o, ho, hw, .inr (.inl ⟨W', hr, hC, h⟩)⟩
end
end Go.Proofs.YtkejdkajfnaieaaGreatDoor

namespace Go.Proofs.YtkejdkajfnaieaaGreatDoor
open Go Go.RowKit
set_option linter.unusedVariables false

section
variable {P : Program} {ops : Array Oper} {md : Region.Mode} {C : World → Prop} {Q : Exit → Act → World → Prop} {L : Array Bool → Act → World → Prop}

def wpAnyT (P : Program) (md : Region.Mode) (ops : Array Oper) (C : World → Prop) (L : Array Bool → Act → World → Prop) : Nat → Array Bool → Act → World → Prop
  | 0, listed, a, W => L listed a W
  | f + 1, listed, a, W => Region.ready md ops listed ≠ [] ∧ ∀ i ∈ Region.ready md ops listed, ∃ o, ops[i]? = some o ∧ StepS P ops C o (wpAnyT P md ops C L f (listed.setIfInBounds i true)) a W
theorem wpAny_of_T {g : Nat} (hL : ∀ listed a W, L listed a W → wpAny P md ops Q g listed a W) : ∀ (f : Nat) (listed : Array Bool) (a : Act) (W : World), wpAnyT P md ops C L f listed a W → wpAny P md ops Q (f + g) listed a W
  | 0, listed, a, W, h => by rw [Nat.zero_add]; exact hL _ _ _ h
  | f + 1, listed, a, W, h => by
    rw [show f + 1 + g = (f + g) + 1 by omega]
    refine ⟨fun h0 => absurd h0 h.1, fun i hi => ?_⟩
    obtain ⟨o, ho, hs⟩ := h.2 i hi
    unfold wpOp
    simp only [ho]
    obtain ⟨hw, hs⟩ := hs
    rw [if_pos hw]
    refine .inl ?_
    unfold Oper.wp
    rcases hs with ⟨v, W', e, -, hk⟩ | ⟨W', e, -, hk⟩ | ⟨k, args, e, hc⟩
    · rw [e]; exact wpAny_of_T hL f _ _ _ hk
    · rw [e]; exact wpAny_of_T hL f _ _ _ hk
    · rw [e]
      exact hc.mono fun e w' ⟨v, he, _, hk⟩ => by subst he; exact wpAny_of_T hL f _ _ _ hk
theorem unset_of {l H : Array Bool} {i : Nat} (h0 : l.getD i true = false) (e : l.setIfInBounds i true = H) : l = H.setIfInBounds i false := by
  subst e
  apply Array.ext_getElem?
  intro k
  by_cases hk : i = k
  · subst hk
    rcases Nat.lt_or_ge i l.size with hl | hl
    · simp [Array.getD, hl] at h0
      simp [hl, h0]
    · simp [Array.getD, Nat.not_lt.2 hl] at h0
  · simp [hk]
/-- what is listed has all that it waits for. -/
def Clos (md : Region.Mode) (ops : Array Oper) (listed : Array Bool) : Prop := ∀ (j : Nat) (oj : Oper), ops[j]? = some oj → listed.getD j false = true → ∀ e ∈ oj.after, Region.binds md e = true → listed.getD e.on false = true
theorem Clos.set {i : Nat} {listed : Array Bool} (inv : Clos md ops listed) (hi : i ∈ Region.ready md ops listed) : Clos md ops (listed.setIfInBounds i true) := by
  obtain ⟨_, oi, hoi, hall⟩ := mem_ready.1 hi
  intro j oj hj hl e he hb
  by_cases hij : i = j
  · subst hij
    have : oj = oi := Option.some.inj (hj.symm.trans hoi)
    subst this
    exact getD_set_true (hall e he hb)
  · rw [getD_set_ne false hij] at hl
    exact getD_set_true (inv j oj hj hl e he hb)
/-- one that is listed waits for i. -/
def waits (md : Region.Mode) (ops : Array Oper) (H0 : Array Bool) (i : Nat) : Bool := (List.range ops.size).any fun j => H0.getD j false && (decide (j ≠ i) && match ops[j]? with | some o => o.after.any fun e => Region.binds md e && decide (e.on = i) | none => false)
theorem waits_spec {H0 : Array Bool} {i : Nat} (h : waits md ops H0 i = true) : ∃ j o, ops[j]? = some o ∧ j ≠ i ∧ H0.getD j false = true ∧ ∃ e ∈ o.after, Region.binds md e = true ∧ e.on = i := by
  unfold waits at h
  obtain ⟨j, -, hj⟩ := List.any_eq_true.1 h
  simp only [Bool.and_eq_true, decide_eq_true_eq] at hj
  obtain ⟨h1, h2, h3⟩ := hj
  cases ho : ops[j]? with
  | none => rw [ho] at h3; cases h3
  | some o =>
    rw [ho] at h3
    obtain ⟨k, hk, he⟩ := Array.any_eq_true.1 h3
    simp only [Bool.and_eq_true, decide_eq_true_eq] at he
    exact ⟨j, o, ho, h2, h1, o.after[k], Array.getElem_mem hk, he.1, he.2⟩
theorem wpAnyT_first {i : Nat} {oi : Oper} {v : Value} {H0 : Array Bool} (hi : ops[i]? = some oi) (hsel : ∀ (j : Nat) (o : Oper) cs b, ops[j]? = some o → o.op ≠ .select cs b)
    (hH : waits md ops H0 i = true ∨ Region.ready md ops (H0.setIfInBounds i false) = [i]) (hLH : ∀ listed a W, L listed a W → listed = H0) :
    ∀ (f : Nat) (listed : Array Bool) (a : Act) (W : World), Clos md ops listed →
      (∀ j oj, ops[j]? = some oj → j ≠ i → listed.getD j true = false → (∀ e ∈ oj.after, Region.binds md e = true → e.on ≠ i) → oi.apart ops oj = true) →
      i ∈ Region.ready md ops listed → YieldsS P ops C oi v a → C W →
      wpAnyT P md ops C L f (listed.setIfInBounds i true) (a.put oi.dst v) W → wpAnyT P md ops C L (f + 1) listed a W := by
  intro f
  induction f with
  | zero =>
    intro listed a W inv _ hr hy hC H
    refine ⟨fun h => (by rw [h] at hr; cases hr), fun j hj => ?_⟩
    by_cases hji : j = i
    · subst hji; exact ⟨oi, hi, hy.step hC H⟩
    · rcases hH with hH | hH
      · obtain ⟨k, ok, hk, hki, hkl, e, he, hb, heq⟩ := waits_spec hH
        rw [← hLH _ _ _ H, getD_set_ne false (Ne.symm hki)] at hkl
        have h1 := inv k ok hk hkl e he hb
        rw [heq, getD_both (mem_ready.1 hr).1] at h1
        cases h1
      · have e := unset_of (mem_ready.1 hr).1 (hLH _ _ _ H)
        rw [e, hH] at hj
        exact absurd (by simpa using hj) hji
  | succ f ih =>
    intro listed a W inv hfree hr hy hC H
    refine ⟨fun h => (by rw [h] at hr; cases hr), fun j hj => ?_⟩
    by_cases hji : j = i
    · subst hji; exact ⟨oi, hi, hy.step hC H⟩
    · obtain ⟨o', ho', h1⟩ := H.2 j (ready_mono hj hji)
      obtain ⟨hjun, oj, hoj, hall⟩ := mem_ready.1 hj
      obtain rfl : o' = oj := Option.some.inj (ho'.symm.trans hoj)
      have hnot : ∀ e ∈ o'.after, Region.binds md e = true → e.on ≠ i := fun e he hb heq => by
        have h1 := hall e he hb
        have h0 := (mem_ready.1 hr).1
        rw [heq, getD_both h0] at h1
        cases h1
      have h2 := StepS.put (hfree j o' hoj hji hjun hnot) (fun cs b => hsel i oi cs b hi) (fun cs b => hsel j o' cs b hoj) hy h1
      have hfree' : ∀ k ok, ops[k]? = some ok → k ≠ i → (listed.setIfInBounds j true).getD k true = false →
          (∀ e ∈ ok.after, Region.binds md e = true → e.on ≠ i) → oi.apart ops ok = true := fun k ok hk hki hun hno => by
        refine hfree k ok hk hki ?_ hno
        by_cases hjk : j = k
        · subst hjk; exact hjun
        · rw [getD_set_ne true hjk] at hun; exact hun
      refine ⟨o', hoj, h2.mono fun a' W' hC' h3 => ih (listed.setIfInBounds j true) a' W' (inv.set hj) hfree' (ready_mono hr (Ne.symm hji)) h3.1 hC' ?_⟩
      rw [Array.setIfInBounds_comm _ _ hji]
      exact h3.2
/-- the head, in an order of one's own; K behind it. -/
def wpHeadT (P : Program) (ops : Array Oper) (C : World → Prop) (K : Act → World → Prop) : List (Bool × Nat) → Act → World → Prop
  | [], a, W => K a W
  | (true, i) :: r, a, W => ∃ o v, ops[i]? = some o ∧ YieldsS P ops C o v a ∧ wpHeadT P ops C K r (a.put o.dst v) W
  | (false, i) :: r, a, W => ∃ o, ops[i]? = some o ∧ StepS P ops C o (wpHeadT P ops C K r) a W
def headB (md : Region.Mode) (ops : Array Oper) (H0 : Array Bool) : List (Bool × Nat) → Array Bool → Bool
  | [], listed => decide (listed = H0)
  | (true, i) :: r, listed => (Region.ready md ops listed).contains i && (Region.free md ops listed i && ((waits md ops H0 i || decide (Region.ready md ops (H0.setIfInBounds i false) = [i])) && headB md ops H0 r (listed.setIfInBounds i true)))
  | (false, i) :: r, listed => decide (Region.ready md ops listed = [i]) && headB md ops H0 r (listed.setIfInBounds i true)
theorem wpAnyT_of_head {K : Act → World → Prop} {H0 : Array Bool} (hsel : Region.noSelect ops = true) : ∀ (s : List (Bool × Nat)) (listed : Array Bool) (a : Act) (W : World), Clos md ops listed → headB md ops H0 s listed = true → C W → wpHeadT P ops C K s a W → wpAnyT P md ops C (fun l a W => l = H0 ∧ K a W) s.length listed a W
  | [], listed, a, W, inv, hB, hC, h => ⟨of_decide_eq_true hB, h⟩
  | (true, i) :: r, listed, a, W, inv, hB, hC, h => by
    simp only [headB, Bool.and_eq_true, Bool.or_eq_true, decide_eq_true_eq] at hB
    obtain ⟨hr, hf, hH, hB⟩ := hB
    obtain ⟨o, v, ho, hy, hk⟩ := h
    have hr' : i ∈ Region.ready md ops listed := by simpa using hr
    exact wpAnyT_first ho (Region.noSelect_spec hsel) hH (fun _ _ _ h => h.1) r.length listed a W inv (Region.free_spec ho hf) hr' hy hC (wpAnyT_of_head hsel r _ _ _ (inv.set hr') hB hC hk)
  | (false, i) :: r, listed, a, W, inv, hB, hC, h => by
    simp only [headB, Bool.and_eq_true, decide_eq_true_eq] at hB
    obtain ⟨hr, hB⟩ := hB
    obtain ⟨o, ho, hs⟩ := h
    refine ⟨fun h => (by rw [hr] at h; cases h), fun j hj => ?_⟩
    have hr' : i ∈ Region.ready md ops listed := by rw [hr]; simp
    rw [hr] at hj
    obtain rfl : j = i := by simpa using hj
    exact ⟨o, ho, hs.mono fun a' W' hC' hk => wpAnyT_of_head hsel r _ _ _ (inv.set hr') hB hC' hk⟩
def listedBy (n : Nat) (s : List (Bool × Nat)) : Array Bool := s.foldl (fun l p => l.setIfInBounds p.2 true) (Array.replicate n false)
/-- the region: its head s, in the worlds C; its tail t. -/
theorem wp_region_two {id : Nat} {a : Act} {w : World} (s t : List (Bool × Nat)) (C : World → Prop) (hm : P.follows .mixedOrders = true) (hs : Region.noSelect ops = true) (hl : s.length + t.length = ops.size) (hB : headB .any ops (listedBy ops.size s) s (Array.replicate ops.size false) = true)
    (hT : schedB .any ops t (listedBy ops.size s) = true)
    (hC : C { w with drawn := w.drawn + 1 }) (h : wpHeadT P ops C (wpSched P ops (fun _ => True) Q t) s a { w with drawn := w.drawn + 1 }) : (Code.region id ops true).wp P Q a w := by
  refine wp_region_any hm ?_
  rw [← hl]
  refine wpAny_of_T (g := t.length) (fun listed a W hh => ?_) _ _ _ _ (wpAnyT_of_head (H0 := listedBy ops.size s) hs s _ a _ (fun j oj _ hj => by rw [getD_replicate_false] at hj; cases hj) (by rw [hl]; exact hB) hC h)
  obtain ⟨rfl, hk⟩ := hh
  exact wpAny_of_S _ _ _ _ (wpAnyS_of_sched hs t _ a W hT trivial hk)
theorem headT_read {K : Act → World → Prop} {i : Nat} {r : List (Bool × Nat)} {o : Oper} {a : Act} {W : World} (ho : ops[i]? = some o) (v : Value) (hw : Region.wanted o (yielded ops a.tmps) = true) (hr : ∀ W, C W → (execOp a.eval o).run P W = .ok (.value v) W) (h : wpHeadT P ops C K r (a.put o.dst v) W) : wpHeadT P ops C K ((true, i) :: r) a W :=
  ⟨o, v, ho, ⟨hw, hr⟩, h⟩
theorem headT_call {K : Act → World → Prop} {i : Nat} {r : List (Bool × Nat)} {o : Oper} {a : Act} {W : World} (ho : ops[i]? = some o) (f : FuncId) (args : Array Value) (hw : Region.wanted o (yielded ops a.tmps) = true) (hr : (execOp a.eval o).run P W = .ok (.enter f args) W)
    (hc : Calls P f args W (fun e w' => ∃ v, e = .returned v ∧ C w' ∧ wpHeadT P ops C K r (a.put o.dst v) w')) : wpHeadT P ops C K ((false, i) :: r) a W :=
  ⟨o, ho, hw, .inr (.inr ⟨f, args, hr, hc⟩)⟩
theorem exec_append {o : Oper} {a : Act} {w w' : World} {v' : Value} (s x : Operand) (t tx : TypeId) (ho : o.op = .call { callee := .builtin .append, args := #[s, x], argTypes := #[t, tx] }) (v xv : Value) (hs : a.eval s = v) (hx : a.eval x = xv)
    (hr : (Builtin.append_ #[t, tx] o.type #[v, xv]).run P w = .ok v' w') : (execOp a.eval o).run P w = .ok (.value v') w' := by
  unfold execOp
  simp only [ho, resolve, invoke, builtin, Sem.run_bind, Sem.run_pure, Result.andThen_ok, List.map_toArray, List.map_cons, List.map_nil, hs, hx, hr]
theorem headT_value {K : Act → World → Prop} {i : Nat} {r : List (Bool × Nat)} {o : Oper} {a : Act} {W : World} (ho : ops[i]? = some o) (v : Value) (W' : World) (hw : Region.wanted o (yielded ops a.tmps) = true) (hr : (execOp a.eval o).run P W = .ok (.value v) W') (hC : C W') (h : wpHeadT P ops C K r (a.put o.dst v) W') : wpHeadT P ops C K ((false, i) :: r) a W :=
  ⟨o, ho, hw, .inl ⟨v, W', hr, hC, h⟩⟩
end
end Go.Proofs.YtkejdkajfnaieaaGreatDoor

namespace Go.Proofs.YtkejdkajfnaieaaGreatDoor
open Go.RowKit
set_option linter.unusedVariables false

theorem wl_shape9 {w : World} {v : Value} {X : WV} (h : Wl w v X) : ∃ p1 q1 p2 q2 p3 q3 p4 q4 p5 q5, v = .agg #[.int .i64 X.turn, .int .i64 X.next, .int .i64 X.wide, .int .i64 X.high, .slice p1 X.gs.length q1, .slice p2 X.os.length q2, .slice p3 X.gold.length q3, .slice p4 X.us.length q4, .slice p5 X.qs.length q5] := by
  obtain ⟨u1, u2, u3, u4, u5, rfl, ⟨p1, q1, rfl, -⟩, ⟨p2, q2, rfl, -⟩, ⟨p3, q3, rfl, -⟩, ⟨p4, q4, rfl, -⟩, ⟨p5, q5, rfl, -⟩⟩ := h
  exact ⟨_, _, _, _, _, _, _, _, _, _, rfl⟩
theorem fl_of {w : World} {X : WV} {u1 u2 u3 u4 u5 : Value} (h : Wl w (.agg #[.int .i64 X.turn, .int .i64 X.next, .int .i64 X.wide, .int .i64 X.high, u1, u2, u3, u4, u5]) X) : Fl w (.agg #[.int .i64 X.wide, .int .i64 X.high, u1, u2]) X.wide X.high X.gs X.os :=
  ⟨u1, u2, rfl, h.slices.1, h.slices.2.1⟩
end Go.Proofs.YtkejdkajfnaieaaGreatDoor

namespace Go.Proofs.YtkejdkajfnaieaaGreatDoor
open Go.RowKit Wy
set_option linter.unusedVariables false

/-- nobody is on a cell. -/
def freeAt (us : List UnV) (x : Int) : Bool := !us.any (fun u => u.at_ == x)
/-- what Spot tells. -/
def SpotSays (ks : List KV) (X : WV) (unit kind c F : Int) : Prop :=
  (Wd.wfault ks X ≠ 0 ∧ F = Wd.wfault ks X ∧ c = 0) ∨ (Wd.wfault ks X = 0 ∧ X.us.any (fun u => u.id == unit) = false ∧ F = 6 ∧ c = 0)
  ∨ (Wd.wfault ks X = 0 ∧ X.us.any (fun u => u.id == unit) = true ∧ ¬ (0 ≤ kind ∧ kind < (ks.length : Int)) ∧ F = 1 ∧ c = 0)
  ∨ (Wd.wfault ks X = 0 ∧ ∃ (i kn Wn Hn an : Nat) (u : UnV) (k : KV) (l : List Int), FstU (fun u => u.id == unit) X.us (i : Nat) ∧ X.us[i]? = some u ∧ kind = (kn : Nat) ∧ ks[kn]? = some k ∧ X.wide = (Wn : Nat) ∧ X.high = (Hn : Nat) ∧ Fd.Good Wn Hn X.gs X.os ∧ u.at_ = (an : Nat) ∧ an < Wn * Hn
      ∧ IsFar (Fd.near Wn Hn) (fun i _ => (X.gs.map fun g => Fd.onto g k.f).getD i 0) an (Wn * Hn) l ∧ NearSays l (Wn * Hn) (freeAt X.us) c F)
set_option maxRecDepth 100000 in
set_option maxHeartbeats 16000000 in
theorem spot_any (vk vw : Value) (ks : List KV) (X : WV) (unit kind : Int) (w : World) (hk : Kl w vk ks) (hb : ∀ k ∈ ks, k.b.size ≤ 9223372036854775807) (hw : Wl w vw X) (hs : Sd w) :
    Calls Tryz.prog 36 #[vk, vw, .int .i64 unit, .int .i64 kind] w fun e w' => ∃ c r F, e = .returned (.tuple #[.int .i64 c, r]) ∧ Er r F ∧ SpotSays ks X unit kind c F ∧ Below w.heap.size w w' := by
  have K : Hid (Kl w vk ks ∧ ∀ k ∈ ks, k.b.size ≤ 9223372036854775807) := ⟨hk, hb⟩
  have H : Hid (Wl w vw X) := hw
  have S : Hid (Sd w) := hs
  obtain ⟨p1, q1, p2, q2, p3, q3, p4, q4, p5, q5, rfl⟩ := wl_shape9 hw
  obtain ⟨pk, qk, rfl, ck1, ck2, kc⟩ := hk
  have KC : Hid (ks ≠ [] → ∃ x, pk = some x ∧ x.block < w.heap.size ∧ ∀ (i : Nat) k, ks[i]? = some k → Kc w (x.add (i * 11)) k) := kc
  clear hb hw hs kc
  go_enter Tryz.func36, Tryz.ntmps36
  go_upto_region 1 with fail
  have B0 : Hid (Below w.heap.size w (w.alloc (Obj.cells #[.int .i64 X.turn, .int .i64 X.next, .int .i64 X.wide, .int .i64 X.high, .slice p1 X.gs.length q1, .slice p2 X.os.length q2, .slice p3 X.gold.length q3, .slice p4 X.us.length q4, .slice p5 X.qs.length q5] 29))) := (Below.refl _ _).alloc (Nat.le_refl _) _
  have X0 : Hid (Bw (w.alloc (Obj.cells #[.int .i64 X.turn, .int .i64 X.next, .int .i64 X.wide, .int .i64 X.high, .slice p1 X.gs.length q1, .slice p2 X.os.length q2, .slice p3 X.gold.length q3, .slice p4 X.us.length q4, .slice p5 X.qs.length q5] 29)) w.heap.size X (.slice p1 X.gs.length q1) (.slice p2 X.os.length q2) (.slice p3 X.gold.length q3) (.slice p4 X.us.length q4) (.slice p5 X.qs.length q5)) := Bw.mk' X _ _ _ _ _ rfl
  generalize (w.alloc (Obj.cells #[.int .i64 X.turn, .int .i64 X.next, .int .i64 X.wide, .int .i64 X.high, .slice p1 X.gs.length q1, .slice p2 X.os.length q2, .slice p3 X.gold.length q3, .slice p4 X.us.length q4, .slice p5 X.qs.length q5] 29)) = w0 at *
  obtain ⟨x0, x1, x2, x3, x4, x5, x6, x7, x8⟩ := X0.out
  go_wp2_with fail
  refine (wcheck_any _ _ ks X w0 (K.out.1.below B0.out) K.out.2 (H.out.below B0.out)).mono ?_
  rintro e w1 ⟨r, rfl, hr, hb⟩
  obtain ⟨fw, hfw⟩ : ∃ f, Wd.wfault ks X = f := ⟨_, rfl⟩
  have FW : Hid (Wd.wfault ks X = fw) := hfw
  rw [hfw] at hr
  have B1 : Hid (Below w.heap.size w w1) := B0.out.trans (hb.mono B0.out.size)
  have X1 : Hid (Bw w1 w.heap.size X (.slice p1 X.gs.length q1) (.slice p2 X.os.length q2) (.slice p3 X.gold.length q3) (.slice p4 X.us.length q4) (.slice p5 X.qs.length q5)) := X0.out.below hb X0.out.lt
  clear hb hfw x0 x1 x2 x3 x4 x5 x6 x7 x8 X0 B0
  rcases hr with ⟨rfl, rfl⟩ | ⟨hf, rfl⟩
  case inr =>
    have HF : Hid (fw ≠ 0) := hf
    clear hf
    go_wp2
    go_ret2
    exact ⟨0, _, fw, rfl, Er.no HF.out, .inl (by rw [FW.out]; exact ⟨HF.out, rfl, rfl⟩), B1.out⟩
  obtain ⟨x0, x1, x2, x3, x4, x5, x6, x7, x8⟩ := X1.out
  go_wp2_with fail
  refine (wfind_any _ X unit w1 (H.out.below B1.out)).mono ?_
  rintro e w2 ⟨r, rfl, hf, hb⟩
  have B2 : Hid (Below w.heap.size w w2) := B1.out.trans (hb.mono B1.out.size)
  have X2 : Hid (Bw w2 w.heap.size X (.slice p1 X.gs.length q1) (.slice p2 X.os.length q2) (.slice p3 X.gold.length q3) (.slice p4 X.us.length q4) (.slice p5 X.qs.length q5)) := X1.out.below hb X1.out.lt
  have FI : Hid (FstU (fun u => u.id == unit) X.us r) := hf
  clear hb x0 x1 x2 x3 x4 x5 x6 x7 x8 X1 B1
  rcases hf with ⟨rfl, hno⟩ | ⟨i, u, rfl, hi, hid, -⟩
  · have NO : Hid (X.us.any (fun u => u.id == unit) = false) := hno
    clear hno
    go_wp2
    go_ret2
    exact ⟨0, _, 6, rfl, Er.no (by decide), .inr (.inl ⟨FW.out, NO.out, rfl, rfl⟩), B2.out⟩
  have AN : Hid (X.us.any (fun u => u.id == unit) = true) := List.any_eq_true.2 ⟨u, List.mem_of_getElem? hi, hid⟩
  have UI : Hid (X.us[i]? = some u) := hi
  have hil : i < X.us.length := (List.getElem?_eq_some_iff.1 hi).1
  clear hi hid
  by_cases hk0 : kind < 0
  · go_wp2
    go_ret2
    exact ⟨0, _, 1, rfl, Er.no (by decide), .inr (.inr (.inl ⟨FW.out, AN.out, by omega, rfl, rfl⟩)), B2.out⟩
  by_cases hk1 : (ks.length : Int) ≤ kind
  · go_wp2
    go_ret2
    exact ⟨0, _, 1, rfl, Er.no (by decide), .inr (.inr (.inl ⟨FW.out, AN.out, by omega, rfl, rfl⟩)), B2.out⟩
  obtain ⟨kn, rfl⟩ : ∃ n : Nat, kind = n := ⟨kind.toNat, by omega⟩
  have hkl : kn < ks.length := by omega
  obtain ⟨k, hkk⟩ : ∃ k, ks[kn]? = some k := ⟨_, List.getElem?_eq_getElem hkl⟩
  have WR : Hid (WRight ks X) := wright_of FW.out
  obtain ⟨Wn, Hn, e1, e2, G⟩ := WR.out.good
  obtain ⟨k0, fu⟩ := WR.out.fine UI.out
  have hat := fu.at_
  obtain ⟨an, han⟩ : ∃ n : Nat, u.at_ = n := ⟨u.at_.toNat, by omega⟩
  have GD : Hid (X.wide = (Wn : Nat) ∧ X.high = (Hn : Nat) ∧ Fd.Good Wn Hn X.gs X.os ∧ u.at_ = (an : Nat) ∧ an < Wn * Hn ∧ ks[kn]? = some k) := ⟨e1, e2, G, han, by have := G.gl; omega, hkk⟩
  obtain ⟨pa, pc, he, -, -, hu⟩ := H.out.slices.2.2.2.1
  obtain ⟨xu, hxu, hxul, hxuc⟩ := hu (by intro h; rw [h] at hil; simp at hil)
  injection he with he1 he2 he3
  subst he1
  subst hxu
  obtain ⟨xk, hxk, hxl, hxc⟩ := KC.out (by intro h; subst h; simp at hkl)
  subst hxk
  have UK : Hid (Unc w (xu.add (i * 8)) u ∧ (xu.add (i * 8)).block < w.heap.size ∧ Kc w (xk.add (kn * 11)) k ∧ (xk.add (kn * 11)).block < w.heap.size) := ⟨hxuc i u UI.out, by rw [add_block]; exact hxul, hxc kn k hkk, by rw [add_block]; exact hxl⟩
  clear hu he2 he3 hxul hxuc hxl hxc e1 e2 G fu hat hkk KC han
  go_upto_region 10 with fail
  refine wp_region_two [(true, 0), (true, 1), (true, 2), (true, 3), (true, 4), (true, 5), (true, 6), (true, 7), (true, 8), (true, 9), (true, 10), (true, 11), (true, 12), (true, 13), (false, 14)] [(true, 15), (true, 16), (true, 17), (false, 18)] (fun V => Bw V w.heap.size X (.slice p1 X.gs.length q1) (.slice p2 X.os.length q2) (.slice p3 X.gold.length q3) (.slice (some xu) X.us.length q4) (.slice p5 X.qs.length q5) ∧ V.cell? ⟨(xu.add (i * 8)).block, (xu.add (i * 8)).off + 3, none⟩ = some (.int .i64 u.at_) ∧ V.cell? ⟨(xk.add (kn * 11)).block, (xk.add (kn * 11)).off + 9, none⟩ = some (.bool k.f)) (by kernel_rfl) (by kernel_rfl) (by kernel_rfl) (by decide +kernel) (by decide +kernel) ?_ ?_
  · exact ⟨X2.out.below ((Below.refl _ _).drew) X2.out.lt, (UK.out.1.below B2.out UK.out.2.1).c3, (UK.out.2.2.1.below B2.out UK.out.2.2.2).c9⟩
  have X3 : Hid (Bw { w2 with drawn := w2.drawn + 1 } w.heap.size X (.slice p1 X.gs.length q1) (.slice p2 X.os.length q2) (.slice p3 X.gold.length q3) (.slice (some xu) X.us.length q4) (.slice p5 X.qs.length q5)) := X2.out.below ((Below.refl _ _).drew) X2.out.lt
  have B3 : Hid (Below w.heap.size w { w2 with drawn := w2.drawn + 1 }) := B2.out.drew
  generalize ({ w2 with drawn := w2.drawn + 1 } : World) = w3 at *
  clear X2 B2
  refine headT_read rfl (.pointer (some ⟨w.heap.size, 2, none⟩)) (by go_simp) (fun V hV => by go_simp) ?_
  go_simp
  refine headT_read rfl (.agg #[.int .i64 X.wide, .int .i64 X.high, .slice p1 X.gs.length q1, .slice p2 X.os.length q2]) (by go_simp) (fun V hV => by obtain ⟨⟨x0, x1, x2, x3, x4, x5, x6, x7, x8⟩, cu, ck⟩ := hV; go_simp) ?_
  go_simp
  refine headT_read rfl (.pointer (some ⟨w.heap.size, 7, none⟩)) (by go_simp) (fun V hV => by go_simp) ?_
  go_simp
  refine headT_read rfl (.slice (some xu) X.us.length q4) (by go_simp) (fun V hV => by obtain ⟨⟨x0, x1, x2, x3, x4, x5, x6, x7, x8⟩, cu, ck⟩ := hV; go_simp) ?_
  go_simp
  refine headT_read rfl (.int .i64 (i : Nat)) (by go_simp) (fun V hV => by go_simp) ?_
  go_simp
  refine headT_read rfl (.pointer (some (xu.add (i * 8)))) (by go_simp) (fun V hV => by go_simp) ?_
  go_simp
  refine headT_read rfl (.pointer (some ⟨(xu.add (i * 8)).block, (xu.add (i * 8)).off + 3, none⟩)) (by go_simp) (fun V hV => by go_simp) ?_
  go_simp
  refine headT_read rfl (.int .i64 u.at_) (by go_simp) (fun V hV => by obtain ⟨⟨x0, x1, x2, x3, x4, x5, x6, x7, x8⟩, cu, ck⟩ := hV; go_simp) ?_
  go_simp
  refine headT_read rfl (.slice (some xk) ks.length qk) (by go_simp) (fun V hV => by go_simp) ?_
  go_simp
  refine headT_read rfl (.int .i64 (kn : Nat)) (by go_simp) (fun V hV => by go_simp) ?_
  go_simp
  refine headT_read rfl (.pointer (some (xk.add (kn * 11)))) (by go_simp) (fun V hV => by go_simp) ?_
  go_simp
  refine headT_read rfl (.pointer (some ⟨(xk.add (kn * 11)).block, (xk.add (kn * 11)).off + 9, none⟩)) (by go_simp) (fun V hV => by go_simp) ?_
  go_simp
  refine headT_read rfl (.bool k.f) (by go_simp) (fun V hV => by obtain ⟨⟨x0, x1, x2, x3, x4, x5, x6, x7, x8⟩, cu, ck⟩ := hV; go_simp) ?_
  go_simp
  refine headT_read rfl (.func (Fn.func 95) #[] #[.pointer (some ⟨w.heap.size, 0, none⟩)]) (by go_simp) (fun V hV => by go_simp) ?_
  go_simp
  refine headT_call rfl 98 #[.agg #[.int .i64 X.wide, .int .i64 X.high, .slice p1 X.gs.length q1, .slice p2 X.os.length q2], .int .i64 u.at_, .bool k.f, .func (Fn.func 95) #[] #[.pointer (some ⟨w.heap.size, 0, none⟩)]] (by go_simp) (by go_simp) ?_
  have FL : Hid (Fl w3 (.agg #[.int .i64 X.wide, .int .i64 X.high, .slice p1 X.gs.length q1, .slice p2 X.os.length q2]) (Wn : Nat) (Hn : Nat) X.gs X.os) := by
    have := fl_of (H.out.below B3.out)
    rw [GD.out.1, GD.out.2.1] at this
    rw [GD.out.1, GD.out.2.1]
    exact this
  have UL : Hid (Unl w (.slice (some xu) X.us.length q4) X.us) := H.out.slices.2.2.2.1
  rw [GD.out.2.2.2.1]
  refine (nearest_ok 95 (by intro args w; go_simp) #[.pointer (some ⟨w.heap.size, 0, none⟩)] (freeAt X.us) _ Wn Hn X.gs X.os an k.f w3 FL.out (S.out.below B3.out) GD.out.2.2.1 GD.out.2.2.2.2.1
    (fun V hV x => free_any X.us x w.heap.size _ V (X3.out.below hV X3.out.lt).c7 ((UL.out.below B3.out).below hV))).mono ?_
  rintro e w4 ⟨l, c, r, F, rfl, hl, hr, hn, hb⟩
  have B4 : Hid (Below w.heap.size w w4) := B3.out.trans (hb.mono B3.out.size)
  have X4 : Hid (Bw w4 w.heap.size X (.slice p1 X.gs.length q1) (.slice p2 X.os.length q2) (.slice p3 X.gold.length q3) (.slice (some xu) X.us.length q4) (.slice p5 X.qs.length q5)) := X3.out.below hb X3.out.lt
  have NS : Hid (IsFar (Fd.near Wn Hn) (fun i _ => (X.gs.map fun g => Fd.onto g k.f).getD i 0) an (Wn * Hn) l ∧ Er r F ∧ NearSays l (Wn * Hn) (freeAt X.us) c F) := ⟨hl, hr, hn⟩
  refine ⟨_, rfl, ⟨X4.out, (by have := (UK.out.1.below B4.out UK.out.2.1).c3; rw [GD.out.2.2.2.1] at this; exact this), (UK.out.2.2.1.below B4.out UK.out.2.2.2).c9⟩, ?_⟩
  clear hb hl hr hn X3 B3 FL
  go_simp
  refine sched_read rfl (.int .i64 c) (by go_simp) (fun V hV => by go_simp) ?_
  go_simp
  refine sched_read rfl r (by go_simp) (fun V hV => by go_simp) ?_
  go_simp
  refine sched_read rfl (.int .i64 c) (by go_simp) (fun V hV => by go_simp) ?_
  go_simp
  refine sched_value rfl r w4 (by go_simp) (by go_simp) trivial ?_
  go_simp
  unfold wpSched
  go_wp2
  go_ret2
  exact ⟨c, r, F, rfl, NS.out.2.1, .inr (.inr (.inr ⟨FW.out, i, kn, Wn, Hn, an, u, k, l, FI.out, UI.out, rfl, GD.out.2.2.2.2.2, GD.out.1, GD.out.2.1, GD.out.2.2.1, GD.out.2.2.2.1, GD.out.2.2.2.2.1, NS.out.1, NS.out.2.2⟩)), B4.out⟩
end Go.Proofs.YtkejdkajfnaieaaGreatDoor

namespace Go.Proofs.YtkejdkajfnaieaaGreatDoor
open Go.RowKit
set_option linter.unusedVariables false

structure EvV where
  what : Int
  unit : Int
  arg : Int
def EvV.val (k : EvV) : Value := .agg #[.int .i64 k.what, .int .i64 k.unit, .int .i64 k.arg]
/-- its cells, from an address on. -/
structure Evc (w : World) (y : Addr) (k : EvV) : Prop where
  c0 : w.cell? y = some (.int .i64 k.what)
  c1 : w.cell? ⟨y.block, y.off + 1, none⟩ = some (.int .i64 k.unit)
  c2 : w.cell? ⟨y.block, y.off + 2, none⟩ = some (.int .i64 k.arg)
theorem Evc.lt {w : World} {y : Addr} {k : EvV} (h : Evc w y k) : y.block < w.heap.size := cell_lt h.c0
theorem Evc.below {w w' : World} {y : Addr} {k : EvV} {B : Nat} (h : Evc w y k) (hb : Below B w w') (hy : y.block < B) : Evc w' y k :=
  ⟨by rw [hb.cell (p := y) hy]; exact h.c0, by rw [hb.cell (p := ⟨y.block, y.off + 1, none⟩) hy]; exact h.c1, by rw [hb.cell (p := ⟨y.block, y.off + 2, none⟩) hy]; exact h.c2⟩
/-- v is a slice of them. -/
def Evl (w : World) (v : Value) (ks : List EvV) : Prop := ∃ a c, v = .slice a ks.length c ∧ ks.length ≤ c ∧ c ≤ 9223372036854775807 ∧ (ks ≠ [] → ∃ x, a = some x ∧ x.block < w.heap.size ∧ ∀ (i : Nat) k, ks[i]? = some k → Evc w (x.add (i * 3)) k)
theorem Evl.below {w w' : World} {v : Value} {ks : List EvV} (h : Evl w v ks) (hb : Below w.heap.size w w') : Evl w' v ks := by
  obtain ⟨a, c, h1, h2, h3, h4⟩ := h
  refine ⟨a, c, h1, h2, h3, fun hn => ?_⟩
  obtain ⟨x, e, hx, hk⟩ := h4 hn
  exact ⟨x, e, Nat.lt_of_lt_of_le hx hb.size, fun i k hi => (hk i k hi).below hb (by rw [add_block]; exact hx)⟩
theorem Evc.mk' {w : World} {z : Nat} (k : EvV) (hz : w.heap.size = z) : Evc (w.alloc (.cells #[.int .i64 k.what, .int .i64 k.unit, .int .i64 k.arg] 139)) ⟨z, 0, none⟩ k := by
  subst hz
  constructor <;> simp
end Go.Proofs.YtkejdkajfnaieaaGreatDoor

namespace Go.Proofs.YtkejdkajfnaieaaGreatDoor
set_option linter.unusedVariables false

def cntU (l : List JbV) (u : Int) : Nat := l.countP (fun j => decide (j.unit = u))
theorem cntU_next {l : List JbV} {q : Nat} {j : JbV} (h : l[q]? = some j) (u : Int) : cntU (l.take (q + 1)) u = cntU (l.take q) u + if j.unit = u then 1 else 0 := by
  unfold cntU
  rw [List.take_add_one, h, List.countP_append]
  simp [List.countP_cons]
/-- a job, one turn later, if none ahead is of its unit. -/
def dec1 (l : List JbV) (j : JbV) : JbV := if cntU l j.unit = 0 then { j with left := j.left - 1 } else j
def one1 (j : JbV) : JbV := { j with left := 1 }
def Comes (ks : List KV) (Y : WV) (j : JbV) (c : Int) : Prop := SpotSays ks Y j.unit j.kind c 0 ∧ Wd.placeFault ks Y j.player j.kind c = 0
def NoCome (ks : List KV) (Y : WV) (j : JbV) : Prop := ∃ c F, SpotSays ks Y j.unit j.kind c F ∧ (F ≠ 0 ∨ Wd.placeFault ks Y j.player j.kind c ≠ 0)
/-- the first q jobs are looked at: the world by then, what happened, which jobs are left. -/
inductive Tr (ks : List KV) (X : WV) : Nat → WV → List EvV → List JbV → Prop
  | zero : Tr ks X 0 X [] []
  | wait {q : Nat} {Y : WV} {es : List EvV} {qs : List JbV} {j : JbV} : Tr ks X q Y es qs → X.qs[q]? = some j → (dec1 (X.qs.take q) j).left ≠ 0 → Tr ks X (q + 1) Y es (qs ++ [dec1 (X.qs.take q) j])
  | come {q : Nat} {Y : WV} {es : List EvV} {qs : List JbV} {j : JbV} {c : Int} : Tr ks X q Y es qs → X.qs[q]? = some j → (dec1 (X.qs.take q) j).left = 0 → Comes ks Y j c → Tr ks X (q + 1) (Wd.put ks Y j.player j.kind c) (es ++ [⟨6, Y.next, c⟩]) qs
  | stay {q : Nat} {Y : WV} {es : List EvV} {qs : List JbV} {j : JbV} : Tr ks X q Y es qs → X.qs[q]? = some j → (dec1 (X.qs.take q) j).left = 0 → NoCome ks Y j → Tr ks X (q + 1) Y es (qs ++ [one1 j])
theorem Tr.keep {ks : List KV} {X : WV} (h : WRight ks X) {q : Nat} {Y : WV} {es : List EvV} {qs : List JbV} (t : Tr ks X q Y es qs) : WRight ks Y ∧ Y.qs = X.qs ∧ es.length ≤ q ∧ qs.length ≤ q ∧ Y.turn = X.turn ∧ Y.wide = X.wide ∧ Y.high = X.high ∧ Y.gs = X.gs ∧ Y.os = X.os ∧ Y.gold = X.gold := by
  induction t with
  | zero => exact ⟨h, rfl, by simp, by simp, rfl, rfl, rfl, rfl, rfl, rfl⟩
  | wait _ _ _ ih =>
    obtain ⟨i1, i2, i3, i4, i5⟩ := ih
    exact ⟨i1, i2, by omega, by simp; omega, i5⟩
  | come _ _ _ hc ih =>
    obtain ⟨i1, i2, i3, i4, i5⟩ := ih
    exact ⟨wright_of (put_right i1 hc.2), i2, by simp; omega, by omega, i5⟩
  | stay _ _ _ _ ih =>
    obtain ⟨i1, i2, i3, i4, i5⟩ := ih
    exact ⟨i1, i2, by omega, by simp; omega, i5⟩
end Go.Proofs.YtkejdkajfnaieaaGreatDoor

namespace Go.Proofs.YtkejdkajfnaieaaGreatDoor
set_option linter.unusedVariables false

theorem Tr.count {ks : List KV} {X : WV} {q : Nat} {Y : WV} {es : List EvV} {qs : List JbV} (t : Tr ks X q Y es qs) : Y.us.length = X.us.length + es.length ∧ Y.next = X.next + (es.length : Int) ∧ qs.length + es.length = q := by
  induction t with
  | zero => simp
  | wait _ _ _ ih => obtain ⟨i1, i2, i3⟩ := ih; exact ⟨i1, i2, by simp; omega⟩
  | come _ _ _ _ ih =>
    obtain ⟨i1, i2, i3⟩ := ih
    refine ⟨?_, ?_, by simp; omega⟩
    · simp only [Wd.put, List.length_append, List.length_cons, List.length_nil]
      omega
    · simp only [Wd.put, List.length_append, List.length_cons, List.length_nil, i2]
      omega
  | stay _ _ _ _ ih => obtain ⟨i1, i2, i3⟩ := ih; exact ⟨i1, i2, by simp; omega⟩
/-- a job that is left is one that was, with Left from 1 on. -/
def FromJ (X : WV) (j : JbV) : Prop := ∃ o ∈ X.qs, j.player = o.player ∧ j.unit = o.unit ∧ j.kind = o.kind ∧ j.left ≠ 0 ∧ (j.left = 1 ∨ j.left = o.left ∨ j.left = o.left - 1)
theorem Tr.from {ks : List KV} {X : WV} {q : Nat} {Y : WV} {es : List EvV} {qs : List JbV} (t : Tr ks X q Y es qs) : ∀ j ∈ qs, FromJ X j := by
  induction t with
  | zero => intro j hj; cases hj
  | @wait q Y es qs o _ ho hl ih =>
    intro j hj
    rcases List.mem_append.1 hj with hj | hj
    · exact ih j hj
    · simp only [List.mem_singleton] at hj
      subst hj
      refine ⟨o, List.mem_of_getElem? ho, ?_⟩
      unfold dec1 at hl ⊢
      split
      · rename_i h
        rw [if_pos h] at hl
        exact ⟨rfl, rfl, rfl, hl, .inr (.inr rfl)⟩
      · rename_i h
        rw [if_neg h] at hl
        exact ⟨rfl, rfl, rfl, hl, .inr (.inl rfl)⟩
  | come _ _ _ _ ih => exact ih
  | @stay q Y es qs o _ ho _ _ ih =>
    intro j hj
    rcases List.mem_append.1 hj with hj | hj
    · exact ih j hj
    · simp only [List.mem_singleton] at hj
      subst hj
      exact ⟨o, List.mem_of_getElem? ho, rfl, rfl, rfl, (by show (1 : Int) ≠ 0; decide), .inl rfl⟩
/-- behind training a world is right. -/
theorem tr_right {ks : List KV} {X : WV} (h : WRight ks X) {Y : WV} {es : List EvV} {qs : List JbV} (t : Tr ks X X.qs.length Y es qs) : Wd.wfault ks { Y with qs := qs } = 0 := by
  obtain ⟨R, eq, -, hq, -⟩ := t.keep h
  have hf := t.from
  obtain ⟨Wn, Hn, e1, e2, G⟩ := R.good
  refine Wd.wfault_zero R.kinds (by show Fd.fault Y.wide Y.high Y.gs Y.os = 0; rw [e1, e2]; exact Fd.fault_good G) R.nums R.ul (fun i u hu => ?_) (by show qs.length ≤ 12; have := h.ql; omega) (fun j hj => ?_)
  · obtain ⟨k, F⟩ := R.fine hu
    exact ⟨k, F.id1, F.id2, F.up, F.p, F.k0, F.kk, F.life, F.load, F.task, F.at_, F.goal, F.opn, F.rest⟩
  · obtain ⟨o, ho, p1, p2, p3, p4, p5⟩ := hf j hj
    have h1 := R.job (j := o) (by rw [eq]; exact ho)
    unfold Wd.jobFault at h1 ⊢
    show (match Y.us.find? (fun u => u.id == j.unit) with | none => 6 | some u => _) = (0 : Int)
    rw [p2]
    cases hu : Y.us.find? (fun u => u.id == o.unit) with
    | none => rw [hu] at h1; exact h1
    | some u =>
      rw [hu] at h1
      simp only at h1 ⊢
      cases hk : ks[u.kind.toNat]? with
      | none => rw [hk] at h1; exact h1
      | some k =>
        rw [hk] at h1
        simp only at h1 ⊢
        rw [p1, p3]
        split at h1
        · cases h1
        · rename_i c1
          rw [if_neg c1]
          split at h1
          · cases h1
          · rename_i c2
            rw [if_neg]
            simp only [Bool.or_eq_true, Bool.not_eq_true', decide_eq_false_iff_not, not_or, Classical.not_not, Bool.not_eq_false] at c2 ⊢
            refine ⟨c2.1, ?_⟩
            have := c2.2
            rcases p5 with e | e | e <;> omega
end Go.Proofs.YtkejdkajfnaieaaGreatDoor

namespace Go.Proofs.YtkejdkajfnaieaaGreatDoor
set_option linter.unusedVariables false

def carryOf (ks : List KV) (u : UnV) : Int := match ks[u.kind.toNat]? with | some k => k.n7 | none => 0
/-- how much a unit takes where it stands. -/
def yieldN (ks : List KV) (Y : WV) (u : UnV) : Int := if u.task = 2 ∧ u.at_ = u.goal then min (min (carryOf ks u - u.load) (Y.os.getD u.at_.toNat 0)) 10 else 0
def loadU (u : UnV) (n : Int) : UnV := { u with load := n }
def takeW (Y : WV) (i : Nat) (u : UnV) (n : Int) : WV := { Y with us := Y.us.set i (loadU u (u.load + n)), os := Y.os.set u.at_.toNat (Y.os.getD u.at_.toNat 0 - n) }
/-- the first q units have taken; what happened. -/
def tk (ks : List KV) (Y : WV) : Nat → WV × List EvV
  | 0 => (Y, [])
  | q + 1 => match (tk ks Y q).1.us[q]? with
    | none => tk ks Y q
    | some u => if 0 < yieldN ks (tk ks Y q).1 u then (takeW (tk ks Y q).1 q u (yieldN ks (tk ks Y q).1 u), (tk ks Y q).2 ++ [⟨4, u.id, yieldN ks (tk ks Y q).1 u⟩]) else tk ks Y q
theorem tk_yes {ks : List KV} {Y : WV} {q : Nat} {u : UnV} (hu : (tk ks Y q).1.us[q]? = some u) (h : 0 < yieldN ks (tk ks Y q).1 u) : tk ks Y (q + 1) = (takeW (tk ks Y q).1 q u (yieldN ks (tk ks Y q).1 u), (tk ks Y q).2 ++ [⟨4, u.id, yieldN ks (tk ks Y q).1 u⟩]) := by
  rw [tk]; simp only [hu]; rw [if_pos h]
theorem tk_no {ks : List KV} {Y : WV} {q : Nat} {u : UnV} (hu : (tk ks Y q).1.us[q]? = some u) (h : ¬ 0 < yieldN ks (tk ks Y q).1 u) : tk ks Y (q + 1) = tk ks Y q := by
  rw [tk]; simp only [hu]; rw [if_neg h]
/-- what must hold for ore to be dug. -/
structure DFit (ks : List KV) (Y : WV) : Prop where
  wide : ∃ Wn Hn : Nat, Y.wide = Wn ∧ Y.high = Hn ∧ Fd.Good Wn Hn Y.gs Y.os
  units : ∀ u ∈ Y.us, (∃ kn : Nat, ∃ k, u.kind = kn ∧ ks[kn]? = some k ∧ 0 ≤ u.load ∧ u.load ≤ k.n7 ∧ k.n7 ≤ 1000) ∧ (∃ an : Nat, u.at_ = an ∧ an < Y.os.length) ∧ ∃ pn : Nat, u.player = pn ∧ pn < Y.gold.length
  gold : ∀ g ∈ Y.gold, 0 ≤ g ∧ g ≤ 1000000
  ul : Y.us.length ≤ 40
theorem DFit.ore {ks : List KV} {Y : WV} (h : DFit ks Y) {i : Nat} {x : Int} (hx : Y.os[i]? = some x) : 0 ≤ x ∧ x ≤ 1000000 := by
  obtain ⟨Wn, Hn, -, -, G⟩ := h.wide
  have hi := (List.getElem?_eq_some_iff.1 hx).1
  have hg := List.getElem?_eq_getElem (l := Y.gs) (i := i) (by rw [G.gl, ← G.ol]; exact hi)
  have := G.cell i _ x hg hx
  omega
theorem kinds_carry {ks : List KV} (h : Kd.kindsFault (ks.map KV.k) = 0) : ∀ k ∈ ks, 0 ≤ k.n7 ∧ k.n7 ≤ 1000 := by
  intro k hk
  unfold Kd.kindsFault at h
  split at h
  · omega
  · have h2 := kgo_nums h k.k (List.mem_map.2 ⟨k, hk, rfl⟩)
    unfold Kd.numsFault at h2
    split at h2
    · omega
    · rename_i h3
      rw [Bool.not_eq_true, List.any_eq_false] at h3
      have := h3 k.n7 (by simp [KV.k])
      simp only [decide_eq_true_eq] at this
      omega
theorem gold_inD {Y : WV} (h : Wd.numsBad Y = false) : ∀ g ∈ Y.gold, 0 ≤ g ∧ g ≤ 1000000 := by
  unfold Wd.numsBad at h
  simp only [Bool.or_eq_false_iff] at h
  obtain ⟨-, -, h3, h4⟩ := h
  intro g hg
  rw [List.any_eq_false] at h4
  have := h4 g hg
  unfold Wd.off at this
  simp at this
  exact this
theorem WRight.dfit {ks : List KV} {Y : WV} (h : WRight ks Y) : DFit ks Y := by
  have kc := kinds_carry h.kinds
  obtain ⟨Wn, Hn, e1, e2, G⟩ := h.good
  refine ⟨⟨Wn, Hn, e1, e2, G⟩, fun u hu => ?_, gold_inD h.nums, h.ul⟩
  obtain ⟨i, hi⟩ := List.mem_iff_getElem?.1 hu
  obtain ⟨k, F⟩ := h.fine hi
  have hl : Y.os.length = Y.gs.length := by rw [G.gl, G.ol]
  exact ⟨⟨u.kind.toNat, k, by have := F.k0; omega, F.kk, F.load.1, F.load.2, (kc k (List.mem_of_getElem? F.kk)).2⟩, ⟨u.at_.toNat, by have := F.at_; omega, by have := F.at_; omega⟩, ⟨u.player.toNat, by have := F.p; omega, by have := F.p; omega⟩⟩
theorem yield_le {ks : List KV} {Y : WV} {u : UnV} {kn an : Nat} {k : KV} {x : Int} (hk : u.kind = kn) (hkk : ks[kn]? = some k) (ha : u.at_ = an) (hx : Y.os[an]? = some x) : yieldN ks Y u = (if u.task = 2 ∧ u.at_ = u.goal then min (min (k.n7 - u.load) x) 10 else 0) := by
  unfold yieldN carryOf
  rw [hk, ha, Int.toNat_natCast, Int.toNat_natCast]
  simp only [hkk, List.getD_eq_getElem?_getD, hx, Option.getD_some]
theorem DFit.take {ks : List KV} {Y : WV} (h : DFit ks Y) {i : Nat} {u : UnV} (hu : Y.us[i]? = some u) (hn : 0 < yieldN ks Y u) : DFit ks (takeW Y i u (yieldN ks Y u)) := by
  obtain ⟨⟨kn, k, e1, e2, l1, l2, l3⟩, ⟨an, e3, hal⟩, pn, e4, hpl⟩ := h.units u (List.mem_of_getElem? hu)
  obtain ⟨x, hx⟩ : ∃ x, Y.os[an]? = some x := ⟨_, List.getElem?_eq_getElem hal⟩
  have ey := yield_le (ks := ks) (Y := Y) e1 e2 e3 hx
  have hox := h.ore hx
  have hy : yieldN ks Y u ≤ k.n7 - u.load ∧ yieldN ks Y u ≤ x := by
    rw [ey] at hn ⊢
    split
    · omega
    · rename_i hh; rw [if_neg hh] at hn; omega
  have eg : Y.os.getD u.at_.toNat 0 = x := by rw [e3, Int.toNat_natCast, List.getD_eq_getElem?_getD, hx, Option.getD_some]
  refine ⟨?_, fun v hv => ?_, h.gold, by simpa [takeW] using h.ul⟩
  · obtain ⟨Wn, Hn, a1, a2, G⟩ := h.wide
    refine ⟨Wn, Hn, a1, a2, ⟨G.w1, G.w2, G.h1, G.h2, G.gl, by simpa [takeW] using G.ol, fun j g o hg ho => ?_⟩⟩
    unfold takeW at ho
    simp only at ho
    rw [eg, e3, Int.toNat_natCast, List.getElem?_set] at ho
    split at ho
    · rename_i ej
      subst ej
      injection ho with ho
      have c := G.cell an g x hg hx
      refine ⟨c.1, c.2.1, by omega, by omega, fun h9 => c.2.2.2.2 (by omega)⟩
    · exact G.cell j g o hg ho
  · have hlen : (takeW Y i u (yieldN ks Y u)).os.length = Y.os.length := by simp [takeW]
    rw [hlen]
    rcases List.mem_or_eq_of_mem_set hv with hv | rfl
    · exact h.units v hv
    · exact ⟨⟨kn, k, e1, e2, by show 0 ≤ u.load + _; omega, by show u.load + _ ≤ _; omega, l3⟩, ⟨an, e3, hal⟩, pn, e4, hpl⟩
/-- what taking leaves as it was. -/
def TkK (Y Z : WV) : Prop := Z.turn = Y.turn ∧ Z.next = Y.next ∧ Z.wide = Y.wide ∧ Z.high = Y.high ∧ Z.gs = Y.gs ∧ Z.gold = Y.gold ∧ Z.qs = Y.qs ∧ Z.us.length = Y.us.length ∧ Z.os.length = Y.os.length
theorem tk_keep {ks : List KV} {Y : WV} : ∀ q, TkK Y (tk ks Y q).1
  | 0 => ⟨rfl, rfl, rfl, rfl, rfl, rfl, rfl, rfl, rfl⟩
  | q + 1 => by
    have ih := tk_keep (ks := ks) (Y := Y) q
    cases hu : (tk ks Y q).1.us[q]? with
    | none => rw [tk]; simp only [hu]; exact ih
    | some u =>
      by_cases h : 0 < yieldN ks (tk ks Y q).1 u
      · rw [tk_yes hu h]
        obtain ⟨a1, a2, a3, a4, a5, a6, a7, a8, a9⟩ := ih
        exact ⟨a1, a2, a3, a4, a5, a6, a7, by simpa [takeW] using a8, by simpa [takeW] using a9⟩
      · rw [tk_no hu h]; exact ih
theorem tk_fit {ks : List KV} {Y : WV} (h : DFit ks Y) : ∀ q, DFit ks (tk ks Y q).1
  | 0 => h
  | q + 1 => by
    have ih := tk_fit h q
    cases hu : (tk ks Y q).1.us[q]? with
    | none => rw [tk]; simp only [hu]; exact ih
    | some u =>
      by_cases hh : 0 < yieldN ks (tk ks Y q).1 u
      · rw [tk_yes hu hh]; exact ih.take hu hh
      · rw [tk_no hu hh]; exact ih
theorem tk_evs {ks : List KV} {Y : WV} : ∀ q, (tk ks Y q).2.length ≤ q
  | 0 => by simp [tk]
  | q + 1 => by
    have ih := tk_evs (ks := ks) (Y := Y) q
    cases hu : (tk ks Y q).1.us[q]? with
    | none => rw [tk]; simp only [hu]; omega
    | some u =>
      by_cases h : 0 < yieldN ks (tk ks Y q).1 u
      · rw [tk_yes hu h]; simp; omega
      · rw [tk_no hu h]; omega
end Go.Proofs.YtkejdkajfnaieaaGreatDoor

namespace Go.Proofs.YtkejdkajfnaieaaGreatDoor
open Go.RowKit
set_option linter.unusedVariables false

theorem len_un (ks : List UnV) : (ks.flatMap UnV.cs).length = ks.length * 8 := by
  induction ks with
  | nil => rfl
  | cons x l ih => rw [List.flatMap_cons, List.length_append, ih, List.length_cons, Nat.succ_mul, Nat.add_comm]; rfl
theorem cell_un {w : World} {y : Addr} {ks : List UnV} (hc : ∀ (i : Nat) k, ks[i]? = some k → Unc w (y.add (i * 8)) k) (j : Nat) (u : Value) (hj : (ks.flatMap UnV.cs)[j]? = some u) : w.cell? (y.add j) = some u := by
  have hjl : j < ks.length * 8 := by rw [← len_un]; exact (List.getElem?_eq_some_iff.1 hj).1
  obtain ⟨i, r, hr, rfl⟩ : ∃ i r, r < 8 ∧ j = i * 8 + r := ⟨j / 8, j % 8, Nat.mod_lt _ (by decide), by omega⟩
  have hi : i < ks.length := by omega
  obtain ⟨k, hk⟩ : ∃ k, ks[i]? = some k := ⟨_, List.getElem?_eq_getElem hi⟩
  rw [flat_un ks i r k hk hr] at hj
  have h := hc i k hk
  rcases Nat.eq_zero_or_pos r with rfl | hr0
  · simp [UnV.cs] at hj
    subst hj
    exact h.c0
  · have ea : y.add (i * 8 + r) = ⟨(y.add (i * 8)).block, (y.add (i * 8)).off + r, none⟩ := by
      unfold Addr.add
      rw [if_neg (by omega)]
      split <;> simp <;> omega
    rw [ea]
    match r, hr, hr0, hj with
    | 1, _, _, hj => simp [UnV.cs] at hj; subst hj; exact h.c1
    | 2, _, _, hj => simp [UnV.cs] at hj; subst hj; exact h.c2
    | 3, _, _, hj => simp [UnV.cs] at hj; subst hj; exact h.c3
    | 4, _, _, hj => simp [UnV.cs] at hj; subst hj; exact h.c4
    | 5, _, _, hj => simp [UnV.cs] at hj; subst hj; exact h.c5
    | 6, _, _, hj => simp [UnV.cs] at hj; subst hj; exact h.c6
    | 7, _, _, hj => simp [UnV.cs] at hj; subst hj; exact h.c7

theorem app_uns {ops : Array Oper} {rest : List Oper} {o : Oper} {a : Act} {Q : Exit → Act → World → Prop} (w : World) (hgd : o.guard = none) (s x : Operand)
    (ho : o.op = .call { callee := .builtin .append, args := #[s, x], argTypes := #[26, 26] }) (base : Nat) (v : Value) (ks : List UnV) (hs : a.eval s = v) (hown : Uno w base v ks)
    (u : Value) (ys : List UnV) (hx : a.eval x = u) (hu : Unl w u ys) (hl : ks.length + ys.length ≤ 100000000) (hbase : base ≤ w.heap.size)
    (h : ∀ v' w', Uno w' base v' (ks ++ ys) → w.grownBy w' v.ownBlock → (v'.ownBlock = v.ownBlock ∨ v'.ownBlock = some w.heap.size) → wpList Tryz.prog ops Q rest (a.put o.dst v') w') :
    wpList Tryz.prog ops Q (o :: rest) a w := by
  obtain ⟨i0, hi, hz0, hz1, hz2⟩ := info_parts info_un
  obtain ⟨ad, c, rfl, h1, h2, h3⟩ := hu
  by_cases hn : ys = []
  · subst hn
    refine wpList_plain hgd fun K hK => ?_
    have hrun := run_append_no (P := Tryz.prog) (w := w) base 26 o.type 42 i0 8 Tryz.underlying26 hi v ks.length _ hown ad c
    have hx' : a.eval x = .slice ad 0 c := hx
    unfold Oper.wp
    simp [execOp, ho, resolve, invoke, builtin, hs, hx', hrun, Result.andThen]
    exact hK _ _ (h v w (by simpa using hown) (World.grownBy.refl _ _) (.inl rfl))
  · obtain ⟨y, rfl, hy, hc⟩ := h3 hn
    refine wpList_append_lies w hgd s x 26 ho base 42 i0 _ 8 64 Tryz.underlying26 hi hz0 hz1 hz2 rfl (by decide) v ks.length _ hs hown y ys.length c (ys.flatMap UnV.cs) hx (len_un ys) (cell_un hc) ?_ (List.length_pos_iff.2 hn) (by unfold maxLen; omega) (by omega) hbase _ rfl ?_
    · intro u hu
      obtain ⟨k, -, hk⟩ := List.mem_flatMap.1 hu
      simp [UnV.cs] at hk
      rcases hk with rfl | rfl | rfl | rfl | rfl | rfl | rfl | rfl <;> rfl
    · intro g cap w' k1 k2 k3 _
      refine h _ w' ?_ k2 ?_
      · unfold Uno
        rw [List.length_append, List.flatMap_append]
        exact k1
      · rcases k3 with k3 | k3
        · exact .inl k3.symm
        · exact .inr (by rw [k3]; rfl)
end Go.Proofs.YtkejdkajfnaieaaGreatDoor

namespace Go.Proofs.YtkejdkajfnaieaaGreatDoor
open Go.RowKit
set_option linter.unusedVariables false

/-- block g has these units, and more behind them. -/
def Ub (w : World) (g : Nat) (ks : List UnV) (rest : List Value) : Prop := w.heap[g]? = some (.cells (ks.flatMap UnV.cs ++ rest).toArray 42 (0, 0))
theorem Ub.lt {w : World} {g : Nat} {ks : List UnV} {rest : List Value} (h : Ub w g ks rest) : g < w.heap.size := lt_of_block h
theorem Ub.thaw {w : World} {g : Nat} {ks : List UnV} {rest : List Value} (h : Ub w g ks rest) (i : Nat) : w.frozen? ⟨g, i, none⟩ = false := by
  unfold Ub at h
  simp [World.frozen?, h]
theorem Ub.below {w w' : World} {g B : Nat} {ks : List UnV} {rest : List Value} (h : Ub w g ks rest) (hb : Below B w w') (hB : g < B) : Ub w' g ks rest := by
  unfold Ub at *
  rw [hb.block g hB]; exact h
theorem Ub.at_ {w : World} {g : Nat} {ks : List UnV} {rest : List Value} (h : Ub w g ks rest) {i : Nat} {o : UnV} (ho : ks[i]? = some o) {j : Nat} (hj : j < 8) : w.cell? ⟨g, i * 8 + j, none⟩ = o.cs[j]? := by
  unfold Ub at h
  have hi : i < ks.length := (List.getElem?_eq_some_iff.1 ho).1
  simp only [World.cell?, h]
  have e : (ks.flatMap UnV.cs ++ rest).toArray[i * 8 + j]? = o.cs[j]? := by
    rw [List.getElem?_toArray, List.getElem?_append_left (by rw [len_un]; omega), flat_un ks i j o ho hj]
  simp only [e]
  simp
theorem Ub.unc {w : World} {g : Nat} {ks : List UnV} {rest : List Value} (h : Ub w g ks rest) {i : Nat} {o : UnV} (ho : ks[i]? = some o) : Unc w ⟨g, i * 8, none⟩ o :=
  ⟨h.at_ ho (j := 0) (by decide), h.at_ ho (j := 1) (by decide), h.at_ ho (j := 2) (by decide), h.at_ ho (j := 3) (by decide), h.at_ ho (j := 4) (by decide), h.at_ ho (j := 5) (by decide), h.at_ ho (j := 6) (by decide), h.at_ ho (j := 7) (by decide)⟩
theorem uflat_set : ∀ (ks : List UnV) (i : Nat) (o : UnV) (rest : List Value), i < ks.length →
    (ks.set i o).flatMap UnV.cs ++ rest = ((((((((ks.flatMap UnV.cs ++ rest).set (i * 8) (.int .i64 o.id)).set (i * 8 + 1) (.int .i64 o.player)).set (i * 8 + 2) (.int .i64 o.kind)).set (i * 8 + 3) (.int .i64 o.at_)).set (i * 8 + 4) (.int .i64 o.life)).set (i * 8 + 5) (.int .i64 o.load)).set (i * 8 + 6) (.int .i64 o.task)).set (i * 8 + 7) (.int .i64 o.goal)
  | [], i, o, rest, h => by simp at h
  | k :: ks, 0, o, rest, _ => by
    simp [UnV.cs]
  | k :: ks, i + 1, o, rest, h => by
    have ih := uflat_set ks i o rest (by simpa using h)
    rw [show (i + 1) * 8 = i * 8 + 8 by omega, show i * 8 + 8 + 1 = i * 8 + 1 + 8 by omega, show i * 8 + 8 + 2 = i * 8 + 2 + 8 by omega, show i * 8 + 8 + 3 = i * 8 + 3 + 8 by omega, show i * 8 + 8 + 4 = i * 8 + 4 + 8 by omega, show i * 8 + 8 + 5 = i * 8 + 5 + 8 by omega, show i * 8 + 8 + 6 = i * 8 + 6 + 8 by omega, show i * 8 + 8 + 7 = i * 8 + 7 + 8 by omega, List.set_cons_succ, List.flatMap_cons, List.append_assoc, ih, List.flatMap_cons]
    simp [UnV.cs]
theorem Ub.put {w : World} {g : Nat} {ks : List UnV} {rest : List Value} (h : Ub w g ks rest) {i : Nat} (hi : i < ks.length) (o : UnV) :
    Ub ((((((((w.setCell ⟨g, i * 8, none⟩ (.int .i64 o.id)).setCell ⟨g, i * 8 + 1, none⟩ (.int .i64 o.player)).setCell ⟨g, i * 8 + 2, none⟩ (.int .i64 o.kind)).setCell ⟨g, i * 8 + 3, none⟩ (.int .i64 o.at_)).setCell ⟨g, i * 8 + 4, none⟩ (.int .i64 o.life)).setCell ⟨g, i * 8 + 5, none⟩ (.int .i64 o.load)).setCell ⟨g, i * 8 + 6, none⟩ (.int .i64 o.task)).setCell ⟨g, i * 8 + 7, none⟩ (.int .i64 o.goal)) g (ks.set i o) rest := by
  unfold Ub at *
  have h0 := heap_setCell_same w g (i * 8) _ _ (.int .i64 o.id) h
  have h1 := heap_setCell_same _ g (i * 8 + 1) _ _ (.int .i64 o.player) h0
  have h2 := heap_setCell_same _ g (i * 8 + 2) _ _ (.int .i64 o.kind) h1
  have h3 := heap_setCell_same _ g (i * 8 + 3) _ _ (.int .i64 o.at_) h2
  have h4 := heap_setCell_same _ g (i * 8 + 4) _ _ (.int .i64 o.life) h3
  have h5 := heap_setCell_same _ g (i * 8 + 5) _ _ (.int .i64 o.load) h4
  have h6 := heap_setCell_same _ g (i * 8 + 6) _ _ (.int .i64 o.task) h5
  have h7 := heap_setCell_same _ g (i * 8 + 7) _ _ (.int .i64 o.goal) h6
  rw [h7, uflat_set ks i o rest hi]
  simp
theorem ub_below {B g : Nat} {w W : World} {i : Nat} (o : UnV) (h : Below B w W) (hb : B ≤ g) : Below B w ((((((((W.setCell ⟨g, i * 8, none⟩ (.int .i64 o.id)).setCell ⟨g, i * 8 + 1, none⟩ (.int .i64 o.player)).setCell ⟨g, i * 8 + 2, none⟩ (.int .i64 o.kind)).setCell ⟨g, i * 8 + 3, none⟩ (.int .i64 o.at_)).setCell ⟨g, i * 8 + 4, none⟩ (.int .i64 o.life)).setCell ⟨g, i * 8 + 5, none⟩ (.int .i64 o.load)).setCell ⟨g, i * 8 + 6, none⟩ (.int .i64 o.task)).setCell ⟨g, i * 8 + 7, none⟩ (.int .i64 o.goal)) :=
  (((((((h.setCell (p := ⟨g, i * 8, none⟩) hb _).setCell (p := ⟨g, i * 8 + 1, none⟩) hb _).setCell (p := ⟨g, i * 8 + 2, none⟩) hb _).setCell (p := ⟨g, i * 8 + 3, none⟩) hb _).setCell (p := ⟨g, i * 8 + 4, none⟩) hb _).setCell (p := ⟨g, i * 8 + 5, none⟩) hb _).setCell (p := ⟨g, i * 8 + 6, none⟩) hb _).setCell (p := ⟨g, i * 8 + 7, none⟩) hb _
theorem uflat_set3 : ∀ (ks : List UnV) (i : Nat) (o : UnV) (a : Int) (rest : List Value), ks[i]? = some o → (ks.set i { o with at_ := a }).flatMap UnV.cs ++ rest = (ks.flatMap UnV.cs ++ rest).set (i * 8 + 3) (.int .i64 a)
  | [], i, o, a, rest, h => by simp at h
  | k :: ks, 0, o, a, rest, h => by
    simp at h
    subst h
    simp [UnV.cs]
  | k :: ks, i + 1, o, a, rest, h => by
    have ih := uflat_set3 ks i o a rest (by simpa using h)
    rw [show (i + 1) * 8 + 3 = i * 8 + 3 + 8 by omega, List.set_cons_succ, List.flatMap_cons, List.append_assoc, ih, List.flatMap_cons]
    simp [UnV.cs]
theorem Ub.set3 {w : World} {g : Nat} {ks : List UnV} {rest : List Value} (h : Ub w g ks rest) {i : Nat} {o : UnV} (ho : ks[i]? = some o) (a : Int) : Ub (w.setCell ⟨g, i * 8 + 3, none⟩ (.int .i64 a)) g (ks.set i { o with at_ := a }) rest := by
  unfold Ub at *
  have h0 := heap_setCell_same w g (i * 8 + 3) _ _ (.int .i64 a) h
  rw [h0, uflat_set3 ks i o a rest ho]
  simp
theorem uflat_set4 : ∀ (ks : List UnV) (i : Nat) (o : UnV) (a : Int) (rest : List Value), ks[i]? = some o → (ks.set i { o with life := a }).flatMap UnV.cs ++ rest = (ks.flatMap UnV.cs ++ rest).set (i * 8 + 4) (.int .i64 a)
  | [], i, o, a, rest, h => by simp at h
  | k :: ks, 0, o, a, rest, h => by
    simp at h
    subst h
    simp [UnV.cs]
  | k :: ks, i + 1, o, a, rest, h => by
    have ih := uflat_set4 ks i o a rest (by simpa using h)
    rw [show (i + 1) * 8 + 4 = i * 8 + 4 + 8 by omega, List.set_cons_succ, List.flatMap_cons, List.append_assoc, ih, List.flatMap_cons]
    simp [UnV.cs]
theorem Ub.set4 {w : World} {g : Nat} {ks : List UnV} {rest : List Value} (h : Ub w g ks rest) {i : Nat} {o : UnV} (ho : ks[i]? = some o) (a : Int) : Ub (w.setCell ⟨g, i * 8 + 4, none⟩ (.int .i64 a)) g (ks.set i { o with life := a }) rest := by
  unfold Ub at *
  have h0 := heap_setCell_same w g (i * 8 + 4) _ _ (.int .i64 a) h
  rw [h0, uflat_set4 ks i o a rest ho]
  simp
theorem uflat_set5 : ∀ (ks : List UnV) (i : Nat) (o : UnV) (a : Int) (rest : List Value), ks[i]? = some o → (ks.set i { o with load := a }).flatMap UnV.cs ++ rest = (ks.flatMap UnV.cs ++ rest).set (i * 8 + 5) (.int .i64 a)
  | [], i, o, a, rest, h => by simp at h
  | k :: ks, 0, o, a, rest, h => by
    simp at h
    subst h
    simp [UnV.cs]
  | k :: ks, i + 1, o, a, rest, h => by
    have ih := uflat_set5 ks i o a rest (by simpa using h)
    rw [show (i + 1) * 8 + 5 = i * 8 + 5 + 8 by omega, List.set_cons_succ, List.flatMap_cons, List.append_assoc, ih, List.flatMap_cons]
    simp [UnV.cs]
theorem Ub.set5 {w : World} {g : Nat} {ks : List UnV} {rest : List Value} (h : Ub w g ks rest) {i : Nat} {o : UnV} (ho : ks[i]? = some o) (a : Int) : Ub (w.setCell ⟨g, i * 8 + 5, none⟩ (.int .i64 a)) g (ks.set i { o with load := a }) rest := by
  unfold Ub at *
  have h0 := heap_setCell_same w g (i * 8 + 5) _ _ (.int .i64 a) h
  rw [h0, uflat_set5 ks i o a rest ho]
  simp
theorem uflat_set6 : ∀ (ks : List UnV) (i : Nat) (o : UnV) (a : Int) (rest : List Value), ks[i]? = some o → (ks.set i { o with task := a }).flatMap UnV.cs ++ rest = (ks.flatMap UnV.cs ++ rest).set (i * 8 + 6) (.int .i64 a)
  | [], i, o, a, rest, h => by simp at h
  | k :: ks, 0, o, a, rest, h => by
    simp at h
    subst h
    simp [UnV.cs]
  | k :: ks, i + 1, o, a, rest, h => by
    have ih := uflat_set6 ks i o a rest (by simpa using h)
    rw [show (i + 1) * 8 + 6 = i * 8 + 6 + 8 by omega, List.set_cons_succ, List.flatMap_cons, List.append_assoc, ih, List.flatMap_cons]
    simp [UnV.cs]
theorem Ub.set6 {w : World} {g : Nat} {ks : List UnV} {rest : List Value} (h : Ub w g ks rest) {i : Nat} {o : UnV} (ho : ks[i]? = some o) (a : Int) : Ub (w.setCell ⟨g, i * 8 + 6, none⟩ (.int .i64 a)) g (ks.set i { o with task := a }) rest := by
  unfold Ub at *
  have h0 := heap_setCell_same w g (i * 8 + 6) _ _ (.int .i64 a) h
  rw [h0, uflat_set6 ks i o a rest ho]
  simp
theorem uflat_set7 : ∀ (ks : List UnV) (i : Nat) (o : UnV) (a : Int) (rest : List Value), ks[i]? = some o → (ks.set i { o with goal := a }).flatMap UnV.cs ++ rest = (ks.flatMap UnV.cs ++ rest).set (i * 8 + 7) (.int .i64 a)
  | [], i, o, a, rest, h => by simp at h
  | k :: ks, 0, o, a, rest, h => by
    simp at h
    subst h
    simp [UnV.cs]
  | k :: ks, i + 1, o, a, rest, h => by
    have ih := uflat_set7 ks i o a rest (by simpa using h)
    rw [show (i + 1) * 8 + 7 = i * 8 + 7 + 8 by omega, List.set_cons_succ, List.flatMap_cons, List.append_assoc, ih, List.flatMap_cons]
    simp [UnV.cs]
theorem Ub.set7 {w : World} {g : Nat} {ks : List UnV} {rest : List Value} (h : Ub w g ks rest) {i : Nat} {o : UnV} (ho : ks[i]? = some o) (a : Int) : Ub (w.setCell ⟨g, i * 8 + 7, none⟩ (.int .i64 a)) g (ks.set i { o with goal := a }) rest := by
  unfold Ub at *
  have h0 := heap_setCell_same w g (i * 8 + 7) _ _ (.int .i64 a) h
  rw [h0, uflat_set7 ks i o a rest ho]
  simp
/-- a list of its own, as a block. -/
theorem Uno.ub {w : World} {base : Nat} {v : Value} {ks : List UnV} (h : Uno w base v ks) : (v = .slice none 0 0 ∧ ks = []) ∨ ∃ g cap rest, v = .slice (some ⟨g, 0, none⟩) ks.length cap ∧ base ≤ g ∧ ks.length ≤ cap ∧ cap ≤ maxLen ∧ ks.length * 8 + rest.length = cap * 8 ∧ Ub w g ks rest := by
  rcases h.2 with ⟨h1, h2⟩ | ⟨g, cap, cur, h1, h2, h3, h4, h5, h6, h7⟩
  · exact .inl ⟨h1, List.length_eq_zero_iff.1 h2⟩
  · refine .inr ⟨g, cap, cur.toList.drop (ks.length * 8), h1, h2, h4, h5, ?_, ?_⟩
    · have e6 : cur.toList.length = cap * 8 := by simpa using h6
      rw [List.length_drop, e6]
      have : ks.length * 8 ≤ cap * 8 := Nat.mul_le_mul_right _ h4
      omega
    · unfold Ub
      rw [← h7, List.take_append_drop, Array.toArray_toList]
      exact h3
theorem Ub.uno {w : World} {base g cap : Nat} {ks : List UnV} {rest : List Value} (h : Ub w g ks rest) (hb : base ≤ g) (h1 : ks.length ≤ cap) (h2 : cap ≤ maxLen) (h3 : ks.length * 8 + rest.length = cap * 8) : Uno w base (.slice (some ⟨g, 0, none⟩) ks.length cap) ks := by
  refine ⟨len_un ks, .inr ⟨g, cap, _, rfl, hb, h, h1, h2, ?_, ?_⟩⟩
  · simp only [List.size_toArray, List.length_append, len_un]; omega
  · show (ks.flatMap UnV.cs ++ rest).take (ks.length * 8) = _
    rw [List.take_append_of_le_length (by rw [len_un]; exact Nat.le_refl _), List.take_of_length_le (by rw [len_un]; exact Nat.le_refl _)]
/-- the first m of them, and the others behind. -/
theorem Ub.take {w : World} {g : Nat} {ks : List UnV} {rest : List Value} (h : Ub w g ks rest) (m : Nat) : Ub w g (ks.take m) ((ks.drop m).flatMap UnV.cs ++ rest) := by
  unfold Ub at *
  rw [← List.append_assoc, ← List.flatMap_append, List.take_append_drop]
  exact h
end Go.Proofs.YtkejdkajfnaieaaGreatDoor

