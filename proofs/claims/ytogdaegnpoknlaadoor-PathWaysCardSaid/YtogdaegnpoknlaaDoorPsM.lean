/- Ways: who flies gets there no later; a way's steps; two small fields. Plain mathematics. -/
import Derived.Test.YtogdaegnpoknlaaDoorPwM
import Derived.Test.YtogdaegnpoknlaaDoorFdNear
namespace Go.Proofs.YtogdaegnpoknlaaDoor.Wy

theorem onto_air {g : Int} {fl : Bool} (h : 0 < Fd.onto g fl) : 0 < Fd.onto g true ∧ Fd.onto g true ≤ Fd.onto g fl := by
  unfold Fd.onto at *
  by_cases h1 : g = 1
  · simp [h1] at h
  · by_cases h2 : g = 2
    · cases fl
      · simp [h2] at h
      · simp [h2]
    · by_cases h3 : g = 3
      · cases fl
        · simp [h3]
        · simp [h3]
      · simp [h1, h2, h3]
theorem ss_air {gs : List Int} {fl : Bool} {j : Nat} (h : 0 < (gs.map fun g => Fd.onto g fl).getD j 0) : 0 < (gs.map fun g => Fd.onto g true).getD j 0 ∧ (gs.map fun g => Fd.onto g true).getD j 0 ≤ (gs.map fun g => Fd.onto g fl).getD j 0 := by
  rw [List.getD_eq_getElem?_getD, List.getElem?_map] at *
  rw [List.getD_eq_getElem?_getD, List.getElem?_map]
  cases hg : gs[j]? with
  | none => rw [hg] at h; simp at h
  | some g => rw [hg] at h; exact onto_air h
theorem way_air {nb : Nat → List Int} {gs : List Int} {fl : Bool} {t i : Nat} {d : Int} (h : Way nb (fun _ j => (gs.map fun g => Fd.onto g fl).getD j 0) t i d) : ∃ d', d' ≤ d ∧ Way nb (fun _ j => (gs.map fun g => Fd.onto g true).getD j 0) t i d' := by
  induction h with
  | here => exact ⟨0, by omega, .here⟩
  | @step i j d h1 h2 h3 ih =>
    obtain ⟨d', hd, hw⟩ := ih
    have k := ss_air h2
    exact ⟨_, by omega, .step h1 k.1 hw⟩
theorem least_get {nb : Nat → List Int} {st : Nat → Nat → Int} {t n i : Nat} {l : List Int} (h : IsFar nb st t n l) (hi : i < n) : Least nb st t i (l.getD i 0) := by
  have e : l[i]? = some (l.getD i 0) := by rw [List.getD_eq_getElem?_getD, List.getElem?_eq_getElem (by rw [h.1]; exact hi)]; rfl
  exact h.2 i _ e
theorem far_air {nb : Nat → List Int} {gs : List Int} {fl : Bool} {t n i : Nat} {l l' : List Int} (h : IsFar nb (fun _ j => (gs.map fun g => Fd.onto g fl).getD j 0) t n l) (h' : IsFar nb (fun _ j => (gs.map fun g => Fd.onto g true).getD j 0) t n l') (hi : i < n) (h0 : 0 ≤ l.getD i 0) : 0 ≤ l'.getD i 0 ∧ l'.getD i 0 ≤ l.getD i 0 := by
  rcases least_get h hi with ⟨e, _⟩ | ⟨hw, _⟩
  · omega
  · obtain ⟨d', hd, hw'⟩ := way_air hw
    rcases least_get h' hi with ⟨_, k⟩ | ⟨k1, k2⟩
    · exact absurd hw' (k _)
    · have := k2 _ hw'
      have := k1.nonneg
      omega

/-- two cells of a way, one behind the other. -/
theorem Pth.two {nb : Nat → List Int} {ss l : List Int} {t i : Nat} {p : List Int} (h : Pth nb ss l t i p) : ∀ k, k + 1 < p.length → ∃ x y : Nat, p[k]? = some (x : Int) ∧ p[k + 1]? = some (y : Int) ∧ Nx nb ss l x y := by
  induction h with
  | here => intro k hk; simp at hk
  | @step i j p h1 h2 h3 ih =>
    intro k hk
    cases k with
    | zero => exact ⟨i, j, rfl, by simpa using h3.head, h2⟩
    | succ k =>
      obtain ⟨x, y, a1, a2, a3⟩ := ih k (by simpa using hk)
      exact ⟨x, y, by simpa using a1, by simpa using a2, a3⟩
theorem Pth.pos {nb : Nat → List Int} {ss l : List Int} {t i : Nat} {p : List Int} (h : Pth nb ss l t i p) : 0 < p.length := by
  cases h <;> simp
/-- all cells of a way are cells. -/
theorem Pth.cells {nb : Nat → List Int} {ss l : List Int} {t i n : Nat} {p : List Int} (hn : ∀ (i j : Nat), i < n → (j : Int) ∈ nb i → j < n) (h : Pth nb ss l t i p) (hi : i < n) : ∀ (k : Nat) (x : Int), p[k]? = some x → ∃ y : Nat, x = y ∧ y < n := by
  induction h with
  | here =>
    intro k x hx
    cases k with
    | zero => simp at hx; exact ⟨t, hx.symm, hi⟩
    | succ k => simp at hx
  | @step i j p h1 h2 h3 ih =>
    intro k x hx
    cases k with
    | zero => simp at hx; exact ⟨i, hx.symm, hi⟩
    | succ k => exact ih (hn i j hi h2.is.1) k x (by simpa using hx)

/-! two small fields. -/
/-- Shut, asked of a list. -/
def chk (nb : Nat → List Int) (st : Nat → Nat → Int) (l : List Int) (n : Nat) : Bool := (List.range n).all fun i => (nb i).all fun x => decide (¬ (0 < st i x.toNat ∧ 0 ≤ l.getD x.toNat 0) ∨ (0 ≤ l.getD i 0 ∧ l.getD i 0 ≤ st i x.toNat + l.getD x.toNat 0))
theorem chk_shut {nb : Nat → List Int} {st : Nat → Nat → Int} {l : List Int} {n : Nat} (h : chk nb st l n = true) : ∀ i, i < n → Shut nb st l i := by
  intro i hi j x y hx hy hj h0 y0
  unfold chk at h
  rw [List.all_eq_true] at h
  have h1 := h i (List.mem_range.2 hi)
  rw [List.all_eq_true] at h1
  have h2 := of_decide_eq_true (h1 j hj)
  rw [Int.toNat_natCast, getD_of hx, getD_of hy] at h2
  rcases h2 with h2 | h2
  · exact absurd ⟨h0, y0⟩ h2
  · exact h2

def s6 : Nat → Nat → Int := fun _ j => (([0, 1, 0, 0, 3, 0] : List Int).map fun g => Fd.onto g false).getD j 0
theorem six : IsFar (Fd.near 3 2) s6 2 6 [5, 1, 0, 4, 2, 1] := by
  have w2 : Way (Fd.near 3 2) s6 2 2 0 := .here
  have w5 : Way (Fd.near 3 2) s6 2 5 1 := Way.step (nb := Fd.near 3 2) (st := s6) (i := 5) (j := 2) (by decide) (by decide) w2
  have w1 : Way (Fd.near 3 2) s6 2 1 1 := Way.step (nb := Fd.near 3 2) (st := s6) (i := 1) (j := 2) (by decide) (by decide) w2
  have w4 : Way (Fd.near 3 2) s6 2 4 2 := Way.step (nb := Fd.near 3 2) (st := s6) (i := 4) (j := 5) (by decide) (by decide) w5
  have w3 : Way (Fd.near 3 2) s6 2 3 4 := Way.step (nb := Fd.near 3 2) (st := s6) (i := 3) (j := 4) (by decide) (by decide) w4
  have w0 : Way (Fd.near 3 2) s6 2 0 5 := Way.step (nb := Fd.near 3 2) (st := s6) (i := 0) (j := 3) (by decide) (by decide) w3
  refine far_of rfl ?_ rfl ?_ (chk_shut (by decide))
  · intro i j hi hj
    obtain ⟨t, h1, h2, -⟩ := Fd.near_cell (W := 3) (H := 2) (by decide) hi hj
    omega
  · intro i x hx
    match i, hx with
    | 0, hx => simp at hx; subst hx; exact .inr w0
    | 1, hx => simp at hx; subst hx; exact .inr w1
    | 2, hx => simp at hx; subst hx; exact .inr w2
    | 3, hx => simp at hx; subst hx; exact .inr w3
    | 4, hx => simp at hx; subst hx; exact .inr w4
    | 5, hx => simp at hx; subst hx; exact .inr w5
    | i + 6, hx => simp at hx
def s3 : Nat → Nat → Int := fun i _ => (([0, 3, 0] : List Int).map fun g => Fd.onto g false).getD i 0
theorem three : IsFar (Fd.near 3 1) s3 0 3 [0, 2, 3] := by
  have w0 : Way (Fd.near 3 1) s3 0 0 0 := .here
  have w1 : Way (Fd.near 3 1) s3 0 1 2 := Way.step (nb := Fd.near 3 1) (st := s3) (i := 1) (j := 0) (by decide) (by decide) w0
  have w2 : Way (Fd.near 3 1) s3 0 2 3 := Way.step (nb := Fd.near 3 1) (st := s3) (i := 2) (j := 1) (by decide) (by decide) w1
  refine far_of rfl ?_ rfl ?_ (chk_shut (by decide))
  · intro i j hi hj
    obtain ⟨t, h1, h2, -⟩ := Fd.near_cell (W := 3) (H := 1) (by decide) hi hj
    omega
  · intro i x hx
    match i, hx with
    | 0, hx => simp at hx; subst hx; exact .inr w0
    | 1, hx => simp at hx; subst hx; exact .inr w1
    | 2, hx => simp at hx; subst hx; exact .inr w2
    | i + 3, hx => simp at hx
end Go.Proofs.YtogdaegnpoknlaaDoor.Wy
