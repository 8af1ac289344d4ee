/- Cells beside one another: plain mathematics. -/
import Derived.Test.YtogdaegnpoknlaaDoorFdMath
namespace Go.Proofs.YtogdaegnpoknlaaDoor.Fd

theorem near_mem {W H a : Nat} {x : Int} : x ∈ near W H a ↔ (0 < a / W ∧ x = (a : Int) - W) ∨ (0 < a % W ∧ x = (a : Int) - 1) ∨ (a % W + 1 < W ∧ x = (a : Int) + 1) ∨ (a / W + 1 < H ∧ x = (a : Int) + W) := by
  unfold near
  simp only [List.mem_append]
  constructor
  · rintro (h | h | h | h)
    · split at h
      · simp at h; left; exact ⟨by assumption, h⟩
      · simp at h
    · split at h
      · simp at h; right; left; exact ⟨by assumption, h⟩
      · simp at h
    · split at h
      · simp at h; right; right; left; exact ⟨by assumption, h⟩
      · simp at h
    · split at h
      · simp at h; right; right; right; exact ⟨by assumption, h⟩
      · simp at h
  · rintro (⟨h, e⟩ | ⟨h, e⟩ | ⟨h, e⟩ | ⟨h, e⟩)
    · left; rw [if_pos h, e]; simp
    · right; left; rw [if_pos h, e]; simp
    · right; right; left; rw [if_pos h, e]; simp
    · right; right; right; rw [if_pos h, e]; simp
theorem near_len (W H a : Nat) : (near W H a).length ≤ 4 := by
  unfold near
  simp only [List.length_append]
  have h : ∀ (c : Prop) [Decidable c] (x : Int), (if c then [x] else []).length ≤ 1 := by
    intro c _ x
    split <;> simp
  have h1 := h (0 < a / W) ((a : Int) - W)
  have h2 := h (0 < a % W) ((a : Int) - 1)
  have h3 := h (a % W + 1 < W) ((a : Int) + 1)
  have h4 := h (a / W + 1 < H) ((a : Int) + W)
  omega

/-- where a cell beside one lies; and that it has that one beside. -/
theorem near_cell {W H a : Nat} {x : Int} (hW : 0 < W) (ha : a < W * H) (h : x ∈ near W H a) : ∃ t : Nat, x = t ∧ t < W * H ∧ (a : Int) ∈ near W H t := by
  have e := Nat.div_add_mod a W
  have hr : a / W < H := Nat.div_lt_of_lt_mul ha
  have hc := Nat.mod_lt a hW
  have key : ∀ r c : Nat, c < W → (W * r + c) / W = r ∧ (W * r + c) % W = c := by
    intro r c h
    constructor
    · rw [Nat.mul_add_div hW, Nat.div_eq_of_lt h]; omega
    · rw [Nat.mul_add_mod, Nat.mod_eq_of_lt h]
  have bd : ∀ r c : Nat, r < H → c < W → W * r + c < W * H := by
    intro r c h1 h2
    have := Nat.mul_le_mul_left W (show r + 1 ≤ H by omega)
    rw [Nat.mul_add, Nat.mul_one] at this
    omega
  generalize a / W = r at *
  generalize a % W = c at *
  have ei : (a : Int) = (W : Int) * r + c := by rw [← e]; simp
  have hh := near_mem.1 h
  have e1 := (key r c hc).1
  have e2 := (key r c hc).2
  rw [e] at e1 e2
  rw [e1, e2] at hh
  rcases hh with ⟨h1, hx⟩ | ⟨h1, hx⟩ | ⟨h1, hx⟩ | ⟨h1, hx⟩
  · obtain ⟨r', rfl⟩ : ∃ r', r = r' + 1 := ⟨r - 1, by omega⟩
    have k := key r' c hc
    refine ⟨W * r' + c, ?_, bd r' c (by omega) hc, near_mem.2 ?_⟩
    · rw [hx, ei]; simp [Int.mul_add]; omega
    · rw [k.1, k.2]
      right; right; right
      refine ⟨hr, ?_⟩
      rw [ei]; simp [Int.mul_add]; omega
  · obtain ⟨c', rfl⟩ : ∃ c', c = c' + 1 := ⟨c - 1, by omega⟩
    have k := key r c' (by omega)
    refine ⟨W * r + c', ?_, bd r c' hr (by omega), near_mem.2 ?_⟩
    · rw [hx, ei]; simp; omega
    · rw [k.1, k.2]
      right; right; left
      refine ⟨hc, ?_⟩
      rw [ei]; simp; omega
  · have k := key r (c + 1) h1
    refine ⟨W * r + (c + 1), ?_, bd r (c + 1) hr h1, near_mem.2 ?_⟩
    · rw [hx, ei]; simp; omega
    · rw [k.1, k.2]
      right; left
      refine ⟨by omega, ?_⟩
      rw [ei]; simp; omega
  · have k := key (r + 1) c hc
    refine ⟨W * (r + 1) + c, ?_, bd (r + 1) c h1 hc, near_mem.2 ?_⟩
    · rw [hx, ei]; simp [Int.mul_add]; omega
    · rw [k.1, k.2]
      left
      refine ⟨by omega, ?_⟩
      rw [ei]; simp [Int.mul_add]; omega

theorem pair_app {l m : List Int} (h1 : l.Pairwise (· < ·)) (h2 : m.Pairwise (· < ·)) (h3 : ∀ x ∈ l, ∀ y ∈ m, x < y) : (l ++ m).Pairwise (· < ·) := List.pairwise_append.2 ⟨h1, h2, h3⟩
theorem pair_if (c : Prop) [Decidable c] (x : Int) : (if c then [x] else []).Pairwise (· < ·) := by
  split <;> simp
theorem mem_if {c : Prop} [Decidable c] {x y : Int} (h : y ∈ (if c then [x] else [])) : c ∧ y = x := by
  split at h
  · simp at h; exact ⟨by assumption, h⟩
  · simp at h
/-- the cells beside one rise (a field is 2 wide at least where there are two beside one another in a row). -/
theorem near_rise (W H a : Nat) (hW : 0 < W) : (near W H a).Pairwise (· ≠ ·) := by
  unfold near
  by_cases h1 : W = 1
  · subst h1
    rw [if_neg (show ¬ 0 < a % 1 by omega), if_neg (show ¬ a % 1 + 1 < 1 by omega), List.nil_append, List.nil_append]
    refine (pair_app (pair_if _ _) (pair_if _ _) ?_).imp (fun h => by omega)
    intro x hx y hy
    have := mem_if hx
    have := mem_if hy
    omega
  · refine (pair_app (pair_if _ _) (pair_app (pair_if _ _) (pair_app (pair_if _ _) (pair_if _ _) ?_) ?_) ?_).imp (fun h => by omega)
    · intro x hx y hy
      have := mem_if hx
      have := mem_if hy
      omega
    · intro x hx y hy
      have := mem_if hx
      rcases List.mem_append.1 hy with hy | hy
      · have := mem_if hy; omega
      · have := mem_if hy; omega
    · intro x hx y hy
      have := mem_if hx
      rcases List.mem_append.1 hy with hy | hy
      · have := mem_if hy; omega
      · rcases List.mem_append.1 hy with hy | hy
        · have := mem_if hy; omega
        · have := mem_if hy; omega
end Go.Proofs.YtogdaegnpoknlaaDoor.Fd
