/- Plain mathematics: numbers as lists of 32-bit words, the least first. No program stands in it. -/
import Derived.KernelRfl
namespace Go.Proofs.YtdmpeagnbpdidaaDoor.Bg

def val : List Int → Int
  | [] => 0
  | d :: ds => d + 4294967296 * val ds

/-- each word is one. -/
def Wds (ds : List Int) : Prop := ∀ d ∈ ds, 0 ≤ d ∧ d < 4294967296

/-- no nought at the end. -/
def Nrm (ds : List Int) : Prop := Wds ds ∧ ∀ d, ds.getLast? = some d → d ≠ 0

theorem Wds.nil : Wds [] := fun _ h => by cases h
theorem Wds.cons {d : Int} {ds : List Int} (h : 0 ≤ d ∧ d < 4294967296) (k : Wds ds) : Wds (d :: ds) := by
  intro e he
  rcases List.mem_cons.1 he with rfl | he
  · exact h
  · exact k e he
theorem Wds.head {d : Int} {ds : List Int} (h : Wds (d :: ds)) : 0 ≤ d ∧ d < 4294967296 := h d (List.mem_cons_self ..)
theorem Wds.tail {d : Int} {ds : List Int} (h : Wds (d :: ds)) : Wds ds := fun e he => h e (List.mem_cons_of_mem _ he)

theorem val_nonneg (ds : List Int) (h : Wds ds) : 0 ≤ val ds := by
  induction ds with
  | nil => exact Int.le_refl _
  | cons d ds ih =>
    have := ih h.tail
    have := h.head
    simp only [val]; omega

theorem nrm_nil : Nrm [] := ⟨Wds.nil, fun _ h => by cases h⟩

theorem nrm_tail {d : Int} {ds : List Int} (h : Nrm (d :: ds)) : Nrm ds := by
  refine ⟨h.1.tail, fun e he => h.2 e ?_⟩
  cases ds with
  | nil => cases he
  | cons x xs => rw [List.getLast?_cons_cons]; exact he

/-- a number that has words is not 0. -/
theorem val_pos (ds : List Int) (h : Nrm ds) (hn : ds ≠ []) : 0 < val ds := by
  induction ds with
  | nil => exact absurd rfl hn
  | cons d ds ih =>
    have hd := h.1.head
    simp only [val]
    cases ds with
    | nil =>
      have := h.2 d rfl
      simp only [val]; omega
    | cons x xs =>
      have := ih (nrm_tail h) (by simp)
      omega

theorem val_lt_len (ds : List Int) (h : Wds ds) : val ds < 4294967296 ^ ds.length := by
  induction ds with
  | nil => simp [val]
  | cons d ds ih =>
    have := ih h.tail
    have hd := h.head
    simp only [val, List.length_cons, Int.pow_succ]
    omega

theorem len_le_val (ds : List Int) (h : Nrm ds) (hn : ds ≠ []) : 4294967296 ^ (ds.length - 1) ≤ val ds := by
  induction ds with
  | nil => exact absurd rfl hn
  | cons d ds ih =>
    have hd := h.1.head
    cases ds with
    | nil =>
      have := h.2 d rfl
      simp only [val]; simp; omega
    | cons x xs =>
      have := ih (nrm_tail h) (by simp)
      simp only [val, List.length_cons, Nat.add_sub_cancel] at this ⊢
      rw [Int.pow_succ]
      omega

theorem pow_mono (a b : Nat) (h : a ≤ b) : (4294967296 : Int) ^ a ≤ 4294967296 ^ b := by
  induction b with
  | zero => have : a = 0 := by omega
            subst this; exact Int.le_refl _
  | succ b ih =>
    by_cases e : a = b + 1
    · subst e; exact Int.le_refl _
    · have h1 := ih (by omega)
      have h2 : (0 : Int) < 4294967296 ^ b := Int.pow_pos (by omega)
      rw [Int.pow_succ]; omega

theorem lt_of_len (a b : List Int) (ha : Nrm a) (hb : Nrm b) (h : a.length < b.length) : val a < val b := by
  have h1 := val_lt_len a ha.1
  have h2 := len_le_val b hb (by intro e; subst e; simp at h)
  have h3 := pow_mono a.length (b.length - 1) (by omega)
  omega

/-- as many words as a number has. -/
theorem len_le (ds : List Int) (h : Nrm ds) (k : Nat) (hv : val ds < 4294967296 ^ k) : ds.length ≤ k := by
  by_cases hk : ds.length ≤ k
  · exact hk
  · have h2 := len_le_val ds h (by intro e; subst e; simp at hk)
    have h3 := pow_mono k (ds.length - 1) (by omega)
    omega

theorem val_append (a b : List Int) : val (a ++ b) = val a + 4294967296 ^ a.length * val b := by
  induction a with
  | nil => simp [val]
  | cons d a ih =>
    simp only [List.cons_append, val, ih, List.length_cons, Int.pow_succ, Int.mul_add]
    have : 4294967296 * (4294967296 ^ a.length * val b) = 4294967296 ^ a.length * 4294967296 * val b := by
      rw [← Int.mul_assoc, Int.mul_comm 4294967296 (4294967296 ^ a.length)]
    omega

theorem val_zeros (ds : List Int) (h : ∀ d ∈ ds, d = 0) : val ds = 0 := by
  induction ds with
  | nil => rfl
  | cons d ds ih =>
    have h1 := h d (List.mem_cons_self ..)
    have h2 := ih (fun e he => h e (List.mem_cons_of_mem _ he))
    simp only [val]; omega

/-- one word decides, where those above are the same. -/
theorem val_lt_of (p q t : List Int) (x y : Int) (hp : Wds p) (hq : Wds q) (hl : p.length = q.length) (h : x < y) : val (p ++ x :: t) < val (q ++ y :: t) := by
  rw [val_append, val_append, hl]
  have h1 := val_lt_len p hp
  have h2 := val_nonneg q hq
  rw [hl] at h1
  simp only [val, Int.mul_add]
  have h3 : 4294967296 ^ q.length * x + 4294967296 ^ q.length ≤ 4294967296 ^ q.length * y := by
    have : 4294967296 ^ q.length * (x + 1) ≤ 4294967296 ^ q.length * y := Int.mul_le_mul_of_nonneg_left (by omega) (Int.le_of_lt (Int.pow_pos (by omega)))
    rw [Int.mul_add] at this
    omega
  omega

/-- what is left of a list when noughts at its end are taken. -/
theorem trim_val (ds : List Int) (m : Nat) (h : ∀ d ∈ ds.drop m, d = 0) : val (ds.take m) = val ds := by
  conv => rhs; rw [← List.take_append_drop m ds]
  rw [val_append, val_zeros _ h]; omega

theorem trim_nrm (ds : List Int) (m : Nat) (hw : Wds ds) (hm : m ≤ ds.length) (h : ∀ d, 0 < m → ds[m - 1]? = some d → d ≠ 0) : Nrm (ds.take m) := by
  refine ⟨fun d hd => hw d (List.mem_of_mem_take hd), fun d hd => ?_⟩
  rw [List.getLast?_eq_getElem?, List.length_take, Nat.min_eq_left hm] at hd
  by_cases h0 : 0 < m
  · rw [List.getElem?_take_of_lt (by omega)] at hd
    exact h d h0 hd
  · have : m = 0 := by omega
    subst this; simp at hd

end Go.Proofs.YtdmpeagnbpdidaaDoor.Bg
