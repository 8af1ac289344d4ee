/- Plain mathematics on integers: roots, floors, signs. No program stands in it. -/
import Derived.KernelRfl
namespace Go.Proofs.YthnfaflhecfnfaaDoor.Ma

/-- r is the root of n, rounded down. -/
def Sq (r n : Int) : Prop := 0 ≤ r ∧ r * r ≤ n ∧ n < (r + 1) * (r + 1)

def pw (k : Nat) : Int := 2 ^ k

theorem pw_zero : pw 0 = 1 := rfl
theorem pw_succ (k : Nat) : pw (k + 1) = 2 * pw k := by unfold pw; rw [Int.pow_succ]; omega
theorem pw_pos (k : Nat) : 1 ≤ pw k := by
  induction k with
  | zero => rw [pw_zero]; omega
  | succ k ih => rw [pw_succ]; omega
theorem pw_mono (a b : Nat) (h : a ≤ b) : pw a ≤ pw b := by
  induction b with
  | zero => have : a = 0 := by omega
            subst this; exact Int.le_refl _
  | succ b ih =>
    by_cases e : a = b + 1
    · subst e; exact Int.le_refl _
    · have := ih (by omega)
      have p := pw_pos b
      rw [pw_succ]; omega
theorem pw_32 : pw 32 = 4294967296 := by unfold pw; decide

theorem mul_mono (a b : Int) (h0 : 0 ≤ a) (h : a ≤ b) : a * a ≤ b * b :=
  Int.mul_le_mul h h h0 (by omega)

theorem sq_expand (r d : Int) : (r + d) * (r + d) = r * r + 2 * (r * d) + d * d := by
  rw [Int.add_mul, Int.mul_add, Int.mul_add, Int.mul_comm d r]; omega

theorem lt_of_sq (a b : Int) (h0 : 0 ≤ b) (h : a * a < b * b) : a < b := by
  by_cases hc : a < b
  · exact hc
  · have := mul_mono b a h0 (by omega)
    omega

theorem le_of_sq (a b : Int) (h0 : 0 ≤ b) (h : a * a ≤ b * b) : a ≤ b := by
  have e := sq_expand b 1
  have : a < b + 1 := lt_of_sq a (b + 1) (by omega) (by omega)
  omega

theorem sq_uniq (r s n : Int) (h : Sq r n) (k : Sq s n) : r = s := by
  obtain ⟨h0, h1, h2⟩ := h
  obtain ⟨k0, k1, k2⟩ := k
  have a := lt_of_sq r (s + 1) (by omega) (by omega)
  have b := lt_of_sq s (r + 1) (by omega) (by omega)
  omega

theorem sq_self (m : Int) (h : 0 ≤ m) : Sq m (m * m) := by
  have e := sq_expand m 1
  exact ⟨h, Int.le_refl _, by omega⟩

/-- a root of an int is below this. -/
theorem root_small (r n : Int) (h : r * r ≤ n) (hn : n ≤ 9223372036854775807) : r ≤ 3037000499 := by
  have := lt_of_sq r 3037000500 (by omega) (by omega)
  omega

theorem test_iff (x n : Int) (hx : 0 < x) : x ≤ n / x ↔ x * x ≤ n := Int.le_ediv_iff_mul_le hx

end Go.Proofs.YthnfaflhecfnfaaDoor.Ma
