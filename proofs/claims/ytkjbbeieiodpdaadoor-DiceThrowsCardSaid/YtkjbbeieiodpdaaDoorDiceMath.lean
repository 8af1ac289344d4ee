/- Plain mathematics: a state that goes up by an odd number comes to 0 some time. No program stands in it. -/
import Derived.KernelRfl
namespace Go.Proofs.YtkjbbeieiodpdaaDoor.Dm

section
variable (G K M c : Int)
/-- how many states lie between this one and 0. -/
def gapOf (s : Int) : Nat := ((-(s * K) - 1) % M).toNat

theorem gap_of (hM : 0 < M) (inv : G * K = 1 + M * c) (s t : Int) (ht : t = (s + G) % M) (h : t ≠ 0) : gapOf K M t < gapOf K M s := by
  obtain ⟨q, hq⟩ : ∃ q, t = s + G - M * q := ⟨(s + G) / M, by have := Int.mul_ediv_add_emod (s + G) M; omega⟩
  have e : -(t * K) - 1 = (-(s * K) - 1 - 1) + M * (q * K - c) := by
    rw [hq, Int.sub_mul, Int.add_mul, inv, Int.mul_sub, Int.mul_assoc]
    omega
  have hz : (-(s * K) - 1) % M ≠ 0 := by
    intro h0
    apply h
    obtain ⟨j, hj⟩ : ∃ j, -(s * K) - 1 = M * j := ⟨_, (Int.mul_ediv_cancel' (Int.dvd_of_emod_eq_zero h0)).symm⟩
    have h1 : s * (G * K) = G * (s * K) := Int.mul_left_comm s G K
    have h2 : s * K = -(M * j) - 1 := by omega
    rw [h2, inv, Int.mul_add, Int.mul_one, Int.mul_left_comm s M c, Int.mul_sub, Int.mul_neg, Int.mul_left_comm G M j, Int.mul_one] at h1
    have h3 : s + G = M * (-(G * j) - s * c) := by
      rw [Int.mul_sub, Int.mul_neg]
      omega
    rw [ht, h3]
    exact Int.mul_emod_right _ _
  unfold gapOf
  rw [e, Int.add_mul_emod_self_left]
  generalize -(s * K) - 1 = A at *
  have a1 := Int.emod_nonneg A (b := M) (by omega)
  have a2 := Int.emod_lt_of_pos A hM
  have a3 : (A - 1) % M = A % M - 1 := by
    have d := Int.mul_ediv_add_emod A M
    have f : A - 1 = (A % M - 1) + M * (A / M) := by omega
    rw [f, Int.add_mul_emod_self_left]
    exact Int.emod_eq_of_lt (by omega) (by omega)
  rw [a3]
  omega
end

/-- how many states lie between this one and 0. -/
def gap (s : Int) : Nat := gapOf 17428512612931826493 18446744073709551616 s

theorem inv : (11400714819323198485 : Int) * 17428512612931826493 = 1 + 18446744073709551616 * 10771413168148108919 := by decide

theorem gap_step (s t : Int) (ht : t = (s + 11400714819323198485) % 18446744073709551616) (h : t ≠ 0) : gap t < gap s :=
  gap_of 11400714819323198485 17428512612931826493 18446744073709551616 10771413168148108919 (by decide) inv s t ht h
end Go.Proofs.YtkjbbeieiodpdaaDoor.Dm
