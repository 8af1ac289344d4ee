/- Plain mathematics: a division that rounds to 0, and one that rounds down. -/
import Derived.Test.YthdpafcodmlenaaDoorMul
namespace Go.Proofs.YthdpafcodmlenaaDoor.Ma

theorem ediv_uniq (a b q : Int) (hb : 0 < b) (h1 : q * b ≤ a) (h2 : a < q * b + b) : a / b = q := by
  have x := (Int.le_ediv_iff_mul_le hb).2 h1
  have y : a / b < q + 1 := (Int.ediv_lt_iff_lt_mul hb).2 (by rw [Int.add_mul]; omega)
  omega

theorem ediv_facts (a b : Int) (ha : 0 ≤ a) (hb : 0 < b) : 0 ≤ a / b ∧ a / b ≤ a ∧ a / b * b + a % b = a ∧ 0 ≤ a % b ∧ a % b < b :=
  ⟨Int.ediv_nonneg ha (by omega), Int.ediv_le_self b ha, by have := Int.mul_ediv_add_emod a b; rw [Int.mul_comm]; exact this,
   Int.emod_nonneg a (by omega), Int.emod_lt_of_pos a hb⟩

theorem down_pp (a b : Int) (ha : 0 ≤ a) (hb : 0 < b) : ∃ k, 0 ≤ k ∧ k ≤ a ∧ a.tdiv b = k ∧ flr a b = k := by
  obtain ⟨f1, f2, -, -, -⟩ := ediv_facts a b ha hb
  exact ⟨a / b, f1, f2, Int.tdiv_eq_ediv_of_nonneg ha, by unfold flr; rw [if_pos hb]⟩

theorem down_nn (a b : Int) (ha : a < 0) (hb : b < 0) : ∃ k, 0 ≤ k ∧ k ≤ -a ∧ a.tdiv b = k ∧ flr a b = k := by
  obtain ⟨f1, f2, -, -, -⟩ := ediv_facts (-a) (-b) (by omega) (by omega)
  refine ⟨(-a) / (-b), f1, f2, ?_, by unfold flr; rw [if_neg (by omega)]⟩
  have e : a.tdiv b = (-a).tdiv (-b) := by rw [Int.neg_tdiv, Int.tdiv_neg]; omega
  rw [e]
  exact Int.tdiv_eq_ediv_of_nonneg (by omega)

theorem down_np (a b : Int) (ha : a < 0) (hb : 0 < b) : ∃ k, 0 ≤ k ∧ k ≤ -a ∧ a.tdiv b = -k ∧ (a.tmod b = 0 → flr a b = -k) ∧ (a.tmod b ≠ 0 → flr a b = -k - 1) := by
  obtain ⟨f1, f2, f3, f4, f5⟩ := ediv_facts (-a) b (by omega) (by omega)
  have hf : flr a b = a / b := by unfold flr; rw [if_pos hb]
  have em : a.tmod b = -((-a) % b) := by
    have : (-a).tmod b = (-a) % b := Int.tmod_eq_emod_of_nonneg (by omega)
    rw [Int.neg_tmod] at this; omega
  refine ⟨(-a) / b, f1, f2, ?_, fun h => ?_, fun h => ?_⟩
  · have : (-a).tdiv b = (-a) / b := Int.tdiv_eq_ediv_of_nonneg (by omega)
    rw [Int.neg_tdiv] at this; omega
  · rw [hf]
    exact ediv_uniq a b _ hb (by rw [Int.neg_mul]; omega) (by rw [Int.neg_mul]; omega)
  · rw [hf]
    exact ediv_uniq a b _ hb (by rw [Int.sub_mul, Int.neg_mul]; omega) (by rw [Int.sub_mul, Int.neg_mul]; omega)

theorem down_pn (a b : Int) (ha : 0 ≤ a) (hb : b < 0) : ∃ k, 0 ≤ k ∧ k ≤ a ∧ a.tdiv b = -k ∧ (a.tmod b = 0 → flr a b = -k) ∧ (a.tmod b ≠ 0 → flr a b = -k - 1) := by
  by_cases hz : a = 0
  · subst hz
    refine ⟨0, by omega, by omega, by simp, fun _ => ?_, fun h => absurd (by simp) h⟩
    unfold flr; rw [if_neg (by omega)]; simp
  · obtain ⟨k, k1, k2, k3, k4, k5⟩ := down_np (-a) (-b) (by omega) (by omega)
    have e1 : (-a).tdiv (-b) = a.tdiv b := by rw [Int.neg_tdiv, Int.tdiv_neg]; omega
    have e2 : (-a).tmod (-b) = -(a.tmod b) := by rw [Int.neg_tmod, Int.tmod_neg]
    have e3 : flr (-a) (-b) = flr a b := by unfold flr; rw [if_pos (by omega), if_neg (by omega)]
    rw [e1] at k3
    rw [e2, e3] at k4 k5
    exact ⟨k, k1, by omega, k3, fun h => k4 (by omega), fun h => k5 (by omega)⟩

end Go.Proofs.YthdpafcodmlenaaDoor.Ma
