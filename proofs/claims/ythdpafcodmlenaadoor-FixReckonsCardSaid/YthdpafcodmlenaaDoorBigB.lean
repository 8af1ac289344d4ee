/- Whole numbers of any size: what Mul, Neg, Set do. -/
import Derived.Test.YthdpafcodmlenaaDoorBigA
namespace Go.Proofs.YthdpafcodmlenaaDoor
open Go.RowKit

/-- a number's parts, as the walk wants them. -/
theorem IntAt.open {w : World} {z : Nat} {x : Int} (h : IntAt w z x) : ∃ v ds, w.cell? ⟨z, 0, none⟩ = some (.bool (decide (x < 0))) ∧ w.cell? ⟨z, 1, none⟩ = some v ∧ Sl w v ds ∧ Bg.Nrm ds ∧ Bg.val ds = x.natAbs ∧ z < w.heap.size := by
  obtain ⟨v, ds, h1, h2, h3, h4⟩ := h
  exact ⟨v, ds, by simp [World.cell?, h1], by simp [World.cell?, h1], h2, h3, h4, lt_of_block h1⟩

theorem sgn_mul (x y : Int) : sgn (decide (x < 0) != decide (y < 0)) (x.natAbs * y.natAbs : Int) = x * y := by
  by_cases hx : x < 0 <;> by_cases hy : y < 0
  · have e1 : (x.natAbs : Int) = -x := by omega
    have e2 : (y.natAbs : Int) = -y := by omega
    simp [sgn, hx, hy, e1, e2, Int.neg_mul_neg]
  · have e1 : (x.natAbs : Int) = -x := by omega
    have e2 : (y.natAbs : Int) = y := by omega
    simp [sgn, hx, hy, e1, e2, Int.neg_mul]
  · have e1 : (x.natAbs : Int) = x := by omega
    have e2 : (y.natAbs : Int) = -y := by omega
    simp [sgn, hx, hy, e1, e2, Int.mul_neg]
  · have e1 : (x.natAbs : Int) = x := by omega
    have e2 : (y.natAbs : Int) = y := by omega
    simp [sgn, hx, hy, e1, e2]

theorem len_of (ds : List Int) (x : Int) (h : Bg.Nrm ds) (hv : Bg.val ds = x.natAbs) (h0 : -18446744073709551616 < x) (h1 : x < 18446744073709551616) : ds.length ≤ 2 := by
  refine Bg.len_le ds h 2 ?_
  have e : (4294967296 : Int) ^ 2 = 18446744073709551616 := by decide
  rw [e, hv]
  omega

end Go.Proofs.YthdpafcodmlenaaDoor
