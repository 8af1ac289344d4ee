/- Plain mathematics: no way round is shorter, of roots that are rounded down. -/
import Derived.Test.YtmggciglokjcbaaMath
namespace Go.Proofs.Ytmggciglokjcbaa.Ma

theorem lagrange (a b c d : Int) : (a * c + b * d) * (a * c + b * d) + (a * d - b * c) * (a * d - b * c) = (a * a + b * b) * (c * c + d * d) := by
  simp only [Int.mul_add, Int.mul_sub, Int.mul_comm, Int.mul_left_comm]
  omega

theorem sq_nonneg (x : Int) : 0 ≤ x * x := by
  rcases Int.le_total 0 x with h | h
  · exact Int.mul_nonneg h h
  · have e : x * x = (-x) * (-x) := by rw [Int.neg_mul_neg]
    rw [e]; exact Int.mul_nonneg (by omega) (by omega)

theorem cauchy (a b c d s t : Int) (hs : 0 ≤ s) (ht : 0 ≤ t) (h1 : a * a + b * b ≤ s * s) (h2 : c * c + d * d ≤ t * t) : a * c + b * d ≤ s * t := by
  apply le_of_sq _ _ (Int.mul_nonneg hs ht)
  have l := lagrange a b c d
  have q := sq_nonneg (a * d - b * c)
  have n1 := sq_nonneg c
  have n2 := sq_nonneg d
  have m : (a * a + b * b) * (c * c + d * d) ≤ (s * s) * (t * t) := Int.mul_le_mul h1 h2 (by omega) (sq_nonneg s)
  have e : s * t * (s * t) = s * s * (t * t) := by
    simp only [Int.mul_comm, Int.mul_left_comm]
  omega

theorem sum_sq (a b c d : Int) : (a + c) * (a + c) + (b + d) * (b + d) = (a * a + b * b) + (c * c + d * d) + 2 * (a * c + b * d) := by
  simp only [Int.mul_add, Int.add_mul, Int.mul_comm]
  omega

theorem tri0 (a b c d r s t : Int) (h1 : Sq r (a * a + b * b)) (h2 : Sq s (c * c + d * d)) (h3 : Sq t ((a + c) * (a + c) + (b + d) * (b + d))) : t - 1 ≤ r + s := by
  obtain ⟨r0, r1, r2⟩ := h1
  obtain ⟨s0, s1, s2⟩ := h2
  obtain ⟨t0, t1, t2⟩ := h3
  have c1 := cauchy a b c d (r + 1) (s + 1) (by omega) (by omega) (by omega) (by omega)
  have e := sum_sq a b c d
  have f : (r + 1 + (s + 1)) * (r + 1 + (s + 1)) = (r + 1) * (r + 1) + 2 * ((r + 1) * (s + 1)) + (s + 1) * (s + 1) := sq_expand (r + 1) (s + 1)
  have := lt_of_sq t (r + 1 + (s + 1)) (by omega) (by omega)
  omega

theorem tri (ax ay bx bY cx cy r s t : Int) (h1 : Sq r ((ax - bx) * (ax - bx) + (ay - bY) * (ay - bY))) (h2 : Sq s ((bx - cx) * (bx - cx) + (bY - cy) * (bY - cy)))
    (h3 : Sq t ((ax - cx) * (ax - cx) + (ay - cy) * (ay - cy))) : t - 1 ≤ r + s := by
  have e1 : ax - cx = (ax - bx) + (bx - cx) := by omega
  have e2 : ay - cy = (ay - bY) + (bY - cy) := by omega
  rw [e1, e2] at h3
  exact tri0 _ _ _ _ r s t h1 h2 h3

theorem back (ax ay bx bY r s : Int) (h1 : Sq r ((ax - bx) * (ax - bx) + (ay - bY) * (ay - bY))) (h2 : Sq s ((bx - ax) * (bx - ax) + (bY - ay) * (bY - ay))) : r = s := by
  have e1 : (bx - ax) * (bx - ax) = (ax - bx) * (ax - bx) := by
    have : bx - ax = -(ax - bx) := by omega
    rw [this, Int.neg_mul_neg]
  have e2 : (bY - ay) * (bY - ay) = (ay - bY) * (ay - bY) := by
    have : bY - ay = -(ay - bY) := by omega
    rw [this, Int.neg_mul_neg]
  rw [e1, e2] at h2
  exact sq_uniq r s _ h1 h2

theorem small_far (x y r : Int) (h : Sq r (x * x + y * y)) (x1 : x * x ≤ 4000000000000) (y1 : y * y ≤ 4000000000000) : r ≤ 3000000 := by
  obtain ⟨_, a, _⟩ := h
  exact le_of_sq r 3000000 (by omega) (by omega)

theorem self_zero (x y r : Int) (h : Sq r ((x - x) * (x - x) + (y - y) * (y - y))) : r = 0 := by
  have ex : x - x = 0 := by omega
  have ey : y - y = 0 := by omega
  rw [ex, ey] at h
  exact sq_uniq r 0 _ h ⟨by omega, by omega, by omega⟩

theorem five (r : Int) (h : Sq r ((0 - 3) * (0 - 3) + (0 - 4) * (0 - 4))) : r = 5 :=
  sq_uniq r 5 _ h ⟨by omega, by omega, by omega⟩

end Go.Proofs.Ytmggciglokjcbaa.Ma
