/- Plain mathematics: products and quotients with a part, rounded down. -/
import Derived.Test.YthdpafcodmlenaaDoorMath
namespace Go.Proofs.YthdpafcodmlenaaDoor.Ma

def Lim : Int := 1099511627776

/-- s is the size of x. -/
def Siz (x s : Int) : Prop := (0 ≤ x ∧ s = x) ∨ (x < 0 ∧ s = -x)

theorem siz_mul (a b s t : Int) (h : Siz a s) (k : Siz b t) : Siz (a * b) (s * t) := by
  unfold Siz at *
  rcases h with ⟨h, rfl⟩ | ⟨h, rfl⟩ <;> rcases k with ⟨k, rfl⟩ | ⟨k, rfl⟩
  · exact .inl ⟨Int.mul_nonneg h k, rfl⟩
  · rcases Int.lt_or_eq_of_le h with h' | h'
    · exact .inr ⟨Int.mul_neg_of_pos_of_neg h' k, by rw [Int.mul_neg]⟩
    · subst h'; exact .inl ⟨by omega, by omega⟩
  · rcases Int.lt_or_eq_of_le k with k' | k'
    · exact .inr ⟨Int.mul_neg_of_neg_of_pos h k', by rw [Int.neg_mul]⟩
    · subst k'; exact .inl ⟨by omega, by omega⟩
  · exact .inl ⟨by have := Int.mul_pos_of_neg_of_neg h k; omega, by rw [Int.neg_mul_neg]⟩

theorem quo_test (s t : Int) (ht : 0 < t) : 72057594037993471 / t < s ↔ 72057594037993471 < s * t := Int.ediv_lt_iff_lt_mul ht

/-- too great a product: it is too great rounded down, too. -/
theorem full_of (p s : Int) (h : Siz p s) (k : 72057594037993471 < s) : ¬ (-1099511627776 ≤ p / 65536 ∧ p / 65536 ≤ 1099511627776) := by
  unfold Siz at h; omega

theorem fits_of (p s : Int) (h : Siz p s) (k : s ≤ 72057594037993471) : -72057594037993471 ≤ p ∧ p ≤ 72057594037993471 := by
  unfold Siz at h; omega

/-- a over b, rounded down. -/
def flr (a b : Int) : Int := if 0 < b then a / b else (-a) / (-b)


end Go.Proofs.YthdpafcodmlenaaDoor.Ma
