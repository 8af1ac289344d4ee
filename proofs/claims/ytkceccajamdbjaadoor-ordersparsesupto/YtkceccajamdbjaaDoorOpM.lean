/- What Parse gives of a text. -/
import Derived.Test.YtkceccajamdbjaaDoorOdM
namespace Go.Proofs.YtkceccajamdbjaaDoor

/-- what Parse gives of a text: the orders; else which line is wrong, and how. -/
def ParSays (l : List UInt8) (ks : List OrV) (k f : Int) : Prop := match Od.parse l with
  | .inl (n, x) => ks = [] ∧ k = n ∧ f = x
  | .inr r => ks = r ∧ k = 0 ∧ f = 0
theorem ParSays.same {l : List UInt8} {ks ks' : List OrV} {k f k' f' : Int} (h : ParSays l ks k f) (h' : ParSays l ks' k' f') : ks = ks' ∧ k = k' ∧ f = f' := by
  unfold ParSays at *
  split at h
  · rename_i e
    rw [e] at h'
    simp only at h'
    exact ⟨by rw [h.1, h'.1], by rw [h.2.1, h'.2.1], by rw [h.2.2, h'.2.2]⟩
  · rename_i e
    rw [e] at h'
    simp only at h'
    exact ⟨by rw [h.1, h'.1], by rw [h.2.1, h'.2.1], by rw [h.2.2, h'.2.2]⟩
end Go.Proofs.YtkceccajamdbjaaDoor
