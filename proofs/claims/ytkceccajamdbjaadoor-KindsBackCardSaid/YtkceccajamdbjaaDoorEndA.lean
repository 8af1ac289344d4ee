/- A line's end. -/
import Derived.Test.YtkceccajamdbjaaDoorShelf
import Derived.Test.YtkceccajamdbjaaDoorKeep
import Derived.WideShapes
namespace Go.Proofs.YtkceccajamdbjaaDoor
open Go.RowKit
set_option linter.unusedVariables false

theorem has_end (l : List UInt8) : (Lib.hasSuffix l [10] = true ∧ ∃ t, l = t ++ [10] ∧ Lib.trimSuffix l [10] = t) ∨ (Lib.hasSuffix l [10] = false ∧ l.getLast? ≠ some 10 ∧ Lib.trimSuffix l [10] = l) := by
  cases h : Lib.hasSuffix l [10] with
  | true =>
    left
    refine ⟨rfl, ?_⟩
    have h1 : [10] <:+ l := by
      unfold Lib.hasSuffix at h
      exact List.isSuffixOf_iff_suffix.1 h
    obtain ⟨t, e⟩ := h1
    refine ⟨t, e.symm, ?_⟩
    unfold Lib.trimSuffix
    rw [h, if_pos rfl, ← e]
    simp
  | false =>
    right
    refine ⟨rfl, fun e => ?_, ?_⟩
    · obtain ⟨t, e⟩ := List.getLast?_eq_some_iff.1 e
      have : Lib.hasSuffix l [10] = true := by
        unfold Lib.hasSuffix
        exact List.isSuffixOf_iff_suffix.2 ⟨t, e.symm⟩
      rw [h] at this
      cases this
    · unfold Lib.trimSuffix
      rw [h]
      simp
/-- what is left of a line. -/
def CutEnd (s t : ByteArray) (b : Bool) : Prop := t.size ≤ s.size ∧ ((b = true ∧ s.data.toList = t.data.toList ++ [10]) ∨ (b = false ∧ s.data.toList.getLast? ≠ some 10))
theorem cutend_any (s : ByteArray) (hs : s.size ≤ 9223372036854775807) : ∃ t b, CutEnd s t b ∧ ∀ w : World, Calls Tryd.prog 60 #[.string s, .string ⟨#[10]⟩] w fun e w' => e = .returned (.tuple #[.string t, .bool b]) ∧ w' = w := by
  have C := fun w => Tryd.strings_CutSuffix s ⟨#[10]⟩ w hs
  rw [show (⟨#[10]⟩ : ByteArray).data.toList = [10] from rfl] at C
  rcases has_end s.data.toList with ⟨h1, t, h2, h3⟩ | ⟨h1, h2, h3⟩
  · rw [h1, h3] at C
    refine ⟨⟨t.toArray⟩, true, ⟨?_, .inl ⟨rfl, by rw [h2]⟩⟩, C⟩
    have : s.size = (t ++ [10]).length := by rw [← h2]; rfl
    show t.toArray.size ≤ s.size
    rw [this]
    simp
  · rw [h1, h3] at C
    refine ⟨s, false, ⟨Nat.le_refl _, .inr ⟨rfl, h2⟩⟩, fun w => ?_⟩
    have e : (⟨s.data.toList.toArray⟩ : ByteArray) = s := WideShapes.bytes_inj (by simp)
    rw [e] at C
    exact C w
end Go.Proofs.YtkceccajamdbjaaDoor
