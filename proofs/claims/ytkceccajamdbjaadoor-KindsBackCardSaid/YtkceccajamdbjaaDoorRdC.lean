/- The program's kinds: a line that is read. -/
import Derived.Test.YtkceccajamdbjaaDoorRdB
import Derived.Test.YtkceccajamdbjaaDoorSpA
namespace Go.Proofs.YtkceccajamdbjaaDoor
open Go.RowKit
set_option linter.unusedVariables false

theorem splitn_any (s : ByteArray) (w : World) (hs : s.size ≤ 9223372036854775806) :
    Calls Tryd.prog 61 #[.string s, .string ⟨#[32]⟩, .int .i64 12] w (SplitSays s.data.toList w) := by
  have H : Hid (Calls Tryd.prog 83 #[.string s, .string ⟨#[32]⟩, .int .i64 0, .int .i64 12] w (SplitSays s.data.toList w)) := split_any s w hs
  go_enter Tryd.func61, Tryd.ntmps61
  go_wp2_with fail
  refine H.out.mono ?_
  rintro e w1 ⟨R, N, rfl, h1, h2, h3, h4, h5, h6, h8, h7⟩
  have K : Hid (SplitSays s.data.toList w (.returned (.slice (some ⟨w.heap.size, 0, none⟩) R.length N)) w1) := ⟨R, N, rfl, h1, h2, h3, h4, h5, h6, h8, h7⟩
  clear h1 h2 h3 h4 h5 h6 h7 h8
  go_wp2
  go_ret
  exact K
theorem clone_any (s : ByteArray) (w : World) (hs : s.size ≤ 281474976710656) :
    Calls Tryd.prog 64 #[.string s] w fun e w' => e = .returned (.string s) ∧ Below w.heap.size w w' := by
  have H : Hid (Calls Tryd.prog 84 #[.string s] w fun e w' => e = .returned (.string s) ∧ Below w.heap.size w w') := Tryd.stringslite_Clone s w hs
  go_enter Tryd.func64, Tryd.ntmps64
  go_wp2_with fail
  refine H.out.mono ?_
  rintro e w1 ⟨rfl, b1⟩
  have B1 : Hid (Below w.heap.size w w1) := b1
  clear b1
  go_wp2
  go_ret
  exact ⟨rfl, B1⟩
theorem eq_text (a : ByteArray) (c : UInt8) : (a.toList == [c]) = (a.data.toList == [c]) := by
  rw [ByteArray.toList_eq]
set_option maxHeartbeats 1000000 in
theorem isMark_any (a : ByteArray) (c : UInt8) (w : World) :
    Calls Tryd.prog 63 #[.string a, .string ⟨#[c]⟩] w fun e w' => e = .returned (.bool (Kd.unflag c a.data.toList).isSome) ∧ w' = w := by
  by_cases h1 : a.data.toList = [c]
  · have e1 : (a.toList == [c]) = true := by rw [eq_text, h1]; simp
    have E : Hid ((Kd.unflag c a.data.toList).isSome = true) := by unfold Hid Kd.unflag; rw [if_pos h1]; rfl
    clear h1
    go_enter Tryd.func63, Tryd.ntmps63
    go_wp2
    go_ret
    exact ⟨by rw [E.out]; first | rfl | simp, rfl⟩
  · have e1 : (a.toList == [c]) = false := by rw [eq_text]; exact beq_eq_false_iff_ne.2 h1
    by_cases h2 : a.data.toList = [45]
    · have e2 : (a.toList == [45]) = true := by rw [eq_text, h2]; simp
      have E : Hid ((Kd.unflag c a.data.toList).isSome = true) := by unfold Hid Kd.unflag; rw [if_neg h1, if_pos h2]; rfl
      clear h1 h2
      go_enter Tryd.func63, Tryd.ntmps63
      go_wp2
      go_ret
      exact ⟨by rw [E.out]; first | rfl | simp, rfl⟩
    · have e2 : (a.toList == [45]) = false := by rw [eq_text]; exact beq_eq_false_iff_ne.2 h2
      have E : Hid ((Kd.unflag c a.data.toList).isSome = false) := by unfold Hid Kd.unflag; rw [if_neg h1, if_neg h2]; rfl
      clear h1 h2
      go_enter Tryd.func63, Tryd.ntmps63
      go_wp2
      go_ret
      exact ⟨by rw [E.out]; first | rfl | simp, rfl⟩
end Go.Proofs.YtkceccajamdbjaaDoor
