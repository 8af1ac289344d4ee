/- Texts at a byte; blocks of texts. -/
import Derived.Test.YtkceccajamdbjaaDoorOsA
import Derived.Test.YtkceccajamdbjaaDoorTxM
import Derived.Test.YtkceccajamdbjaaDoorShelf
import Derived.Laws.MakeOwn
namespace Go.Proofs.YtkceccajamdbjaaDoor
open Go.RowKit
set_option linter.unusedVariables false

theorem idxb_spec (c : UInt8) : ∀ l : List UInt8, (Lib.indexByte l c = -1 ∧ c ∉ l) ∨ ∃ k : Nat, Lib.indexByte l c = k ∧ k < l.length ∧ l = l.take k ++ c :: l.drop (k + 1) ∧ c ∉ l.take k
  | [] => .inl ⟨rfl, by simp⟩
  | b :: l => by
    unfold Lib.indexByte
    by_cases h : b = c
    · subst h
      exact .inr ⟨0, by simp, by simp, by simp, by simp⟩
    · have hb : (b == c) = false := beq_eq_false_iff_ne.2 h
      rw [hb]
      simp only [Bool.false_eq_true, if_false]
      rcases idxb_spec c l with ⟨h1, h2⟩ | ⟨k, h1, h2, h3, h4⟩
      · left
        rw [h1]
        exact ⟨rfl, by simp [h2]; exact fun e => h e.symm⟩
      · right
        have hk : (Lib.indexByte l c == -1) = false := beq_eq_false_iff_ne.2 (by rw [h1]; omega)
        rw [hk]
        refine ⟨k + 1, by simp [h1], by simpa using h2, ?_, ?_⟩
        · simp only [List.take_succ_cons, List.drop_succ_cons, List.cons_append]
          rw [← h3]
        · simp only [List.take_succ_cons, List.mem_cons, not_or]
          exact ⟨fun e => h e.symm, h4⟩
theorem idx1_any (s : ByteArray) (c : UInt8) (w : World) :
    Calls Tryd.prog 103 #[.string s, .string ⟨#[c]⟩] w fun e w' => e = .returned (.int .i64 (Lib.indexByte s.data.toList c)) ∧ w' = w := by
  exact Any.strings_Index_one Tryd.lays143 s c w

/-- block b holds these texts. -/
def StA (w : World) (b : Nat) (xs : List ByteArray) : Prop := w.heap[b]? = some (.cells (xs.map Value.string).toArray 9 (0, 0))
theorem StA.cell {w : World} {b : Nat} {xs : List ByteArray} (h : StA w b xs) {i : Nat} {d : ByteArray} (hd : xs[i]? = some d) : w.cell? ⟨b, i, none⟩ = some (.string d) := by
  unfold StA at h
  simp only [World.cell?, h]
  simp [hd]
theorem StA.thaw {w : World} {b : Nat} {xs : List ByteArray} (h : StA w b xs) (i : Nat) : w.frozen? ⟨b, i, none⟩ = false := by
  unfold StA at h
  simp [World.frozen?, h]
theorem StA.set {w : World} {b : Nat} {xs : List ByteArray} (h : StA w b xs) (i : Nat) (d : ByteArray) : StA (w.setCell ⟨b, i, none⟩ (.string d)) b (xs.set i d) := by
  unfold StA at *
  rw [heap_setCell_same w b i _ _ _ h]
  simp [List.map_set]
theorem StA.lt {w : World} {b : Nat} {xs : List ByteArray} (h : StA w b xs) : b < w.heap.size := lt_of_block h
theorem take_of {xs R : List ByteArray} (hR : ∀ (j : Nat) x, R[j]? = some x → xs[j]? = some x) : xs.take R.length = R := by
  refine List.ext_getElem? fun j => ?_
  by_cases h : j < R.length
  · rw [List.getElem?_take, if_pos h, hR j _ (List.getElem?_eq_getElem h), List.getElem?_eq_getElem h]
  · rw [List.getElem?_take, if_neg h, List.getElem?_eq_none (by omega)]
theorem StA.os {w : World} {b N : Nat} {xs R : List ByteArray} (h : StA w b xs) (hx : xs.length = N) (hN : N ≤ 12) (hl : R.length ≤ N) (hR : ∀ (j : Nat) x, R[j]? = some x → xs[j]? = some x) : Os w b (.slice (some ⟨b, 0, none⟩) R.length N) R := by
  refine ⟨by simp, .inr ⟨b, N, (xs.map Value.string).toArray, rfl, Nat.le_refl _, h, hl, by unfold maxLen; omega, by simp [hx], ?_⟩⟩
  rw [Nat.mul_one, List.toList_toArray, ← List.map_take, take_of hR]
theorem makeS (N : Nat) (h1 : N ≤ 12) (w : World) : (Instr.makeSlice 81 (.int .i64 (N : Nat)) (.int .i64 (N : Nat))).run Tryd.prog w = .ok (.slice (some ⟨w.heap.size, 0, none⟩) N N) (w.alloc (.cells ((List.replicate N (⟨#[]⟩ : ByteArray)).map Value.string).toArray 9)) := by
  rcases (by omega : N = 0 ∨ N = 1 ∨ N = 2 ∨ N = 3 ∨ N = 4 ∨ N = 5 ∨ N = 6 ∨ N = 7 ∨ N = 8 ∨ N = 9 ∨ N = 10 ∨ N = 11 ∨ N = 12) with rfl | rfl | rfl | rfl | rfl | rfl | rfl | rfl | rfl | rfl | rfl | rfl | rfl
  all_goals kernel_rfl
theorem ext_take (s : ByteArray) (k : Nat) : (s.extract 0 k).data.toList = s.data.toList.take k := by
  simp [ByteArray.data_extract]
theorem ext_drop (s : ByteArray) (k : Nat) : (s.extract k s.size).data.toList = s.data.toList.drop k := by
  simp [ByteArray.data_extract]
  exact List.take_of_length_le (by rw [List.length_drop]; exact Nat.le_refl _)
theorem size_list (s : ByteArray) : s.data.toList.length = s.size := rfl
theorem cut_pos (c : UInt8) (l : List UInt8) : 1 ≤ (Tx.cut c l).length := List.length_pos_iff.2 (Tx.cut_ne c l)

end Go.Proofs.YtkceccajamdbjaaDoor
