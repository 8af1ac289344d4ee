/- Texts: their lines. Plain mathematics. -/
import Derived.Test.YtkceccajamdbjaaDoorTxM
namespace Go.Proofs.YtkceccajamdbjaaDoor.Tx

/-- the lines of a text, each with its end, if it has one. -/
def lines : List UInt8 → List (List UInt8)
  | [] => []
  | b :: r => if b = 10 then [10] :: lines r else match lines r with
    | [] => [[b]]
    | w :: ws => (b :: w) :: ws

theorem lines_app : ∀ {w : List UInt8}, (10 : UInt8) ∉ w → ∀ r, lines (w ++ 10 :: r) = (w ++ [10]) :: lines r
  | [], _, r => by simp [lines]
  | b :: w, h, r => by
    rw [List.mem_cons, not_or] at h
    rw [List.cons_append, lines, if_neg (fun e => h.1 e.symm), lines_app h.2 r]
    rfl
theorem lines_word : ∀ {w : List UInt8}, (10 : UInt8) ∉ w → w ≠ [] → lines w = [w]
  | [], _, h => absurd rfl h
  | [b], h, _ => by
    rw [List.mem_cons, not_or] at h
    rw [lines, if_neg (fun e => h.1 e.symm)]
    rfl
  | b :: c :: w, h, _ => by
    rw [List.mem_cons, not_or] at h
    rw [lines, if_neg (fun e => h.1 e.symm), lines_word h.2 (by simp)]
/-- a text has no end of a line, or a first one. -/
theorem first10 : ∀ s : List UInt8, (10 : UInt8) ∉ s ∨ ∃ w r, (10 : UInt8) ∉ w ∧ s = w ++ 10 :: r
  | [] => .inl (by simp)
  | b :: s => by
    by_cases h : b = 10
    · subst h
      exact .inr ⟨[], s, by simp, rfl⟩
    · rcases first10 s with h1 | ⟨w, r, h1, rfl⟩
      · left
        rw [List.mem_cons, not_or]
        exact ⟨fun e => h e.symm, h1⟩
      · right
        refine ⟨b :: w, r, ?_, rfl⟩
        rw [List.mem_cons, not_or]
        exact ⟨fun e => h e.symm, h1⟩
/-- what lines say, by their ends alone: what is read of a text at each end of a line is what is read of its lines. -/
theorem lines_ind {p : List UInt8 → Prop} (h0 : p []) (h1 : ∀ w, (10 : UInt8) ∉ w → w ≠ [] → p w) (h2 : ∀ w r, (10 : UInt8) ∉ w → p r → p (w ++ 10 :: r)) : ∀ s, p s := by
  intro s
  obtain ⟨n, hn⟩ : ∃ n, s.length = n := ⟨_, rfl⟩
  induction n using Nat.strongRecOn generalizing s with
  | ind n ih =>
    rcases first10 s with h | ⟨w, r, h, rfl⟩
    · by_cases e : s = []
      · subst e; exact h0
      · exact h1 s h e
    · refine h2 w r h (ih r.length ?_ r rfl)
      rw [← hn, List.length_append, List.length_cons]
      omega
theorem lines_sum (s : List UInt8) : (lines s).flatten = s := by
  refine lines_ind (p := fun s => (lines s).flatten = s) rfl (fun w h e => ?_) (fun w r h ih => ?_) s
  · rw [lines_word h e]; simp
  · rw [lines_app h, List.flatten_cons, ih]; simp
theorem lines_len {s x : List UInt8} (h : x ∈ lines s) : x.length ≤ s.length := by
  have h1 := lines_sum s
  obtain ⟨a, b, e⟩ := List.append_of_mem h
  rw [e] at h1
  rw [← h1]
  simp
  omega
theorem lines_ne {s x : List UInt8} : x ∈ lines s → x ≠ [] := by
  refine lines_ind (p := fun s => x ∈ lines s → x ≠ []) (fun h => by simp [lines] at h) (fun w h e hx => ?_) (fun w r h ih hx => ?_) s
  · rw [lines_word h e] at hx
    simp at hx
    subst hx
    exact e
  · rw [lines_app h] at hx
    rcases List.mem_cons.1 hx with rfl | hx
    · simp
    · exact ih hx
end Go.Proofs.YtkceccajamdbjaaDoor.Tx
