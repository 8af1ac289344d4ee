/- Lists of texts that the call itself makes, by append. -/
import Derived.Test.YtkceccajamdbjaaDoorRows
import Derived.Test.YtkceccajamdbjaaDoorKeep
import Derived.OwnWalk
import Derived.Deep.AppendLies
import Derived.WalkKit
import Derived.WalkSpells
import Derived.WalkLawsBesides
import Derived.IntWalk
namespace Go.Proofs.YtkceccajamdbjaaDoor
open Go.RowKit
set_option linter.unusedVariables false

theorem info_str : (Tryd.prog.info? 9).map (fun i => (i.zero, i.size, i.bytes)) = some (some (.string ⟨#[]⟩), 1, 16) := by kernel_rfl

/-- v is a slice of the texts bs, in a block of its own from base on. -/
def Os (w : World) (base : Nat) (v : Value) (bs : List ByteArray) : Prop := w.ownsRow base 9 1 v bs.length (bs.map Value.string)
theorem Os.nil (w : World) (base : Nat) : Os w base (.slice none 0 0) [] := World.ownsRow_nil _ _ _ _
theorem Os.below {w w' : World} {base : Nat} {v : Value} {bs : List ByteArray} (h : Os w base v bs) (hb : Below w.heap.size w w') : Os w' base v bs :=
  World.ownsRow.kept h (row := none) ⟨hb.os, hb.tape, hb.output, hb.size, fun k hk _ => hb.block k hk⟩ (by cases v.ownBlock <;> simp)
theorem Os.alloc {w : World} {base : Nat} {v : Value} {bs : List ByteArray} (h : Os w base v bs) (o : Obj) : Os (w.alloc o) base v bs := World.ownsRow.alloc h o
theorem Os.block {w : World} {base : Nat} {v : Value} {bs : List ByteArray} (h : Os w base v bs) : ∀ k, v.ownBlock = some k → base ≤ k ∧ k < w.heap.size := World.ownsRow.lt h
theorem Os.mono {w : World} {base base' : Nat} {v : Value} {bs : List ByteArray} (h : Os w base v bs) (hb : base' ≤ base) : Os w base' v bs := by
  refine ⟨h.1, ?_⟩
  rcases h.2 with h1 | ⟨g, cap, cur, h1, h2, h3⟩
  · exact .inl h1
  · exact .inr ⟨g, cap, cur, h1, Nat.le_trans hb h2, h3⟩
/-- its cells. -/
theorem Os.cells {w : World} {base : Nat} {v : Value} {bs : List ByteArray} (h : Os w base v bs) : ∃ a c, v = .slice a bs.length c ∧ bs.length ≤ c ∧ c ≤ 9223372036854775807 ∧ (bs ≠ [] → ∃ g, a = some ⟨g, 0, none⟩ ∧ base ≤ g ∧ ∀ (i : Nat) b, bs[i]? = some b → w.cell? ⟨g, i, none⟩ = some (.string b)) := by
  rcases h.2 with ⟨hv, h0⟩ | ⟨g, cap, cur, hv, hb, hg, h1, h2, h3, h4⟩
  · exact ⟨none, 0, by rw [hv, h0], by omega, by omega, fun hn => absurd (List.length_eq_zero_iff.1 h0) hn⟩
  · refine ⟨_, cap, hv, h1, by unfold maxLen at h2; omega, fun _ => ⟨g, rfl, hb, fun i b hbi => ?_⟩⟩
    have hi : i < bs.length := (List.getElem?_eq_some_iff.1 hbi).1
    have h5 : w.ownsRow base 9 1 (.slice (some ⟨g, 0, none⟩) bs.length cap) bs.length (bs.map Value.string) := by rw [← hv]; exact h
    rw [h5.cellAt i (by omega), List.getElem?_map, hbi]
    rfl

/-- one more. -/
theorem app_str {ops : Array Oper} {rest : List Oper} {o : Oper} {a : Act} {Q : Exit → Act → World → Prop} (w : World) (hgd : o.guard = none) (s x : Operand)
    (ho : o.op = .call { callee := .builtin .append, args := #[s, x], argTypes := #[81, 81] }) (base : Nat) (v : Value) (bs : List ByteArray) (hs : a.eval s = v) (hown : Os w base v bs)
    (ad : Addr) (b : ByteArray) (hx : a.eval x = .slice (some ad) 1 1) (hd : w.cell? ad = some (.string b)) (hl : bs.length ≤ 2000000) (hbase : base ≤ w.heap.size)
    (h : ∀ g cap w', Os w' base (.slice (some ⟨g, 0, none⟩) (bs.length + 1) cap) (bs ++ [b]) → w.grownBy w' v.ownBlock → (v.ownBlock = some g ∨ g = w.heap.size) → g < w'.heap.size → wpList Tryd.prog ops Q rest (a.put o.dst (.slice (some ⟨g, 0, none⟩) (bs.length + 1) cap)) w') :
    wpList Tryd.prog ops Q (o :: rest) a w := by
  obtain ⟨i0, hi, hz0, hz1, hz2⟩ := info_parts info_str
  refine wpList_append_lies w hgd s x 81 ho base 9 i0 (.string ⟨#[]⟩) 1 16 Tryd.underlying81 hi hz0 hz1 hz2 rfl (by decide) v bs.length _ hs hown ad 1 1 [.string b] hx rfl ?_ ?_ (by decide) (by unfold maxLen; omega) (by omega) hbase _ rfl ?_
  · intro j u hj
    match j, hj with
    | 0, hj => simp at hj; subst hj; exact hd
  · intro u hu
    simp at hu
    subst hu
    rfl
  · intro g cap w' h1 h2 h3 h4
    refine h g cap w' ?_ h2 h3 h4
    unfold Os
    rw [List.length_append, List.map_append]
    exact h1

/-- two more. -/
theorem app_str2 {ops : Array Oper} {rest : List Oper} {o : Oper} {a : Act} {Q : Exit → Act → World → Prop} (w : World) (hgd : o.guard = none) (s x : Operand)
    (ho : o.op = .call { callee := .builtin .append, args := #[s, x], argTypes := #[81, 81] }) (base : Nat) (v : Value) (bs : List ByteArray) (hs : a.eval s = v) (hown : Os w base v bs)
    (g0 : Nat) (b c : ByteArray) (hx : a.eval x = .slice (some ⟨g0, 0, none⟩) 2 2) (hd : w.cell? ⟨g0, 0, none⟩ = some (.string b)) (hd2 : w.cell? ⟨g0, 1, none⟩ = some (.string c)) (hl : bs.length ≤ 2000000) (hbase : base ≤ w.heap.size)
    (h : ∀ g cap w', Os w' base (.slice (some ⟨g, 0, none⟩) (bs.length + 2) cap) (bs ++ [b, c]) → w.grownBy w' v.ownBlock → (v.ownBlock = some g ∨ g = w.heap.size) → g < w'.heap.size → wpList Tryd.prog ops Q rest (a.put o.dst (.slice (some ⟨g, 0, none⟩) (bs.length + 2) cap)) w') :
    wpList Tryd.prog ops Q (o :: rest) a w := by
  obtain ⟨i0, hi, hz0, hz1, hz2⟩ := info_parts info_str
  refine wpList_append_lies w hgd s x 81 ho base 9 i0 (.string ⟨#[]⟩) 1 16 Tryd.underlying81 hi hz0 hz1 hz2 rfl (by decide) v bs.length _ hs hown ⟨g0, 0, none⟩ 2 2 [.string b, .string c] hx rfl ?_ ?_ (by decide) (by unfold maxLen; omega) (by omega) hbase _ rfl ?_
  · intro j u hj
    rw [Addr.add_lit, Nat.zero_add]
    match j, hj with
    | 0, hj => simp at hj; subst hj; exact hd
    | 1, hj => simp at hj; subst hj; exact hd2
  · intro u hu
    simp at hu
    rcases hu with rfl | rfl <;> rfl
  · intro g cap w' h1 h2 h3 h4
    refine h g cap w' ?_ h2 h3 h4
    unfold Os
    rw [List.length_append, List.map_append]
    exact h1
/-- the same, in a region that draws. -/
theorem step_str2 {ops : Array Oper} {o : Oper} {a : Act} {K : Act → World → Prop} {Q : Exit → Act → World → Prop} {E : Prop} (w : World) (hgd : o.guard = none) (s x : Operand)
    (ho : o.op = .call { callee := .builtin .append, args := #[s, x], argTypes := #[81, 81] }) (base : Nat) (v : Value) (bs : List ByteArray) (hs : a.eval s = v) (hown : Os w base v bs)
    (g0 : Nat) (b c : ByteArray) (hx : a.eval x = .slice (some ⟨g0, 0, none⟩) 2 2) (hd : w.cell? ⟨g0, 0, none⟩ = some (.string b)) (hd2 : w.cell? ⟨g0, 1, none⟩ = some (.string c)) (hl : bs.length ≤ 2000000) (hbase : base ≤ w.heap.size)
    (h : ∀ g cap w', Os w' base (.slice (some ⟨g, 0, none⟩) (bs.length + 2) cap) (bs ++ [b, c]) → w.grownBy w' v.ownBlock → (v.ownBlock = some g ∨ g = w.heap.size) → g < w'.heap.size → K (a.put o.dst (.slice (some ⟨g, 0, none⟩) (bs.length + 2) cap)) w') :
    if Region.wanted o (yielded ops a.tmps) = true then Oper.wp Tryd.prog o a w K Q else E := by
  obtain ⟨i0, hi, hz0, hz1, hz2⟩ := info_parts info_str
  refine step_append_lies w hgd s x 81 ho base 9 i0 (.string ⟨#[]⟩) 1 16 Tryd.underlying81 hi hz0 hz1 hz2 rfl (by decide) v bs.length _ hs hown ⟨g0, 0, none⟩ 2 2 [.string b, .string c] hx rfl ?_ ?_ (by decide) (by unfold maxLen; omega) (by omega) hbase _ rfl ?_
  · intro j u hj
    rw [Addr.add_lit, Nat.zero_add]
    match j, hj with
    | 0, hj => simp at hj; subst hj; exact hd
    | 1, hj => simp at hj; subst hj; exact hd2
  · intro u hu
    simp at hu
    rcases hu with rfl | rfl <;> rfl
  · intro g cap w' h1 h2 h3 h4
    refine h g cap w' ?_ h2 h3 h4
    unfold Os
    rw [List.length_append, List.map_append]
    exact h1
/-- a list of one. -/
theorem Os.one {w : World} {base z : Nat} (b : ByteArray) (hb : base ≤ w.heap.size) (hz : w.heap.size = z) : Os (w.alloc (.cells #[.string b] 9)) base (.slice (some ⟨z, 0, none⟩) 1 1) [b] := by
  subst hz
  exact ⟨rfl, .inr ⟨_, _, _, rfl, hb, heap_alloc_new w _, Nat.le_refl _, by unfold maxLen; decide, rfl, rfl⟩⟩
theorem Os.len {w : World} {base : Nat} {v : Value} {bs : List ByteArray} (h : Os w base v bs) : ∃ a c, v = .slice a bs.length c := by
  obtain ⟨a, c, h1, -⟩ := h.cells
  exact ⟨a, c, h1⟩
end Go.Proofs.YtkceccajamdbjaaDoor
