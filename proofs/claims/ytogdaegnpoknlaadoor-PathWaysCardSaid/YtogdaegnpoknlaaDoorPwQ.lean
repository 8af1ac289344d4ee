/- A list of integers from which the first is taken, and that is added to at its end. -/
import Derived.Test.YtogdaegnpoknlaaDoorFdOwn
import Derived.ArgAppend
namespace Go.Proofs.YtogdaegnpoknlaaDoor
open Go.RowKit
set_option linter.unusedVariables false

/-- v is a slice of the integers xs, somewhere in a block from base on. -/
def Qu (w : World) (base : Nat) (v : Value) (xs : List Int) : Prop := ∃ g off cap cur, v = .slice (some ⟨g, off, none⟩) xs.length cap ∧ base ≤ g ∧ w.heap[g]? = some (.cells cur 3 (0, 0)) ∧ xs.length ≤ cap ∧ cap ≤ maxLen ∧ off + cap ≤ cur.size ∧ ∀ (j : Nat) d, xs[j]? = some d → cur[off + j]? = some (.int .i64 d)

theorem Qu.kept {w w' : World} {base : Nat} {v : Value} {xs : List Int} (h : Qu w base v xs) (hk : ∀ k, base ≤ k → k < w.heap.size → w'.heap[k]? = w.heap[k]?) : Qu w' base v xs := by
  obtain ⟨g, off, cap, cur, h1, h2, h3, h4⟩ := h
  exact ⟨g, off, cap, cur, h1, h2, by rw [hk g h2 (lt_of_block h3)]; exact h3, h4⟩
theorem Qu.below {w w' : World} {base : Nat} {v : Value} {xs : List Int} (h : Qu w base v xs) (hb : Below w.heap.size w w') : Qu w' base v xs := h.kept fun k _ hk => hb.block k hk
theorem Qu.kp {w w' : World} {base b : Nat} {v : Value} {xs : List Int} (h : Qu w base v xs) (hk : Kp b w w') (hb : b < base) : Qu w' base v xs := h.kept fun k h1 h2 => hk.block k h2 (by omega)
theorem Qu.drewN {w : World} {base : Nat} {v : Value} {xs : List Int} (h : Qu w base v xs) (n : Nat) : Qu (w.drewN n) base v xs := h
theorem Qu.one {w : World} {base z : Nat} (d : Int) (hb : base ≤ w.heap.size) (hz : w.heap.size = z) : Qu (w.alloc (.cells #[.int .i64 d] 3)) base (.slice (some ⟨z, 0, none⟩) 1 1) [d] := by
  subst hz
  refine ⟨_, 0, 1, _, rfl, hb, heap_alloc_new w _, Nat.le_refl _, by unfold maxLen; decide, Nat.le_refl _, fun j e he => ?_⟩
  match j, he with
  | 0, he => simp at he; subst he; rfl
/-- the first one. -/
theorem Qu.first {w : World} {base : Nat} {v : Value} {x : Int} {xs : List Int} (h : Qu w base v (x :: xs)) : ∃ g off cap, v = .slice (some ⟨g, off, none⟩) (xs.length + 1) cap ∧ xs.length + 1 ≤ cap ∧ cap ≤ 9223372036854775807 ∧ w.cell? ⟨g, off, none⟩ = some (.int .i64 x) := by
  obtain ⟨g, off, cap, cur, h1, h2, h3, h4, h5, h6, h7⟩ := h
  refine ⟨g, off, cap, h1, h4, by unfold maxLen at h5; omega, ?_⟩
  have := h7 0 x rfl
  simp only [World.cell?, h3]
  exact this

theorem info_int2 : (Tryd.prog.info? 3).map (·.size) = some 1 := by kernel_rfl
/-- without the first one. -/
theorem Qu.rest {w : World} {base : Nat} {v : Value} {x : Int} {xs : List Int} (h : Qu w base v (x :: xs)) : ∃ v', Qu w base v' xs ∧ ∀ W, (Instr.slice 22 v (some (.int .i64 1)) none none).run Tryd.prog W = .ok v' W := by
  obtain ⟨g, off, cap, cur, h1, h2, h3, h4, h5, h6, h7⟩ := h
  subst h1
  obtain ⟨i0, hi, hz0, hz1, hz2⟩ := info_parts info_int
  have hu : Tryd.prog.underlying 22 = some (.slice 3) := Tryd.underlying22
  have he : Tryd.prog.elem 22 = 3 := by simp [Program.elem, hu]
  simp only [List.length_cons] at h4 h6
  have h5' : cap ≤ 9223372036854775807 := by unfold maxLen at h5; omega
  by_cases hc : cap = 1
  · subst hc
    have hx : xs = [] := List.length_eq_zero_iff.1 (by omega)
    subst hx
    refine ⟨.slice (some ⟨g, off, none⟩) 0 0, ⟨g, off, 0, cur, rfl, h2, h3, Nat.le_refl _, by omega, by omega, fun j d hd => by simp at hd⟩, fun W => ?_⟩
    refine (run_slice_l (P := Tryd.prog) W 22 (some ⟨g, off, none⟩) 1 1 (by rw [he]; exact hu) .i64 1 (by decide) (by decide)).trans ?_
    rw [he]
    simp [sizeOf, typeInfo, hi, hz1, sliced]
  · refine ⟨.slice (some ⟨g, off + 1, none⟩) xs.length (cap - 1), ⟨g, off + 1, cap - 1, cur, rfl, h2, h3, by omega, by omega, by omega, fun j d hd => ?_⟩, fun W => ?_⟩
    · have := h7 (j + 1) d (by simpa using hd)
      rwa [show off + (j + 1) = off + 1 + j by omega] at this
    · refine (run_slice_l (P := Tryd.prog) W 22 (some ⟨g, off, none⟩) (xs.length + 1) cap (by rw [he]; exact hu) .i64 1 (by decide) (by omega)).trans ?_
      rw [he]
      simp [sizeOf, typeInfo, hi, hz1, sliced, hc, Addr.add_lit]

/-- one more. -/
theorem app_q {ops : Array Oper} {rest : List Oper} {o : Oper} {a : Act} {Q : Exit → Act → World → Prop} (w : World) (hgd : o.guard = none) (s x : Operand)
    (ho : o.op = .call { callee := .builtin .append, args := #[s, x], argTypes := #[22, 22] }) (base : Nat) (v : Value) (xs : List Int) (hs : a.eval s = v) (hq : Qu w base v xs)
    (ad : Addr) (d : Int) (hx : a.eval x = .slice (some ad) 1 1) (hd : w.cell? ad = some (.int .i64 d)) (hl : xs.length ≤ 1000000) (hbase : base ≤ w.heap.size)
    (h : ∀ v' w', Qu w' base v' (xs ++ [d]) → Below base w w' → wpList Tryd.prog ops Q rest (a.put o.dst v') w') :
    wpList Tryd.prog ops Q (o :: rest) a w := by
  obtain ⟨i0, hi, hz0, hz1, hz2⟩ := info_parts info_int
  obtain ⟨g, off, cap, cur, h1, h2, h3, h4, h5, h6, h7⟩ := hq
  subst h1
  have hcell : ∀ k, k < cur.size → w.cell? ⟨g, k, none⟩ = cur[k]? := fun k hk => by simp [World.cell?, h3]
  refine wpList_append_arg w hgd s x 22 ho 3 i0 (.int .i64 0) 1 8 Tryd.underlying22 hi hz0 hz1 hz2 rfl (by decide) g off xs.length cap (xs.map (Value.int .i64)) hs (by simp) ?_ ad 1 1 [.int .i64 d] hx rfl ?_ ?_ ?_ (by unfold maxLen; omega) (by omega) ?_ ?_
  · intro j u hj
    rw [List.getElem?_map] at hj
    cases hxj : xs[j]? with
    | none => rw [hxj] at hj; cases hj
    | some y =>
      rw [hxj] at hj
      simp only [Option.map_some, Option.some.injEq] at hj
      have hlt : j < xs.length := (List.getElem?_eq_some_iff.1 hxj).1
      rw [hcell _ (by omega), h7 j y hxj, hj]
  · intro j u hj
    match j, hj with
    | 0, hj => simp at hj; subst hj; exact hd
  · intro u hu
    simp at hu
    subst hu
    rfl
  · intro hr j hj
    have hj0 : j = 0 := by
      have : [Value.int .i64 d].length = 1 := rfl
      omega
    subst hj0
    rw [hcell _ (by omega)]
    refine ⟨?_, by simp [World.frozen?, h3]⟩
    rw [Array.getElem?_eq_getElem (by omega)]
    rfl
  · intro hr
    refine h _ _ ?_ ?_
    · refine ⟨g, off, cap, cur.setIfInBounds (off + xs.length) (.int .i64 d), by simp, h2, ?_, by simpa using hr, h5, by simpa using h6, fun j e he => ?_⟩
      · have := heap_setCell_same w g (off + xs.length) _ _ (.int .i64 d) h3
        simpa [World.setCells] using this
      · rw [List.getElem?_append] at he
        by_cases hj : j < xs.length
        · rw [if_pos hj] at he
          rw [Array.getElem?_setIfInBounds_ne (by omega)]
          exact h7 j e he
        · rw [if_neg hj] at he
          have hj0 : j - xs.length = 0 := by
            rcases Nat.eq_zero_or_pos (j - xs.length) with h | h
            · exact h
            · rw [List.getElem?_eq_none (by simp; omega)] at he; cases he
          rw [hj0] at he
          simp at he
          subst he
          rw [show off + j = off + xs.length by omega, Array.getElem?_setIfInBounds_self_of_lt (by omega)]
    · simp only [World.setCells, Nat.mul_one]
      exact ⟨rfl, rfl, rfl, by simp [World.setCell], fun k hk => Below.heap_setCell _ _ _ _ (by show k ≠ g; omega)⟩
  · intro hg v' w' ho' hgr
    refine h _ _ ?_ ((Below.refl _ _).grown hgr hbase (fun k hk => by cases hk))
    rcases ho'.2 with ⟨_, h0⟩ | ⟨g', cap', cur', e1, e2, e3, e4, e5, e6, e7⟩
    · omega
    · refine ⟨g', 0, cap', cur', by rw [e1]; simp, by omega, e3, by simpa using e4, e5, by omega, fun j e he => ?_⟩
      rw [Nat.zero_add, ← Array.getElem?_toList]
      have hj : j < xs.length + 1 := by
        have := (List.getElem?_eq_some_iff.1 he).1
        simpa using this
      have : (cur'.toList.take ((xs.length + 1) * 1))[j]? = some (.int .i64 e) := by
        rw [e7, show xs.map (Value.int .i64) ++ [Value.int .i64 d] = (xs ++ [d]).map (Value.int .i64) by simp, List.getElem?_map, he]
        rfl
      rw [List.getElem?_take, if_pos (by omega)] at this
      exact this
end Go.Proofs.YtogdaegnpoknlaaDoor
