/- Slices of api.Unit that the call itself makes, by append. -/
import Derived.Test.YtefepjiajgoomaaDoorUnA
import Derived.OwnWalk
import Derived.Deep.AppendLies
namespace Go.Proofs.YtefepjiajgoomaaDoor
open Go.RowKit
set_option linter.unusedVariables false

theorem info_un : (Tryd.prog.info? 62).map (fun i => (i.zero, i.size, i.bytes)) = some (some (.agg #[.int .i64 0, .int .i64 0, .int .i64 0, .int .i64 0, .int .i64 0, .int .i64 0, .int .i64 0, .int .i64 0]), 8, 64) := by kernel_rfl
def UnV.cs (k : UnV) : List Value := [.int .i64 k.id, .int .i64 k.player, .int .i64 k.kind, .int .i64 k.at_, .int .i64 k.life, .int .i64 k.load, .int .i64 k.task, .int .i64 k.goal]
theorem flat_un : ∀ (ks : List UnV) (i j : Nat) (k : UnV), ks[i]? = some k → j < 8 → (ks.flatMap UnV.cs)[i * 8 + j]? = k.cs[j]?
  | [], i, j, k, h, _ => by simp at h
  | x :: ks, 0, j, k, h, hj => by
    simp at h
    subst h
    rw [List.flatMap_cons, List.getElem?_append_left (by simp [UnV.cs]; omega)]
    simp
  | x :: ks, i + 1, j, k, h, hj => by
    rw [List.flatMap_cons, List.getElem?_append_right (by simp [UnV.cs]; omega)]
    have : (i + 1) * 8 + j - (UnV.cs x).length = i * 8 + j := by simp [UnV.cs]; omega
    rw [this]
    exact flat_un ks i j k (by simpa using h) hj
/-- v is a slice of them, in a block of its own from base on. -/
def Uno (w : World) (base : Nat) (v : Value) (ks : List UnV) : Prop := w.ownsRow base 62 8 v ks.length (ks.flatMap UnV.cs)
theorem Uno.nil (w : World) (base : Nat) : Uno w base (.slice none 0 0) [] := World.ownsRow_nil _ _ _ _
theorem Uno.below {w w' : World} {base : Nat} {v : Value} {ks : List UnV} (h : Uno w base v ks) (hb : Below w.heap.size w w') : Uno w' base v ks :=
  World.ownsRow.kept h (row := none) ⟨hb.os, hb.tape, hb.output, hb.size, fun k hk _ => hb.block k hk⟩ (by cases v.ownBlock <;> simp)
theorem Uno.kept {w w' : World} {base : Nat} {v : Value} {ks : List UnV} {row : Option Nat} (h : Uno w base v ks) (hg : w.grownBy w' row) (hne : v.ownBlock = none ∨ v.ownBlock ≠ row) : Uno w' base v ks := World.ownsRow.kept h hg hne
theorem Uno.alloc {w : World} {base : Nat} {v : Value} {ks : List UnV} (h : Uno w base v ks) (o : Obj) : Uno (w.alloc o) base v ks := World.ownsRow.alloc h o
theorem Uno.block {w : World} {base : Nat} {v : Value} {ks : List UnV} (h : Uno w base v ks) : ∀ k, v.ownBlock = some k → base ≤ k ∧ k < w.heap.size := World.ownsRow.lt h
theorem Uno.mono {w : World} {base base' : Nat} {v : Value} {ks : List UnV} (h : Uno w base v ks) (hb : base' ≤ base) : Uno w base' v ks := by
  refine ⟨h.1, ?_⟩
  rcases h.2 with h1 | ⟨g, cap, cur, h1, h2, h3⟩
  · exact .inl h1
  · exact .inr ⟨g, cap, cur, h1, Nat.le_trans hb h2, h3⟩
theorem Uno.l {w : World} {base : Nat} {v : Value} {ks : List UnV} (h : Uno w base v ks) : Unl w v ks := by
  rcases h.2 with ⟨hv, h0⟩ | ⟨g, cap, cur, hv, hb, hg, h1, h2, h3, h4⟩
  · exact ⟨none, 0, by rw [hv, h0], by omega, by omega, fun hn => absurd (List.length_eq_zero_iff.1 h0) hn⟩
  · refine ⟨_, cap, hv, h1, by unfold maxLen at h2; omega, fun _ => ⟨_, rfl, lt_of_block hg, fun i k hi => ?_⟩⟩
    have hil : i < ks.length := (List.getElem?_eq_some_iff.1 hi).1
    have h5 : w.ownsRow base 62 8 (.slice (some ⟨g, 0, none⟩) ks.length cap) ks.length (ks.flatMap UnV.cs) := by rw [← hv]; exact h
    have hc : ∀ j u, j < 8 → k.cs[j]? = some u → w.cell? ⟨g, i * 8 + j, none⟩ = some u := fun j u hj hu => by
      rw [h5.cellAt (i * 8 + j) (by omega), flat_un ks i j k hi hj, hu]
    rw [Addr.add_lit, Nat.zero_add]
    exact ⟨hc 0 _ (by decide) rfl, hc 1 _ (by decide) rfl, hc 2 _ (by decide) rfl, hc 3 _ (by decide) rfl, hc 4 _ (by decide) rfl, hc 5 _ (by decide) rfl, hc 6 _ (by decide) rfl, hc 7 _ (by decide) rfl⟩
theorem Uno.len {w : World} {base : Nat} {v : Value} {ks : List UnV} (h : Uno w base v ks) : ∃ a c, v = .slice a ks.length c := by
  obtain ⟨a, c, h1, -⟩ := h.l
  exact ⟨a, c, h1⟩

/-- one more. -/
theorem app_un {ops : Array Oper} {rest : List Oper} {o : Oper} {a : Act} {Q : Exit → Act → World → Prop} (w : World) (hgd : o.guard = none) (s x : Operand)
    (ho : o.op = .call { callee := .builtin .append, args := #[s, x], argTypes := #[46, 46] }) (base : Nat) (v : Value) (ks : List UnV) (hs : a.eval s = v) (hown : Uno w base v ks)
    (b : Nat) (d : UnV) (hx : a.eval x = .slice (some ⟨b, 0, none⟩) 1 1) (hd : Unc w ⟨b, 0, none⟩ d) (hl : ks.length ≤ 1000000000) (hbase : base ≤ w.heap.size)
    (h : ∀ g cap w', Uno w' base (.slice (some ⟨g, 0, none⟩) (ks.length + 1) cap) (ks ++ [d]) → w.grownBy w' v.ownBlock → (v.ownBlock = some g ∨ g = w.heap.size) → g < w'.heap.size → wpList Tryd.prog ops Q rest (a.put o.dst (.slice (some ⟨g, 0, none⟩) (ks.length + 1) cap)) w') :
    wpList Tryd.prog ops Q (o :: rest) a w := by
  obtain ⟨i0, hi, hz0, hz1, hz2⟩ := info_parts info_un
  refine wpList_append_lies w hgd s x 46 ho base 62 i0 (.agg #[.int .i64 0, .int .i64 0, .int .i64 0, .int .i64 0, .int .i64 0, .int .i64 0, .int .i64 0, .int .i64 0]) 8 64 Tryd.underlying46 hi hz0 hz1 hz2 rfl (by decide) v ks.length _ hs hown ⟨b, 0, none⟩ 1 1 d.cs hx rfl ?_ ?_ (by decide) (by unfold maxLen; omega) (by omega) hbase _ rfl ?_
  · intro j u hj
    have hjn : j < 8 := (List.getElem?_eq_some_iff.1 hj).1
    rw [Addr.add_lit, Nat.zero_add]
    match j, hjn, hj with
    | 0, _, hj => simp [UnV.cs] at hj; subst hj; exact hd.c0
    | 1, _, hj => simp [UnV.cs] at hj; subst hj; exact hd.c1
    | 2, _, hj => simp [UnV.cs] at hj; subst hj; exact hd.c2
    | 3, _, hj => simp [UnV.cs] at hj; subst hj; exact hd.c3
    | 4, _, hj => simp [UnV.cs] at hj; subst hj; exact hd.c4
    | 5, _, hj => simp [UnV.cs] at hj; subst hj; exact hd.c5
    | 6, _, hj => simp [UnV.cs] at hj; subst hj; exact hd.c6
    | 7, _, hj => simp [UnV.cs] at hj; subst hj; exact hd.c7
  · intro u hu
    simp [UnV.cs] at hu
    rcases hu with rfl | rfl | rfl | rfl | rfl | rfl | rfl | rfl <;> rfl
  · intro g cap w' h1 h2 h3 h4
    refine h g cap w' ?_ h2 h3 h4
    unfold Uno
    rw [List.length_append, List.flatMap_append]
    simpa using h1
end Go.Proofs.YtefepjiajgoomaaDoor
