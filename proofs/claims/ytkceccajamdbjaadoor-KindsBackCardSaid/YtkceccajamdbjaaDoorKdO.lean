/- Slices of api.Kind that the call itself makes, by append. -/
import Derived.Test.YtkceccajamdbjaaDoorKdA
import Derived.OwnWalk
import Derived.Deep.AppendLies
namespace Go.Proofs.YtkceccajamdbjaaDoor
open Go.RowKit
set_option linter.unusedVariables false

theorem info_kd : (Tryd.prog.info? 28).map (fun i => (i.zero, i.size, i.bytes)) = some (some (.agg #[.string ⟨#[]⟩, .int .i64 0, .int .i64 0, .int .i64 0, .int .i64 0, .int .i64 0, .int .i64 0, .int .i64 0, .int .i64 0, .bool false, .bool false]), 11, 88) := by kernel_rfl
def KV.cs (k : KV) : List Value := [.string k.b, .int .i64 k.n0, .int .i64 k.n1, .int .i64 k.n2, .int .i64 k.n3, .int .i64 k.n4, .int .i64 k.n5, .int .i64 k.n6, .int .i64 k.n7, .bool k.f, .bool k.t]
theorem flat_kd : ∀ (ks : List KV) (i j : Nat) (k : KV), ks[i]? = some k → j < 11 → (ks.flatMap KV.cs)[i * 11 + j]? = k.cs[j]?
  | [], i, j, k, h, _ => by simp at h
  | x :: ks, 0, j, k, h, hj => by
    simp at h
    subst h
    rw [List.flatMap_cons, List.getElem?_append_left (by simp [KV.cs]; omega)]
    simp
  | x :: ks, i + 1, j, k, h, hj => by
    rw [List.flatMap_cons, List.getElem?_append_right (by simp [KV.cs]; omega)]
    have : (i + 1) * 11 + j - (KV.cs x).length = i * 11 + j := by simp [KV.cs]; omega
    rw [this]
    exact flat_kd ks i j k (by simpa using h) hj
/-- v is a slice of them, in a block of its own from base on. -/
def Kdo (w : World) (base : Nat) (v : Value) (ks : List KV) : Prop := w.ownsRow base 28 11 v ks.length (ks.flatMap KV.cs)
theorem Kdo.nil (w : World) (base : Nat) : Kdo w base (.slice none 0 0) [] := World.ownsRow_nil _ _ _ _
theorem Kdo.below {w w' : World} {base : Nat} {v : Value} {ks : List KV} (h : Kdo w base v ks) (hb : Below w.heap.size w w') : Kdo w' base v ks :=
  World.ownsRow.kept h (row := none) ⟨hb.os, hb.tape, hb.output, hb.size, fun k hk _ => hb.block k hk⟩ (by cases v.ownBlock <;> simp)
theorem Kdo.kept {w w' : World} {base : Nat} {v : Value} {ks : List KV} {row : Option Nat} (h : Kdo w base v ks) (hg : w.grownBy w' row) (hne : v.ownBlock = none ∨ v.ownBlock ≠ row) : Kdo w' base v ks := World.ownsRow.kept h hg hne
theorem Kdo.alloc {w : World} {base : Nat} {v : Value} {ks : List KV} (h : Kdo w base v ks) (o : Obj) : Kdo (w.alloc o) base v ks := World.ownsRow.alloc h o
theorem Kdo.block {w : World} {base : Nat} {v : Value} {ks : List KV} (h : Kdo w base v ks) : ∀ k, v.ownBlock = some k → base ≤ k ∧ k < w.heap.size := World.ownsRow.lt h
theorem Kdo.mono {w : World} {base base' : Nat} {v : Value} {ks : List KV} (h : Kdo w base v ks) (hb : base' ≤ base) : Kdo w base' v ks := by
  refine ⟨h.1, ?_⟩
  rcases h.2 with h1 | ⟨g, cap, cur, h1, h2, h3⟩
  · exact .inl h1
  · exact .inr ⟨g, cap, cur, h1, Nat.le_trans hb h2, h3⟩
theorem Kdo.l {w : World} {base : Nat} {v : Value} {ks : List KV} (h : Kdo w base v ks) : Kl w v ks := by
  rcases h.2 with ⟨hv, h0⟩ | ⟨g, cap, cur, hv, hb, hg, h1, h2, h3, h4⟩
  · exact ⟨none, 0, by rw [hv, h0], by omega, by omega, fun hn => absurd (List.length_eq_zero_iff.1 h0) hn⟩
  · refine ⟨_, cap, hv, h1, by unfold maxLen at h2; omega, fun _ => ⟨_, rfl, lt_of_block hg, fun i k hi => ?_⟩⟩
    have hil : i < ks.length := (List.getElem?_eq_some_iff.1 hi).1
    have h5 : w.ownsRow base 28 11 (.slice (some ⟨g, 0, none⟩) ks.length cap) ks.length (ks.flatMap KV.cs) := by rw [← hv]; exact h
    have hc : ∀ j u, j < 11 → k.cs[j]? = some u → w.cell? ⟨g, i * 11 + j, none⟩ = some u := fun j u hj hu => by
      rw [h5.cellAt (i * 11 + j) (by omega), flat_kd ks i j k hi hj, hu]
    rw [Addr.add_lit, Nat.zero_add]
    exact ⟨hc 0 _ (by decide) rfl, hc 1 _ (by decide) rfl, hc 2 _ (by decide) rfl, hc 3 _ (by decide) rfl, hc 4 _ (by decide) rfl, hc 5 _ (by decide) rfl, hc 6 _ (by decide) rfl, hc 7 _ (by decide) rfl, hc 8 _ (by decide) rfl, hc 9 _ (by decide) rfl, hc 10 _ (by decide) rfl⟩
theorem Kdo.len {w : World} {base : Nat} {v : Value} {ks : List KV} (h : Kdo w base v ks) : ∃ a c, v = .slice a ks.length c := by
  obtain ⟨a, c, h1, -⟩ := h.l
  exact ⟨a, c, h1⟩

/-- one more. -/
theorem app_kd {ops : Array Oper} {rest : List Oper} {o : Oper} {a : Act} {Q : Exit → Act → World → Prop} (w : World) (hgd : o.guard = none) (s x : Operand)
    (ho : o.op = .call { callee := .builtin .append, args := #[s, x], argTypes := #[22, 22] }) (base : Nat) (v : Value) (ks : List KV) (hs : a.eval s = v) (hown : Kdo w base v ks)
    (b : Nat) (d : KV) (hx : a.eval x = .slice (some ⟨b, 0, none⟩) 1 1) (hd : Kc w ⟨b, 0, none⟩ d) (hl : ks.length ≤ 1000000) (hbase : base ≤ w.heap.size)
    (h : ∀ g cap w', Kdo w' base (.slice (some ⟨g, 0, none⟩) (ks.length + 1) cap) (ks ++ [d]) → w.grownBy w' v.ownBlock → (v.ownBlock = some g ∨ g = w.heap.size) → g < w'.heap.size → wpList Tryd.prog ops Q rest (a.put o.dst (.slice (some ⟨g, 0, none⟩) (ks.length + 1) cap)) w') :
    wpList Tryd.prog ops Q (o :: rest) a w := by
  obtain ⟨i0, hi, hz0, hz1, hz2⟩ := info_parts info_kd
  refine wpList_append_lies w hgd s x 22 ho base 28 i0 (.agg #[.string ⟨#[]⟩, .int .i64 0, .int .i64 0, .int .i64 0, .int .i64 0, .int .i64 0, .int .i64 0, .int .i64 0, .int .i64 0, .bool false, .bool false]) 11 88 Tryd.underlying22 hi hz0 hz1 hz2 rfl (by decide) v ks.length _ hs hown ⟨b, 0, none⟩ 1 1 d.cs hx rfl ?_ ?_ (by decide) (by unfold maxLen; omega) (by omega) hbase _ rfl ?_
  · intro j u hj
    have hjn : j < 11 := (List.getElem?_eq_some_iff.1 hj).1
    rw [Addr.add_lit, Nat.zero_add]
    match j, hjn, hj with
    | 0, _, hj => simp [KV.cs] at hj; subst hj; exact hd.c0
    | 1, _, hj => simp [KV.cs] at hj; subst hj; exact hd.c1
    | 2, _, hj => simp [KV.cs] at hj; subst hj; exact hd.c2
    | 3, _, hj => simp [KV.cs] at hj; subst hj; exact hd.c3
    | 4, _, hj => simp [KV.cs] at hj; subst hj; exact hd.c4
    | 5, _, hj => simp [KV.cs] at hj; subst hj; exact hd.c5
    | 6, _, hj => simp [KV.cs] at hj; subst hj; exact hd.c6
    | 7, _, hj => simp [KV.cs] at hj; subst hj; exact hd.c7
    | 8, _, hj => simp [KV.cs] at hj; subst hj; exact hd.c8
    | 9, _, hj => simp [KV.cs] at hj; subst hj; exact hd.c9
    | 10, _, hj => simp [KV.cs] at hj; subst hj; exact hd.c10
  · intro u hu
    simp [KV.cs] at hu
    rcases hu with rfl | rfl | rfl | rfl | rfl | rfl | rfl | rfl | rfl | rfl | rfl <;> rfl
  · intro g cap w' h1 h2 h3 h4
    refine h g cap w' ?_ h2 h3 h4
    unfold Kdo
    rw [List.length_append, List.flatMap_append]
    simpa using h1
end Go.Proofs.YtkceccajamdbjaaDoor
