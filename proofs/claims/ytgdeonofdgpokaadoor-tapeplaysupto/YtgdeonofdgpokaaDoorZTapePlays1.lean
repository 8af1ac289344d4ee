/- What stays where one block turns. (Big2 has the same words for texts of its own; where both are wanted, let Big2 import this.) · What a walk is told of a slice of integers that came in. · Lists of integers: what a slice holds. · Bytes that the call itself makes, by append. · Bytes that came in. · A whole list behind another one, where there is nothing in it. · What stays where some blocks turn; two blocks of two types. · Bytes: a whole list behind another one; a part of one. · Lists of texts of bytes: those that came in, and those that the call itself makes. · Frames, as mathematics. · bytes.Clone; tape.first, Frame, Frames. · An error that is told. · A tape in memory: New, fails, Append, Sync, Crash, Bytes, Safe. · A tape in memory: Cut, Fail, Steps. · Lists of lists of integers that came in. -/
import Derived.Test.YtgdeonofdgpokaaDoorRows
import Derived.WalkKit
import Derived.WalkSpells
import Derived.WalkLawsBesides
import Derived.ProofKit
import Derived.Deep.QuietTactic
import Derived.BigQuiet
import Derived.OwnWalk
import Derived.Deep.AppendLies
import Derived.Lib.Bytealg
import Derived.Laws.AppendOwnNone
import Derived.Laws.IdiomStrings
import Derived.LoopN
import Derived.Deep.DeepCutAuto
import Derived.Lib.SliceRun
import Derived.Deep.Slices
import Derived.OpenShut
namespace Go.Proofs.YtgdeonofdgpokaaDoor
open Go.RowKit

/-- nothing below has turned but block z. -/
structure Kp (z : Nat) (w w' : World) : Prop where
  os : w'.os = w.os
  tape : w'.tape = w.tape
  output : w'.output = w.output
  size : w.heap.size ≤ w'.heap.size
  block : ∀ k, k < w.heap.size → k ≠ z → w'.heap[k]? = w.heap[k]?

theorem Kp.of {z : Nat} {w w' : World} (h : Below w.heap.size w w') : Kp z w w' := ⟨h.os, h.tape, h.output, h.size, fun k hk _ => h.block k hk⟩
theorem Kp.refl (z : Nat) (w : World) : Kp z w w := Kp.of (Below.refl _ _)
theorem Kp.trans {z : Nat} {a b c : World} (h : Kp z a b) (k : Kp z b c) : Kp z a c :=
  ⟨k.os.trans h.os, k.tape.trans h.tape, k.output.trans h.output, Nat.le_trans h.size k.size, fun i hi hz => (k.block i (Nat.lt_of_lt_of_le hi h.size) hz).trans (h.block i hi hz)⟩
theorem Kp.set {z : Nat} (w : World) (i : Nat) (u : Value) : Kp z w (w.setCell ⟨z, i, none⟩ u) :=
  ⟨rfl, rfl, rfl, by simp [World.setCell], fun k _ hz => Below.heap_setCell _ _ _ _ hz⟩
theorem Kp.below {z B : Nat} {a w w' : World} (h : Below B a w) (k : Kp z w w') (hB : B ≤ w.heap.size) (hz : B ≤ z) : Below B a w' :=
  h.trans ⟨k.os, k.tape, k.output, k.size, fun i hi => k.block i (by omega) (by omega)⟩

theorem Kp.set_new {z b : Nat} {w W : World} (h : Kp z w W) (hb : w.heap.size ≤ b) (i : Nat) (u : Value) : Kp z w (W.setCell ⟨b, i, none⟩ u) :=
  ⟨h.os, h.tape, h.output, by simpa [World.setCell] using h.size, fun k hk hz => (Below.heap_setCell _ _ _ _ (by show k ≠ b; omega)).trans (h.block k hk hz)⟩
theorem Kp.drewN {z : Nat} {w W : World} (h : Kp z w W) (n : Nat) : Kp z w (W.drewN n) := ⟨h.os, h.tape, h.output, h.size, h.block⟩

theorem lt_of_block {w : World} {b : Nat} {o : Obj} (h : w.heap[b]? = some o) : b < w.heap.size := by
  rcases Nat.lt_or_ge b w.heap.size with h1 | h1
  · exact h1
  · rw [Array.getElem?_eq_none h1] at h; cases h

end Go.Proofs.YtgdeonofdgpokaaDoor

namespace Go.Proofs.YtgdeonofdgpokaaDoor

/-- nil, or a row of cells: the numbers zs, of which the first len are the elements. -/
def IsRow (k : IntKind) (w : World) (a : Option Addr) (len cap : Nat) (zs : List Int) : Prop :=
  (a = none ∧ len = 0 ∧ cap = 0 ∧ zs = []) ∨
  ∃ x, a = some x ∧ len ≤ cap ∧ cap ≤ maxLen ∧ zs.length = cap ∧ (∀ i, i < zs.length → w.cell? (x.add i) = some (.int k (zs.getD i 0))) ∧ ∀ n ∈ zs, (Lit.int k n).wf = true
end Go.Proofs.YtgdeonofdgpokaaDoor

namespace Go.Proofs.YtgdeonofdgpokaaDoor
open Go.RowKit

/-- the cells of a list, from an address on. -/
def Cells (w : World) (a : Option Addr) (xs : List Int) : Prop := xs ≠ [] → ∃ x, a = some x ∧ x.block < w.heap.size ∧ ∀ i d, xs[i]? = some d → w.cell? (x.add i) = some (.int .i64 d)
/-- v is a slice of the integers xs. -/
def Ro (w : World) (v : Value) (xs : List Int) : Prop := ∃ (a : Option Addr) (c : Nat), v = .slice a xs.length c ∧ xs.length ≤ c ∧ c ≤ 9223372036854775807 ∧ Cells w a xs

theorem cell_lt {w : World} {x : Addr} {v : Value} (h : w.cell? x = some v) : x.block < w.heap.size := by
  rcases Nat.lt_or_ge x.block w.heap.size with h1 | h1
  · exact h1
  · simp [World.cell?, Array.getElem?_eq_none h1] at h

theorem add_block (x : Addr) (i : Nat) : (x.add i).block = x.block := by unfold Addr.add; split <;> rfl

theorem Cells.below {w w' : World} {a : Option Addr} {xs : List Int} (h : Cells w a xs) (hb : Below w.heap.size w w') : Cells w' a xs := fun hx => by
  obtain ⟨x, ha, hl, hc⟩ := h hx
  refine ⟨x, ha, Nat.lt_of_lt_of_le hl hb.size, fun i d hd => ?_⟩
  rw [hb.cell (p := x.add i) (by rw [add_block]; exact hl)]
  exact hc i d hd
theorem Ro.below {w w' : World} {v : Value} {xs : List Int} (h : Ro w v xs) (hb : Below w.heap.size w w') : Ro w' v xs := by
  obtain ⟨a, c, h1, h2, h3, h4⟩ := h
  exact ⟨a, c, h1, h2, h3, h4.below hb⟩
theorem Ro.drewN {w : World} {v : Value} {xs : List Int} (h : Ro w v xs) (n : Nat) : Ro (w.drewN n) v xs := h.below (_root_.Go.below_drewN (Below.refl _ _) n)

/-- what came in. -/
theorem IsRow.ro {w : World} {a : Option Addr} {len cap : Nat} {zs : List Int} (h : IsRow .i64 w a len cap zs) : Ro w (.slice a len cap) (zs.take len) := by
  rcases h with ⟨rfl, rfl, rfl, rfl⟩ | ⟨x, rfl, h1, h2, h3, h4, h5⟩
  · exact ⟨none, 0, rfl, Nat.le_refl _, by omega, fun h => absurd rfl h⟩
  · have hl : (zs.take len).length = len := by rw [List.length_take]; omega
    refine ⟨some x, cap, by rw [hl], by omega, by unfold maxLen at h2; omega, fun hx => ⟨x, rfl, ?_, fun i d hd => ?_⟩⟩
    · have h0 : 0 < zs.length := by
        rcases Nat.eq_zero_or_pos zs.length with h | h
        · exact absurd (by rw [List.length_eq_zero_iff.1 h]; simp) hx
        · exact h
      have := cell_lt (x := x.add 0) (h4 0 h0)
      rwa [add_block] at this
    · rw [List.getElem?_take] at hd
      split at hd
      · obtain ⟨hi, he⟩ := List.getElem?_eq_some_iff.1 hd
        rw [h4 i hi, List.getD_eq_getElem?_getD, hd]
        rfl
      · cases hd
end Go.Proofs.YtgdeonofdgpokaaDoor

namespace Go.Proofs.YtgdeonofdgpokaaDoor
open Go.RowKit
set_option linter.unusedVariables false

/-- the bytes of a list, as cells. -/
def byteCells (l : List UInt8) : List Value := l.map fun b => .int .u8 (b.toNat : Nat)
theorem info_byte : (Tryd.prog.info? 5).map (fun i => (i.zero, i.size, i.bytes)) = some (some (.int .u8 0), 1, 1) := by kernel_rfl
/-- v is a slice of the bytes l, in a block of its own from base on. -/
def Ob (w : World) (base : Nat) (v : Value) (l : List UInt8) : Prop := w.ownsRow base 5 1 v l.length (byteCells l)
theorem Ob.nil (w : World) (base : Nat) : Ob w base (.slice none 0 0) [] := World.ownsRow_nil _ _ _ _
theorem Ob.alloc {w : World} {base : Nat} {v : Value} {l : List UInt8} (h : Ob w base v l) (o : Obj) : Ob (w.alloc o) base v l := World.ownsRow.alloc h o
theorem Ob.drew {w : World} {base : Nat} {v : Value} {l : List UInt8} (h : Ob w base v l) : Ob w.drew base v l := h
theorem Ob.block {w : World} {base : Nat} {v : Value} {l : List UInt8} (h : Ob w base v l) : ∀ k, v.ownBlock = some k → base ≤ k ∧ k < w.heap.size := World.ownsRow.lt h

theorem byteCells_snoc (l : List UInt8) (b : UInt8) : byteCells (l ++ [b]) = byteCells l ++ [.int .u8 (b.toNat : Nat)] := by simp [byteCells]

theorem Ob.len {w : World} {base : Nat} {v : Value} {l : List UInt8} (h : Ob w base v l) : ∃ a c, v = .slice a l.length c := by
  rcases h.2 with ⟨hv, h0⟩ | ⟨g, cap, cur, hv, _⟩
  · exact ⟨none, 0, by rw [hv, h0]⟩
  · exact ⟨_, _, hv⟩
theorem Ob.text {w : World} {base : Nat} {v : Value} {l : List UInt8} (h : Ob w base v l) (hl : 0 < l.length) :
    ∃ g cap, v = .slice (some ⟨g, 0, none⟩) l.length cap ∧ ∀ j (hj : j < l.length), w.cell? ((⟨g, 0, none⟩ : Addr).add j) = some (.int .u8 (l[j].toNat : Int)) := by
  obtain ⟨g, cap, hv, -, -⟩ := World.ownsRow.form h hl
  refine ⟨g, cap, hv, fun j hj => ?_⟩
  subst hv
  rw [Addr.add_lit, Nat.zero_add, World.ownsRow.cellAt h j (by omega)]
  simp [byteCells, List.getElem?_eq_getElem hj]
theorem step_app_byte {ops : Array Oper} {o : Oper} {a : Act} {K : Act → World → Prop} {Q : Exit → Act → World → Prop} {E : Prop} (w : World) (hgd : o.guard = none) (s x : Operand)
    (ho : o.op = .call { callee := .builtin .append, args := #[s, x], argTypes := #[23, 23] }) (base : Nat) (v : Value) (l : List UInt8) (hs : a.eval s = v) (hown : Ob w base v l)
    (ad : Addr) (b : UInt8) (hx : a.eval x = .slice (some ad) 1 1) (hd : w.cell? ad = some (.int .u8 (b.toNat : Nat))) (hl : l.length ≤ 2000000000) (hbase : base ≤ w.heap.size)
    (h : ∀ g cap w', Ob w' base (.slice (some ⟨g, 0, none⟩) (l.length + 1) cap) (l ++ [b]) → w.grownBy w' v.ownBlock → g < w'.heap.size → K (a.put o.dst (.slice (some ⟨g, 0, none⟩) (l.length + 1) cap)) w') :
    if Region.wanted o (yielded ops a.tmps) = true then Oper.wp Tryd.prog o a w K Q else E := by
  obtain ⟨i0, hi, hz0, hz1, hz2⟩ := info_parts info_byte
  refine step_append_lies w hgd s x 23 ho base 5 i0 (.int .u8 0) 1 1 Tryd.underlying23 hi hz0 hz1 hz2 rfl (by decide) v l.length _ hs hown ad 1 1 [.int .u8 (b.toNat : Nat)] hx rfl ?_ ?_ (by decide) (by unfold maxLen; omega) (by omega) hbase _ rfl ?_
  · intro j u hj
    match j, hj with
    | 0, hj => simp at hj; subst hj; exact hd
  · intro u hu
    simp at hu
    subst hu
    rfl
  · intro g cap w' h1 h2 h3 h4
    refine h g cap w' ?_ h2 h4
    unfold Ob
    rw [List.length_append, byteCells_snoc]
    exact h1
theorem app_byte {ops : Array Oper} {rest : List Oper} {o : Oper} {a : Act} {Q : Exit → Act → World → Prop} (w : World) (hgd : o.guard = none) (s x : Operand)
    (ho : o.op = .call { callee := .builtin .append, args := #[s, x], argTypes := #[23, 23] }) (base : Nat) (v : Value) (l : List UInt8) (hs : a.eval s = v) (hown : Ob w base v l)
    (ad : Addr) (b : UInt8) (hx : a.eval x = .slice (some ad) 1 1) (hd : w.cell? ad = some (.int .u8 (b.toNat : Nat))) (hl : l.length ≤ 2000000000) (hbase : base ≤ w.heap.size)
    (h : ∀ g cap w', Ob w' base (.slice (some ⟨g, 0, none⟩) (l.length + 1) cap) (l ++ [b]) → w.grownBy w' v.ownBlock → g < w'.heap.size → wpList Tryd.prog ops Q rest (a.put o.dst (.slice (some ⟨g, 0, none⟩) (l.length + 1) cap)) w') :
    wpList Tryd.prog ops Q (o :: rest) a w := by
  obtain ⟨i0, hi, hz0, hz1, hz2⟩ := info_parts info_byte
  refine wpList_append_lies w hgd s x 23 ho base 5 i0 (.int .u8 0) 1 1 Tryd.underlying23 hi hz0 hz1 hz2 rfl (by decide) v l.length _ hs hown ad 1 1 [.int .u8 (b.toNat : Nat)] hx rfl ?_ ?_ (by decide) (by unfold maxLen; omega) (by omega) hbase _ rfl ?_
  · intro j u hj
    match j, hj with
    | 0, hj => simp at hj; subst hj; exact hd
  · intro u hu
    simp at hu
    subst hu
    rfl
  · intro g cap w' h1 h2 h3 h4
    refine h g cap w' ?_ h2 h4
    unfold Ob
    rw [List.length_append, byteCells_snoc]
    exact h1

end Go.Proofs.YtgdeonofdgpokaaDoor

namespace Go.Proofs.YtgdeonofdgpokaaDoor
open Go.RowKit
set_option linter.unusedVariables false

/-- v is a slice of the bytes l. -/
def By (w : World) (v : Value) (l : List UInt8) : Prop := ∃ (a : Option Addr) (c : Nat), v = .slice a l.length c ∧ l.length ≤ c ∧ c ≤ maxLen ∧ (l ≠ [] → ∃ x, a = some x ∧ x.block < w.heap.size ∧ ∀ (i : Nat) d, l[i]? = some d → w.cell? (x.add i) = some (.int .u8 (d.toNat : Int)))
theorem By.below {w w' : World} {v : Value} {l : List UInt8} (h : By w v l) (hb : Below w.heap.size w w') : By w' v l := by
  obtain ⟨a, c, h1, h2, h3, h4⟩ := h
  refine ⟨a, c, h1, h2, h3, fun hn => ?_⟩
  obtain ⟨x, e, hx, hk⟩ := h4 hn
  refine ⟨x, e, Nat.lt_of_lt_of_le hx hb.size, fun i d hi => ?_⟩
  rw [hb.cell (p := x.add i) (by rw [add_block]; exact hx)]
  exact hk i d hi
end Go.Proofs.YtgdeonofdgpokaaDoor

namespace Go.Proofs.YtgdeonofdgpokaaDoor
open Go.RowKit
set_option linter.unusedVariables false

theorem run_append_no {P : Program} {w : World} (base : Nat) (t ty e : TypeId) (i : TypeInfo) (size : Nat) (ht : P.underlying t = some (.slice e)) (hi : P.info? e = some i)
    (v : Value) (n : Nat) (xs : List Value) (hown : w.ownsRow base e size v n xs) (a : Option Addr) (c : Nat) :
    (Builtin.append_ #[t, t] ty #[v, .slice a 0 c]).run P w = .ok v w := by
  rcases hown.2 with ⟨rfl, rfl⟩ | ⟨g, cap, cur, rfl, _, _, hnc, _⟩
  · cases a <;> simp [Builtin.append_, run_underlying ht, sizeOf, typeInfo, hi, Builtin.lenOf, Builtin.firstCells, loadCells, loadCellsFrom]
  · cases a <;> simp [Builtin.append_, run_underlying ht, sizeOf, typeInfo, hi, Builtin.lenOf, Builtin.firstCells, hnc, storeCells, loadCells, loadCellsFrom]
end Go.Proofs.YtgdeonofdgpokaaDoor

namespace Go.Proofs.YtgdeonofdgpokaaDoor
open Go.RowKit
set_option linter.unusedVariables false

/-- nothing below has turned but the blocks of S. -/
structure Fr (S : Nat → Prop) (w w' : World) : Prop where
  os : w'.os = w.os
  tape : w'.tape = w.tape
  output : w'.output = w.output
  size : w.heap.size ≤ w'.heap.size
  block : ∀ k, k < w.heap.size → ¬ S k → w'.heap[k]? = w.heap[k]?
theorem Fr.below {S : Nat → Prop} {w w' : World} (h : Below w.heap.size w w') : Fr S w w' := ⟨h.os, h.tape, h.output, h.size, fun k hk _ => h.block k hk⟩
theorem Fr.kp {S : Nat → Prop} {w w' : World} {z : Nat} (h : Kp z w w') (hz : S z) : Fr S w w' := ⟨h.os, h.tape, h.output, h.size, fun k hk hn => h.block k hk (fun e => hn (e ▸ hz))⟩
theorem Fr.gb {S : Nat → Prop} {w w' : World} {r : Option Nat} (h : w.grownBy w' r) (hr : ∀ k, r = some k → S k) : Fr S w w' := ⟨h.os, h.tape, h.output, h.size, fun k hk hn => h.block k hk (fun e => hn (hr k e.symm))⟩
theorem Fr.trans {S : Nat → Prop} {a b c : World} (h : Fr S a b) (k : Fr S b c) : Fr S a c :=
  ⟨k.os.trans h.os, k.tape.trans h.tape, k.output.trans h.output, Nat.le_trans h.size k.size, fun i hi hn => (k.block i (Nat.lt_of_lt_of_le hi h.size) hn).trans (h.block i hi hn)⟩
theorem Fr.mono {S T : Nat → Prop} {a b : World} (h : Fr S a b) (hs : ∀ k, S k → T k) : Fr T a b := ⟨h.os, h.tape, h.output, h.size, fun k hk hn => h.block k hk (fun e => hn (hs k e))⟩
theorem Fr.low {S : Nat → Prop} {w w' : World} {n : Nat} (h : Fr S w w') (hn : n ≤ w.heap.size) (hs : ∀ k, S k → n ≤ k) : Below n w w' := ⟨h.os, h.tape, h.output, h.size, fun k hk => h.block k (by omega) (fun e => by have := hs k e; omega)⟩
theorem Fr.own {S : Nat → Prop} {w w' : World} {base : Nat} {T : TypeId} {size : Nat} {u : Value} {n : Nat} {cs : List Value} (f : Fr S w w') (h : w.ownsRow base T size u n cs) (hn : ∀ b, u.ownBlock = some b → ¬ S b) : w'.ownsRow base T size u n cs := by
  refine ⟨h.1, ?_⟩
  rcases h.2 with h1 | ⟨g, cap, cur, h1, h2, h3, h4⟩
  · exact .inl h1
  · exact .inr ⟨g, cap, cur, h1, h2, (f.block g (lt_of_block h3) (hn g (by rw [h1]; rfl))).trans h3, h4⟩
theorem Fr.cell {S : Nat → Prop} {w w' : World} {p : Addr} {u : Value} (f : Fr S w w') (h : w.cell? p = some u) (hn : ¬ S p.block) : w'.cell? p = some u := by
  have hl := cell_lt h
  have e := f.block p.block hl hn
  unfold World.cell? at h ⊢
  rw [e]
  exact h
theorem own_two {w : World} {b1 b2 : Nat} {T S : TypeId} {s1 s2 : Nat} {u v : Value} {n m : Nat} {cs ds : List Value} (h : w.ownsRow b1 T s1 u n cs) (k : w.ownsRow b2 S s2 v m ds) (hT : T ≠ S) : ∀ b, u.ownBlock = some b → ¬ v.ownBlock = some b := by
  intro b hb hv
  rcases h.2 with ⟨h1, -⟩ | ⟨g, cap, cur, h1, -, h3, -⟩
  · rw [h1] at hb; cases hb
  · rcases k.2 with ⟨k1, -⟩ | ⟨g', cap', cur', k1, -, k3, -⟩
    · rw [k1] at hv; cases hv
    · rw [h1] at hb
      rw [k1] at hv
      simp [Value.ownBlock] at hb hv
      subst hb
      subst hv
      rw [h3] at k3
      injection k3 with k3
      injection k3 with _ k4
      exact hT k4
end Go.Proofs.YtgdeonofdgpokaaDoor

namespace Go.Proofs.YtgdeonofdgpokaaDoor
open Go.RowKit
set_option linter.unusedVariables false

theorem Ob.by_ {w : World} {base : Nat} {v : Value} {l : List UInt8} (h : Ob w base v l) : By w v l := by
  rcases h.2 with ⟨hv, h0⟩ | ⟨g, cap, cur, hv, hb, hg, h1, h2, h3, h4⟩
  · exact ⟨none, 0, by rw [hv, h0], by omega, by omega, fun hn => absurd (List.length_eq_zero_iff.1 h0) hn⟩
  · refine ⟨_, cap, hv, h1, h2, fun hn => ⟨_, rfl, lt_of_block hg, fun i d hd => ?_⟩⟩
    have hi : i < l.length := (List.getElem?_eq_some_iff.1 hd).1
    rw [Addr.add_lit, Nat.zero_add]
    have h5 : w.ownsRow base 5 1 (.slice (some ⟨g, 0, none⟩) l.length cap) l.length (byteCells l) := by rw [← hv]; exact h
    rw [h5.cellAt i (by omega), byteCells, List.getElem?_map, hd]
    rfl
theorem By.take {w : World} {ad : Option Addr} {n c k : Nat} {l : List UInt8} (h : By w (.slice ad n c) l) (hk : k ≤ l.length) : By w (.slice ad k c) (l.take k) := by
  obtain ⟨a, c', e, h1, h2, h3⟩ := h
  injection e with e1 e2 e3
  subst e1 e3
  have hl : (l.take k).length = k := by rw [List.length_take]; omega
  refine ⟨ad, c, by rw [hl], by omega, h2, fun hn => ?_⟩
  obtain ⟨x, e, hx, hc⟩ := h3 (by intro h; subst h; simp at hn)
  refine ⟨x, e, hx, fun i d hd => hc i d ?_⟩
  rw [List.getElem?_take] at hd
  split at hd
  · exact hd
  · cases hd
set_option maxRecDepth 100000 in
theorem By.conv {w : World} {ad : Option Addr} {n c : Nat} {l : List UInt8} (h : By w (.slice ad n c) l) : (convert 23 9 (.slice ad n c)).run Tryd.prog w = .ok (.string ⟨l.toArray⟩) w := by
  obtain ⟨a, c', e, h1, h2, h3⟩ := h
  injection e with e1 e2 e3
  subst e1 e2 e3
  by_cases hn : l = []
  · subst hn
    cases ad with
    | none => rw [show ([] : List UInt8).length = 0 from rfl, run_convert_bytes_string w 23 9 5 none 0 c Tryd.underlying23 Tryd.underlying5 Tryd.underlying9]; rfl
    | some a => exact run_convert_bytes_back (P := Tryd.prog) w 23 9 5 a c [] Tryd.underlying23 Tryd.underlying5 Tryd.underlying9 (fun j hj => by simp at hj)
  · obtain ⟨x, rfl, hx, hc⟩ := h3 hn
    exact run_convert_bytes_back (P := Tryd.prog) w 23 9 5 x c l Tryd.underlying23 Tryd.underlying5 Tryd.underlying9 (fun j hj => hc j _ (List.getElem?_eq_getElem hj))
theorem app_bytes {ops : Array Oper} {rest : List Oper} {o : Oper} {a : Act} {Q : Exit → Act → World → Prop} (w : World) (hgd : o.guard = none) (s x : Operand)
    (ho : o.op = .call { callee := .builtin .append, args := #[s, x], argTypes := #[23, 23] }) (base : Nat) (v : Value) (xs : List UInt8) (hs : a.eval s = v) (hown : Ob w base v xs)
    (u : Value) (ys : List UInt8) (hx : a.eval x = u) (hu : By w u ys) (hl : xs.length + ys.length ≤ 1000000000) (hbase : base ≤ w.heap.size)
    (h : ∀ v' w', Ob w' base v' (xs ++ ys) → w.grownBy w' v.ownBlock → wpList Tryd.prog ops Q rest (a.put o.dst v') w') :
    wpList Tryd.prog ops Q (o :: rest) a w := by
  obtain ⟨i0, hi, hz0, hz1, hz2⟩ := info_parts info_byte
  obtain ⟨ad, c, rfl, h1, h2, h3⟩ := hu
  by_cases hn : ys = []
  · subst hn
    refine wpList_plain hgd fun K hK => ?_
    have hrun := run_append_no (P := Tryd.prog) (w := w) base 23 o.type 5 i0 1 Tryd.underlying23 hi v xs.length _ hown ad c
    have hx' : a.eval x = .slice ad 0 c := hx
    unfold Oper.wp
    simp [execOp, ho, resolve, invoke, builtin, hs, hx', hrun, Result.andThen]
    exact hK _ _ (h v w (by simpa using hown) (World.grownBy.refl _ _))
  · obtain ⟨y, rfl, hy, hc⟩ := h3 hn
    refine wpList_append_own w hgd s x 23 ho base 5 i0 (.int .u8 0) 1 1 Tryd.underlying23 hi hz0 hz1 hz2 rfl (by decide) v xs.length _ hs hown y ys.length c (byteCells ys) hx (by simp [byteCells]) ?_ ?_ (by unfold maxLen; omega) (by omega) hbase ?_
    · intro j u hj
      rw [byteCells, List.getElem?_map] at hj
      cases hd : ys[j]? with
      | none => rw [hd] at hj; cases hj
      | some d => rw [hd] at hj; cases hj; exact hc j d hd
    · intro u hu
      simp only [byteCells, List.mem_map] at hu
      obtain ⟨b, -, rfl⟩ := hu
      rfl
    · intro v' w' k1 k2 _
      refine h v' w' ?_ k2
      unfold Ob
      rw [List.length_append, byteCells, List.map_append]
      exact k1
theorem Ob.take {w : World} {base : Nat} {ad : Option Addr} {n c k : Nat} {l : List UInt8} (h : Ob w base (.slice ad n c) l) (hk : k ≤ l.length) : Ob w base (.slice ad k c) (l.take k) := by
  have hl : (l.take k).length = k := by rw [List.length_take]; omega
  refine ⟨by rw [hl]; simp [byteCells]; omega, ?_⟩
  rw [hl]
  rcases h.2 with ⟨h1, h2⟩ | ⟨g, cap, cur, h1, h2, h3, h4, h5, h6, h7⟩
  · injection h1 with e1 e2 e3
    subst e1 e2 e3
    have : k = 0 := by omega
    subst this
    exact .inl ⟨rfl, rfl⟩
  · injection h1 with e1 e2 e3
    subst e1 e2 e3
    refine .inr ⟨g, c, cur, rfl, h2, h3, by omega, h5, h6, ?_⟩
    have e : byteCells (l.take k) = (byteCells l).take k := by simp [byteCells, List.map_take]
    rw [e, ← h7, List.take_take]
    congr 1
    omega
theorem Ob.below {w w' : World} {base : Nat} {v : Value} {l : List UInt8} (h : Ob w base v l) (hb : Below w.heap.size w w') : Ob w' base v l :=
  World.ownsRow.kept h (row := none) ⟨hb.os, hb.tape, hb.output, hb.size, fun k hk _ => hb.block k hk⟩ (by cases v.ownBlock <;> simp)
/-- a whole list behind another one, and where it lies. -/
theorem app_bytes2 {ops : Array Oper} {rest : List Oper} {o : Oper} {a : Act} {Q : Exit → Act → World → Prop} (w : World) (hgd : o.guard = none) (s x : Operand)
    (ho : o.op = .call { callee := .builtin .append, args := #[s, x], argTypes := #[23, 23] }) (base : Nat) (v : Value) (xs : List UInt8) (hs : a.eval s = v) (hown : Ob w base v xs)
    (u : Value) (ys : List UInt8) (hx : a.eval x = u) (hu : By w u ys) (hl : xs.length + ys.length ≤ 1000000000) (hbase : base ≤ w.heap.size)
    (h : ∀ v' w', Ob w' base v' (xs ++ ys) → w.grownBy w' v.ownBlock → (v'.ownBlock = v.ownBlock ∨ v'.ownBlock = some w.heap.size) → wpList Tryd.prog ops Q rest (a.put o.dst v') w') :
    wpList Tryd.prog ops Q (o :: rest) a w := by
  obtain ⟨i0, hi, hz0, hz1, hz2⟩ := info_parts info_byte
  obtain ⟨ad, c, rfl, h1, h2, h3⟩ := hu
  by_cases hn : ys = []
  · subst hn
    refine wpList_plain hgd fun K hK => ?_
    have hrun := run_append_no (P := Tryd.prog) (w := w) base 23 o.type 5 i0 1 Tryd.underlying23 hi v xs.length _ hown ad c
    have hx' : a.eval x = .slice ad 0 c := hx
    unfold Oper.wp
    simp [execOp, ho, resolve, invoke, builtin, hs, hx', hrun, Result.andThen]
    exact hK _ _ (h v w (by simpa using hown) (World.grownBy.refl _ _) (.inl rfl))
  · obtain ⟨y, rfl, hy, hc⟩ := h3 hn
    refine wpList_append_lies w hgd s x 23 ho base 5 i0 (.int .u8 0) 1 1 Tryd.underlying23 hi hz0 hz1 hz2 rfl (by decide) v xs.length _ hs hown y ys.length c (byteCells ys) hx (by simp [byteCells]) ?_ ?_ (List.length_pos_iff.2 hn) (by unfold maxLen; omega) (by omega) hbase _ rfl ?_
    · intro j u hj
      rw [byteCells, List.getElem?_map] at hj
      cases hd : ys[j]? with
      | none => rw [hd] at hj; cases hj
      | some d => rw [hd] at hj; cases hj; exact hc j d hd
    · intro u hu
      simp only [byteCells, List.mem_map] at hu
      obtain ⟨b, -, rfl⟩ := hu
      rfl
    · intro g cap w' k1 k2 k3 _
      refine h _ w' ?_ k2 ?_
      · unfold Ob
        rw [List.length_append, byteCells, List.map_append]
        exact k1
      · rcases k3 with k3 | k3
        · exact .inl k3.symm
        · exact .inr (by rw [k3]; rfl)
end Go.Proofs.YtgdeonofdgpokaaDoor

namespace Go.Proofs.YtgdeonofdgpokaaDoor
open Go.RowKit
set_option linter.unusedVariables false

theorem info_lb : (Tryd.prog.info? 23).map (fun i => (i.zero, i.size, i.bytes)) = some (some (.slice none 0 0), 1, 24) := by kernel_rfl
/-- v is a slice of the values vs, in a block of its own from base on. -/
def Lb (w : World) (base : Nat) (v : Value) (vs : List Value) : Prop := w.ownsRow base 23 1 v vs.length vs
theorem Lb.nil (w : World) (base : Nat) : Lb w base (.slice none 0 0) [] := World.ownsRow_nil _ _ _ _
theorem Lb.below {w w' : World} {base : Nat} {v : Value} {vs : List Value} (h : Lb w base v vs) (hb : Below w.heap.size w w') : Lb w' base v vs :=
  World.ownsRow.kept h (row := none) ⟨hb.os, hb.tape, hb.output, hb.size, fun k hk _ => hb.block k hk⟩ (by cases v.ownBlock <;> simp)
theorem Lb.alloc {w : World} {base : Nat} {v : Value} {vs : List Value} (h : Lb w base v vs) (o : Obj) : Lb (w.alloc o) base v vs := World.ownsRow.alloc h o
theorem Lb.block {w : World} {base : Nat} {v : Value} {vs : List Value} (h : Lb w base v vs) : ∀ k, v.ownBlock = some k → base ≤ k ∧ k < w.heap.size := World.ownsRow.lt h
/-- its cells. -/
theorem Lb.cells {w : World} {base : Nat} {v : Value} {vs : List Value} (h : Lb w base v vs) : ∃ a c, v = .slice a vs.length c ∧ vs.length ≤ c ∧ c ≤ 9223372036854775807 ∧ (vs ≠ [] → ∃ g, a = some ⟨g, 0, none⟩ ∧ base ≤ g ∧ g < w.heap.size ∧ ∀ (i : Nat) b, vs[i]? = some b → w.cell? ⟨g, i, none⟩ = some b) := by
  rcases h.2 with ⟨hv, h0⟩ | ⟨g, cap, cur, hv, hb, hg, h1, h2, h3, h4⟩
  · exact ⟨none, 0, by rw [hv, h0], by omega, by omega, fun hn => absurd (List.length_eq_zero_iff.1 h0) hn⟩
  · refine ⟨_, cap, hv, h1, by unfold maxLen at h2; omega, fun _ => ⟨g, rfl, hb, lt_of_block hg, fun i b hbi => ?_⟩⟩
    have hi : i < vs.length := (List.getElem?_eq_some_iff.1 hbi).1
    have h5 : w.ownsRow base 23 1 (.slice (some ⟨g, 0, none⟩) vs.length cap) vs.length vs := by rw [← hv]; exact h
    rw [h5.cellAt i (by omega), hbi]
/-- one more. -/
theorem app_lb {ops : Array Oper} {rest : List Oper} {o : Oper} {a : Act} {Q : Exit → Act → World → Prop} (w : World) (hgd : o.guard = none) (s x : Operand)
    (ho : o.op = .call { callee := .builtin .append, args := #[s, x], argTypes := #[38, 38] }) (base : Nat) (v : Value) (vs : List Value) (hs : a.eval s = v) (hown : Lb w base v vs)
    (ad : Addr) (p : Option Addr) (n c : Nat) (hx : a.eval x = .slice (some ad) 1 1) (hd : w.cell? ad = some (.slice p n c)) (hl : vs.length ≤ 2000000) (hbase : base ≤ w.heap.size)
    (h : ∀ g cap w', Lb w' base (.slice (some ⟨g, 0, none⟩) (vs.length + 1) cap) (vs ++ [.slice p n c]) → w.grownBy w' v.ownBlock → (v.ownBlock = some g ∨ g = w.heap.size) → g < w'.heap.size → wpList Tryd.prog ops Q rest (a.put o.dst (.slice (some ⟨g, 0, none⟩) (vs.length + 1) cap)) w') :
    wpList Tryd.prog ops Q (o :: rest) a w := by
  obtain ⟨i0, hi, hz0, hz1, hz2⟩ := info_parts info_lb
  refine wpList_append_lies w hgd s x 38 ho base 23 i0 (.slice none 0 0) 1 24 Tryd.underlying38 hi hz0 hz1 hz2 rfl (by decide) v vs.length _ hs hown ad 1 1 [.slice p n c] hx rfl ?_ ?_ (by decide) (by unfold maxLen; omega) (by omega) hbase _ rfl ?_
  · intro j u hj
    match j, hj with
    | 0, hj => simp at hj; subst hj; exact hd
  · intro u hu
    simp at hu
    subst hu
    rfl
  · intro g cap w' h1 h2 h3 h4
    refine h g cap w' ?_ h2 h3 h4
    unfold Lb
    rw [List.length_append]
    exact h1
/-- bytes, in a block of their own where there are any. -/
def Be (w : World) (base : Nat) (v : Value) (l : List UInt8) : Prop := (l = [] ∧ ∃ a c, v = .slice a 0 c ∧ c ≤ maxLen) ∨ Ob w base v l
theorem Be.by_ {w : World} {base : Nat} {v : Value} {l : List UInt8} (h : Be w base v l) : By w v l := by
  rcases h with ⟨rfl, a, c, rfl, hc⟩ | h
  · exact ⟨a, c, rfl, Nat.zero_le _, hc, fun h => absurd rfl h⟩
  · exact h.by_
theorem Be.below {w w' : World} {base : Nat} {v : Value} {l : List UInt8} (h : Be w base v l) (hb : Below w.heap.size w w') : Be w' base v l := by
  rcases h with h | h
  · exact .inl h
  · exact .inr (h.below hb)
theorem Be.base {w : World} {b c : Nat} {v : Value} {l : List UInt8} (h : Be w b v l) (hb : c ≤ b) : Be w c v l := by
  rcases h with h | h
  · exact .inl h
  · refine .inr ⟨h.1, ?_⟩
    rcases h.2 with h1 | ⟨g, cap, cur, h1, h2, h3⟩
    · exact .inl h1
    · exact .inr ⟨g, cap, cur, h1, by omega, h3⟩
/-- it stays where a row of lists grows. -/
theorem Be.grown {w w' : World} {base b2 : Nat} {v u : Value} {l : List UInt8} {vs : List Value} (h : Be w base v l) (k : Lb w b2 u vs) (g : w.grownBy w' u.ownBlock) : Be w' base v l := by
  rcases h with h | h
  · exact .inl h
  · exact .inr ((Fr.gb (S := fun b => u.ownBlock = some b) g (fun b hb => hb)).own h (own_two h k (by decide)))
/-- v is a list of texts, all of them its own. -/
def Bls (w : World) (base : Nat) (v : Value) (ls : List (List UInt8)) : Prop := ∃ vs, Lb w base v vs ∧ vs.length = ls.length ∧ ∀ (i : Nat) l, ls[i]? = some l → ∃ x, vs[i]? = some x ∧ Be w base x l
theorem Bls.nil (w : World) (base : Nat) : Bls w base (.slice none 0 0) [] := ⟨[], Lb.nil w base, rfl, fun i l h => by simp at h⟩
theorem Bls.below {w w' : World} {base : Nat} {v : Value} {ls : List (List UInt8)} (h : Bls w base v ls) (hb : Below w.heap.size w w') : Bls w' base v ls := by
  obtain ⟨vs, h1, h2, h3⟩ := h
  refine ⟨vs, h1.below hb, h2, fun i l hl => ?_⟩
  obtain ⟨x, hx, hy⟩ := h3 i l hl
  exact ⟨x, hx, hy.below hb⟩
/-- v is a list of texts. -/
def Bll (w : World) (v : Value) (ls : List (List UInt8)) : Prop := ∃ a c, v = .slice a ls.length c ∧ ls.length ≤ c ∧ c ≤ 9223372036854775807 ∧ (ls ≠ [] → ∃ x, a = some x ∧ x.block < w.heap.size ∧ ∀ (i : Nat) l, ls[i]? = some l → ∃ u, w.cell? (x.add i) = some u ∧ By w u l)
theorem Bll.below {w w' : World} {v : Value} {ls : List (List UInt8)} (h : Bll w v ls) (hb : Below w.heap.size w w') : Bll w' v ls := by
  obtain ⟨a, c, h1, h2, h3, h4⟩ := h
  refine ⟨a, c, h1, h2, h3, fun hn => ?_⟩
  obtain ⟨x, e, hx, hy⟩ := h4 hn
  refine ⟨x, e, Nat.lt_of_lt_of_le hx hb.size, fun i l hl => ?_⟩
  obtain ⟨u, c1, c2⟩ := hy i l hl
  exact ⟨u, by rw [hb.cell (by rw [add_block]; exact hx)]; exact c1, c2.below hb⟩
/-- as lists that are read. -/
theorem Bls.bll {w : World} {base : Nat} {v : Value} {ls : List (List UInt8)} (h : Bls w base v ls) : Bll w v ls := by
  obtain ⟨vs, h1, h2, h3⟩ := h
  obtain ⟨a, c, e, k1, k2, k3⟩ := h1.cells
  rw [h2] at e k1
  refine ⟨a, c, e, k1, k2, fun hn => ?_⟩
  obtain ⟨g, rfl, g1, g2, g3⟩ := k3 (by rintro rfl; exact hn (List.length_eq_zero_iff.1 h2.symm))
  refine ⟨_, rfl, g2, fun i l hl => ?_⟩
  obtain ⟨x, hx, hy⟩ := h3 i l hl
  exact ⟨x, by rw [Addr.add_lit, Nat.zero_add]; exact g3 i x hx, hy.by_⟩
/-- one more. -/
theorem Bls.snoc {w w' : World} {base : Nat} {v : Value} {ls : List (List UInt8)} {vs : List Value} {v' x : Value} {l : List UInt8} (h1 : Lb w base v vs) (h2 : vs.length = ls.length) (h3 : ∀ (i : Nat) l, ls[i]? = some l → ∃ x, vs[i]? = some x ∧ Be w base x l) (hx : Be w base x l) (g : w.grownBy w' v.ownBlock) (k : Lb w' base v' (vs ++ [x])) : Bls w' base v' (ls ++ [l]) := by
  refine ⟨_, k, by simp [h2], fun i m hm => ?_⟩
  rcases Nat.lt_or_ge i ls.length with hi | hi
  · rw [List.getElem?_append_left hi] at hm
    obtain ⟨y, hy, hz⟩ := h3 i m hm
    exact ⟨y, by rw [List.getElem?_append_left (by omega)]; exact hy, hz.grown h1 g⟩
  · rw [List.getElem?_append_right hi] at hm
    have e : i - ls.length = 0 := by
      have := (List.getElem?_eq_some_iff.1 hm).1
      simpa using this
    rw [e] at hm
    simp at hm
    subst hm
    refine ⟨x, ?_, hx.grown h1 g⟩
    rw [List.getElem?_append_right (by omega), show i - vs.length = 0 by omega]
    rfl
end Go.Proofs.YtgdeonofdgpokaaDoor

namespace Go.Proofs.YtgdeonofdgpokaaDoor
set_option linter.unusedVariables false
namespace Te

/-- two bytes of how many, and the bytes. -/
def ofr (l : List UInt8) : List UInt8 := UInt8.ofNat (l.length / 256) :: UInt8.ofNat l.length :: l
/-- how many bytes the frame has that a text begins with; 0: there is no whole one. -/
def fsz : List UInt8 → Nat
  | a :: b :: l => if a.toNat * 256 + b.toNat ≤ l.length then 2 + (a.toNat * 256 + b.toNat) else 0
  | _ => 0
/-- what comes of so many steps. -/
def st (b : List UInt8) : Nat → Nat × List (List UInt8)
  | 0 => (0, [])
  | k + 1 => if fsz (b.drop (st b k).1) = 0 then st b k else ((st b k).1 + fsz (b.drop (st b k).1), (st b k).2 ++ [(b.drop ((st b k).1 + 2)).take (fsz (b.drop (st b k).1) - 2)])
theorem fsz_cons (a b : UInt8) (l : List UInt8) : fsz (a :: b :: l) = if a.toNat * 256 + b.toNat ≤ l.length then 2 + (a.toNat * 256 + b.toNat) else 0 := rfl
theorem if_two (q n : Nat) : (if q ≤ n then 2 + q else 0) = if q + 2 ≤ n + 2 then 2 + q else 0 := by
  by_cases h : q ≤ n
  · rw [if_pos h, if_pos (by omega)]
  · rw [if_neg h, if_neg (by omega)]
theorem fsz_le (l : List UInt8) : fsz l ≤ l.length := by
  match l with
  | [] => simp [fsz]
  | [a] => simp [fsz]
  | a :: b :: l =>
    rw [fsz_cons]
    split
    · simp only [List.length_cons]; omega
    · omega
theorem fsz_two (l : List UInt8) (h : fsz l ≠ 0) : 2 ≤ fsz l := by
  match l, h with
  | [], h => simp [fsz] at h
  | [a], h => simp [fsz] at h
  | a :: b :: l, h =>
    rw [fsz_cons] at h ⊢
    split at h
    · rename_i h1
      rw [if_pos h1]
      omega
    · omega
theorem fsz_short (l : List UInt8) (h : l.length < 2) : fsz l = 0 := by
  have h1 := fsz_le l
  rcases Nat.eq_zero_or_pos (fsz l) with h2 | h2
  · exact h2
  · have := fsz_two l (by omega)
    omega
/-- by its first two bytes. -/
theorem fsz_is (l : List UInt8) (a b : UInt8) (h0 : l[0]? = some a) (h1 : l[1]? = some b) : fsz l = if a.toNat * 256 + b.toNat + 2 ≤ l.length then 2 + (a.toNat * 256 + b.toNat) else 0 := by
  match l, h0, h1 with
  | a' :: b' :: l, h0, h1 =>
    simp at h0 h1
    subst h0 h1
    rw [fsz_cons, show (a' :: b' :: l).length = l.length + 2 from rfl]
    exact if_two _ _
theorem st_stop {b : List UInt8} {k : Nat} (h : fsz (b.drop (st b k).1) = 0) : st b (k + 1) = st b k := by
  rw [st, if_pos h]
theorem st_go {b : List UInt8} {k n : Nat} {xs : List (List UInt8)} (hs : st b k = (n, xs)) (h : fsz (b.drop n) ≠ 0) : st b (k + 1) = (n + fsz (b.drop n), xs ++ [(b.drop (n + 2)).take (fsz (b.drop n) - 2)]) := by
  rw [st, hs, if_neg h]
theorem st_le (b : List UInt8) (k : Nat) : (st b k).1 ≤ b.length ∧ 2 * (st b k).2.length ≤ (st b k).1 := by
  induction k with
  | zero => simp [st]
  | succ k ih =>
    by_cases h : fsz (b.drop (st b k).1) = 0
    · rw [st_stop h]; exact ih
    · have h1 := fsz_le (b.drop (st b k).1)
      have h2 := fsz_two _ h
      rw [List.length_drop] at h1
      rw [st, if_neg h]
      simp only [List.length_append, List.length_cons, List.length_nil]
      omega
theorem st_on {b : List UInt8} {k : Nat} (h : fsz (b.drop (st b k).1) = 0) (j : Nat) : st b (k + j) = st b k := by
  induction j with
  | zero => rfl
  | succ j ih => rw [← Nat.add_assoc, st, ih, if_pos h]
/-- what comes at the end is one. -/
theorem st_uniq {b : List UInt8} {k m : Nat} (h : fsz (b.drop (st b k).1) = 0) (g : fsz (b.drop (st b m).1) = 0) : st b k = st b m := by
  rcases Nat.le_total k m with h1 | h1
  · obtain ⟨j, rfl⟩ := Nat.exists_eq_add_of_le h1
    exact (st_on h j).symm
  · obtain ⟨j, rfl⟩ := Nat.exists_eq_add_of_le h1
    exact st_on g j
/-- frames one behind the other. -/
def flat (ls : List (List UInt8)) : List UInt8 := (ls.map ofr).flatten
theorem ofr_len (l : List UInt8) : (ofr l).length = l.length + 2 := by simp [ofr]
theorem flat_cons (x : List UInt8) (ls : List (List UInt8)) : flat (x :: ls) = ofr x ++ flat ls := by simp [flat]
theorem flat_app (ls ks : List (List UInt8)) : flat (ls ++ ks) = flat ls ++ flat ks := by simp [flat]
/-- of a text that is cut off behind so many the frame is whole, or none. -/
theorem fsz_take (x : List UInt8) (hx : x.length ≤ 65535) (r : List UInt8) (c : Nat) (hc : c ≤ x.length + 2 + r.length) : fsz ((ofr x ++ r).take c) = if c < 2 + x.length then 0 else 2 + x.length := by
  match c with
  | 0 => simp [fsz]
  | 1 => rw [if_pos (by omega)]; simp [fsz, ofr]
  | c + 2 =>
    have e : (ofr x ++ r).take (c + 2) = UInt8.ofNat (x.length / 256) :: UInt8.ofNat x.length :: (x ++ r).take c := by simp [ofr]
    rw [e, fsz_cons]
    have h1 : (UInt8.ofNat (x.length / 256)).toNat * 256 + (UInt8.ofNat x.length).toNat = x.length := by
      rw [UInt8.toNat_ofNat', UInt8.toNat_ofNat']
      omega
    rw [h1]
    have h2 : ((x ++ r).take c).length = c := by rw [List.length_take, List.length_append]; omega
    rw [h2]
    by_cases h : c < x.length
    · rw [if_neg (by omega), if_pos (by omega)]
    · rw [if_pos (by omega), if_neg (by omega)]
/-- those that are whole, of what is cut off. -/
theorem run_frames (ls : List (List UInt8)) (h : ∀ l ∈ ls, l.length ≤ 65535) (cut : Nat) (hc : cut ≤ (flat ls).length) (k : Nat) :
    ∃ m, m ≤ ls.length ∧ (st ((flat ls).take cut) k).1 = (flat (ls.take m)).length ∧ (st ((flat ls).take cut) k).2 = ls.take m ∧ (flat (ls.take m)).length ≤ cut ∧
      fsz (((flat ls).take cut).drop (flat (ls.take m)).length) = (match ls[m]? with | none => 0 | some x => if cut - (flat (ls.take m)).length < 2 + x.length then 0 else 2 + x.length) := by
  have key : ∀ m, m ≤ ls.length → (flat (ls.take m)).length ≤ cut → fsz (((flat ls).take cut).drop (flat (ls.take m)).length) = (match ls[m]? with | none => 0 | some x => if cut - (flat (ls.take m)).length < 2 + x.length then 0 else 2 + x.length) ∧ ∀ x, ls[m]? = some x → ((flat ls).take cut).drop (flat (ls.take m)).length = (ofr x ++ flat (ls.drop (m + 1))).take (cut - (flat (ls.take m)).length) := by
    intro m hm hl
    have e : flat ls = flat (ls.take m) ++ flat (ls.drop m) := by rw [← flat_app, List.take_append_drop]
    have e2 : ((flat ls).take cut).drop (flat (ls.take m)).length = (flat (ls.drop m)).take (cut - (flat (ls.take m)).length) := by
      rw [List.drop_take]
      rw [show List.drop (flat (ls.take m)).length (flat ls) = flat (ls.drop m) by rw [e]; simp]
    rw [e2]
    cases hx : ls[m]? with
    | none =>
      have h1 : ls.length ≤ m := by simpa using hx
      rw [List.drop_eq_nil_of_le h1]
      simp [flat, fsz]
    | some x =>
      obtain ⟨hlt, hxe⟩ := List.getElem?_eq_some_iff.1 hx
      have e3 : ls.drop m = x :: ls.drop (m + 1) := by rw [List.drop_eq_getElem_cons hlt, hxe]
      have e4 : (flat ls).length = (flat (ls.take m)).length + (x.length + 2 + (flat (ls.drop (m + 1))).length) := by
        conv => lhs; rw [e]
        rw [List.length_append, e3, flat_cons, List.length_append, ofr_len]
      refine ⟨?_, ?_⟩
      · rw [e3, flat_cons]
        exact fsz_take x (h x (List.mem_of_getElem? hx)) _ _ (by omega)
      · intro y hy
        injection hy with hy
        subst hy
        rw [e3, flat_cons]
  induction k with
  | zero =>
    refine ⟨0, Nat.zero_le _, ?_, ?_, ?_, (key 0 (Nat.zero_le _) ?_).1⟩ <;> simp [st, flat]
  | succ k ih =>
    obtain ⟨m, hm, h1, h2, h3, h4⟩ := ih
    by_cases hz : fsz (((flat ls).take cut).drop (st ((flat ls).take cut) k).1) = 0
    · rw [st_stop hz]
      exact ⟨m, hm, h1, h2, h3, h4⟩
    · have hz' := hz
      rw [h1, h4] at hz'
      cases hx : ls[m]? with
      | none => rw [hx] at hz'; exact absurd rfl hz'
      | some x =>
        rw [hx] at hz' h4
        simp only at hz' h4
        have hcc : ¬ cut - (flat (ls.take m)).length < 2 + x.length := fun hh => hz' (if_pos hh)
        rw [if_neg hcc] at h4
        obtain ⟨hlt, hxe⟩ := List.getElem?_eq_some_iff.1 hx
        have et : ls.take (m + 1) = ls.take m ++ [x] := by rw [List.take_add_one, hx]; rfl
        have el : (flat (ls.take (m + 1))).length = (flat (ls.take m)).length + (2 + x.length) := by
          rw [et, flat_app, List.length_append]
          simp [flat, ofr]
          omega
        refine ⟨m + 1, hlt, ?_, ?_, by omega, (key (m + 1) hlt (by omega)).1⟩
        · rw [st, if_neg hz, el]
          simp only
          rw [h1, h4]
        · rw [st, if_neg hz]
          simp only
          rw [h1, h2, h4, et]
          congr 2
          rw [← List.drop_drop, (key m hm h3).2 x hx]
          rw [List.drop_take]
          rw [List.take_take]
          rw [show (ofr x ++ flat (ls.drop (m + 1))).drop 2 = x ++ flat (ls.drop (m + 1)) by simp [ofr]]
          rw [show min (2 + x.length - 2) (cut - (flat (ls.take m)).length - 2) = x.length by omega]
          simp
end Te
end Go.Proofs.YtgdeonofdgpokaaDoor

namespace Go.Proofs.YtgdeonofdgpokaaDoor
open Go.RowKit
set_option linter.unusedVariables false

theorem Ob.new0 (w : World) (base : Nat) (hb : base ≤ w.heap.size) : Ob (w.alloc (.cells #[] 5)) base (.slice (some ⟨w.heap.size, 0, none⟩) 0 0) [] :=
  ⟨rfl, .inr ⟨w.heap.size, 0, #[], rfl, hb, heap_alloc_new _ _, Nat.le_refl _, by decide, rfl, rfl⟩⟩
theorem Ob.new2 (w : World) (base : Nat) (hb : base ≤ w.heap.size) (a b : UInt8) {n m : Int} (hn : n = (a.toNat : Int)) (hm : m = (b.toNat : Int)) : Ob (w.alloc (.cells #[.int .u8 n, .int .u8 m] 5)) base (.slice (some ⟨w.heap.size, 0, none⟩) 2 2) [a, b] := by
  subst hn hm
  exact ⟨rfl, .inr ⟨w.heap.size, 2, #[.int .u8 (a.toNat : Int), .int .u8 (b.toNat : Int)], rfl, hb, heap_alloc_new _ _, Nat.le_refl _, by decide, rfl, rfl⟩⟩
set_option maxRecDepth 100000 in
set_option maxHeartbeats 4000000 in
theorem bclone_any (v : Value) (l : List UInt8) (w : World) (h : By w v l) (hl : l.length ≤ 100000000) :
    Calls Tryd.prog 18 #[v] w fun e w' => ∃ u, e = .returned u ∧ Be w' w.heap.size u l ∧ Below w.heap.size w w' := by
  have H : Hid (By w v l) := h
  have HL : Hid (l.length ≤ 100000000) := hl
  obtain ⟨a, c, rfl, h1, h2, h3⟩ := h
  cases a with
  | none =>
    have hn : l = [] := by
      rcases Classical.em (l = []) with h | h
      · exact h
      · obtain ⟨x, hx, -⟩ := h3 h; cases hx
    subst hn
    clear h3 H HL hl h1 h2
    have q22 : ∀ (w : World) (a : Option Addr) (n c n' c' : Nat), (binOp .eql 23 (.slice a n c) (.slice none n' c')).run Tryd.prog w = .ok (.bool a.isNone) w := fun w a n c n' c' => Lib.run_eql_slice_nil w _ _ a n c n' c' Tryd.underlying23
    go_enter Tryd.func18, Tryd.ntmps18
    go_wp2
    go_ret
    exact ⟨_, rfl, .inl ⟨rfl, _, _, rfl, by decide⟩, Below.refl _ _⟩
  | some x =>
    clear h3 hl h1 h2
    have q22 : ∀ (w : World) (a : Option Addr) (n c n' c' : Nat), (binOp .eql 23 (.slice a n c) (.slice none n' c')).run Tryd.prog w = .ok (.bool a.isNone) w := fun w a n c n' c' => Lib.run_eql_slice_nil w _ _ a n c n' c' Tryd.underlying23
    go_enter Tryd.func18, Tryd.ntmps18
    have O0 : Hid (Ob (w.alloc (.cells #[] 5)) w.heap.size (.slice (some ⟨w.heap.size, 0, none⟩) 0 0) []) := Ob.new0 w _ (Nat.le_refl _)
    have B0 : Hid (Below w.heap.size w (w.alloc (.cells #[] 5))) := (Below.refl _ _).alloc (Nat.le_refl _) _
    have H0 : Hid (By (w.alloc (.cells #[] 5)) (.slice (some x) l.length c) l) := H.out.below B0.out
    go_wp2_with (at_builtin; refine app_bytes2 _ rfl _ _ rfl w.heap.size _ [] rfl O0.out _ l rfl H0.out (by have := HL.out; simp; omega) B0.out.size ?_)
    intro v' w' o1 g1 _
    have B1 : Hid (Below w.heap.size w w') := B0.out.grown g1 B0.out.size (fun k hk => by simp [Value.ownBlock] at hk; omega)
    have O1 : Hid (Ob w' w.heap.size v' l) := o1
    clear o1 g1
    go_wp2
    go_ret
    exact ⟨_, rfl, .inr O1.out, B1.out⟩
theorem byteOf (a : UInt8) : 0 ≤ (a.toNat : Int) ∧ (a.toNat : Int) < 256 := by
  have := a.toNat_lt
  omega
set_option maxRecDepth 100000 in
set_option maxHeartbeats 4000000 in
theorem tfirst_any (v : Value) (l : List UInt8) (w : World) (h : By w v l) :
    Calls Tryd.prog 19 #[v] w fun e w' => e = .returned (.int .i64 (Te.fsz l : Nat)) ∧ Below w.heap.size w w' := by
  obtain ⟨a, c, rfl, h1, h2, h3⟩ := h
  by_cases hs : l.length < 2
  · have F : Hid (Te.fsz l = 0) := Te.fsz_short l hs
    clear h3
    go_enter Tryd.func19, Tryd.ntmps19
    go_wp2
    go_ret
    rw [F.out]
    exact ⟨rfl, Below.refl _ _⟩
  obtain ⟨p, hp⟩ : ∃ p, l[0]? = some p := ⟨_, List.getElem?_eq_getElem (by omega)⟩
  obtain ⟨q, hq⟩ : ∃ q, l[1]? = some q := ⟨_, List.getElem?_eq_getElem (by omega)⟩
  obtain ⟨x, rfl, hx, hc⟩ := h3 (by rintro rfl; simp at hs)
  have c0 := hc 0 p hp
  have c1 : w.cell? ⟨x.block, x.off + 1, none⟩ = some (.int .u8 (q.toNat : Int)) := hc 1 q hq
  have F : Hid (Te.fsz l = if p.toNat * 256 + q.toNat + 2 ≤ l.length then 2 + (p.toNat * 256 + q.toNat) else 0) := Te.fsz_is l p q hp hq
  have e0 : x.add 0 = x := by simp [Addr.add]
  rw [e0] at c0
  have b0 := byteOf p
  have b1 := byteOf q
  have hl2 : (2 : Int) ≤ (l.length : Nat) := by omega
  clear hc h3 e0 hp hq
  obtain ⟨pn, hpn⟩ : ∃ n : Nat, p.toNat = n := ⟨_, rfl⟩
  obtain ⟨qn, hqn⟩ : ∃ n : Nat, q.toNat = n := ⟨_, rfl⟩
  rw [hpn] at c0 b0 F
  rw [hqn] at c1 b1 F
  clear hpn hqn
  go_enter Tryd.func19, Tryd.ntmps19
  go_upto_region 3 with fail
  go_region
  have B : Hid (Below w.heap.size w w.drew) := (Below.refl _ _).drew
  generalize w.drew = w1 at *
  by_cases hq2 : 2 + (pn : Int) * 256 + (qn : Int) ≤ (l.length : Nat)
  · have E : Hid ((2 : Int) + (pn : Int) * 256 + (qn : Int) = ((Te.fsz l : Nat) : Int)) := by unfold Hid; rw [F.out, if_pos (by omega)]; omega
    go_wp2
    go_ret
    exact ⟨by rw [← E.out]; rfl, B.out⟩
  · have E : Hid (Te.fsz l = 0) := by unfold Hid; rw [F.out, if_neg (by omega)]
    go_wp2
    go_ret
    exact ⟨by rw [E.out]; rfl, B.out⟩
/-- a part of a text. -/
theorem by_elem : Tryd.prog.elem 23 = 5 := by
  have hu : Tryd.prog.underlying 23 = some (.slice 5) := Tryd.underlying23
  simp [Program.elem, hu]
theorem By.part {w : World} {a : Option Addr} {L c : Nat} {l : List UInt8} (h : By w (.slice a L c) l) {n m : Nat} (hn : n ≤ m) (hm : m ≤ l.length) : By w (sliced a n m c 1) ((l.drop n).take (m - n)) := by
  obtain ⟨a', c', e, h1, h2, h3⟩ := h
  injection e with e1 e2 e3
  subst e1 e3 e2
  unfold sliced
  have hl : ((l.drop n).take (m - n)).length = m - n := by rw [List.length_take, List.length_drop]; omega
  refine ⟨_, _, by rw [hl], by rw [hl]; omega, by omega, fun hne => ?_⟩
  have hnl : n < m := by
    rcases Nat.lt_or_ge n m with h | h
    · exact h
    · rw [show m - n = 0 by omega] at hne; simp at hne
  obtain ⟨x, rfl, hx1, hx2⟩ := h3 (by rintro rfl; simp at hm; omega)
  refine ⟨x.add n, ?_, by rw [add_block]; exact hx1, fun i d hd => ?_⟩
  · simp
    intro hc
    omega
  · rw [List.getElem?_take] at hd
    split at hd
    · rw [List.getElem?_drop] at hd
      have := hx2 (n + i) d hd
      have e : (x.add n).add i = x.add (n + i) := by
        unfold Addr.add
        split <;> split <;> split <;> simp_all <;> omega
      rw [e]
      exact this
    · cases hd
theorem By.back {w : World} {a : Option Addr} {L c : Nat} {l : List UInt8} (h : By w (.slice a L c) l) {n : Nat} (hn : n ≤ l.length) : By w (sliced a n L c 1) (l.drop n) := by
  have h0 := h
  obtain ⟨a', c', e, h1, h2, h3⟩ := h0
  injection e with e1 e2 e3
  subst e1 e3 e2
  have := h.part (n := n) (m := l.length) hn (Nat.le_refl _)
  rw [List.take_of_length_le (by simp)] at this
  exact this
set_option maxRecDepth 100000 in
set_option maxHeartbeats 4000000 in
theorem tframe_any (v : Value) (l : List UInt8) (w : World) (h : By w v l) (hl : l.length ≤ 100000000) :
    Calls Tryd.prog 15 #[v] w fun e w' => ∃ u, e = .returned u ∧ Ob w' w.heap.size u (Te.ofr l) ∧ Below w.heap.size w w' := by
  have H : Hid (By w v l) := h
  have HL : Hid (l.length ≤ 100000000) := hl
  obtain ⟨a, c, rfl, h1, h2, -⟩ := h
  clear h1 h2
  obtain ⟨n1, hn1⟩ : ∃ n1 : Int, ((UInt8.ofNat (l.length / 256)).toNat : Int) = n1 := ⟨_, rfl⟩
  obtain ⟨n2, hn2⟩ : ∃ n2 : Int, ((UInt8.ofNat l.length).toNat : Int) = n2 := ⟨_, rfl⟩
  have e1 : IntKind.u8.wrap ((l.length : Int) / 256) = n1 := by rw [← hn1, UInt8.toNat_ofNat', IntKind.wrap_u8]; omega
  have e2 : IntKind.u8.wrap (l.length : Int) = n2 := by rw [← hn2, UInt8.toNat_ofNat', IntKind.wrap_u8]; omega
  have O0 : Hid (Ob (w.alloc (.cells #[.int .u8 n1, .int .u8 n2] 5)) w.heap.size (.slice (some ⟨w.heap.size, 0, none⟩) 2 2) [UInt8.ofNat (l.length / 256), UInt8.ofNat l.length]) := Ob.new2 w _ (Nat.le_refl _) _ _ hn1.symm hn2.symm
  have B0 : Hid (Below w.heap.size w (w.alloc (.cells #[.int .u8 n1, .int .u8 n2] 5))) := (Below.refl _ _).alloc (Nat.le_refl _) _
  have H0 : Hid (By (w.alloc (.cells #[.int .u8 n1, .int .u8 n2] 5)) (.slice a l.length c) l) := H.out.below B0.out
  clear hn1 hn2 hl
  go_enter Tryd.func15, Tryd.ntmps15
  go_wp2_with (at_builtin; refine app_bytes2 _ rfl _ _ rfl w.heap.size _ _ rfl O0.out _ l rfl H0.out (by have := HL.out; simp; omega) B0.out.size ?_)
  intro v' w' o1 g1 _
  have B1 : Hid (Below w.heap.size w w') := B0.out.grown g1 B0.out.size (fun k hk => by simp [Value.ownBlock] at hk; omega)
  have O1 : Hid (Ob w' w.heap.size v' (Te.ofr l)) := o1
  clear o1 g1
  go_wp2
  go_ret
  exact ⟨_, rfl, O1.out, B1.out⟩
/-- how the loop of Frames stands. -/
def TfI (b : List UInt8) (w : World) (lv nv : Value) (W : World) : Prop := ∃ k n xs, Te.st b k = (n, xs) ∧ nv = .int .i64 (n : Nat) ∧ Bls W w.heap.size lv xs ∧ Below w.heap.size w W
set_option maxRecDepth 100000 in
set_option maxHeartbeats 8000000 in
theorem tframes_any (v : Value) (b : List UInt8) (w : World) (h : By w v b) (hl : b.length ≤ 1100000) :
    Calls Tryd.prog 14 #[v] w fun e w' => ∃ u k n xs, e = .returned (.tuple #[u, .int .i64 (n : Nat)]) ∧ Te.st b k = (n, xs) ∧ Te.fsz (b.drop n) = 0 ∧ Bls w' w.heap.size u xs ∧ Below w.heap.size w w' := by
  have H : Hid (By w v b) := h
  have HL : Hid (b.length ≤ 1100000) := hl
  obtain ⟨a, c, rfl, h1, h2, -⟩ := h
  have h2' : c ≤ 9223372036854775807 := by unfold maxLen at h2; omega
  clear h2
  go_enter Tryd.func14, Tryd.ntmps14
  go_wp2_with fail
  go_loopw [2, 3] (fun lv nv W => TfI b w lv nv W) (fun _ nv _ => b.length - (intOf nv).toNat)
  case atStart => exact ⟨0, 0, [], rfl, rfl, Bls.nil _ _, Below.refl _ _⟩
  case round =>
  obtain ⟨k, n, xs, hst, rfl, hg, hb⟩ := hrel
  have ST : Hid (Te.st b k = (n, xs)) := hst
  have SL := Te.st_le b k
  rw [hst] at SL
  simp only at SL
  obtain ⟨hn, hx2⟩ := SL
  have hni : (n : Int) ≤ (b.length : Nat) := by omega
  have XL : Hid (xs.length ≤ 1000000) := by unfold Hid; omega
  have G : Hid (Bls wr w.heap.size u2 xs) := hg
  have B : Hid (Below w.heap.size w wr) := hb
  have HR : Hid (By wr (.slice a b.length c) b) := H.out.below hb
  have HB : Hid (By wr (sliced a n b.length c 1) (b.drop n)) := HR.out.back hn
  clear hst hg hb hx2
  by_cases hcn : c = n
  case pos =>
    have F0 : Hid (Te.fsz (b.drop n) = 0) := by unfold Hid; rw [List.drop_eq_nil_of_le (by omega)]; rfl
    go_wp2_with fail
    refine Calls.mono (tfirst_any _ (b.drop n) wr (by have h := HB.out; simpa [sliced, hcn] using h)) ?_
    rintro e w1 ⟨rfl, b1⟩
    have B1 : Hid (Below w.heap.size w w1) := B.out.trans (b1.mono B.out.size)
    have G1 : Hid (Bls w1 w.heap.size u2 xs) := G.out.below b1
    clear b1
    rw [F0.out]
    go_wp2
    go_ret2
    exact ⟨_, k, n, xs, rfl, ST.out, F0.out, G1.out, B1.out⟩
  case neg =>
  go_wp2_with fail
  refine Calls.mono (tfirst_any _ (b.drop n) wr (by have h := HB.out; simpa [sliced, hcn] using h)) ?_
  rintro e w1 ⟨rfl, b1⟩
  have B1 : Hid (Below w.heap.size w w1) := B.out.trans (b1.mono B.out.size)
  have G1 : Hid (Bls w1 w.heap.size u2 xs) := G.out.below b1
  have HR1 : Hid (By w1 (.slice a b.length c) b) := HR.out.below b1
  clear b1 HR HB G B
  obtain ⟨s, hs⟩ : ∃ s, Te.fsz (b.drop n) = s := ⟨_, rfl⟩
  have FS : Hid (Te.fsz (b.drop n) = s) := hs
  rw [hs]
  by_cases hs0 : s = 0
  case pos =>
    subst hs0
    clear hs
    go_wp2
    go_ret2
    exact ⟨_, k, n, xs, rfl, ST.out, FS.out, G1.out, B1.out⟩
  case neg =>
  have s2 : 2 ≤ s := by rw [← hs]; exact Te.fsz_two _ (by rw [hs]; exact hs0)
  have sl : n + s ≤ b.length := by have := Te.fsz_le (b.drop n); rw [hs, List.length_drop] at this; omega
  have hs0i : ¬ (s : Int) = 0 := by omega
  have NX : Hid (Te.st b (k + 1) = (n + s, xs ++ [(b.drop (n + 2)).take (s - 2)])) := by unfold Hid; rw [Te.st_go ST.out (by rw [hs]; exact hs0), hs]
  have HP : Hid (By w1 (sliced a (n + 2) (n + s) c 1) ((b.drop (n + 2)).take (s - 2))) := by
    have h := HR1.out.part (n := n + 2) (m := n + s) (by omega) sl
    rw [show n + s - (n + 2) = s - 2 by omega] at h
    exact h
  have CL : Hid (((b.drop (n + 2)).take (s - 2)).length ≤ 100000000) := by unfold Hid; rw [List.length_take, List.length_drop]; omega
  obtain ⟨y, hy⟩ : ∃ y, (b.drop (n + 2)).take (s - 2) = y := ⟨_, rfl⟩
  obtain ⟨n2, hn2⟩ : ∃ n2, n + 2 = n2 := ⟨_, rfl⟩
  obtain ⟨m, hm⟩ : ∃ m, n + s = m := ⟨_, rfl⟩
  have NM : Hid (n < m ∧ m ≤ b.length) := ⟨by omega, by omega⟩
  rw [hy, hn2, hm] at HP
  rw [hy] at CL
  rw [hy, hm] at NX
  have e2 : (n : Int) + 2 = (n2 : Nat) := by omega
  have em : (n : Int) + (s : Nat) = (m : Nat) := by omega
  have l2 : (n2 : Int) ≤ (m : Nat) := by omega
  have lm : (m : Int) ≤ (c : Nat) := by omega
  have wm : (m : Int) ≤ 1100000 := by omega
  clear hs hy hn2 hm FS s2 sl hni hn
  by_cases hc2 : c = n2
  case' pos => subst hc2
  all_goals
    go_wp2_with fail
    refine Calls.mono (bclone_any _ y w1 (by have h := HP.out; first | simpa [sliced, hc2] using h | simpa [sliced] using h) CL.out) ?_
    rintro e w2 ⟨cv, rfl, hcv, b2⟩
    have B2 : Hid (Below w.heap.size w w2) := B1.out.trans (b2.mono B1.out.size)
    have G2 : Hid (Bls w2 w.heap.size u2 xs) := G1.out.below b2
    have CV : Hid (Be w2 w.heap.size cv y) := hcv.base B1.out.size
    obtain ⟨pa, pc, rfl, -, -, -⟩ := hcv.by_
    clear hcv b2 B1 G1
    have B3 : Hid (Below w.heap.size w (w2.alloc (.cells #[.slice pa y.length pc] 23))) := B2.out.alloc B2.out.size _
    have RC : Hid ((w2.alloc (.cells #[.slice pa y.length pc] 23)).cell? ⟨w2.heap.size, 0, none⟩ = some (.slice pa y.length pc)) := by unfold Hid; simp
    have b3 : Below w2.heap.size w2 (w2.alloc (.cells #[.slice pa y.length pc] 23)) := (Below.refl _ _).alloc (Nat.le_refl _) _
    have G3 := G2.out.below b3
    obtain ⟨vs, q1, q2, q3⟩ := G3
    have CV3 : Hid (Be (w2.alloc (.cells #[.slice pa y.length pc] 23)) w.heap.size (.slice pa y.length pc) y) := CV.out.below b3
    have Q1 : Hid (Lb (w2.alloc (.cells #[.slice pa y.length pc] 23)) w.heap.size u2 vs) := q1
    have Q2 : Hid (vs.length = xs.length) := q2
    have Q3 : Hid (∀ (i : Nat) l, xs[i]? = some l → ∃ x, vs[i]? = some x ∧ Be (w2.alloc (.cells #[.slice pa y.length pc] 23)) w.heap.size x l) := q3
    clear q1 q2 q3 b3
    go_wp2_with (at_builtin; refine app_lb _ rfl _ _ rfl w.heap.size _ vs rfl Q1.out ⟨w2.heap.size, 0, none⟩ pa y.length pc rfl RC.out (by have := XL.out; rw [Q2.out]; omega) B3.out.size ?_)
    intro g cap w4 o4 g4 a4 l4
    have B4 : Hid (Below w.heap.size w w4) := B3.out.grown g4 B3.out.size (fun k hk => (Q1.out.block k hk).1)
    have G4 : Hid (Bls w4 w.heap.size (.slice (some ⟨g, 0, none⟩) (vs.length + 1) cap) (xs ++ [y])) := Bls.snoc Q1.out Q2.out Q3.out CV3.out g4 o4
    clear o4 g4 a4 l4
    go_wp2
    go_round
    case rel => exact ⟨k + 1, m, _, NX.out, by first | rfl | go_num, G4.out, B4.out⟩
    case measure => have := NM.out; simp [intOf]; omega
end Go.Proofs.YtgdeonofdgpokaaDoor

namespace Go.Proofs.YtgdeonofdgpokaaDoor

/-- v tells the fault n. -/
def Er (v : Value) (n : Int) : Prop := (n = 0 ∧ v = .nilIface) ∨ (n ≠ 0 ∧ v = .iface 46 (.int .i64 n))
theorem Er.nil : Er .nilIface 0 := .inl ⟨rfl, rfl⟩
theorem Er.no {n : Int} (h : n ≠ 0) : Er (.iface 46 (.int .i64 n)) n := .inr ⟨h, rfl⟩
end Go.Proofs.YtgdeonofdgpokaaDoor

namespace Go.Proofs.YtgdeonofdgpokaaDoor
open Go.RowKit
set_option linter.unusedVariables false

/-- a tape. -/
structure TpV where
  b : List UInt8
  safe : Nat
  steps : Nat
  fail : Int
/-- a tape's four cells. -/
def Tx (w : World) (z : Nat) (c0 c1 c2 c3 : Value) : Prop := w.heap[z]? = some (.cells #[c0, c1, c2, c3] 44 (0, 0))
theorem Tx.lt {w : World} {z : Nat} {c0 c1 c2 c3 : Value} (h : Tx w z c0 c1 c2 c3) : z < w.heap.size := lt_of_block h
theorem Tx.cells {w : World} {z : Nat} {c0 c1 c2 c3 : Value} (h : Tx w z c0 c1 c2 c3) : w.cell? ⟨z, 0, none⟩ = some c0 ∧ w.cell? ⟨z, 1, none⟩ = some c1 ∧ w.cell? ⟨z, 2, none⟩ = some c2 ∧ w.cell? ⟨z, 3, none⟩ = some c3 := by
  unfold Tx at h
  refine ⟨?_, ?_, ?_, ?_⟩ <;> simp [World.cell?, h]
theorem Tx.thaw {w : World} {z : Nat} {c0 c1 c2 c3 : Value} (h : Tx w z c0 c1 c2 c3) (i : Nat) : w.frozen? ⟨z, i, none⟩ = false := by
  unfold Tx at h
  simp [World.frozen?, h]
theorem Tx.set0 {w : World} {z : Nat} {c0 c1 c2 c3 : Value} (h : Tx w z c0 c1 c2 c3) (u : Value) : Tx (w.setCell ⟨z, 0, none⟩ u) z u c1 c2 c3 := heap_setCell_same w z 0 _ _ u h
theorem Tx.set1 {w : World} {z : Nat} {c0 c1 c2 c3 : Value} (h : Tx w z c0 c1 c2 c3) (u : Value) : Tx (w.setCell ⟨z, 1, none⟩ u) z c0 u c2 c3 := heap_setCell_same w z 1 _ _ u h
theorem Tx.set2 {w : World} {z : Nat} {c0 c1 c2 c3 : Value} (h : Tx w z c0 c1 c2 c3) (u : Value) : Tx (w.setCell ⟨z, 2, none⟩ u) z c0 c1 u c3 := heap_setCell_same w z 2 _ _ u h
theorem Tx.set3 {w : World} {z : Nat} {c0 c1 c2 c3 : Value} (h : Tx w z c0 c1 c2 c3) (u : Value) : Tx (w.setCell ⟨z, 3, none⟩ u) z c0 c1 c2 u := heap_setCell_same w z 3 _ _ u h
theorem Tx.below {w w' : World} {z : Nat} {c0 c1 c2 c3 : Value} (h : Tx w z c0 c1 c2 c3) (hb : Below w.heap.size w w') : Tx w' z c0 c1 c2 c3 := (hb.block z h.lt).trans h
/-- block z is a tape, its bytes are v. -/
structure Tp (w : World) (base z : Nat) (v : Value) (T : TpV) : Prop where
  x : Tx w z v (.int .i64 (T.safe : Nat)) (.int .i64 (T.steps : Nat)) (.int .i64 T.fail)
  o : Ob w base v T.b
  z : base ≤ z
theorem Tp.below {w w' : World} {base z : Nat} {v : Value} {T : TpV} (h : Tp w base z v T) (hb : Below w.heap.size w w') : Tp w' base z v T := ⟨h.x.below hb, h.o.below hb, h.z⟩
/-- the tape itself is no row of bytes. -/
theorem Tx.ne {w : World} {z base : Nat} {c0 c1 c2 c3 v : Value} {l : List UInt8} (h : Tx w z c0 c1 c2 c3) (o : Ob w base v l) : ∀ b, v.ownBlock = some b → b ≠ z := by
  intro b hb e
  subst e
  rcases o.2 with ⟨h1, -⟩ | ⟨g, cap, cur, h1, -, h3, -⟩
  · rw [h1] at hb; cases hb
  · rw [h1] at hb
    simp [Value.ownBlock] at hb
    subst hb
    unfold Tx at h
    rw [h] at h3
    injection h3 with h3
    injection h3 with _ h3
    exact absurd h3 (by decide)
/-- what has turned: the tape, and its bytes. -/
structure Ts (z : Nat) (v v' : Value) (w w' : World) : Prop where
  f : Fr (fun k => k = z ∨ v.ownBlock = some k) w w'
  o : v'.ownBlock = v.ownBlock ∨ ∃ g, v'.ownBlock = some g ∧ w.heap.size ≤ g
theorem Ts.of {z : Nat} {v : Value} {w w' : World} (h : Below w.heap.size w w') : Ts z v v w w' := ⟨Fr.below h, .inl rfl⟩
theorem Ts.low {z n base : Nat} {v v' : Value} {w w' : World} {l : List UInt8} (h : Ts z v v' w w') (o : Ob w base v l) (hn : n ≤ w.heap.size) (hz : n ≤ z) (hb : n ≤ base) : Below n w w' :=
  h.f.low hn (fun k hk => by
    rcases hk with rfl | hk
    · exact hz
    · exact Nat.le_trans hb (o.block k hk).1)
/-- a store into the tape. -/
theorem Tp.set {w : World} {base z : Nat} {v : Value} {T : TpV} (h : Tp w base z v T) (i : Nat) (u : Value) : Ob (w.setCell ⟨z, i, none⟩ u) base v T.b ∧ Fr (fun k => k = z ∨ v.ownBlock = some k) w (w.setCell ⟨z, i, none⟩ u) := by
  have k : Kp z w (w.setCell ⟨z, i, none⟩ u) := Kp.set w i u
  exact ⟨(Fr.kp (S := fun b => b = z) k rfl).own h.o (h.x.ne h.o), Fr.kp k (.inl rfl)⟩
set_option maxRecDepth 100000 in
set_option maxHeartbeats 4000000 in
theorem tnew_any (w : World) :
    Calls Tryd.prog 4 #[] w fun e w' => e = .returned (.pointer (some ⟨w.heap.size, 0, none⟩)) ∧ Tp w' w.heap.size w.heap.size (.slice none 0 0) ⟨[], 0, 0, -1⟩ ∧ Below w.heap.size w w' := by
  go_enter Tryd.func4, Tryd.ntmps4
  go_wp2
  go_ret
  refine ⟨rfl, ⟨heap_alloc_new _ _, Ob.nil _ _, Nat.le_refl _⟩, (Below.refl _ _).alloc (Nat.le_refl _) _⟩
/-- does it fail? -/
def TpV.fails (T : TpV) : Bool := decide (0 ≤ T.fail ∧ T.fail ≤ (T.steps : Int))
set_option maxRecDepth 100000 in
set_option maxHeartbeats 4000000 in
theorem tfails_any (base z : Nat) (v : Value) (T : TpV) (w : World) (h : Tp w base z v T) :
    Calls Tryd.prog 16 #[.pointer (some ⟨z, 0, none⟩)] w fun e w' => e = .returned (.bool T.fails) ∧ Below w.heap.size w w' := by
  obtain ⟨c0, c1, c2, c3⟩ := h.x.cells
  clear c0 c1 h
  obtain ⟨r, hr⟩ : ∃ r, T.fails = r := ⟨_, rfl⟩
  have R : Hid (T.fails = r) := hr
  rw [hr]
  clear hr
  by_cases h0 : 0 ≤ T.fail
  · have h0d : decide (0 ≤ T.fail) = true := decide_eq_true h0
    have E : Hid (r = decide (T.fail ≤ (T.steps : Int))) := by unfold Hid; rw [← R.out]; unfold TpV.fails; simp [h0]
    go_enter Tryd.func16, Tryd.ntmps16
    go_upto_region 1 with fail
    go_quiet (fail)
    go_wp2
    go_ret
    exact ⟨by rw [E.out]; rfl, _root_.Go.below_drewN (Below.refl _ _) _⟩
  · have h0d : decide (0 ≤ T.fail) = false := decide_eq_false h0
    have E : Hid (r = false) := by unfold Hid; rw [← R.out]; unfold TpV.fails; simp [h0]
    go_enter Tryd.func16, Tryd.ntmps16
    go_upto_region 1 with fail
    go_quiet (fail)
    go_wp2
    go_ret
    exact ⟨by rw [E.out]; rfl, _root_.Go.below_drewN (Below.refl _ _) _⟩
/-- what Append tells, and the tape behind it. -/
def TpV.appF (T : TpV) (b : List UInt8) : Int := if T.fails then 7 else if 6000 < T.b.length + b.length then 4 else 0
def TpV.app (T : TpV) (b : List UInt8) : TpV := if T.appF b = 0 then { T with b := T.b ++ b, steps := T.steps + 1 } else T
def TpV.appN (T : TpV) (b : List UInt8) : Nat := if T.appF b = 0 then T.b.length + b.length else 0
set_option maxRecDepth 100000 in
set_option maxHeartbeats 8000000 in
theorem tappend_any (base z : Nat) (v u : Value) (T : TpV) (b : List UInt8) (w : World) (h : Tp w base z v T) (hu : By w u b) (hT : T.b.length ≤ 6000) (hs : T.steps ≤ 1000000) (hbase : base ≤ w.heap.size) :
    Calls Tryd.prog 5 #[.pointer (some ⟨z, 0, none⟩), u] w fun e w' => ∃ r v', e = .returned (.tuple #[.int .i64 (T.appN b : Nat), r]) ∧ Er r (T.appF b) ∧ Tp w' base z v' (T.app b) ∧ Ts z v v' w w' := by
  have H : Hid (Tp w base z v T) := h
  have U : Hid (By w u b) := hu
  obtain ⟨pu, cu, rfl, u1, u2, -⟩ := hu
  have u2' : cu ≤ 9223372036854775807 := by unfold maxLen at u2; omega
  obtain ⟨pv, cv, rfl⟩ := h.o.len
  have HB : Hid (base ≤ w.heap.size) := hbase
  clear h u2 hbase
  go_enter Tryd.func5, Tryd.ntmps5
  go_wp2_with fail
  refine Calls.mono (tfails_any base z _ T w H.out) ?_
  rintro e w1 ⟨rfl, b1⟩
  have B1 : Hid (Below w.heap.size w w1) := b1
  have H1 : Hid (Tp w1 base z _ T) := H.out.below b1
  have U1 : Hid (By w1 _ b) := U.out.below b1
  have HB1 : Hid (base ≤ w1.heap.size) := Nat.le_trans HB.out b1.size
  clear b1 H U
  cases hf : T.fails
  case true =>
    have F : Hid (T.appF b = 7) := by unfold Hid TpV.appF; rw [hf]; rfl
    have A : Hid (T.app b = T ∧ T.appN b = 0) := by unfold Hid TpV.app TpV.appN; rw [F.out]; exact ⟨rfl, rfl⟩
    clear hf
    go_wp2
    go_ret2
    exact ⟨_, _, by rw [A.out.2]; rfl, by rw [F.out]; exact Er.no (by decide), by rw [A.out.1]; exact H1.out, Ts.of B1.out⟩
  obtain ⟨c0, c1, c2, c3⟩ := H1.out.x.cells
  have wb : IntKind.i64.wrap (6000 - (T.b.length : Int)) = 6000 - (T.b.length : Int) := by rw [IntKind.wrap_i64]; omega
  by_cases hl : 6000 < T.b.length + b.length
  · have F : Hid (T.appF b = 4) := by unfold Hid TpV.appF; rw [hf, if_neg (by decide), if_pos hl]
    have A : Hid (T.app b = T ∧ T.appN b = 0) := by unfold Hid TpV.app TpV.appN; rw [F.out]; exact ⟨rfl, rfl⟩
    have hli : 6000 - (T.b.length : Int) < (b.length : Nat) := by omega
    clear hf
    go_wp2
    go_ret2
    exact ⟨_, _, by rw [A.out.2]; rfl, by rw [F.out]; exact Er.no (by decide), by rw [A.out.1]; exact H1.out, Ts.of B1.out⟩
  have F : Hid (T.appF b = 0) := by unfold Hid TpV.appF; rw [hf, if_neg (by decide), if_neg hl]
  have A : Hid (T.app b = { T with b := T.b ++ b, steps := T.steps + 1 } ∧ T.appN b = T.b.length + b.length) := by unfold Hid TpV.app TpV.appN; rw [F.out]; exact ⟨rfl, rfl⟩
  have hli : ¬ 6000 - (T.b.length : Int) < (b.length : Nat) := by omega
  have HL : Hid (T.b.length + b.length ≤ 6000) := by unfold Hid; omega
  clear hf
  go_wp2_with (at_builtin; refine app_bytes2 _ rfl _ _ rfl base _ T.b rfl H1.out.o _ b rfl U1.out (by have := HL.out; omega) HB1.out ?_)
  intro v2 w2 o2 g2 l2
  have X2 : Hid (Tx w2 z (.slice pv T.b.length cv) (.int .i64 (T.safe : Nat)) (.int .i64 (T.steps : Nat)) (.int .i64 T.fail)) := (g2.block z H1.out.x.lt (fun e => H1.out.x.ne H1.out.o z e.symm rfl)).trans H1.out.x
  have O2 : Hid (Ob w2 base v2 (T.b ++ b)) := o2
  have G2 : Hid (Fr (fun k => k = z ∨ (Value.slice pv T.b.length cv).ownBlock = some k) w w2) := (Fr.below B1.out).trans (Fr.gb g2 (fun k hk => .inr hk))
  have L2 : Hid (v2.ownBlock = (Value.slice pv T.b.length cv).ownBlock ∨ v2.ownBlock = some w1.heap.size) := l2
  obtain ⟨p2, q2, rfl⟩ := o2.len
  have QL : Hid ((T.b ++ b).length = T.b.length + b.length) := List.length_append
  obtain ⟨m, hm⟩ : ∃ m, (T.b ++ b).length = m := ⟨_, rfl⟩
  have EM : Hid (m = T.b.length + b.length) := by unfold Hid; rw [← hm]; exact QL.out
  rw [hm] at O2 L2 ⊢
  clear hm QL o2 g2 l2 c0 c1 c2 c3 hl hli wb u1 u2' hT
  obtain ⟨c0, c1, c2, c3⟩ := X2.out.cells
  have f0 := X2.out.thaw 0
  go_upto_region 6 with fail
  have X3 : Hid (Tx (w2.setCell ⟨z, 0, none⟩ (.slice p2 m q2)) z (.slice p2 m q2) (.int .i64 (T.safe : Nat)) (.int .i64 (T.steps : Nat)) (.int .i64 T.fail)) := X2.out.set0 _
  have K3 : Hid (Kp z w2 (w2.setCell ⟨z, 0, none⟩ (.slice p2 m q2))) := Kp.set w2 0 _
  have O3 : Hid (Ob (w2.setCell ⟨z, 0, none⟩ (.slice p2 m q2)) base (.slice p2 m q2) (T.b ++ b)) := (Fr.kp (S := fun b => b = z) K3.out rfl).own O2.out (X2.out.ne O2.out)
  clear c0 c1 c2 c3 f0 X2
  generalize w2.setCell ⟨z, 0, none⟩ (.slice p2 m q2) = w3 at *
  obtain ⟨c0, c1, c2, c3⟩ := X3.out.cells
  have f2 := X3.out.thaw 2
  clear c1 c3
  go_upto_region 7 with fail
  have X4 : Hid (Tx (w3.setCell ⟨z, 2, none⟩ (.int .i64 ((T.steps : Int) + 1))) z (.slice p2 m q2) (.int .i64 (T.safe : Nat)) (.int .i64 ((T.steps : Int) + 1)) (.int .i64 T.fail)) := X3.out.set2 _
  have K4 : Hid (Kp z w3 (w3.setCell ⟨z, 2, none⟩ (.int .i64 ((T.steps : Int) + 1)))) := Kp.set w3 2 _
  have O4 : Hid (Ob (w3.setCell ⟨z, 2, none⟩ (.int .i64 ((T.steps : Int) + 1))) base (.slice p2 m q2) (T.b ++ b)) := (Fr.kp (S := fun b => b = z) K4.out rfl).own O3.out (X3.out.ne O3.out)
  clear c0 c2 f2 X3
  generalize w3.setCell ⟨z, 2, none⟩ (.int .i64 ((T.steps : Int) + 1)) = w4 at *
  obtain ⟨c0, c1, c2, c3⟩ := X4.out.cells
  clear c1 c2 c3
  go_wp2
  go_ret2
  have EM' := EM.out
  refine ⟨_, _, by rw [A.out.2, ← EM']; rfl, by rw [F.out]; exact Er.nil, by rw [A.out.1]; exact ⟨X4.out, O4.out, H1.out.z⟩, ⟨G2.out.trans ((Fr.kp K3.out (.inl rfl)).trans (Fr.kp K4.out (.inl rfl))), ?_⟩⟩
  rcases L2.out with h | h
  · exact .inl h
  · exact .inr ⟨_, h, B1.out.size⟩
/-- what Sync tells, and the tape behind it. -/
def TpV.syncF (T : TpV) : Int := if T.fails then 7 else 0
def TpV.sync (T : TpV) : TpV := if T.fails then T else { T with safe := T.b.length, steps := T.steps + 1 }
set_option maxRecDepth 100000 in
set_option maxHeartbeats 8000000 in
theorem tsync_any (base z : Nat) (v : Value) (T : TpV) (w : World) (h : Tp w base z v T) (hs : T.steps ≤ 1000000) :
    Calls Tryd.prog 6 #[.pointer (some ⟨z, 0, none⟩)] w fun e w' => ∃ r, e = .returned r ∧ Er r T.syncF ∧ Tp w' base z v T.sync ∧ Ts z v v w w' := by
  have H : Hid (Tp w base z v T) := h
  obtain ⟨pv, cv, rfl⟩ := h.o.len
  clear h
  go_enter Tryd.func6, Tryd.ntmps6
  go_wp2_with fail
  refine Calls.mono (tfails_any base z _ T w H.out) ?_
  rintro e w1 ⟨rfl, b1⟩
  have B1 : Hid (Below w.heap.size w w1) := b1
  have H1 : Hid (Tp w1 base z _ T) := H.out.below b1
  clear b1 H
  cases hf : T.fails
  case true =>
    have F : Hid (T.syncF = 7 ∧ T.sync = T) := by unfold Hid TpV.syncF TpV.sync; rw [hf]; exact ⟨rfl, rfl⟩
    clear hf
    go_wp2
    go_ret
    exact ⟨_, rfl, by rw [F.out.1]; exact Er.no (by decide), by rw [F.out.2]; exact H1.out, Ts.of B1.out⟩
  have F : Hid (T.syncF = 0 ∧ T.sync = { T with safe := T.b.length, steps := T.steps + 1 }) := by unfold Hid TpV.syncF TpV.sync; rw [hf]; exact ⟨rfl, rfl⟩
  clear hf
  obtain ⟨c0, c1, c2, c3⟩ := H1.out.x.cells
  have f1 := H1.out.x.thaw 1
  clear c2 c3
  go_upto_region 4 with fail
  have X3 : Hid (Tx (w1.setCell ⟨z, 1, none⟩ (.int .i64 (T.b.length : Nat))) z (.slice pv T.b.length cv) (.int .i64 (T.b.length : Nat)) (.int .i64 (T.steps : Nat)) (.int .i64 T.fail)) := H1.out.x.set1 _
  have K3 : Hid (Kp z w1 (w1.setCell ⟨z, 1, none⟩ (.int .i64 (T.b.length : Nat)))) := Kp.set w1 1 _
  have O3 : Hid (Ob (w1.setCell ⟨z, 1, none⟩ (.int .i64 (T.b.length : Nat))) base (.slice pv T.b.length cv) T.b) := (Fr.kp (S := fun b => b = z) K3.out rfl).own H1.out.o (H1.out.x.ne H1.out.o)
  clear c0 c1 f1
  generalize w1.setCell ⟨z, 1, none⟩ (.int .i64 (T.b.length : Nat)) = w3 at *
  obtain ⟨c0, c1, c2, c3⟩ := X3.out.cells
  have f2 := X3.out.thaw 2
  clear c0 c1 c3
  go_upto_region 5 with fail
  have X4 : Hid (Tx (w3.setCell ⟨z, 2, none⟩ (.int .i64 ((T.steps : Int) + 1))) z (.slice pv T.b.length cv) (.int .i64 (T.b.length : Nat)) (.int .i64 ((T.steps : Int) + 1)) (.int .i64 T.fail)) := X3.out.set2 _
  have K4 : Hid (Kp z w3 (w3.setCell ⟨z, 2, none⟩ (.int .i64 ((T.steps : Int) + 1)))) := Kp.set w3 2 _
  have O4 : Hid (Ob (w3.setCell ⟨z, 2, none⟩ (.int .i64 ((T.steps : Int) + 1))) base (.slice pv T.b.length cv) T.b) := (Fr.kp (S := fun b => b = z) K4.out rfl).own O3.out (X3.out.ne O3.out)
  clear c2 f2 X3
  generalize w3.setCell ⟨z, 2, none⟩ (.int .i64 ((T.steps : Int) + 1)) = w4 at *
  go_wp2
  go_ret
  exact ⟨_, rfl, by rw [F.out.1]; exact Er.nil, by rw [F.out.2]; exact ⟨X4.out, O4.out, H1.out.z⟩, ⟨(Fr.below B1.out).trans ((Fr.kp K3.out (.inl rfl)).trans (Fr.kp K4.out (.inl rfl))), .inl rfl⟩⟩
set_option maxRecDepth 100000 in
set_option maxHeartbeats 4000000 in
theorem tsafe_any (base z : Nat) (v : Value) (T : TpV) (w : World) (h : Tp w base z v T) :
    Calls Tryd.prog 12 #[.pointer (some ⟨z, 0, none⟩)] w fun e w' => e = .returned (.int .i64 (T.safe : Nat)) ∧ w' = w := by
  obtain ⟨c0, c1, c2, c3⟩ := h.x.cells
  clear c0 c2 c3 h
  go_enter Tryd.func12, Tryd.ntmps12
  go_wp2
  go_ret
  exact ⟨rfl, rfl⟩
set_option maxRecDepth 100000 in
set_option maxHeartbeats 4000000 in
theorem tbytes_any (base z : Nat) (v : Value) (T : TpV) (w : World) (h : Tp w base z v T) (hT : T.b.length ≤ 6000) :
    Calls Tryd.prog 11 #[.pointer (some ⟨z, 0, none⟩)] w fun e w' => ∃ u, e = .returned u ∧ Be w' w.heap.size u T.b ∧ Below w.heap.size w w' := by
  obtain ⟨pv, cv, rfl⟩ := h.o.len
  have O : Hid (Ob w base (.slice pv T.b.length cv) T.b) := h.o
  obtain ⟨c0, c1, c2, c3⟩ := h.x.cells
  clear c1 c2 c3 h
  go_enter Tryd.func11, Tryd.ntmps11
  go_wp2_with fail
  refine Calls.mono (bclone_any _ T.b w O.out.by_ (by omega)) ?_
  rintro e w1 ⟨u, rfl, hu, b1⟩
  have U : Hid (Be w1 w.heap.size u T.b) := hu
  have B : Hid (Below w.heap.size w w1) := b1
  clear hu b1
  go_wp2
  go_ret
  exact ⟨_, rfl, U.out, B.out⟩
/-- how much stays. -/
def TpV.kept (T : TpV) (k : Int) : Nat := T.safe + min k.toNat (T.b.length - T.safe)
def TpV.crash (T : TpV) (k : Int) : TpV := ⟨T.b.take (T.kept k), T.kept k, 0, -1⟩
set_option maxRecDepth 100000 in
set_option maxHeartbeats 8000000 in
theorem tcrash_any (base z : Nat) (v : Value) (T : TpV) (k : Int) (w : World) (h : Tp w base z v T) (hT : T.b.length ≤ 6000) (hs : T.safe ≤ T.b.length) (hk : (Lit.int .i64 k).wf = true) :
    Calls Tryd.prog 8 #[.pointer (some ⟨z, 0, none⟩), .int .i64 k] w fun e w' => ∃ r v', e = .returned r ∧ Tp w' base z v' (T.crash k) ∧ Ts z v v' w w' := by
  have H : Hid (Tp w base z v T) := h
  have HS : Hid (T.safe ≤ T.b.length) := hs
  obtain ⟨pv, cv, rfl⟩ := h.o.len
  obtain ⟨c0, c1, c2, c3⟩ := h.x.cells
  obtain ⟨kn, hkn⟩ : ∃ kn : Nat, k.toNat = kn := ⟨_, rfl⟩
  obtain ⟨j, hj⟩ : ∃ j : Nat, min kn (T.b.length - T.safe) = j := ⟨_, rfl⟩
  have k0 : (if k < 0 then 0 else k) = (kn : Int) := by rw [← hkn]; split <;> omega
  have k1 : (if (T.b.length : Int) - (T.safe : Int) < (kn : Int) then (T.b.length : Int) - (T.safe : Int) else (kn : Int)) = (j : Int) := by rw [← hj]; split <;> omega
  obtain ⟨m, hm⟩ : ∃ m : Nat, T.safe + j = m := ⟨_, rfl⟩
  have KM : Hid (T.kept k = m ∧ m ≤ T.b.length) := ⟨by unfold TpV.kept; rw [hkn, hj, hm], by omega⟩
  have m0 : (T.safe : Int) + (j : Int) = (m : Int) := by omega
  have wd : IntKind.i64.wrap ((T.b.length : Int) - (T.safe : Int)) = (T.b.length : Int) - (T.safe : Int) := by rw [IntKind.wrap_i64]; omega
  have wm : IntKind.i64.wrap (m : Int) = (m : Int) := by rw [IntKind.wrap_i64]; omega
  have mc : m ≤ cv := by
    rcases h.o.2 with ⟨h1, h2⟩ | ⟨g, cap, cur, h1, h2, h3, h4, h5, h6, h7⟩
    · rw [h2] at hj; omega
    · injection h1 with e1 e2 e3; omega
  have mci : (m : Int) ≤ (cv : Nat) := by omega
  have OT : Hid (Ob w base (.slice pv m cv) (T.b.take m)) := h.o.take KM.out.2
  have LT : Hid ((T.b.take m).length = m) := by have := KM.out.2; unfold Hid; rw [List.length_take]; omega
  have PV : pv = none ∨ ∃ g, pv = some ⟨g, 0, none⟩ := by
    rcases h.o.2 with ⟨h1, h2⟩ | ⟨g, cap, cur, h1, h2, h3, h4, h5, h6, h7⟩
    · injection h1 with e1 e2 e3; exact .inl e1
    · injection h1 with e1 e2 e3; exact .inr ⟨g, e1⟩
  clear h hj hkn hm hs
  go_enter Tryd.func8, Tryd.ntmps8
  go_upto_region 0 with fail
  go_region
  have X1 : Hid (Tx w.drew z (.slice pv T.b.length cv) (.int .i64 (T.safe : Nat)) (.int .i64 (T.steps : Nat)) (.int .i64 T.fail)) := H.out.x
  have O1 : Hid (Ob w.drew base (.slice pv m cv) (T.b.take m)) := OT.out
  have B1 : Hid (Below w.heap.size w w.drew) := (Below.refl _ _).drew
  have V1 : Hid ((Value.slice pv m cv).ownBlock = (Value.slice pv T.b.length cv).ownBlock) := by unfold Hid; cases pv <;> rfl
  clear c0 c1 k0 k1 OT wd
  generalize w.drew = w1 at *
  obtain ⟨c0, c1, c2, c3⟩ := X1.out.cells
  have f0 := X1.out.thaw 0
  clear c2 c3
  go_upto_region 1 with fail
  rcases PV with rfl | ⟨g, rfl⟩
  case inl =>
    go_region
    have X2 : Hid (Tx ((w1.setCell ⟨z, 0, none⟩ (.slice none m cv)).drew) z (.slice none m cv) (.int .i64 (T.safe : Nat)) (.int .i64 (T.steps : Nat)) (.int .i64 T.fail)) := X1.out.set0 _
    have K2 : Hid (Kp z w1 ((w1.setCell ⟨z, 0, none⟩ (.slice none m cv)).drew)) := (Kp.set w1 0 _).trans (Kp.of (Below.refl _ _).drew)
    have O2 : Hid (Ob ((w1.setCell ⟨z, 0, none⟩ (.slice none m cv)).drew) base (.slice none m cv) (T.b.take m)) := (Fr.kp (S := fun b => b = z) K2.out rfl).own O1.out (X1.out.ne O1.out)
    clear c0 c1 f0
    generalize (w1.setCell ⟨z, 0, none⟩ (.slice none m cv)).drew = w2 at *
    obtain ⟨c0, c1, c2, c3⟩ := X2.out.cells
    have f1 := X2.out.thaw 1
    clear c2 c3
    go_upto_region 3 with fail
    have X3 : Hid (Tx (w2.setCell ⟨z, 1, none⟩ (.int .i64 (m : Nat))) z (.slice none m cv) (.int .i64 (m : Nat)) (.int .i64 (T.steps : Nat)) (.int .i64 T.fail)) := X2.out.set1 _
    have K3 : Hid (Kp z w2 (w2.setCell ⟨z, 1, none⟩ (.int .i64 (m : Nat)))) := Kp.set w2 1 _
    have O3 : Hid (Ob (w2.setCell ⟨z, 1, none⟩ (.int .i64 (m : Nat))) base (.slice none m cv) (T.b.take m)) := (Fr.kp (S := fun b => b = z) K3.out rfl).own O2.out (X2.out.ne O2.out)
    clear c0 c1 f1
    generalize w2.setCell ⟨z, 1, none⟩ (.int .i64 (m : Nat)) = w3 at *
    obtain ⟨c0, c1, c2, c3⟩ := X3.out.cells
    have f2 := X3.out.thaw 2
    clear c0 c1 c3
    go_upto_region 4 with fail
    have X4 : Hid (Tx (w3.setCell ⟨z, 2, none⟩ (.int .i64 0)) z (.slice none m cv) (.int .i64 (m : Nat)) (.int .i64 0) (.int .i64 T.fail)) := X3.out.set2 _
    have K4 : Hid (Kp z w3 (w3.setCell ⟨z, 2, none⟩ (.int .i64 0))) := Kp.set w3 2 _
    have O4 : Hid (Ob (w3.setCell ⟨z, 2, none⟩ (.int .i64 0)) base (.slice none m cv) (T.b.take m)) := (Fr.kp (S := fun b => b = z) K4.out rfl).own O3.out (X3.out.ne O3.out)
    clear c2 f2
    generalize w3.setCell ⟨z, 2, none⟩ (.int .i64 0) = w4 at *
    obtain ⟨c0, c1, c2, c3⟩ := X4.out.cells
    have f3 := X4.out.thaw 3
    clear c0 c1 c2
    go_wp2
    have X5 : Hid (Tx (w4.setCell ⟨z, 3, none⟩ (.int .i64 (-1))) z (.slice none m cv) (.int .i64 (m : Nat)) (.int .i64 0) (.int .i64 (-1))) := X4.out.set3 _
    have K5 : Hid (Kp z w4 (w4.setCell ⟨z, 3, none⟩ (.int .i64 (-1)))) := Kp.set w4 3 _
    have O5 : Hid (Ob (w4.setCell ⟨z, 3, none⟩ (.int .i64 (-1))) base (.slice none m cv) (T.b.take m)) := (Fr.kp (S := fun b => b = z) K5.out rfl).own O4.out (X4.out.ne O4.out)
    have TK : Hid (T.crash k = ⟨T.b.take m, m, 0, -1⟩) := by unfold Hid TpV.crash; rw [KM.out.1]
    go_end0
    exact ⟨_, _, rfl, by rw [TK.out]; exact ⟨X5.out, O5.out, H.out.z⟩, ⟨(Fr.below B1.out).trans ((Fr.kp K2.out (.inl rfl)).trans ((Fr.kp K3.out (.inl rfl)).trans ((Fr.kp K4.out (.inl rfl)).trans (Fr.kp K5.out (.inl rfl))))), .inl V1.out⟩⟩
  case inr =>
    go_region
    have X2 : Hid (Tx ((w1.setCell ⟨z, 0, none⟩ (.slice (some ⟨g, 0, none⟩) m cv)).drew) z (.slice (some ⟨g, 0, none⟩) m cv) (.int .i64 (T.safe : Nat)) (.int .i64 (T.steps : Nat)) (.int .i64 T.fail)) := X1.out.set0 _
    have K2 : Hid (Kp z w1 ((w1.setCell ⟨z, 0, none⟩ (.slice (some ⟨g, 0, none⟩) m cv)).drew)) := (Kp.set w1 0 _).trans (Kp.of (Below.refl _ _).drew)
    have O2 : Hid (Ob ((w1.setCell ⟨z, 0, none⟩ (.slice (some ⟨g, 0, none⟩) m cv)).drew) base (.slice (some ⟨g, 0, none⟩) m cv) (T.b.take m)) := (Fr.kp (S := fun b => b = z) K2.out rfl).own O1.out (X1.out.ne O1.out)
    clear c0 c1 f0
    generalize (w1.setCell ⟨z, 0, none⟩ (.slice (some ⟨g, 0, none⟩) m cv)).drew = w2 at *
    obtain ⟨c0, c1, c2, c3⟩ := X2.out.cells
    have f1 := X2.out.thaw 1
    clear c2 c3
    go_upto_region 3 with fail
    have X3 : Hid (Tx (w2.setCell ⟨z, 1, none⟩ (.int .i64 (m : Nat))) z (.slice (some ⟨g, 0, none⟩) m cv) (.int .i64 (m : Nat)) (.int .i64 (T.steps : Nat)) (.int .i64 T.fail)) := X2.out.set1 _
    have K3 : Hid (Kp z w2 (w2.setCell ⟨z, 1, none⟩ (.int .i64 (m : Nat)))) := Kp.set w2 1 _
    have O3 : Hid (Ob (w2.setCell ⟨z, 1, none⟩ (.int .i64 (m : Nat))) base (.slice (some ⟨g, 0, none⟩) m cv) (T.b.take m)) := (Fr.kp (S := fun b => b = z) K3.out rfl).own O2.out (X2.out.ne O2.out)
    clear c0 c1 f1
    generalize w2.setCell ⟨z, 1, none⟩ (.int .i64 (m : Nat)) = w3 at *
    obtain ⟨c0, c1, c2, c3⟩ := X3.out.cells
    have f2 := X3.out.thaw 2
    clear c0 c1 c3
    go_upto_region 4 with fail
    have X4 : Hid (Tx (w3.setCell ⟨z, 2, none⟩ (.int .i64 0)) z (.slice (some ⟨g, 0, none⟩) m cv) (.int .i64 (m : Nat)) (.int .i64 0) (.int .i64 T.fail)) := X3.out.set2 _
    have K4 : Hid (Kp z w3 (w3.setCell ⟨z, 2, none⟩ (.int .i64 0))) := Kp.set w3 2 _
    have O4 : Hid (Ob (w3.setCell ⟨z, 2, none⟩ (.int .i64 0)) base (.slice (some ⟨g, 0, none⟩) m cv) (T.b.take m)) := (Fr.kp (S := fun b => b = z) K4.out rfl).own O3.out (X3.out.ne O3.out)
    clear c2 f2
    generalize w3.setCell ⟨z, 2, none⟩ (.int .i64 0) = w4 at *
    obtain ⟨c0, c1, c2, c3⟩ := X4.out.cells
    have f3 := X4.out.thaw 3
    clear c0 c1 c2
    go_wp2
    have X5 : Hid (Tx (w4.setCell ⟨z, 3, none⟩ (.int .i64 (-1))) z (.slice (some ⟨g, 0, none⟩) m cv) (.int .i64 (m : Nat)) (.int .i64 0) (.int .i64 (-1))) := X4.out.set3 _
    have K5 : Hid (Kp z w4 (w4.setCell ⟨z, 3, none⟩ (.int .i64 (-1)))) := Kp.set w4 3 _
    have O5 : Hid (Ob (w4.setCell ⟨z, 3, none⟩ (.int .i64 (-1))) base (.slice (some ⟨g, 0, none⟩) m cv) (T.b.take m)) := (Fr.kp (S := fun b => b = z) K5.out rfl).own O4.out (X4.out.ne O4.out)
    have TK : Hid (T.crash k = ⟨T.b.take m, m, 0, -1⟩) := by unfold Hid TpV.crash; rw [KM.out.1]
    go_end0
    exact ⟨_, _, rfl, by rw [TK.out]; exact ⟨X5.out, O5.out, H.out.z⟩, ⟨(Fr.below B1.out).trans ((Fr.kp K2.out (.inl rfl)).trans ((Fr.kp K3.out (.inl rfl)).trans ((Fr.kp K4.out (.inl rfl)).trans (Fr.kp K5.out (.inl rfl))))), .inl V1.out⟩⟩
end Go.Proofs.YtgdeonofdgpokaaDoor

namespace Go.Proofs.YtgdeonofdgpokaaDoor
open Go.RowKit
set_option linter.unusedVariables false

set_option maxRecDepth 100000 in
set_option maxHeartbeats 4000000 in
theorem tsteps_any (base z : Nat) (v : Value) (T : TpV) (w : World) (h : Tp w base z v T) :
    Calls Tryd.prog 13 #[.pointer (some ⟨z, 0, none⟩)] w fun e w' => e = .returned (.int .i64 (T.steps : Nat)) ∧ w' = w := by
  obtain ⟨c0, c1, c2, c3⟩ := h.x.cells
  clear c0 c1 c3 h
  go_enter Tryd.func13, Tryd.ntmps13
  go_wp2
  go_ret
  exact ⟨rfl, rfl⟩
set_option maxRecDepth 100000 in
set_option maxHeartbeats 4000000 in
theorem tfail_any (base z : Nat) (v : Value) (T : TpV) (k : Int) (w : World) (h : Tp w base z v T) :
    Calls Tryd.prog 9 #[.pointer (some ⟨z, 0, none⟩), .int .i64 k] w fun e w' => ∃ r, e = .returned r ∧ Tp w' base z v { T with fail := k } ∧ Ts z v v w w' := by
  have H : Hid (Tp w base z v T) := h
  obtain ⟨c0, c1, c2, c3⟩ := h.x.cells
  have f3 := h.x.thaw 3
  clear c0 c1 c2 h
  go_enter Tryd.func9, Tryd.ntmps9
  go_wp2
  have K : Kp z w (w.setCell ⟨z, 3, none⟩ (.int .i64 k)) := Kp.set w 3 _
  go_end0
  exact ⟨_, rfl, ⟨H.out.x.set3 _, (Fr.kp (S := fun b => b = z) K rfl).own H.out.o (H.out.x.ne H.out.o), H.out.z⟩, ⟨Fr.kp K (.inl rfl), .inl rfl⟩⟩
/-- what Cut tells, and the tape behind it. -/
def TpV.cutF (T : TpV) (n : Int) : Int := if T.fails then 7 else if n < 0 ∨ (T.b.length : Int) < n then 1 else 0
def TpV.cut (T : TpV) (n : Int) : TpV := if T.cutF n = 0 then { T with b := T.b.take n.toNat, safe := min T.safe n.toNat, steps := T.steps + 1 } else T
set_option maxRecDepth 100000 in
set_option maxHeartbeats 8000000 in
theorem tcut_any (base z : Nat) (v : Value) (T : TpV) (n : Int) (w : World) (h : Tp w base z v T) (hs : T.steps ≤ 1000000) :
    Calls Tryd.prog 7 #[.pointer (some ⟨z, 0, none⟩), .int .i64 n] w fun e w' => ∃ r v', e = .returned r ∧ Er r (T.cutF n) ∧ Tp w' base z v' (T.cut n) ∧ Ts z v v' w w' := by
  have H : Hid (Tp w base z v T) := h
  obtain ⟨pv, cv, rfl⟩ := h.o.len
  have PV : pv = none ∨ ∃ g, pv = some ⟨g, 0, none⟩ := by
    rcases h.o.2 with ⟨h1, h2⟩ | ⟨g, cap, cur, h1, h2, h3, h4, h5, h6, h7⟩
    · injection h1 with e1 e2 e3; exact .inl e1
    · injection h1 with e1 e2 e3; exact .inr ⟨g, e1⟩
  have cv1 : T.b.length ≤ cv := by
    rcases h.o.2 with ⟨h1, h2⟩ | ⟨g, cap, cur, h1, h2, h3, h4, h5, h6, h7⟩
    · injection h1 with e1 e2 e3; omega
    · injection h1 with e1 e2 e3; omega
  clear h
  go_enter Tryd.func7, Tryd.ntmps7
  go_wp2_with fail
  refine Calls.mono (tfails_any base z _ T w H.out) ?_
  rintro e w1 ⟨rfl, b1⟩
  have B1 : Hid (Below w.heap.size w w1) := b1
  have H1 : Hid (Tp w1 base z _ T) := H.out.below b1
  clear b1 H
  cases hf : T.fails
  case true =>
    have F : Hid (T.cutF n = 7 ∧ T.cut n = T) := by
      have e : T.cutF n = 7 := by unfold TpV.cutF; rw [hf]; rfl
      unfold Hid TpV.cut
      rw [e]
      exact ⟨rfl, rfl⟩
    clear hf
    go_wp2
    go_ret
    exact ⟨_, _, rfl, by rw [F.out.1]; exact Er.no (by decide), by rw [F.out.2]; exact H1.out, Ts.of B1.out⟩
  obtain ⟨c0, c1, c2, c3⟩ := H1.out.x.cells
  by_cases hb : n < 0 ∨ (T.b.length : Int) < n
  · have F : Hid (T.cutF n = 1 ∧ T.cut n = T) := by
      have e : T.cutF n = 1 := by unfold TpV.cutF; rw [hf, if_neg (by decide), if_pos hb]
      unfold Hid TpV.cut
      rw [e]
      exact ⟨rfl, rfl⟩
    clear hf
    by_cases h0 : n < 0
    · clear hb
      go_wp2
      go_ret
      exact ⟨_, _, rfl, by rw [F.out.1]; exact Er.no (by decide), by rw [F.out.2]; exact H1.out, Ts.of B1.out⟩
    · have h1 : (T.b.length : Int) < n := by omega
      clear hb
      go_wp2
      go_ret
      exact ⟨_, _, rfl, by rw [F.out.1]; exact Er.no (by decide), by rw [F.out.2]; exact H1.out, Ts.of B1.out⟩
  obtain ⟨m, rfl⟩ : ∃ m : Nat, n = (m : Nat) := ⟨n.toNat, by omega⟩
  have hm : m ≤ T.b.length := by omega
  have F : Hid (T.cutF (m : Nat) = 0 ∧ T.cut (m : Nat) = { T with b := T.b.take m, safe := min T.safe m, steps := T.steps + 1 }) := by
    have e : T.cutF (m : Nat) = 0 := by unfold TpV.cutF; rw [hf, if_neg (by decide), if_neg hb]
    unfold Hid TpV.cut
    rw [e]
    exact ⟨rfl, rfl⟩
  have O1 : Hid (Ob w1 base (.slice pv m cv) (T.b.take m)) := H1.out.o.take hm
  have LT : Hid ((T.b.take m).length = m) := by unfold Hid; rw [List.length_take]; omega
  have V1 : Hid ((Value.slice pv m cv).ownBlock = (Value.slice pv T.b.length cv).ownBlock) := by unfold Hid; cases pv <;> rfl
  have n0 : ¬ ((m : Int) < 0) := by omega
  have n1 : ¬ ((T.b.length : Int) < (m : Nat)) := by omega
  have mc : (m : Int) ≤ (cv : Nat) := by omega
  obtain ⟨s2, hs2⟩ : ∃ s2, min T.safe m = s2 := ⟨_, rfl⟩
  have S2 : Hid (min T.safe m = s2) := hs2
  have k1 : (if (m : Int) < (T.safe : Nat) then (m : Int) else (T.safe : Nat)) = (s2 : Nat) := by rw [← hs2]; split <;> omega
  have k2 : (if m < T.safe then (m : Int) else (T.safe : Nat)) = (s2 : Nat) := by rw [← hs2]; split <;> omega
  have f0 := H1.out.x.thaw 0
  clear hf hb hm hs2
  rcases PV with rfl | ⟨g, rfl⟩
  case inl =>
    go_upto_region 6 with fail
    have X2 : Hid (Tx (w1.setCell ⟨z, 0, none⟩ (.slice none m cv)) z (.slice none m cv) (.int .i64 (T.safe : Nat)) (.int .i64 (T.steps : Nat)) (.int .i64 T.fail)) := H1.out.x.set0 _
    have K2 : Hid (Kp z w1 (w1.setCell ⟨z, 0, none⟩ (.slice none m cv))) := Kp.set w1 0 _
    have O2 : Hid (Ob (w1.setCell ⟨z, 0, none⟩ (.slice none m cv)) base (.slice none m cv) (T.b.take m)) := (Fr.kp (S := fun b => b = z) K2.out rfl).own O1.out (H1.out.x.ne O1.out)
    clear c0 c1 c2 c3 f0
    generalize w1.setCell ⟨z, 0, none⟩ (.slice none m cv) = w2 at *
    obtain ⟨c0, c1, c2, c3⟩ := X2.out.cells
    have f1 := X2.out.thaw 1
    clear c0 c2 c3
    go_upto_region 7 with fail
    have X3 : Hid (Tx (w2.setCell ⟨z, 1, none⟩ (.int .i64 (s2 : Nat))) z (.slice none m cv) (.int .i64 (s2 : Nat)) (.int .i64 (T.steps : Nat)) (.int .i64 T.fail)) := X2.out.set1 _
    have K3 : Hid (Kp z w2 (w2.setCell ⟨z, 1, none⟩ (.int .i64 (s2 : Nat)))) := Kp.set w2 1 _
    have O3 : Hid (Ob (w2.setCell ⟨z, 1, none⟩ (.int .i64 (s2 : Nat))) base (.slice none m cv) (T.b.take m)) := (Fr.kp (S := fun b => b = z) K3.out rfl).own O2.out (X2.out.ne O2.out)
    clear c1 f1 k1 k2
    generalize w2.setCell ⟨z, 1, none⟩ (.int .i64 (s2 : Nat)) = w3 at *
    obtain ⟨c0, c1, c2, c3⟩ := X3.out.cells
    have f2 := X3.out.thaw 2
    clear c0 c1 c3
    go_upto_region 8 with fail
    have X4 : Hid (Tx (w3.setCell ⟨z, 2, none⟩ (.int .i64 ((T.steps : Int) + 1))) z (.slice none m cv) (.int .i64 (s2 : Nat)) (.int .i64 ((T.steps : Int) + 1)) (.int .i64 T.fail)) := X3.out.set2 _
    have K4 : Hid (Kp z w3 (w3.setCell ⟨z, 2, none⟩ (.int .i64 ((T.steps : Int) + 1)))) := Kp.set w3 2 _
    have O4 : Hid (Ob (w3.setCell ⟨z, 2, none⟩ (.int .i64 ((T.steps : Int) + 1))) base (.slice none m cv) (T.b.take m)) := (Fr.kp (S := fun b => b = z) K4.out rfl).own O3.out (X3.out.ne O3.out)
    clear c2 f2
    generalize w3.setCell ⟨z, 2, none⟩ (.int .i64 ((T.steps : Int) + 1)) = w4 at *
    go_wp2
    go_ret
    exact ⟨_, _, rfl, by rw [F.out.1]; exact Er.nil, by rw [F.out.2, S2.out]; exact ⟨X4.out, O4.out, H1.out.z⟩, ⟨(Fr.below B1.out).trans ((Fr.kp K2.out (.inl rfl)).trans ((Fr.kp K3.out (.inl rfl)).trans (Fr.kp K4.out (.inl rfl)))), .inl V1.out⟩⟩
  case inr =>
    go_upto_region 6 with fail
    have X2 : Hid (Tx (w1.setCell ⟨z, 0, none⟩ (.slice (some ⟨g, 0, none⟩) m cv)) z (.slice (some ⟨g, 0, none⟩) m cv) (.int .i64 (T.safe : Nat)) (.int .i64 (T.steps : Nat)) (.int .i64 T.fail)) := H1.out.x.set0 _
    have K2 : Hid (Kp z w1 (w1.setCell ⟨z, 0, none⟩ (.slice (some ⟨g, 0, none⟩) m cv))) := Kp.set w1 0 _
    have O2 : Hid (Ob (w1.setCell ⟨z, 0, none⟩ (.slice (some ⟨g, 0, none⟩) m cv)) base (.slice (some ⟨g, 0, none⟩) m cv) (T.b.take m)) := (Fr.kp (S := fun b => b = z) K2.out rfl).own O1.out (H1.out.x.ne O1.out)
    clear c0 c1 c2 c3 f0
    generalize w1.setCell ⟨z, 0, none⟩ (.slice (some ⟨g, 0, none⟩) m cv) = w2 at *
    obtain ⟨c0, c1, c2, c3⟩ := X2.out.cells
    have f1 := X2.out.thaw 1
    clear c0 c2 c3
    go_upto_region 7 with fail
    have X3 : Hid (Tx (w2.setCell ⟨z, 1, none⟩ (.int .i64 (s2 : Nat))) z (.slice (some ⟨g, 0, none⟩) m cv) (.int .i64 (s2 : Nat)) (.int .i64 (T.steps : Nat)) (.int .i64 T.fail)) := X2.out.set1 _
    have K3 : Hid (Kp z w2 (w2.setCell ⟨z, 1, none⟩ (.int .i64 (s2 : Nat)))) := Kp.set w2 1 _
    have O3 : Hid (Ob (w2.setCell ⟨z, 1, none⟩ (.int .i64 (s2 : Nat))) base (.slice (some ⟨g, 0, none⟩) m cv) (T.b.take m)) := (Fr.kp (S := fun b => b = z) K3.out rfl).own O2.out (X2.out.ne O2.out)
    clear c1 f1 k1 k2
    generalize w2.setCell ⟨z, 1, none⟩ (.int .i64 (s2 : Nat)) = w3 at *
    obtain ⟨c0, c1, c2, c3⟩ := X3.out.cells
    have f2 := X3.out.thaw 2
    clear c0 c1 c3
    go_upto_region 8 with fail
    have X4 : Hid (Tx (w3.setCell ⟨z, 2, none⟩ (.int .i64 ((T.steps : Int) + 1))) z (.slice (some ⟨g, 0, none⟩) m cv) (.int .i64 (s2 : Nat)) (.int .i64 ((T.steps : Int) + 1)) (.int .i64 T.fail)) := X3.out.set2 _
    have K4 : Hid (Kp z w3 (w3.setCell ⟨z, 2, none⟩ (.int .i64 ((T.steps : Int) + 1)))) := Kp.set w3 2 _
    have O4 : Hid (Ob (w3.setCell ⟨z, 2, none⟩ (.int .i64 ((T.steps : Int) + 1))) base (.slice (some ⟨g, 0, none⟩) m cv) (T.b.take m)) := (Fr.kp (S := fun b => b = z) K4.out rfl).own O3.out (X3.out.ne O3.out)
    clear c2 f2
    generalize w3.setCell ⟨z, 2, none⟩ (.int .i64 ((T.steps : Int) + 1)) = w4 at *
    go_wp2
    go_ret
    exact ⟨_, _, rfl, by rw [F.out.1]; exact Er.nil, by rw [F.out.2, S2.out]; exact ⟨X4.out, O4.out, H1.out.z⟩, ⟨(Fr.below B1.out).trans ((Fr.kp K2.out (.inl rfl)).trans ((Fr.kp K3.out (.inl rfl)).trans (Fr.kp K4.out (.inl rfl)))), .inl V1.out⟩⟩
end Go.Proofs.YtgdeonofdgpokaaDoor

namespace Go.Proofs.YtgdeonofdgpokaaDoor
open Go.ChangeShapes Go.WideShapes Go.ChangeAt Go.RowKit
set_option linter.unusedVariables false

/-- v is a list of lists of integers. -/
def Ill (w : World) (v : Value) (ls : List (List Int)) : Prop := ∃ a c, v = .slice a ls.length c ∧ ls.length ≤ c ∧ c ≤ 9223372036854775807 ∧ (ls ≠ [] → ∃ x, a = some x ∧ x.block < w.heap.size ∧ ∀ (i : Nat) l, ls[i]? = some l → ∃ u, w.cell? (x.add i) = some u ∧ Ro w u l ∧ ∀ z ∈ l, (Lit.int .i64 z).wf = true)
theorem Ill.below {w w' : World} {v : Value} {ls : List (List Int)} (h : Ill w v ls) (hb : Below w.heap.size w w') : Ill w' v ls := by
  obtain ⟨a, c, h1, h2, h3, h4⟩ := h
  refine ⟨a, c, h1, h2, h3, fun hn => ?_⟩
  obtain ⟨x, e, hx, hy⟩ := h4 hn
  refine ⟨x, e, Nat.lt_of_lt_of_le hx hb.size, fun i l hl => ?_⟩
  obtain ⟨u, c1, c2, c3⟩ := hy i l hl
  exact ⟨u, by rw [hb.cell (by rw [add_block]; exact hx)]; exact c1, c2.below hb, c3⟩
set_option maxRecDepth 100000 in
theorem open_row {H : Type} {enc : TypeId × Value → H} {W : World} {base : Nat} {held : Bool} {fuel : Nat} {v : Value} {y : DataW H × List MemPlace} (h : DataW.trod enc Tryd.prog W base (fun _ => true) held fuel 27 [v] = some y) :
    ∃ l : List Int, Ro W v l ∧ ∀ z ∈ l, (Lit.int .i64 z).wf = true := by
  rcases open_ints Tryd.underlying27 Tryd.underlying3 (by kernel_rfl) h with ⟨hcs, _⟩ | ⟨x, l, c, zs, hcs, _, hl, hm, hz, _, hcell, hwz⟩
  · simp at hcs
    subst hcs
    exact ⟨_, IsRow.ro (.inl ⟨rfl, rfl, rfl, rfl⟩), by simp⟩
  · simp at hcs
    subst hcs
    exact ⟨_, IsRow.ro (zs := zs) (.inr ⟨_, rfl, hl, hm, by simpa using hz, hcell, hwz⟩), fun z hz => hwz z (List.mem_of_mem_take hz)⟩
set_option maxRecDepth 100000 in
theorem open_ills {H : Type} {enc : TypeId × Value → H} {W : World} {base : Nat} {held : Bool} {fuel : Nat} {v : Value} {y : DataW H × List MemPlace} (h : DataW.trod enc Tryd.prog W base (fun _ => true) held fuel 22 [v] = some y) :
    ∃ ls : List (List Int), Ill W v ls := by
  have csk : Tryd.prog.cellsOf 27 = 1 := by kernel_rfl
  rcases Go.Deep.open_slice Tryd.underlying22 h with ⟨hcs, -⟩ | ⟨a, len, cap, m, q, D, Pl, hcs, hb, hl, hm, hmm, -, hx⟩
  · simp at hcs
    subst hcs
    exact ⟨[], ⟨none, 0, rfl, Nat.le_refl _, by omega, fun h => absurd rfl h⟩⟩
  · simp at hcs
    subst hcs
    have hlm : len ≤ m := by rw [hmm]; simp; exact hl
    have each : ∀ i, i < len → ∃ l : List Int, ∃ u, W.cell? (a.add i) = some u ∧ Ro W u l ∧ ∀ z ∈ l, (Lit.int .i64 z).wf = true := by
      intro i hi
      obtain ⟨cs', h1, h2⟩ := hx i (by omega)
      rw [csk] at h1
      rw [Nat.mul_one] at h1
      obtain ⟨-, hlen, hcell⟩ := World.cells?_some h1
      match cs', hlen with
      | [u], _ =>
        obtain ⟨l, hl', hw⟩ := open_row h2
        exact ⟨l, u, hcell 0 (by decide), hl', hw⟩
    obtain ⟨q, hq⟩ := Go.Deep.choose_lt each
    refine ⟨(List.range len).map q, ⟨some a, cap, by simp, by simpa using hl, by unfold maxLen at hm; omega, fun hn => ⟨a, rfl, ?_, fun i k hk => ?_⟩⟩⟩
    · have h0 : 0 < len := by
        rcases Nat.eq_zero_or_pos len with h | h
        · subst h; simp at hn
        · exact h
      obtain ⟨u, h1, -⟩ := hq 0 h0
      have := cell_lt h1
      rwa [add_block] at this
    · have hi : i < len := by
        have := (List.getElem?_eq_some_iff.1 hk).1
        simpa using this
      rw [List.getElem?_map, List.getElem?_range hi] at hk
      injection hk with hk
      subst hk
      exact hq i hi
set_option maxRecDepth 100000 in
theorem ills_in {H : Type} {enc : TypeId × Value → H} {W : World} {base b0 : Nat} {held : Bool} {v : Value} {d : DataW H} {p : List MemPlace} (hv : Value.okWide Tryd.prog W .any b0 22 v) (h : DataW.Trod enc Tryd.prog W base (fun _ => true) held 22 v d p) : ∃ ls : List (List Int), Ill W v ls := by
  obtain ⟨a, len, cap, rfl⟩ := okWide_slice Tryd.underlying22 hv
  obtain ⟨fuel, hf⟩ := h
  exact open_ills hf
end Go.Proofs.YtgdeonofdgpokaaDoor

