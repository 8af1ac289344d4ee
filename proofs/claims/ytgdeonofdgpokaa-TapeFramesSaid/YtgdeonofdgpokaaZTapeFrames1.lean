/- What stays where one block turns. (Big2 has the same words for texts of its own; where both are wanted, let Big2 import this.) · What a walk is told of a slice of integers that came in. · Lists of integers: what a slice holds. · Bytes that the call itself makes, by append. · Bytes that came in. · A whole list behind another one, where there is nothing in it. · What stays where some blocks turn; two blocks of two types. · Bytes: a whole list behind another one; a part of one. · Lists of texts of bytes: those that came in, and those that the call itself makes. · Frames, as mathematics. · bytes.Clone; tape.first, Frame, Frames. · How great what came in is; a byte. · What a walk is told of bytes that came in. · What a walk is told of lists of texts of bytes that came in; a part of such a list. · Short texts of bytes, as they are written out. -/
import Derived.Test.YtgdeonofdgpokaaRows
import Derived.WalkKit
import Derived.WalkSpells
import Derived.WalkLawsBesides
import Derived.ProofKit
import Derived.Deep.QuietTactic
import Derived.BigQuiet
import Derived.OwnWalk
import Derived.Deep.AppendLies
import Derived.Lib.Bytealg
import Derived.Laws.AppendOwnNone
import Derived.Laws.IdiomStrings
import Derived.LoopN
import Derived.Deep.DeepCutAuto
import Derived.Lib.SliceRun
import Derived.Deep.SlicePairs
import Derived.ChangeArms
import Derived.OpenShut
import Derived.Lib.SmallJoins
namespace Go.Proofs.Ytgdeonofdgpokaa
open Go.RowKit

/-- nothing below has turned but block z. -/
structure Kp (z : Nat) (w w' : World) : Prop where
  os : w'.os = w.os
  tape : w'.tape = w.tape
  output : w'.output = w.output
  size : w.heap.size ≤ w'.heap.size
  block : ∀ k, k < w.heap.size → k ≠ z → w'.heap[k]? = w.heap[k]?

theorem Kp.of {z : Nat} {w w' : World} (h : Below w.heap.size w w') : Kp z w w' := ⟨h.os, h.tape, h.output, h.size, fun k hk _ => h.block k hk⟩
theorem Kp.refl (z : Nat) (w : World) : Kp z w w := Kp.of (Below.refl _ _)
theorem Kp.trans {z : Nat} {a b c : World} (h : Kp z a b) (k : Kp z b c) : Kp z a c :=
  ⟨k.os.trans h.os, k.tape.trans h.tape, k.output.trans h.output, Nat.le_trans h.size k.size, fun i hi hz => (k.block i (Nat.lt_of_lt_of_le hi h.size) hz).trans (h.block i hi hz)⟩
theorem Kp.set {z : Nat} (w : World) (i : Nat) (u : Value) : Kp z w (w.setCell ⟨z, i, none⟩ u) :=
  ⟨rfl, rfl, rfl, by simp [World.setCell], fun k _ hz => Below.heap_setCell _ _ _ _ hz⟩
theorem Kp.below {z B : Nat} {a w w' : World} (h : Below B a w) (k : Kp z w w') (hB : B ≤ w.heap.size) (hz : B ≤ z) : Below B a w' :=
  h.trans ⟨k.os, k.tape, k.output, k.size, fun i hi => k.block i (by omega) (by omega)⟩

theorem Kp.set_new {z b : Nat} {w W : World} (h : Kp z w W) (hb : w.heap.size ≤ b) (i : Nat) (u : Value) : Kp z w (W.setCell ⟨b, i, none⟩ u) :=
  ⟨h.os, h.tape, h.output, by simpa [World.setCell] using h.size, fun k hk hz => (Below.heap_setCell _ _ _ _ (by show k ≠ b; omega)).trans (h.block k hk hz)⟩
theorem Kp.drewN {z : Nat} {w W : World} (h : Kp z w W) (n : Nat) : Kp z w (W.drewN n) := ⟨h.os, h.tape, h.output, h.size, h.block⟩

theorem lt_of_block {w : World} {b : Nat} {o : Obj} (h : w.heap[b]? = some o) : b < w.heap.size := by
  rcases Nat.lt_or_ge b w.heap.size with h1 | h1
  · exact h1
  · rw [Array.getElem?_eq_none h1] at h; cases h

end Go.Proofs.Ytgdeonofdgpokaa

namespace Go.Proofs.Ytgdeonofdgpokaa

/-- nil, or a row of cells: the numbers zs, of which the first len are the elements. -/
def IsRow (k : IntKind) (w : World) (a : Option Addr) (len cap : Nat) (zs : List Int) : Prop :=
  (a = none ∧ len = 0 ∧ cap = 0 ∧ zs = []) ∨
  ∃ x, a = some x ∧ len ≤ cap ∧ cap ≤ maxLen ∧ zs.length = cap ∧ (∀ i, i < zs.length → w.cell? (x.add i) = some (.int k (zs.getD i 0))) ∧ ∀ n ∈ zs, (Lit.int k n).wf = true
end Go.Proofs.Ytgdeonofdgpokaa

namespace Go.Proofs.Ytgdeonofdgpokaa
open Go.RowKit

/-- the cells of a list, from an address on. -/
def Cells (w : World) (a : Option Addr) (xs : List Int) : Prop := xs ≠ [] → ∃ x, a = some x ∧ x.block < w.heap.size ∧ ∀ i d, xs[i]? = some d → w.cell? (x.add i) = some (.int .i64 d)
/-- v is a slice of the integers xs. -/
def Ro (w : World) (v : Value) (xs : List Int) : Prop := ∃ (a : Option Addr) (c : Nat), v = .slice a xs.length c ∧ xs.length ≤ c ∧ c ≤ 9223372036854775807 ∧ Cells w a xs

theorem cell_lt {w : World} {x : Addr} {v : Value} (h : w.cell? x = some v) : x.block < w.heap.size := by
  rcases Nat.lt_or_ge x.block w.heap.size with h1 | h1
  · exact h1
  · simp [World.cell?, Array.getElem?_eq_none h1] at h

theorem add_block (x : Addr) (i : Nat) : (x.add i).block = x.block := by unfold Addr.add; split <;> rfl

theorem Cells.below {w w' : World} {a : Option Addr} {xs : List Int} (h : Cells w a xs) (hb : Below w.heap.size w w') : Cells w' a xs := fun hx => by
  obtain ⟨x, ha, hl, hc⟩ := h hx
  refine ⟨x, ha, Nat.lt_of_lt_of_le hl hb.size, fun i d hd => ?_⟩
  rw [hb.cell (p := x.add i) (by rw [add_block]; exact hl)]
  exact hc i d hd
theorem Ro.below {w w' : World} {v : Value} {xs : List Int} (h : Ro w v xs) (hb : Below w.heap.size w w') : Ro w' v xs := by
  obtain ⟨a, c, h1, h2, h3, h4⟩ := h
  exact ⟨a, c, h1, h2, h3, h4.below hb⟩
theorem Ro.drewN {w : World} {v : Value} {xs : List Int} (h : Ro w v xs) (n : Nat) : Ro (w.drewN n) v xs := h.below (_root_.Go.below_drewN (Below.refl _ _) n)

/-- what came in. -/
theorem IsRow.ro {w : World} {a : Option Addr} {len cap : Nat} {zs : List Int} (h : IsRow .i64 w a len cap zs) : Ro w (.slice a len cap) (zs.take len) := by
  rcases h with ⟨rfl, rfl, rfl, rfl⟩ | ⟨x, rfl, h1, h2, h3, h4, h5⟩
  · exact ⟨none, 0, rfl, Nat.le_refl _, by omega, fun h => absurd rfl h⟩
  · have hl : (zs.take len).length = len := by rw [List.length_take]; omega
    refine ⟨some x, cap, by rw [hl], by omega, by unfold maxLen at h2; omega, fun hx => ⟨x, rfl, ?_, fun i d hd => ?_⟩⟩
    · have h0 : 0 < zs.length := by
        rcases Nat.eq_zero_or_pos zs.length with h | h
        · exact absurd (by rw [List.length_eq_zero_iff.1 h]; simp) hx
        · exact h
      have := cell_lt (x := x.add 0) (h4 0 h0)
      rwa [add_block] at this
    · rw [List.getElem?_take] at hd
      split at hd
      · obtain ⟨hi, he⟩ := List.getElem?_eq_some_iff.1 hd
        rw [h4 i hi, List.getD_eq_getElem?_getD, hd]
        rfl
      · cases hd
end Go.Proofs.Ytgdeonofdgpokaa

namespace Go.Proofs.Ytgdeonofdgpokaa
open Go.RowKit
set_option linter.unusedVariables false

/-- the bytes of a list, as cells. -/
def byteCells (l : List UInt8) : List Value := l.map fun b => .int .u8 (b.toNat : Nat)
theorem info_byte : (Try.prog.info? 5).map (fun i => (i.zero, i.size, i.bytes)) = some (some (.int .u8 0), 1, 1) := by kernel_rfl
/-- v is a slice of the bytes l, in a block of its own from base on. -/
def Ob (w : World) (base : Nat) (v : Value) (l : List UInt8) : Prop := w.ownsRow base 5 1 v l.length (byteCells l)
theorem Ob.nil (w : World) (base : Nat) : Ob w base (.slice none 0 0) [] := World.ownsRow_nil _ _ _ _
theorem Ob.alloc {w : World} {base : Nat} {v : Value} {l : List UInt8} (h : Ob w base v l) (o : Obj) : Ob (w.alloc o) base v l := World.ownsRow.alloc h o
theorem Ob.drew {w : World} {base : Nat} {v : Value} {l : List UInt8} (h : Ob w base v l) : Ob w.drew base v l := h
theorem Ob.block {w : World} {base : Nat} {v : Value} {l : List UInt8} (h : Ob w base v l) : ∀ k, v.ownBlock = some k → base ≤ k ∧ k < w.heap.size := World.ownsRow.lt h

theorem byteCells_snoc (l : List UInt8) (b : UInt8) : byteCells (l ++ [b]) = byteCells l ++ [.int .u8 (b.toNat : Nat)] := by simp [byteCells]

theorem Ob.len {w : World} {base : Nat} {v : Value} {l : List UInt8} (h : Ob w base v l) : ∃ a c, v = .slice a l.length c := by
  rcases h.2 with ⟨hv, h0⟩ | ⟨g, cap, cur, hv, _⟩
  · exact ⟨none, 0, by rw [hv, h0]⟩
  · exact ⟨_, _, hv⟩
theorem Ob.text {w : World} {base : Nat} {v : Value} {l : List UInt8} (h : Ob w base v l) (hl : 0 < l.length) :
    ∃ g cap, v = .slice (some ⟨g, 0, none⟩) l.length cap ∧ ∀ j (hj : j < l.length), w.cell? ((⟨g, 0, none⟩ : Addr).add j) = some (.int .u8 (l[j].toNat : Int)) := by
  obtain ⟨g, cap, hv, -, -⟩ := World.ownsRow.form h hl
  refine ⟨g, cap, hv, fun j hj => ?_⟩
  subst hv
  rw [Addr.add_lit, Nat.zero_add, World.ownsRow.cellAt h j (by omega)]
  simp [byteCells, List.getElem?_eq_getElem hj]
theorem step_app_byte {ops : Array Oper} {o : Oper} {a : Act} {K : Act → World → Prop} {Q : Exit → Act → World → Prop} {E : Prop} (w : World) (hgd : o.guard = none) (s x : Operand)
    (ho : o.op = .call { callee := .builtin .append, args := #[s, x], argTypes := #[22, 22] }) (base : Nat) (v : Value) (l : List UInt8) (hs : a.eval s = v) (hown : Ob w base v l)
    (ad : Addr) (b : UInt8) (hx : a.eval x = .slice (some ad) 1 1) (hd : w.cell? ad = some (.int .u8 (b.toNat : Nat))) (hl : l.length ≤ 2000000000) (hbase : base ≤ w.heap.size)
    (h : ∀ g cap w', Ob w' base (.slice (some ⟨g, 0, none⟩) (l.length + 1) cap) (l ++ [b]) → w.grownBy w' v.ownBlock → g < w'.heap.size → K (a.put o.dst (.slice (some ⟨g, 0, none⟩) (l.length + 1) cap)) w') :
    if Region.wanted o (yielded ops a.tmps) = true then Oper.wp Try.prog o a w K Q else E := by
  obtain ⟨i0, hi, hz0, hz1, hz2⟩ := info_parts info_byte
  refine step_append_lies w hgd s x 22 ho base 5 i0 (.int .u8 0) 1 1 Try.underlying22 hi hz0 hz1 hz2 rfl (by decide) v l.length _ hs hown ad 1 1 [.int .u8 (b.toNat : Nat)] hx rfl ?_ ?_ (by decide) (by unfold maxLen; omega) (by omega) hbase _ rfl ?_
  · intro j u hj
    match j, hj with
    | 0, hj => simp at hj; subst hj; exact hd
  · intro u hu
    simp at hu
    subst hu
    rfl
  · intro g cap w' h1 h2 h3 h4
    refine h g cap w' ?_ h2 h4
    unfold Ob
    rw [List.length_append, byteCells_snoc]
    exact h1
theorem app_byte {ops : Array Oper} {rest : List Oper} {o : Oper} {a : Act} {Q : Exit → Act → World → Prop} (w : World) (hgd : o.guard = none) (s x : Operand)
    (ho : o.op = .call { callee := .builtin .append, args := #[s, x], argTypes := #[22, 22] }) (base : Nat) (v : Value) (l : List UInt8) (hs : a.eval s = v) (hown : Ob w base v l)
    (ad : Addr) (b : UInt8) (hx : a.eval x = .slice (some ad) 1 1) (hd : w.cell? ad = some (.int .u8 (b.toNat : Nat))) (hl : l.length ≤ 2000000000) (hbase : base ≤ w.heap.size)
    (h : ∀ g cap w', Ob w' base (.slice (some ⟨g, 0, none⟩) (l.length + 1) cap) (l ++ [b]) → w.grownBy w' v.ownBlock → g < w'.heap.size → wpList Try.prog ops Q rest (a.put o.dst (.slice (some ⟨g, 0, none⟩) (l.length + 1) cap)) w') :
    wpList Try.prog ops Q (o :: rest) a w := by
  obtain ⟨i0, hi, hz0, hz1, hz2⟩ := info_parts info_byte
  refine wpList_append_lies w hgd s x 22 ho base 5 i0 (.int .u8 0) 1 1 Try.underlying22 hi hz0 hz1 hz2 rfl (by decide) v l.length _ hs hown ad 1 1 [.int .u8 (b.toNat : Nat)] hx rfl ?_ ?_ (by decide) (by unfold maxLen; omega) (by omega) hbase _ rfl ?_
  · intro j u hj
    match j, hj with
    | 0, hj => simp at hj; subst hj; exact hd
  · intro u hu
    simp at hu
    subst hu
    rfl
  · intro g cap w' h1 h2 h3 h4
    refine h g cap w' ?_ h2 h4
    unfold Ob
    rw [List.length_append, byteCells_snoc]
    exact h1

end Go.Proofs.Ytgdeonofdgpokaa

namespace Go.Proofs.Ytgdeonofdgpokaa
open Go.RowKit
set_option linter.unusedVariables false

/-- v is a slice of the bytes l. -/
def By (w : World) (v : Value) (l : List UInt8) : Prop := ∃ (a : Option Addr) (c : Nat), v = .slice a l.length c ∧ l.length ≤ c ∧ c ≤ maxLen ∧ (l ≠ [] → ∃ x, a = some x ∧ x.block < w.heap.size ∧ ∀ (i : Nat) d, l[i]? = some d → w.cell? (x.add i) = some (.int .u8 (d.toNat : Int)))
theorem By.below {w w' : World} {v : Value} {l : List UInt8} (h : By w v l) (hb : Below w.heap.size w w') : By w' v l := by
  obtain ⟨a, c, h1, h2, h3, h4⟩ := h
  refine ⟨a, c, h1, h2, h3, fun hn => ?_⟩
  obtain ⟨x, e, hx, hk⟩ := h4 hn
  refine ⟨x, e, Nat.lt_of_lt_of_le hx hb.size, fun i d hi => ?_⟩
  rw [hb.cell (p := x.add i) (by rw [add_block]; exact hx)]
  exact hk i d hi
end Go.Proofs.Ytgdeonofdgpokaa

namespace Go.Proofs.Ytgdeonofdgpokaa
open Go.RowKit
set_option linter.unusedVariables false

theorem run_append_no {P : Program} {w : World} (base : Nat) (t ty e : TypeId) (i : TypeInfo) (size : Nat) (ht : P.underlying t = some (.slice e)) (hi : P.info? e = some i)
    (v : Value) (n : Nat) (xs : List Value) (hown : w.ownsRow base e size v n xs) (a : Option Addr) (c : Nat) :
    (Builtin.append_ #[t, t] ty #[v, .slice a 0 c]).run P w = .ok v w := by
  rcases hown.2 with ⟨rfl, rfl⟩ | ⟨g, cap, cur, rfl, _, _, hnc, _⟩
  · cases a <;> simp [Builtin.append_, run_underlying ht, sizeOf, typeInfo, hi, Builtin.lenOf, Builtin.firstCells, loadCells, loadCellsFrom]
  · cases a <;> simp [Builtin.append_, run_underlying ht, sizeOf, typeInfo, hi, Builtin.lenOf, Builtin.firstCells, hnc, storeCells, loadCells, loadCellsFrom]
end Go.Proofs.Ytgdeonofdgpokaa

namespace Go.Proofs.Ytgdeonofdgpokaa
open Go.RowKit
set_option linter.unusedVariables false

/-- nothing below has turned but the blocks of S. -/
structure Fr (S : Nat → Prop) (w w' : World) : Prop where
  os : w'.os = w.os
  tape : w'.tape = w.tape
  output : w'.output = w.output
  size : w.heap.size ≤ w'.heap.size
  block : ∀ k, k < w.heap.size → ¬ S k → w'.heap[k]? = w.heap[k]?
theorem Fr.below {S : Nat → Prop} {w w' : World} (h : Below w.heap.size w w') : Fr S w w' := ⟨h.os, h.tape, h.output, h.size, fun k hk _ => h.block k hk⟩
theorem Fr.kp {S : Nat → Prop} {w w' : World} {z : Nat} (h : Kp z w w') (hz : S z) : Fr S w w' := ⟨h.os, h.tape, h.output, h.size, fun k hk hn => h.block k hk (fun e => hn (e ▸ hz))⟩
theorem Fr.gb {S : Nat → Prop} {w w' : World} {r : Option Nat} (h : w.grownBy w' r) (hr : ∀ k, r = some k → S k) : Fr S w w' := ⟨h.os, h.tape, h.output, h.size, fun k hk hn => h.block k hk (fun e => hn (hr k e.symm))⟩
theorem Fr.trans {S : Nat → Prop} {a b c : World} (h : Fr S a b) (k : Fr S b c) : Fr S a c :=
  ⟨k.os.trans h.os, k.tape.trans h.tape, k.output.trans h.output, Nat.le_trans h.size k.size, fun i hi hn => (k.block i (Nat.lt_of_lt_of_le hi h.size) hn).trans (h.block i hi hn)⟩
theorem Fr.mono {S T : Nat → Prop} {a b : World} (h : Fr S a b) (hs : ∀ k, S k → T k) : Fr T a b := ⟨h.os, h.tape, h.output, h.size, fun k hk hn => h.block k hk (fun e => hn (hs k e))⟩
theorem Fr.low {S : Nat → Prop} {w w' : World} {n : Nat} (h : Fr S w w') (hn : n ≤ w.heap.size) (hs : ∀ k, S k → n ≤ k) : Below n w w' := ⟨h.os, h.tape, h.output, h.size, fun k hk => h.block k (by omega) (fun e => by have := hs k e; omega)⟩
theorem Fr.own {S : Nat → Prop} {w w' : World} {base : Nat} {T : TypeId} {size : Nat} {u : Value} {n : Nat} {cs : List Value} (f : Fr S w w') (h : w.ownsRow base T size u n cs) (hn : ∀ b, u.ownBlock = some b → ¬ S b) : w'.ownsRow base T size u n cs := by
  refine ⟨h.1, ?_⟩
  rcases h.2 with h1 | ⟨g, cap, cur, h1, h2, h3, h4⟩
  · exact .inl h1
  · exact .inr ⟨g, cap, cur, h1, h2, (f.block g (lt_of_block h3) (hn g (by rw [h1]; rfl))).trans h3, h4⟩
theorem Fr.cell {S : Nat → Prop} {w w' : World} {p : Addr} {u : Value} (f : Fr S w w') (h : w.cell? p = some u) (hn : ¬ S p.block) : w'.cell? p = some u := by
  have hl := cell_lt h
  have e := f.block p.block hl hn
  unfold World.cell? at h ⊢
  rw [e]
  exact h
theorem own_two {w : World} {b1 b2 : Nat} {T S : TypeId} {s1 s2 : Nat} {u v : Value} {n m : Nat} {cs ds : List Value} (h : w.ownsRow b1 T s1 u n cs) (k : w.ownsRow b2 S s2 v m ds) (hT : T ≠ S) : ∀ b, u.ownBlock = some b → ¬ v.ownBlock = some b := by
  intro b hb hv
  rcases h.2 with ⟨h1, -⟩ | ⟨g, cap, cur, h1, -, h3, -⟩
  · rw [h1] at hb; cases hb
  · rcases k.2 with ⟨k1, -⟩ | ⟨g', cap', cur', k1, -, k3, -⟩
    · rw [k1] at hv; cases hv
    · rw [h1] at hb
      rw [k1] at hv
      simp [Value.ownBlock] at hb hv
      subst hb
      subst hv
      rw [h3] at k3
      injection k3 with k3
      injection k3 with _ k4
      exact hT k4
end Go.Proofs.Ytgdeonofdgpokaa

namespace Go.Proofs.Ytgdeonofdgpokaa
open Go.RowKit
set_option linter.unusedVariables false

theorem Ob.by_ {w : World} {base : Nat} {v : Value} {l : List UInt8} (h : Ob w base v l) : By w v l := by
  rcases h.2 with ⟨hv, h0⟩ | ⟨g, cap, cur, hv, hb, hg, h1, h2, h3, h4⟩
  · exact ⟨none, 0, by rw [hv, h0], by omega, by omega, fun hn => absurd (List.length_eq_zero_iff.1 h0) hn⟩
  · refine ⟨_, cap, hv, h1, h2, fun hn => ⟨_, rfl, lt_of_block hg, fun i d hd => ?_⟩⟩
    have hi : i < l.length := (List.getElem?_eq_some_iff.1 hd).1
    rw [Addr.add_lit, Nat.zero_add]
    have h5 : w.ownsRow base 5 1 (.slice (some ⟨g, 0, none⟩) l.length cap) l.length (byteCells l) := by rw [← hv]; exact h
    rw [h5.cellAt i (by omega), byteCells, List.getElem?_map, hd]
    rfl
theorem By.take {w : World} {ad : Option Addr} {n c k : Nat} {l : List UInt8} (h : By w (.slice ad n c) l) (hk : k ≤ l.length) : By w (.slice ad k c) (l.take k) := by
  obtain ⟨a, c', e, h1, h2, h3⟩ := h
  injection e with e1 e2 e3
  subst e1 e3
  have hl : (l.take k).length = k := by rw [List.length_take]; omega
  refine ⟨ad, c, by rw [hl], by omega, h2, fun hn => ?_⟩
  obtain ⟨x, e, hx, hc⟩ := h3 (by intro h; subst h; simp at hn)
  refine ⟨x, e, hx, fun i d hd => hc i d ?_⟩
  rw [List.getElem?_take] at hd
  split at hd
  · exact hd
  · cases hd
set_option maxRecDepth 100000 in
theorem By.conv {w : World} {ad : Option Addr} {n c : Nat} {l : List UInt8} (h : By w (.slice ad n c) l) : (convert 22 9 (.slice ad n c)).run Try.prog w = .ok (.string ⟨l.toArray⟩) w := by
  obtain ⟨a, c', e, h1, h2, h3⟩ := h
  injection e with e1 e2 e3
  subst e1 e2 e3
  by_cases hn : l = []
  · subst hn
    cases ad with
    | none => rw [show ([] : List UInt8).length = 0 from rfl, run_convert_bytes_string w 22 9 5 none 0 c Try.underlying22 Try.underlying5 Try.underlying9]; rfl
    | some a => exact run_convert_bytes_back (P := Try.prog) w 22 9 5 a c [] Try.underlying22 Try.underlying5 Try.underlying9 (fun j hj => by simp at hj)
  · obtain ⟨x, rfl, hx, hc⟩ := h3 hn
    exact run_convert_bytes_back (P := Try.prog) w 22 9 5 x c l Try.underlying22 Try.underlying5 Try.underlying9 (fun j hj => hc j _ (List.getElem?_eq_getElem hj))
theorem app_bytes {ops : Array Oper} {rest : List Oper} {o : Oper} {a : Act} {Q : Exit → Act → World → Prop} (w : World) (hgd : o.guard = none) (s x : Operand)
    (ho : o.op = .call { callee := .builtin .append, args := #[s, x], argTypes := #[22, 22] }) (base : Nat) (v : Value) (xs : List UInt8) (hs : a.eval s = v) (hown : Ob w base v xs)
    (u : Value) (ys : List UInt8) (hx : a.eval x = u) (hu : By w u ys) (hl : xs.length + ys.length ≤ 1000000000) (hbase : base ≤ w.heap.size)
    (h : ∀ v' w', Ob w' base v' (xs ++ ys) → w.grownBy w' v.ownBlock → wpList Try.prog ops Q rest (a.put o.dst v') w') :
    wpList Try.prog ops Q (o :: rest) a w := by
  obtain ⟨i0, hi, hz0, hz1, hz2⟩ := info_parts info_byte
  obtain ⟨ad, c, rfl, h1, h2, h3⟩ := hu
  by_cases hn : ys = []
  · subst hn
    refine wpList_plain hgd fun K hK => ?_
    have hrun := run_append_no (P := Try.prog) (w := w) base 22 o.type 5 i0 1 Try.underlying22 hi v xs.length _ hown ad c
    have hx' : a.eval x = .slice ad 0 c := hx
    unfold Oper.wp
    simp [execOp, ho, resolve, invoke, builtin, hs, hx', hrun, Result.andThen]
    exact hK _ _ (h v w (by simpa using hown) (World.grownBy.refl _ _))
  · obtain ⟨y, rfl, hy, hc⟩ := h3 hn
    refine wpList_append_own w hgd s x 22 ho base 5 i0 (.int .u8 0) 1 1 Try.underlying22 hi hz0 hz1 hz2 rfl (by decide) v xs.length _ hs hown y ys.length c (byteCells ys) hx (by simp [byteCells]) ?_ ?_ (by unfold maxLen; omega) (by omega) hbase ?_
    · intro j u hj
      rw [byteCells, List.getElem?_map] at hj
      cases hd : ys[j]? with
      | none => rw [hd] at hj; cases hj
      | some d => rw [hd] at hj; cases hj; exact hc j d hd
    · intro u hu
      simp only [byteCells, List.mem_map] at hu
      obtain ⟨b, -, rfl⟩ := hu
      rfl
    · intro v' w' k1 k2 _
      refine h v' w' ?_ k2
      unfold Ob
      rw [List.length_append, byteCells, List.map_append]
      exact k1
theorem Ob.take {w : World} {base : Nat} {ad : Option Addr} {n c k : Nat} {l : List UInt8} (h : Ob w base (.slice ad n c) l) (hk : k ≤ l.length) : Ob w base (.slice ad k c) (l.take k) := by
  have hl : (l.take k).length = k := by rw [List.length_take]; omega
  refine ⟨by rw [hl]; simp [byteCells]; omega, ?_⟩
  rw [hl]
  rcases h.2 with ⟨h1, h2⟩ | ⟨g, cap, cur, h1, h2, h3, h4, h5, h6, h7⟩
  · injection h1 with e1 e2 e3
    subst e1 e2 e3
    have : k = 0 := by omega
    subst this
    exact .inl ⟨rfl, rfl⟩
  · injection h1 with e1 e2 e3
    subst e1 e2 e3
    refine .inr ⟨g, c, cur, rfl, h2, h3, by omega, h5, h6, ?_⟩
    have e : byteCells (l.take k) = (byteCells l).take k := by simp [byteCells, List.map_take]
    rw [e, ← h7, List.take_take]
    congr 1
    omega
theorem Ob.below {w w' : World} {base : Nat} {v : Value} {l : List UInt8} (h : Ob w base v l) (hb : Below w.heap.size w w') : Ob w' base v l :=
  World.ownsRow.kept h (row := none) ⟨hb.os, hb.tape, hb.output, hb.size, fun k hk _ => hb.block k hk⟩ (by cases v.ownBlock <;> simp)
/-- a whole list behind another one, and where it lies. -/
theorem app_bytes2 {ops : Array Oper} {rest : List Oper} {o : Oper} {a : Act} {Q : Exit → Act → World → Prop} (w : World) (hgd : o.guard = none) (s x : Operand)
    (ho : o.op = .call { callee := .builtin .append, args := #[s, x], argTypes := #[22, 22] }) (base : Nat) (v : Value) (xs : List UInt8) (hs : a.eval s = v) (hown : Ob w base v xs)
    (u : Value) (ys : List UInt8) (hx : a.eval x = u) (hu : By w u ys) (hl : xs.length + ys.length ≤ 1000000000) (hbase : base ≤ w.heap.size)
    (h : ∀ v' w', Ob w' base v' (xs ++ ys) → w.grownBy w' v.ownBlock → (v'.ownBlock = v.ownBlock ∨ v'.ownBlock = some w.heap.size) → wpList Try.prog ops Q rest (a.put o.dst v') w') :
    wpList Try.prog ops Q (o :: rest) a w := by
  obtain ⟨i0, hi, hz0, hz1, hz2⟩ := info_parts info_byte
  obtain ⟨ad, c, rfl, h1, h2, h3⟩ := hu
  by_cases hn : ys = []
  · subst hn
    refine wpList_plain hgd fun K hK => ?_
    have hrun := run_append_no (P := Try.prog) (w := w) base 22 o.type 5 i0 1 Try.underlying22 hi v xs.length _ hown ad c
    have hx' : a.eval x = .slice ad 0 c := hx
    unfold Oper.wp
    simp [execOp, ho, resolve, invoke, builtin, hs, hx', hrun, Result.andThen]
    exact hK _ _ (h v w (by simpa using hown) (World.grownBy.refl _ _) (.inl rfl))
  · obtain ⟨y, rfl, hy, hc⟩ := h3 hn
    refine wpList_append_lies w hgd s x 22 ho base 5 i0 (.int .u8 0) 1 1 Try.underlying22 hi hz0 hz1 hz2 rfl (by decide) v xs.length _ hs hown y ys.length c (byteCells ys) hx (by simp [byteCells]) ?_ ?_ (List.length_pos_iff.2 hn) (by unfold maxLen; omega) (by omega) hbase _ rfl ?_
    · intro j u hj
      rw [byteCells, List.getElem?_map] at hj
      cases hd : ys[j]? with
      | none => rw [hd] at hj; cases hj
      | some d => rw [hd] at hj; cases hj; exact hc j d hd
    · intro u hu
      simp only [byteCells, List.mem_map] at hu
      obtain ⟨b, -, rfl⟩ := hu
      rfl
    · intro g cap w' k1 k2 k3 _
      refine h _ w' ?_ k2 ?_
      · unfold Ob
        rw [List.length_append, byteCells, List.map_append]
        exact k1
      · rcases k3 with k3 | k3
        · exact .inl k3.symm
        · exact .inr (by rw [k3]; rfl)
end Go.Proofs.Ytgdeonofdgpokaa

namespace Go.Proofs.Ytgdeonofdgpokaa
open Go.RowKit
set_option linter.unusedVariables false

theorem info_lb : (Try.prog.info? 22).map (fun i => (i.zero, i.size, i.bytes)) = some (some (.slice none 0 0), 1, 24) := by kernel_rfl
/-- v is a slice of the values vs, in a block of its own from base on. -/
def Lb (w : World) (base : Nat) (v : Value) (vs : List Value) : Prop := w.ownsRow base 22 1 v vs.length vs
theorem Lb.nil (w : World) (base : Nat) : Lb w base (.slice none 0 0) [] := World.ownsRow_nil _ _ _ _
theorem Lb.below {w w' : World} {base : Nat} {v : Value} {vs : List Value} (h : Lb w base v vs) (hb : Below w.heap.size w w') : Lb w' base v vs :=
  World.ownsRow.kept h (row := none) ⟨hb.os, hb.tape, hb.output, hb.size, fun k hk _ => hb.block k hk⟩ (by cases v.ownBlock <;> simp)
theorem Lb.alloc {w : World} {base : Nat} {v : Value} {vs : List Value} (h : Lb w base v vs) (o : Obj) : Lb (w.alloc o) base v vs := World.ownsRow.alloc h o
theorem Lb.block {w : World} {base : Nat} {v : Value} {vs : List Value} (h : Lb w base v vs) : ∀ k, v.ownBlock = some k → base ≤ k ∧ k < w.heap.size := World.ownsRow.lt h
/-- its cells. -/
theorem Lb.cells {w : World} {base : Nat} {v : Value} {vs : List Value} (h : Lb w base v vs) : ∃ a c, v = .slice a vs.length c ∧ vs.length ≤ c ∧ c ≤ 9223372036854775807 ∧ (vs ≠ [] → ∃ g, a = some ⟨g, 0, none⟩ ∧ base ≤ g ∧ g < w.heap.size ∧ ∀ (i : Nat) b, vs[i]? = some b → w.cell? ⟨g, i, none⟩ = some b) := by
  rcases h.2 with ⟨hv, h0⟩ | ⟨g, cap, cur, hv, hb, hg, h1, h2, h3, h4⟩
  · exact ⟨none, 0, by rw [hv, h0], by omega, by omega, fun hn => absurd (List.length_eq_zero_iff.1 h0) hn⟩
  · refine ⟨_, cap, hv, h1, by unfold maxLen at h2; omega, fun _ => ⟨g, rfl, hb, lt_of_block hg, fun i b hbi => ?_⟩⟩
    have hi : i < vs.length := (List.getElem?_eq_some_iff.1 hbi).1
    have h5 : w.ownsRow base 22 1 (.slice (some ⟨g, 0, none⟩) vs.length cap) vs.length vs := by rw [← hv]; exact h
    rw [h5.cellAt i (by omega), hbi]
/-- one more. -/
theorem app_lb {ops : Array Oper} {rest : List Oper} {o : Oper} {a : Act} {Q : Exit → Act → World → Prop} (w : World) (hgd : o.guard = none) (s x : Operand)
    (ho : o.op = .call { callee := .builtin .append, args := #[s, x], argTypes := #[33, 33] }) (base : Nat) (v : Value) (vs : List Value) (hs : a.eval s = v) (hown : Lb w base v vs)
    (ad : Addr) (p : Option Addr) (n c : Nat) (hx : a.eval x = .slice (some ad) 1 1) (hd : w.cell? ad = some (.slice p n c)) (hl : vs.length ≤ 2000000) (hbase : base ≤ w.heap.size)
    (h : ∀ g cap w', Lb w' base (.slice (some ⟨g, 0, none⟩) (vs.length + 1) cap) (vs ++ [.slice p n c]) → w.grownBy w' v.ownBlock → (v.ownBlock = some g ∨ g = w.heap.size) → g < w'.heap.size → wpList Try.prog ops Q rest (a.put o.dst (.slice (some ⟨g, 0, none⟩) (vs.length + 1) cap)) w') :
    wpList Try.prog ops Q (o :: rest) a w := by
  obtain ⟨i0, hi, hz0, hz1, hz2⟩ := info_parts info_lb
  refine wpList_append_lies w hgd s x 33 ho base 22 i0 (.slice none 0 0) 1 24 Try.underlying33 hi hz0 hz1 hz2 rfl (by decide) v vs.length _ hs hown ad 1 1 [.slice p n c] hx rfl ?_ ?_ (by decide) (by unfold maxLen; omega) (by omega) hbase _ rfl ?_
  · intro j u hj
    match j, hj with
    | 0, hj => simp at hj; subst hj; exact hd
  · intro u hu
    simp at hu
    subst hu
    rfl
  · intro g cap w' h1 h2 h3 h4
    refine h g cap w' ?_ h2 h3 h4
    unfold Lb
    rw [List.length_append]
    exact h1
/-- bytes, in a block of their own where there are any. -/
def Be (w : World) (base : Nat) (v : Value) (l : List UInt8) : Prop := (l = [] ∧ ∃ a c, v = .slice a 0 c ∧ c ≤ maxLen) ∨ Ob w base v l
theorem Be.by_ {w : World} {base : Nat} {v : Value} {l : List UInt8} (h : Be w base v l) : By w v l := by
  rcases h with ⟨rfl, a, c, rfl, hc⟩ | h
  · exact ⟨a, c, rfl, Nat.zero_le _, hc, fun h => absurd rfl h⟩
  · exact h.by_
theorem Be.below {w w' : World} {base : Nat} {v : Value} {l : List UInt8} (h : Be w base v l) (hb : Below w.heap.size w w') : Be w' base v l := by
  rcases h with h | h
  · exact .inl h
  · exact .inr (h.below hb)
theorem Be.base {w : World} {b c : Nat} {v : Value} {l : List UInt8} (h : Be w b v l) (hb : c ≤ b) : Be w c v l := by
  rcases h with h | h
  · exact .inl h
  · refine .inr ⟨h.1, ?_⟩
    rcases h.2 with h1 | ⟨g, cap, cur, h1, h2, h3⟩
    · exact .inl h1
    · exact .inr ⟨g, cap, cur, h1, by omega, h3⟩
/-- it stays where a row of lists grows. -/
theorem Be.grown {w w' : World} {base b2 : Nat} {v u : Value} {l : List UInt8} {vs : List Value} (h : Be w base v l) (k : Lb w b2 u vs) (g : w.grownBy w' u.ownBlock) : Be w' base v l := by
  rcases h with h | h
  · exact .inl h
  · exact .inr ((Fr.gb (S := fun b => u.ownBlock = some b) g (fun b hb => hb)).own h (own_two h k (by decide)))
/-- v is a list of texts, all of them its own. -/
def Bls (w : World) (base : Nat) (v : Value) (ls : List (List UInt8)) : Prop := ∃ vs, Lb w base v vs ∧ vs.length = ls.length ∧ ∀ (i : Nat) l, ls[i]? = some l → ∃ x, vs[i]? = some x ∧ Be w base x l
theorem Bls.nil (w : World) (base : Nat) : Bls w base (.slice none 0 0) [] := ⟨[], Lb.nil w base, rfl, fun i l h => by simp at h⟩
theorem Bls.below {w w' : World} {base : Nat} {v : Value} {ls : List (List UInt8)} (h : Bls w base v ls) (hb : Below w.heap.size w w') : Bls w' base v ls := by
  obtain ⟨vs, h1, h2, h3⟩ := h
  refine ⟨vs, h1.below hb, h2, fun i l hl => ?_⟩
  obtain ⟨x, hx, hy⟩ := h3 i l hl
  exact ⟨x, hx, hy.below hb⟩
/-- v is a list of texts. -/
def Bll (w : World) (v : Value) (ls : List (List UInt8)) : Prop := ∃ a c, v = .slice a ls.length c ∧ ls.length ≤ c ∧ c ≤ 9223372036854775807 ∧ (ls ≠ [] → ∃ x, a = some x ∧ x.block < w.heap.size ∧ ∀ (i : Nat) l, ls[i]? = some l → ∃ u, w.cell? (x.add i) = some u ∧ By w u l)
theorem Bll.below {w w' : World} {v : Value} {ls : List (List UInt8)} (h : Bll w v ls) (hb : Below w.heap.size w w') : Bll w' v ls := by
  obtain ⟨a, c, h1, h2, h3, h4⟩ := h
  refine ⟨a, c, h1, h2, h3, fun hn => ?_⟩
  obtain ⟨x, e, hx, hy⟩ := h4 hn
  refine ⟨x, e, Nat.lt_of_lt_of_le hx hb.size, fun i l hl => ?_⟩
  obtain ⟨u, c1, c2⟩ := hy i l hl
  exact ⟨u, by rw [hb.cell (by rw [add_block]; exact hx)]; exact c1, c2.below hb⟩
/-- as lists that are read. -/
theorem Bls.bll {w : World} {base : Nat} {v : Value} {ls : List (List UInt8)} (h : Bls w base v ls) : Bll w v ls := by
  obtain ⟨vs, h1, h2, h3⟩ := h
  obtain ⟨a, c, e, k1, k2, k3⟩ := h1.cells
  rw [h2] at e k1
  refine ⟨a, c, e, k1, k2, fun hn => ?_⟩
  obtain ⟨g, rfl, g1, g2, g3⟩ := k3 (by rintro rfl; exact hn (List.length_eq_zero_iff.1 h2.symm))
  refine ⟨_, rfl, g2, fun i l hl => ?_⟩
  obtain ⟨x, hx, hy⟩ := h3 i l hl
  exact ⟨x, by rw [Addr.add_lit, Nat.zero_add]; exact g3 i x hx, hy.by_⟩
/-- one more. -/
theorem Bls.snoc {w w' : World} {base : Nat} {v : Value} {ls : List (List UInt8)} {vs : List Value} {v' x : Value} {l : List UInt8} (h1 : Lb w base v vs) (h2 : vs.length = ls.length) (h3 : ∀ (i : Nat) l, ls[i]? = some l → ∃ x, vs[i]? = some x ∧ Be w base x l) (hx : Be w base x l) (g : w.grownBy w' v.ownBlock) (k : Lb w' base v' (vs ++ [x])) : Bls w' base v' (ls ++ [l]) := by
  refine ⟨_, k, by simp [h2], fun i m hm => ?_⟩
  rcases Nat.lt_or_ge i ls.length with hi | hi
  · rw [List.getElem?_append_left hi] at hm
    obtain ⟨y, hy, hz⟩ := h3 i m hm
    exact ⟨y, by rw [List.getElem?_append_left (by omega)]; exact hy, hz.grown h1 g⟩
  · rw [List.getElem?_append_right hi] at hm
    have e : i - ls.length = 0 := by
      have := (List.getElem?_eq_some_iff.1 hm).1
      simpa using this
    rw [e] at hm
    simp at hm
    subst hm
    refine ⟨x, ?_, hx.grown h1 g⟩
    rw [List.getElem?_append_right (by omega), show i - vs.length = 0 by omega]
    rfl
end Go.Proofs.Ytgdeonofdgpokaa

namespace Go.Proofs.Ytgdeonofdgpokaa
set_option linter.unusedVariables false
namespace Te

/-- two bytes of how many, and the bytes. -/
def ofr (l : List UInt8) : List UInt8 := UInt8.ofNat (l.length / 256) :: UInt8.ofNat l.length :: l
/-- how many bytes the frame has that a text begins with; 0: there is no whole one. -/
def fsz : List UInt8 → Nat
  | a :: b :: l => if a.toNat * 256 + b.toNat ≤ l.length then 2 + (a.toNat * 256 + b.toNat) else 0
  | _ => 0
/-- what comes of so many steps. -/
def st (b : List UInt8) : Nat → Nat × List (List UInt8)
  | 0 => (0, [])
  | k + 1 => if fsz (b.drop (st b k).1) = 0 then st b k else ((st b k).1 + fsz (b.drop (st b k).1), (st b k).2 ++ [(b.drop ((st b k).1 + 2)).take (fsz (b.drop (st b k).1) - 2)])
theorem fsz_cons (a b : UInt8) (l : List UInt8) : fsz (a :: b :: l) = if a.toNat * 256 + b.toNat ≤ l.length then 2 + (a.toNat * 256 + b.toNat) else 0 := rfl
theorem if_two (q n : Nat) : (if q ≤ n then 2 + q else 0) = if q + 2 ≤ n + 2 then 2 + q else 0 := by
  by_cases h : q ≤ n
  · rw [if_pos h, if_pos (by omega)]
  · rw [if_neg h, if_neg (by omega)]
theorem fsz_le (l : List UInt8) : fsz l ≤ l.length := by
  match l with
  | [] => simp [fsz]
  | [a] => simp [fsz]
  | a :: b :: l =>
    rw [fsz_cons]
    split
    · simp only [List.length_cons]; omega
    · omega
theorem fsz_two (l : List UInt8) (h : fsz l ≠ 0) : 2 ≤ fsz l := by
  match l, h with
  | [], h => simp [fsz] at h
  | [a], h => simp [fsz] at h
  | a :: b :: l, h =>
    rw [fsz_cons] at h ⊢
    split at h
    · rename_i h1
      rw [if_pos h1]
      omega
    · omega
theorem fsz_short (l : List UInt8) (h : l.length < 2) : fsz l = 0 := by
  have h1 := fsz_le l
  rcases Nat.eq_zero_or_pos (fsz l) with h2 | h2
  · exact h2
  · have := fsz_two l (by omega)
    omega
/-- by its first two bytes. -/
theorem fsz_is (l : List UInt8) (a b : UInt8) (h0 : l[0]? = some a) (h1 : l[1]? = some b) : fsz l = if a.toNat * 256 + b.toNat + 2 ≤ l.length then 2 + (a.toNat * 256 + b.toNat) else 0 := by
  match l, h0, h1 with
  | a' :: b' :: l, h0, h1 =>
    simp at h0 h1
    subst h0 h1
    rw [fsz_cons, show (a' :: b' :: l).length = l.length + 2 from rfl]
    exact if_two _ _
theorem st_stop {b : List UInt8} {k : Nat} (h : fsz (b.drop (st b k).1) = 0) : st b (k + 1) = st b k := by
  rw [st, if_pos h]
theorem st_go {b : List UInt8} {k n : Nat} {xs : List (List UInt8)} (hs : st b k = (n, xs)) (h : fsz (b.drop n) ≠ 0) : st b (k + 1) = (n + fsz (b.drop n), xs ++ [(b.drop (n + 2)).take (fsz (b.drop n) - 2)]) := by
  rw [st, hs, if_neg h]
theorem st_le (b : List UInt8) (k : Nat) : (st b k).1 ≤ b.length ∧ 2 * (st b k).2.length ≤ (st b k).1 := by
  induction k with
  | zero => simp [st]
  | succ k ih =>
    by_cases h : fsz (b.drop (st b k).1) = 0
    · rw [st_stop h]; exact ih
    · have h1 := fsz_le (b.drop (st b k).1)
      have h2 := fsz_two _ h
      rw [List.length_drop] at h1
      rw [st, if_neg h]
      simp only [List.length_append, List.length_cons, List.length_nil]
      omega
theorem st_on {b : List UInt8} {k : Nat} (h : fsz (b.drop (st b k).1) = 0) (j : Nat) : st b (k + j) = st b k := by
  induction j with
  | zero => rfl
  | succ j ih => rw [← Nat.add_assoc, st, ih, if_pos h]
/-- what comes at the end is one. -/
theorem st_uniq {b : List UInt8} {k m : Nat} (h : fsz (b.drop (st b k).1) = 0) (g : fsz (b.drop (st b m).1) = 0) : st b k = st b m := by
  rcases Nat.le_total k m with h1 | h1
  · obtain ⟨j, rfl⟩ := Nat.exists_eq_add_of_le h1
    exact (st_on h j).symm
  · obtain ⟨j, rfl⟩ := Nat.exists_eq_add_of_le h1
    exact st_on g j
/-- frames one behind the other. -/
def flat (ls : List (List UInt8)) : List UInt8 := (ls.map ofr).flatten
theorem ofr_len (l : List UInt8) : (ofr l).length = l.length + 2 := by simp [ofr]
theorem flat_cons (x : List UInt8) (ls : List (List UInt8)) : flat (x :: ls) = ofr x ++ flat ls := by simp [flat]
theorem flat_app (ls ks : List (List UInt8)) : flat (ls ++ ks) = flat ls ++ flat ks := by simp [flat]
/-- of a text that is cut off behind so many the frame is whole, or none. -/
theorem fsz_take (x : List UInt8) (hx : x.length ≤ 65535) (r : List UInt8) (c : Nat) (hc : c ≤ x.length + 2 + r.length) : fsz ((ofr x ++ r).take c) = if c < 2 + x.length then 0 else 2 + x.length := by
  match c with
  | 0 => simp [fsz]
  | 1 => rw [if_pos (by omega)]; simp [fsz, ofr]
  | c + 2 =>
    have e : (ofr x ++ r).take (c + 2) = UInt8.ofNat (x.length / 256) :: UInt8.ofNat x.length :: (x ++ r).take c := by simp [ofr]
    rw [e, fsz_cons]
    have h1 : (UInt8.ofNat (x.length / 256)).toNat * 256 + (UInt8.ofNat x.length).toNat = x.length := by
      rw [UInt8.toNat_ofNat', UInt8.toNat_ofNat']
      omega
    rw [h1]
    have h2 : ((x ++ r).take c).length = c := by rw [List.length_take, List.length_append]; omega
    rw [h2]
    by_cases h : c < x.length
    · rw [if_neg (by omega), if_pos (by omega)]
    · rw [if_pos (by omega), if_neg (by omega)]
/-- those that are whole, of what is cut off. -/
theorem run_frames (ls : List (List UInt8)) (h : ∀ l ∈ ls, l.length ≤ 65535) (cut : Nat) (hc : cut ≤ (flat ls).length) (k : Nat) :
    ∃ m, m ≤ ls.length ∧ (st ((flat ls).take cut) k).1 = (flat (ls.take m)).length ∧ (st ((flat ls).take cut) k).2 = ls.take m ∧ (flat (ls.take m)).length ≤ cut ∧
      fsz (((flat ls).take cut).drop (flat (ls.take m)).length) = (match ls[m]? with | none => 0 | some x => if cut - (flat (ls.take m)).length < 2 + x.length then 0 else 2 + x.length) := by
  have key : ∀ m, m ≤ ls.length → (flat (ls.take m)).length ≤ cut → fsz (((flat ls).take cut).drop (flat (ls.take m)).length) = (match ls[m]? with | none => 0 | some x => if cut - (flat (ls.take m)).length < 2 + x.length then 0 else 2 + x.length) ∧ ∀ x, ls[m]? = some x → ((flat ls).take cut).drop (flat (ls.take m)).length = (ofr x ++ flat (ls.drop (m + 1))).take (cut - (flat (ls.take m)).length) := by
    intro m hm hl
    have e : flat ls = flat (ls.take m) ++ flat (ls.drop m) := by rw [← flat_app, List.take_append_drop]
    have e2 : ((flat ls).take cut).drop (flat (ls.take m)).length = (flat (ls.drop m)).take (cut - (flat (ls.take m)).length) := by
      rw [List.drop_take]
      rw [show List.drop (flat (ls.take m)).length (flat ls) = flat (ls.drop m) by rw [e]; simp]
    rw [e2]
    cases hx : ls[m]? with
    | none =>
      have h1 : ls.length ≤ m := by simpa using hx
      rw [List.drop_eq_nil_of_le h1]
      simp [flat, fsz]
    | some x =>
      obtain ⟨hlt, hxe⟩ := List.getElem?_eq_some_iff.1 hx
      have e3 : ls.drop m = x :: ls.drop (m + 1) := by rw [List.drop_eq_getElem_cons hlt, hxe]
      have e4 : (flat ls).length = (flat (ls.take m)).length + (x.length + 2 + (flat (ls.drop (m + 1))).length) := by
        conv => lhs; rw [e]
        rw [List.length_append, e3, flat_cons, List.length_append, ofr_len]
      refine ⟨?_, ?_⟩
      · rw [e3, flat_cons]
        exact fsz_take x (h x (List.mem_of_getElem? hx)) _ _ (by omega)
      · intro y hy
        injection hy with hy
        subst hy
        rw [e3, flat_cons]
  induction k with
  | zero =>
    refine ⟨0, Nat.zero_le _, ?_, ?_, ?_, (key 0 (Nat.zero_le _) ?_).1⟩ <;> simp [st, flat]
  | succ k ih =>
    obtain ⟨m, hm, h1, h2, h3, h4⟩ := ih
    by_cases hz : fsz (((flat ls).take cut).drop (st ((flat ls).take cut) k).1) = 0
    · rw [st_stop hz]
      exact ⟨m, hm, h1, h2, h3, h4⟩
    · have hz' := hz
      rw [h1, h4] at hz'
      cases hx : ls[m]? with
      | none => rw [hx] at hz'; exact absurd rfl hz'
      | some x =>
        rw [hx] at hz' h4
        simp only at hz' h4
        have hcc : ¬ cut - (flat (ls.take m)).length < 2 + x.length := fun hh => hz' (if_pos hh)
        rw [if_neg hcc] at h4
        obtain ⟨hlt, hxe⟩ := List.getElem?_eq_some_iff.1 hx
        have et : ls.take (m + 1) = ls.take m ++ [x] := by rw [List.take_add_one, hx]; rfl
        have el : (flat (ls.take (m + 1))).length = (flat (ls.take m)).length + (2 + x.length) := by
          rw [et, flat_app, List.length_append]
          simp [flat, ofr]
          omega
        refine ⟨m + 1, hlt, ?_, ?_, by omega, (key (m + 1) hlt (by omega)).1⟩
        · rw [st, if_neg hz, el]
          simp only
          rw [h1, h4]
        · rw [st, if_neg hz]
          simp only
          rw [h1, h2, h4, et]
          congr 2
          rw [← List.drop_drop, (key m hm h3).2 x hx]
          rw [List.drop_take]
          rw [List.take_take]
          rw [show (ofr x ++ flat (ls.drop (m + 1))).drop 2 = x ++ flat (ls.drop (m + 1)) by simp [ofr]]
          rw [show min (2 + x.length - 2) (cut - (flat (ls.take m)).length - 2) = x.length by omega]
          simp
end Te
end Go.Proofs.Ytgdeonofdgpokaa

namespace Go.Proofs.Ytgdeonofdgpokaa
open Go.RowKit
set_option linter.unusedVariables false

theorem Ob.new0 (w : World) (base : Nat) (hb : base ≤ w.heap.size) : Ob (w.alloc (.cells #[] 5)) base (.slice (some ⟨w.heap.size, 0, none⟩) 0 0) [] :=
  ⟨rfl, .inr ⟨w.heap.size, 0, #[], rfl, hb, heap_alloc_new _ _, Nat.le_refl _, by decide, rfl, rfl⟩⟩
theorem Ob.new2 (w : World) (base : Nat) (hb : base ≤ w.heap.size) (a b : UInt8) {n m : Int} (hn : n = (a.toNat : Int)) (hm : m = (b.toNat : Int)) : Ob (w.alloc (.cells #[.int .u8 n, .int .u8 m] 5)) base (.slice (some ⟨w.heap.size, 0, none⟩) 2 2) [a, b] := by
  subst hn hm
  exact ⟨rfl, .inr ⟨w.heap.size, 2, #[.int .u8 (a.toNat : Int), .int .u8 (b.toNat : Int)], rfl, hb, heap_alloc_new _ _, Nat.le_refl _, by decide, rfl, rfl⟩⟩
set_option maxRecDepth 100000 in
set_option maxHeartbeats 4000000 in
theorem bclone_any (v : Value) (l : List UInt8) (w : World) (h : By w v l) (hl : l.length ≤ 100000000) :
    Calls Try.prog 14 #[v] w fun e w' => ∃ u, e = .returned u ∧ Be w' w.heap.size u l ∧ Below w.heap.size w w' := by
  have H : Hid (By w v l) := h
  have HL : Hid (l.length ≤ 100000000) := hl
  obtain ⟨a, c, rfl, h1, h2, h3⟩ := h
  cases a with
  | none =>
    have hn : l = [] := by
      rcases Classical.em (l = []) with h | h
      · exact h
      · obtain ⟨x, hx, -⟩ := h3 h; cases hx
    subst hn
    clear h3 H HL hl h1 h2
    have q22 : ∀ (w : World) (a : Option Addr) (n c n' c' : Nat), (binOp .eql 22 (.slice a n c) (.slice none n' c')).run Try.prog w = .ok (.bool a.isNone) w := fun w a n c n' c' => Lib.run_eql_slice_nil w _ _ a n c n' c' Try.underlying22
    go_enter Try.func14, Try.ntmps14
    go_wp2
    go_ret
    exact ⟨_, rfl, .inl ⟨rfl, _, _, rfl, by decide⟩, Below.refl _ _⟩
  | some x =>
    clear h3 hl h1 h2
    have q22 : ∀ (w : World) (a : Option Addr) (n c n' c' : Nat), (binOp .eql 22 (.slice a n c) (.slice none n' c')).run Try.prog w = .ok (.bool a.isNone) w := fun w a n c n' c' => Lib.run_eql_slice_nil w _ _ a n c n' c' Try.underlying22
    go_enter Try.func14, Try.ntmps14
    have O0 : Hid (Ob (w.alloc (.cells #[] 5)) w.heap.size (.slice (some ⟨w.heap.size, 0, none⟩) 0 0) []) := Ob.new0 w _ (Nat.le_refl _)
    have B0 : Hid (Below w.heap.size w (w.alloc (.cells #[] 5))) := (Below.refl _ _).alloc (Nat.le_refl _) _
    have H0 : Hid (By (w.alloc (.cells #[] 5)) (.slice (some x) l.length c) l) := H.out.below B0.out
    go_wp2_with (at_builtin; refine app_bytes2 _ rfl _ _ rfl w.heap.size _ [] rfl O0.out _ l rfl H0.out (by have := HL.out; simp; omega) B0.out.size ?_)
    intro v' w' o1 g1 _
    have B1 : Hid (Below w.heap.size w w') := B0.out.grown g1 B0.out.size (fun k hk => by simp [Value.ownBlock] at hk; omega)
    have O1 : Hid (Ob w' w.heap.size v' l) := o1
    clear o1 g1
    go_wp2
    go_ret
    exact ⟨_, rfl, .inr O1.out, B1.out⟩
theorem byteOf (a : UInt8) : 0 ≤ (a.toNat : Int) ∧ (a.toNat : Int) < 256 := by
  have := a.toNat_lt
  omega
set_option maxRecDepth 100000 in
set_option maxHeartbeats 4000000 in
theorem tfirst_any (v : Value) (l : List UInt8) (w : World) (h : By w v l) :
    Calls Try.prog 15 #[v] w fun e w' => e = .returned (.int .i64 (Te.fsz l : Nat)) ∧ Below w.heap.size w w' := by
  obtain ⟨a, c, rfl, h1, h2, h3⟩ := h
  by_cases hs : l.length < 2
  · have F : Hid (Te.fsz l = 0) := Te.fsz_short l hs
    clear h3
    go_enter Try.func15, Try.ntmps15
    go_wp2
    go_ret
    rw [F.out]
    exact ⟨rfl, Below.refl _ _⟩
  obtain ⟨p, hp⟩ : ∃ p, l[0]? = some p := ⟨_, List.getElem?_eq_getElem (by omega)⟩
  obtain ⟨q, hq⟩ : ∃ q, l[1]? = some q := ⟨_, List.getElem?_eq_getElem (by omega)⟩
  obtain ⟨x, rfl, hx, hc⟩ := h3 (by rintro rfl; simp at hs)
  have c0 := hc 0 p hp
  have c1 : w.cell? ⟨x.block, x.off + 1, none⟩ = some (.int .u8 (q.toNat : Int)) := hc 1 q hq
  have F : Hid (Te.fsz l = if p.toNat * 256 + q.toNat + 2 ≤ l.length then 2 + (p.toNat * 256 + q.toNat) else 0) := Te.fsz_is l p q hp hq
  have e0 : x.add 0 = x := by simp [Addr.add]
  rw [e0] at c0
  have b0 := byteOf p
  have b1 := byteOf q
  have hl2 : (2 : Int) ≤ (l.length : Nat) := by omega
  clear hc h3 e0 hp hq
  obtain ⟨pn, hpn⟩ : ∃ n : Nat, p.toNat = n := ⟨_, rfl⟩
  obtain ⟨qn, hqn⟩ : ∃ n : Nat, q.toNat = n := ⟨_, rfl⟩
  rw [hpn] at c0 b0 F
  rw [hqn] at c1 b1 F
  clear hpn hqn
  go_enter Try.func15, Try.ntmps15
  go_upto_region 3 with fail
  go_region
  have B : Hid (Below w.heap.size w w.drew) := (Below.refl _ _).drew
  generalize w.drew = w1 at *
  by_cases hq2 : 2 + (pn : Int) * 256 + (qn : Int) ≤ (l.length : Nat)
  · have E : Hid ((2 : Int) + (pn : Int) * 256 + (qn : Int) = ((Te.fsz l : Nat) : Int)) := by unfold Hid; rw [F.out, if_pos (by omega)]; omega
    go_wp2
    go_ret
    exact ⟨by rw [← E.out]; rfl, B.out⟩
  · have E : Hid (Te.fsz l = 0) := by unfold Hid; rw [F.out, if_neg (by omega)]
    go_wp2
    go_ret
    exact ⟨by rw [E.out]; rfl, B.out⟩
/-- a part of a text. -/
theorem by_elem : Try.prog.elem 22 = 5 := by
  have hu : Try.prog.underlying 22 = some (.slice 5) := Try.underlying22
  simp [Program.elem, hu]
theorem By.part {w : World} {a : Option Addr} {L c : Nat} {l : List UInt8} (h : By w (.slice a L c) l) {n m : Nat} (hn : n ≤ m) (hm : m ≤ l.length) : By w (sliced a n m c 1) ((l.drop n).take (m - n)) := by
  obtain ⟨a', c', e, h1, h2, h3⟩ := h
  injection e with e1 e2 e3
  subst e1 e3 e2
  unfold sliced
  have hl : ((l.drop n).take (m - n)).length = m - n := by rw [List.length_take, List.length_drop]; omega
  refine ⟨_, _, by rw [hl], by rw [hl]; omega, by omega, fun hne => ?_⟩
  have hnl : n < m := by
    rcases Nat.lt_or_ge n m with h | h
    · exact h
    · rw [show m - n = 0 by omega] at hne; simp at hne
  obtain ⟨x, rfl, hx1, hx2⟩ := h3 (by rintro rfl; simp at hm; omega)
  refine ⟨x.add n, ?_, by rw [add_block]; exact hx1, fun i d hd => ?_⟩
  · simp
    intro hc
    omega
  · rw [List.getElem?_take] at hd
    split at hd
    · rw [List.getElem?_drop] at hd
      have := hx2 (n + i) d hd
      have e : (x.add n).add i = x.add (n + i) := by
        unfold Addr.add
        split <;> split <;> split <;> simp_all <;> omega
      rw [e]
      exact this
    · cases hd
theorem By.back {w : World} {a : Option Addr} {L c : Nat} {l : List UInt8} (h : By w (.slice a L c) l) {n : Nat} (hn : n ≤ l.length) : By w (sliced a n L c 1) (l.drop n) := by
  have h0 := h
  obtain ⟨a', c', e, h1, h2, h3⟩ := h0
  injection e with e1 e2 e3
  subst e1 e3 e2
  have := h.part (n := n) (m := l.length) hn (Nat.le_refl _)
  rw [List.take_of_length_le (by simp)] at this
  exact this
set_option maxRecDepth 100000 in
set_option maxHeartbeats 4000000 in
theorem tframe_any (v : Value) (l : List UInt8) (w : World) (h : By w v l) (hl : l.length ≤ 100000000) :
    Calls Try.prog 7 #[v] w fun e w' => ∃ u, e = .returned u ∧ Ob w' w.heap.size u (Te.ofr l) ∧ Below w.heap.size w w' := by
  have H : Hid (By w v l) := h
  have HL : Hid (l.length ≤ 100000000) := hl
  obtain ⟨a, c, rfl, h1, h2, -⟩ := h
  clear h1 h2
  obtain ⟨n1, hn1⟩ : ∃ n1 : Int, ((UInt8.ofNat (l.length / 256)).toNat : Int) = n1 := ⟨_, rfl⟩
  obtain ⟨n2, hn2⟩ : ∃ n2 : Int, ((UInt8.ofNat l.length).toNat : Int) = n2 := ⟨_, rfl⟩
  have e1 : IntKind.u8.wrap ((l.length : Int) / 256) = n1 := by rw [← hn1, UInt8.toNat_ofNat', IntKind.wrap_u8]; omega
  have e2 : IntKind.u8.wrap (l.length : Int) = n2 := by rw [← hn2, UInt8.toNat_ofNat', IntKind.wrap_u8]; omega
  have O0 : Hid (Ob (w.alloc (.cells #[.int .u8 n1, .int .u8 n2] 5)) w.heap.size (.slice (some ⟨w.heap.size, 0, none⟩) 2 2) [UInt8.ofNat (l.length / 256), UInt8.ofNat l.length]) := Ob.new2 w _ (Nat.le_refl _) _ _ hn1.symm hn2.symm
  have B0 : Hid (Below w.heap.size w (w.alloc (.cells #[.int .u8 n1, .int .u8 n2] 5))) := (Below.refl _ _).alloc (Nat.le_refl _) _
  have H0 : Hid (By (w.alloc (.cells #[.int .u8 n1, .int .u8 n2] 5)) (.slice a l.length c) l) := H.out.below B0.out
  clear hn1 hn2 hl
  go_enter Try.func7, Try.ntmps7
  go_wp2_with (at_builtin; refine app_bytes2 _ rfl _ _ rfl w.heap.size _ _ rfl O0.out _ l rfl H0.out (by have := HL.out; simp; omega) B0.out.size ?_)
  intro v' w' o1 g1 _
  have B1 : Hid (Below w.heap.size w w') := B0.out.grown g1 B0.out.size (fun k hk => by simp [Value.ownBlock] at hk; omega)
  have O1 : Hid (Ob w' w.heap.size v' (Te.ofr l)) := o1
  clear o1 g1
  go_wp2
  go_ret
  exact ⟨_, rfl, O1.out, B1.out⟩
/-- how the loop of Frames stands. -/
def TfI (b : List UInt8) (w : World) (lv nv : Value) (W : World) : Prop := ∃ k n xs, Te.st b k = (n, xs) ∧ nv = .int .i64 (n : Nat) ∧ Bls W w.heap.size lv xs ∧ Below w.heap.size w W
set_option maxRecDepth 100000 in
set_option maxHeartbeats 8000000 in
theorem tframes_any (v : Value) (b : List UInt8) (w : World) (h : By w v b) (hl : b.length ≤ 1100000) :
    Calls Try.prog 11 #[v] w fun e w' => ∃ u k n xs, e = .returned (.tuple #[u, .int .i64 (n : Nat)]) ∧ Te.st b k = (n, xs) ∧ Te.fsz (b.drop n) = 0 ∧ Bls w' w.heap.size u xs ∧ Below w.heap.size w w' := by
  have H : Hid (By w v b) := h
  have HL : Hid (b.length ≤ 1100000) := hl
  obtain ⟨a, c, rfl, h1, h2, -⟩ := h
  have h2' : c ≤ 9223372036854775807 := by unfold maxLen at h2; omega
  clear h2
  go_enter Try.func11, Try.ntmps11
  go_wp2_with fail
  go_loopw [2, 3] (fun lv nv W => TfI b w lv nv W) (fun _ nv _ => b.length - (intOf nv).toNat)
  case atStart => exact ⟨0, 0, [], rfl, rfl, Bls.nil _ _, Below.refl _ _⟩
  case round =>
  obtain ⟨k, n, xs, hst, rfl, hg, hb⟩ := hrel
  have ST : Hid (Te.st b k = (n, xs)) := hst
  have SL := Te.st_le b k
  rw [hst] at SL
  simp only at SL
  obtain ⟨hn, hx2⟩ := SL
  have hni : (n : Int) ≤ (b.length : Nat) := by omega
  have XL : Hid (xs.length ≤ 1000000) := by unfold Hid; omega
  have G : Hid (Bls wr w.heap.size u2 xs) := hg
  have B : Hid (Below w.heap.size w wr) := hb
  have HR : Hid (By wr (.slice a b.length c) b) := H.out.below hb
  have HB : Hid (By wr (sliced a n b.length c 1) (b.drop n)) := HR.out.back hn
  clear hst hg hb hx2
  by_cases hcn : c = n
  case pos =>
    have F0 : Hid (Te.fsz (b.drop n) = 0) := by unfold Hid; rw [List.drop_eq_nil_of_le (by omega)]; rfl
    go_wp2_with fail
    refine Calls.mono (tfirst_any _ (b.drop n) wr (by have h := HB.out; simpa [sliced, hcn] using h)) ?_
    rintro e w1 ⟨rfl, b1⟩
    have B1 : Hid (Below w.heap.size w w1) := B.out.trans (b1.mono B.out.size)
    have G1 : Hid (Bls w1 w.heap.size u2 xs) := G.out.below b1
    clear b1
    rw [F0.out]
    go_wp2
    go_ret2
    exact ⟨_, k, n, xs, rfl, ST.out, F0.out, G1.out, B1.out⟩
  case neg =>
  go_wp2_with fail
  refine Calls.mono (tfirst_any _ (b.drop n) wr (by have h := HB.out; simpa [sliced, hcn] using h)) ?_
  rintro e w1 ⟨rfl, b1⟩
  have B1 : Hid (Below w.heap.size w w1) := B.out.trans (b1.mono B.out.size)
  have G1 : Hid (Bls w1 w.heap.size u2 xs) := G.out.below b1
  have HR1 : Hid (By w1 (.slice a b.length c) b) := HR.out.below b1
  clear b1 HR HB G B
  obtain ⟨s, hs⟩ : ∃ s, Te.fsz (b.drop n) = s := ⟨_, rfl⟩
  have FS : Hid (Te.fsz (b.drop n) = s) := hs
  rw [hs]
  by_cases hs0 : s = 0
  case pos =>
    subst hs0
    clear hs
    go_wp2
    go_ret2
    exact ⟨_, k, n, xs, rfl, ST.out, FS.out, G1.out, B1.out⟩
  case neg =>
  have s2 : 2 ≤ s := by rw [← hs]; exact Te.fsz_two _ (by rw [hs]; exact hs0)
  have sl : n + s ≤ b.length := by have := Te.fsz_le (b.drop n); rw [hs, List.length_drop] at this; omega
  have hs0i : ¬ (s : Int) = 0 := by omega
  have NX : Hid (Te.st b (k + 1) = (n + s, xs ++ [(b.drop (n + 2)).take (s - 2)])) := by unfold Hid; rw [Te.st_go ST.out (by rw [hs]; exact hs0), hs]
  have HP : Hid (By w1 (sliced a (n + 2) (n + s) c 1) ((b.drop (n + 2)).take (s - 2))) := by
    have h := HR1.out.part (n := n + 2) (m := n + s) (by omega) sl
    rw [show n + s - (n + 2) = s - 2 by omega] at h
    exact h
  have CL : Hid (((b.drop (n + 2)).take (s - 2)).length ≤ 100000000) := by unfold Hid; rw [List.length_take, List.length_drop]; omega
  obtain ⟨y, hy⟩ : ∃ y, (b.drop (n + 2)).take (s - 2) = y := ⟨_, rfl⟩
  obtain ⟨n2, hn2⟩ : ∃ n2, n + 2 = n2 := ⟨_, rfl⟩
  obtain ⟨m, hm⟩ : ∃ m, n + s = m := ⟨_, rfl⟩
  have NM : Hid (n < m ∧ m ≤ b.length) := ⟨by omega, by omega⟩
  rw [hy, hn2, hm] at HP
  rw [hy] at CL
  rw [hy, hm] at NX
  have e2 : (n : Int) + 2 = (n2 : Nat) := by omega
  have em : (n : Int) + (s : Nat) = (m : Nat) := by omega
  have l2 : (n2 : Int) ≤ (m : Nat) := by omega
  have lm : (m : Int) ≤ (c : Nat) := by omega
  have wm : (m : Int) ≤ 1100000 := by omega
  clear hs hy hn2 hm FS s2 sl hni hn
  by_cases hc2 : c = n2
  case' pos => subst hc2
  all_goals
    go_wp2_with fail
    refine Calls.mono (bclone_any _ y w1 (by have h := HP.out; first | simpa [sliced, hc2] using h | simpa [sliced] using h) CL.out) ?_
    rintro e w2 ⟨cv, rfl, hcv, b2⟩
    have B2 : Hid (Below w.heap.size w w2) := B1.out.trans (b2.mono B1.out.size)
    have G2 : Hid (Bls w2 w.heap.size u2 xs) := G1.out.below b2
    have CV : Hid (Be w2 w.heap.size cv y) := hcv.base B1.out.size
    obtain ⟨pa, pc, rfl, -, -, -⟩ := hcv.by_
    clear hcv b2 B1 G1
    have B3 : Hid (Below w.heap.size w (w2.alloc (.cells #[.slice pa y.length pc] 22))) := B2.out.alloc B2.out.size _
    have RC : Hid ((w2.alloc (.cells #[.slice pa y.length pc] 22)).cell? ⟨w2.heap.size, 0, none⟩ = some (.slice pa y.length pc)) := by unfold Hid; simp
    have b3 : Below w2.heap.size w2 (w2.alloc (.cells #[.slice pa y.length pc] 22)) := (Below.refl _ _).alloc (Nat.le_refl _) _
    have G3 := G2.out.below b3
    obtain ⟨vs, q1, q2, q3⟩ := G3
    have CV3 : Hid (Be (w2.alloc (.cells #[.slice pa y.length pc] 22)) w.heap.size (.slice pa y.length pc) y) := CV.out.below b3
    have Q1 : Hid (Lb (w2.alloc (.cells #[.slice pa y.length pc] 22)) w.heap.size u2 vs) := q1
    have Q2 : Hid (vs.length = xs.length) := q2
    have Q3 : Hid (∀ (i : Nat) l, xs[i]? = some l → ∃ x, vs[i]? = some x ∧ Be (w2.alloc (.cells #[.slice pa y.length pc] 22)) w.heap.size x l) := q3
    clear q1 q2 q3 b3
    go_wp2_with (at_builtin; refine app_lb _ rfl _ _ rfl w.heap.size _ vs rfl Q1.out ⟨w2.heap.size, 0, none⟩ pa y.length pc rfl RC.out (by have := XL.out; rw [Q2.out]; omega) B3.out.size ?_)
    intro g cap w4 o4 g4 a4 l4
    have B4 : Hid (Below w.heap.size w w4) := B3.out.grown g4 B3.out.size (fun k hk => (Q1.out.block k hk).1)
    have G4 : Hid (Bls w4 w.heap.size (.slice (some ⟨g, 0, none⟩) (vs.length + 1) cap) (xs ++ [y])) := Bls.snoc Q1.out Q2.out Q3.out CV3.out g4 o4
    clear o4 g4 a4 l4
    go_wp2
    go_round
    case rel => exact ⟨k + 1, m, _, NX.out, by first | rfl | go_num, G4.out, B4.out⟩
    case measure => have := NM.out; simp [intOf]; omega
end Go.Proofs.Ytgdeonofdgpokaa

namespace Go.Proofs.Ytgdeonofdgpokaa
open Go.ChangeShapes Go.WideShapes Go.ChangeAt Go.RowKit
set_option linter.unusedVariables false

theorem byte_of_wf {n : Int} (h : (Lit.int .u8 n).wf = true) : 0 ≤ n ∧ n < 256 := by
  simp only [Lit.wf, Bool.and_eq_true, decide_eq_true_eq] at h
  have h1 : IntKind.u8.min = 0 := by decide
  have h2 : IntKind.u8.max = 255 := by decide
  omega
theorem bulk_pos {H : Type} : ∀ d : DataW H, 1 ≤ Rows.uptoBulk d
  | .lit (.string bytes) => by simp [Rows.uptoBulk]
  | .lit (.int _ _) => by simp [Rows.uptoBulk]
  | .lit (.bool _) => by simp [Rows.uptoBulk]
  | .lit (.float .f32 _) => by simp [Rows.uptoBulk]
  | .lit (.float .f64 _) => by simp [Rows.uptoBulk]
  | .lit .nil => by simp [Rows.uptoBulk]
  | .nil => by simp [Rows.uptoBulk]
  | .ptr d => by simp [Rows.uptoBulk]
  | .slice _ _ => by simp [Rows.uptoBulk]
  | .agg _ => by simp [Rows.uptoBulk]
  | .iface _ _ => by simp [Rows.uptoBulk]
  | .map _ => by simp [Rows.uptoBulk]
  | .held _ => by simp [Rows.uptoBulk]
theorem bulk_len {H : Type} : ∀ ds : List (DataW H), ds.length ≤ Rows.uptoBulkAll ds
  | [] => by simp
  | d :: ds => by
    have h1 := bulk_pos d
    have h2 := bulk_len ds
    simp only [Rows.uptoBulkAll, List.length_cons]
    omega
theorem bulk_slice {H : Type} (es sp : List (DataW H)) : es.length ≤ Rows.uptoBulk (.slice es sp) := by
  have := bulk_len es
  simp only [Rows.uptoBulk]
  omega
end Go.Proofs.Ytgdeonofdgpokaa

namespace Go.Proofs.Ytgdeonofdgpokaa
open Go.ChangeShapes Go.WideShapes Go.ChangeAt Go.RowKit
set_option linter.unusedVariables false

set_option maxRecDepth 100000 in
theorem open_bytes {H : Type} {enc : TypeId × Value → H} {W : World} {base : Nat} {held : Bool} {fuel : Nat} {v : Value} {y : DataW H × List MemPlace} (h : DataW.trod enc Try.prog W base (fun _ => true) held fuel 22 [v] = some y) :
    ∃ l, By W v l ∧ l.length ≤ Rows.uptoBulk y.1 := by
  rcases open_ints Try.underlying22 Try.underlying5 (by kernel_rfl) h with ⟨hcs, rfl⟩ | ⟨x, l, c, zs, hcs, _, hl, hm, hz, rfl, hcell, hwz⟩
  · simp at hcs
    subst hcs
    exact ⟨[], ⟨none, 0, rfl, Nat.le_refl _, by omega, fun h => absurd rfl h⟩, by simp⟩
  · simp at hcs
    subst hcs
    simp only [if_true] at hz
    have hlen : ((zs.take l).map fun n => UInt8.ofNat n.toNat).length = l := by rw [List.length_map, List.length_take]; omega
    refine ⟨(zs.take l).map fun n => UInt8.ofNat n.toNat, ⟨some x, c, by rw [hlen], by omega, by omega, fun hn => ⟨x, rfl, ?_, fun i d hd => ?_⟩⟩, ?_⟩
    · have h0 : 0 < zs.length := by
        rcases Nat.eq_zero_or_pos zs.length with h | h
        · exact absurd (by rw [List.length_eq_zero_iff.1 h]; simp) hn
        · exact h
      have := cell_lt (x := x.add 0) (hcell 0 h0)
      rwa [add_block] at this
    · rw [List.getElem?_map, List.getElem?_take] at hd
      split at hd
      · rename_i hil
        have hi : i < zs.length := by omega
        rw [List.getElem?_eq_getElem hi] at hd
        simp only [Option.map_some, Option.some.injEq] at hd
        have hb := byte_of_wf (hwz zs[i] (List.getElem_mem hi))
        rw [hcell i hi, List.getD_eq_getElem?_getD, List.getElem?_eq_getElem hi, ← hd, UInt8.toNat_ofNat']
        simp only [Option.getD_some]
        congr 2
        omega
      · simp at hd
    · have := bulk_slice (H := H) (lits .u8 (zs.take l)) (lits .u8 (zs.drop l))
      rw [List.length_map]
      simpa [lits] using this
set_option maxRecDepth 100000 in
theorem bytes_in {H : Type} {enc : TypeId × Value → H} {W : World} {base b0 : Nat} {held : Bool} {v : Value} {d : DataW H} {p : List MemPlace} (hv : Value.okWide Try.prog W .any b0 22 v) (h : DataW.Trod enc Try.prog W base (fun _ => true) held 22 v d p) :
    ∃ l, By W v l ∧ l.length ≤ Rows.uptoBulk d := by
  obtain ⟨a, len, cap, rfl⟩ := okWide_slice Try.underlying22 hv
  obtain ⟨fuel, hf⟩ := h
  exact open_bytes hf
end Go.Proofs.Ytgdeonofdgpokaa

namespace Go.Proofs.Ytgdeonofdgpokaa
open Go.ChangeShapes Go.WideShapes Go.ChangeAt Go.RowKit
set_option linter.unusedVariables false

set_option maxRecDepth 100000 in
theorem open_blls {H : Type} {enc : TypeId × Value → H} {W : World} {base : Nat} {held : Bool} {fuel : Nat} {v : Value} {y : DataW H × List MemPlace} (h : DataW.trod enc Try.prog W base (fun _ => true) held fuel 33 [v] = some y) :
    ∃ ls : List (List UInt8), Bll W v ls := by
  have csk : Try.prog.cellsOf 22 = 1 := by kernel_rfl
  rcases Go.Deep.open_slice Try.underlying33 h with ⟨hcs, -⟩ | ⟨a, len, cap, m, q, D, Pl, hcs, hb, hl, hm, hmm, -, hx⟩
  · simp at hcs
    subst hcs
    exact ⟨[], ⟨none, 0, rfl, Nat.le_refl _, by omega, fun h => absurd rfl h⟩⟩
  · simp at hcs
    subst hcs
    have hlm : len ≤ m := by rw [hmm]; simp; exact hl
    have each : ∀ i, i < len → ∃ l : List UInt8, ∃ u, W.cell? (a.add i) = some u ∧ By W u l := by
      intro i hi
      obtain ⟨cs', h1, h2⟩ := hx i (by omega)
      rw [csk] at h1
      rw [Nat.mul_one] at h1
      obtain ⟨-, hlen, hcell⟩ := World.cells?_some h1
      match cs', hlen with
      | [u], _ =>
        obtain ⟨l, hl', -⟩ := open_bytes h2
        exact ⟨l, u, hcell 0 (by decide), hl'⟩
    have inh : Inhabited (List UInt8) := ⟨[]⟩
    obtain ⟨q, hq⟩ := Go.Deep.choose_lt each
    refine ⟨(List.range len).map q, ⟨some a, cap, by simp, by simpa using hl, by unfold maxLen at hm; omega, fun hn => ⟨a, rfl, ?_, fun i k hk => ?_⟩⟩⟩
    · have h0 : 0 < len := by
        rcases Nat.eq_zero_or_pos len with h | h
        · subst h; simp at hn
        · exact h
      obtain ⟨u, h1, -⟩ := hq 0 h0
      have := cell_lt h1
      rwa [add_block] at this
    · have hi : i < len := by
        have := (List.getElem?_eq_some_iff.1 hk).1
        simpa using this
      rw [List.getElem?_map, List.getElem?_range hi] at hk
      injection hk with hk
      subst hk
      exact hq i hi
set_option maxRecDepth 100000 in
theorem blls_in {H : Type} {enc : TypeId × Value → H} {W : World} {base b0 : Nat} {held : Bool} {v : Value} {d : DataW H} {p : List MemPlace} (hv : Value.okWide Try.prog W .any b0 33 v) (h : DataW.Trod enc Try.prog W base (fun _ => true) held 33 v d p) : ∃ ls : List (List UInt8), Bll W v ls := by
  obtain ⟨a, len, cap, rfl⟩ := okWide_slice Try.underlying33 hv
  obtain ⟨fuel, hf⟩ := h
  exact open_blls hf
/-- the first of them; those behind. -/
theorem Bll.take {w : World} {a : Option Addr} {n c : Nat} {ls : List (List UInt8)} (h : Bll w (.slice a n c) ls) {k : Nat} (hk : k ≤ ls.length) : Bll w (.slice a k c) (ls.take k) := by
  obtain ⟨a', c', e, h2, h3, h4⟩ := h
  injection e with e1 e2 e3
  subst e1 e3
  have hl : (ls.take k).length = k := by rw [List.length_take]; omega
  refine ⟨a, c, by rw [hl], by omega, h3, fun hn => ?_⟩
  obtain ⟨x, ex, hx, hy⟩ := h4 (by rintro rfl; simp at hn)
  refine ⟨x, ex, hx, fun i l hi => hy i l ?_⟩
  rw [List.getElem?_take] at hi
  split at hi
  · exact hi
  · cases hi
theorem Bll.sl {w : World} {a : Option Addr} {c n L : Nat} {ls : List (List UInt8)} (h : Bll w (.slice a L c) ls) (hn : n ≤ ls.length) : Bll w (sliced a n L c 1) (ls.drop n) := by
  obtain ⟨a', c', e, h1, h2, h3⟩ := h
  injection e with e1 e2 e3
  subst e1 e3 e2
  unfold sliced
  refine ⟨_, _, by rw [List.length_drop], by rw [List.length_drop]; omega, by omega, fun hne => ?_⟩
  have hnl : n < ls.length := by
    rcases Nat.lt_or_ge n ls.length with h | h
    · exact h
    · exact absurd (List.drop_eq_nil_of_le h) hne
  obtain ⟨x, rfl, hx1, hx2⟩ := h3 (by rintro rfl; simp at hnl)
  refine ⟨x.add n, ?_, by rw [add_block]; exact hx1, fun i l hk => ?_⟩
  · simp
    intro hc
    omega
  · rw [List.getElem?_drop] at hk
    obtain ⟨u, c1, c2⟩ := hx2 (n + i) l hk
    have e : (x.add n).add i = x.add (n + i) := by
      unfold Addr.add
      split <;> split <;> split <;> simp_all <;> omega
    rw [e]
    exact ⟨u, c1, c2⟩
end Go.Proofs.Ytgdeonofdgpokaa

namespace Go.Proofs.Ytgdeonofdgpokaa
open Go.RowKit
set_option linter.unusedVariables false

theorem By.one_ {w : World} {z : Nat} (hz : w.heap.size = z) (a : UInt8) {n : Int} (hn : n = (a.toNat : Int)) (t : TypeId) (fr : Nat × Nat) : By (w.alloc (.cells #[.int .u8 n] t fr)) (.slice (some ⟨z, 0, none⟩) 1 1) [a] := by
  subst hz hn
  refine ⟨_, 1, rfl, by simp, by unfold maxLen; omega, fun _ => ⟨_, rfl, by simp, fun i d hd => ?_⟩⟩
  match i, hd with
  | 0, hd => simp at hd; subst hd; rw [Addr.add_lit]; exact (Go.Joins.cell_alloc_mark_at _ _ _ _ _ _ rfl).trans rfl
  | i + 1, hd => simp at hd
theorem By.two_ {w : World} {z : Nat} (hz : w.heap.size = z) (a b : UInt8) {n m : Int} (hn : n = (a.toNat : Int)) (hm : m = (b.toNat : Int)) (t : TypeId) (fr : Nat × Nat) : By (w.alloc (.cells #[.int .u8 n, .int .u8 m] t fr)) (.slice (some ⟨z, 0, none⟩) 2 2) [a, b] := by
  subst hz hn hm
  refine ⟨_, 2, rfl, by simp, by unfold maxLen; omega, fun _ => ⟨_, rfl, by simp, fun i d hd => ?_⟩⟩
  match i, hd with
  | 0, hd => simp at hd; subst hd; rw [Addr.add_lit]; exact (Go.Joins.cell_alloc_mark_at _ _ _ _ _ _ rfl).trans rfl
  | 1, hd => simp at hd; subst hd; rw [Addr.add_lit]; exact (Go.Joins.cell_alloc_mark_at _ _ _ _ _ _ rfl).trans rfl
  | i + 2, hd => simp at hd
end Go.Proofs.Ytgdeonofdgpokaa

