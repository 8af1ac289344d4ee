/- What stays where one block turns. (Big2 has the same words for texts of its own; where both are wanted, let Big2 import this.) · What a walk is told of a slice of integers that came in. · Lists of integers: what a slice holds. · api.Change: records in memory. · What has changed: as mathematics. · Slices of api.Change that the call itself makes, by append. · Bytes that came in. · An error that is told. · feed.byteAt, feed.Diff. · Short texts of bytes, as they are written out. · How great what came in is; a byte. · What a walk is told of bytes that came in. · The walk of FeedParts, out of the contract of feed.Diff. -/
import Derived.Test.YtifijfaefpdmpaaRows
import Derived.WalkKit
import Derived.WalkSpells
import Derived.WalkLawsBesides
import Derived.ProofKit
import Derived.Deep.QuietTactic
import Derived.BigQuiet
import Derived.OwnWalk
import Derived.Deep.AppendLies
import Derived.Lib.Bytealg
import Derived.IntWalk
import Derived.Laws.Closers25
import Derived.Deep.DeepCutAuto
import Derived.Lib.SmallJoins
import Derived.Deep.SlicePairs
import Derived.ChangeArms
import Derived.OpenShut
namespace Go.Proofs.Ytifijfaefpdmpaa
open Go.RowKit

/-- nothing below has turned but block z. -/
structure Kp (z : Nat) (w w' : World) : Prop where
  os : w'.os = w.os
  tape : w'.tape = w.tape
  output : w'.output = w.output
  size : w.heap.size ≤ w'.heap.size
  block : ∀ k, k < w.heap.size → k ≠ z → w'.heap[k]? = w.heap[k]?

theorem Kp.of {z : Nat} {w w' : World} (h : Below w.heap.size w w') : Kp z w w' := ⟨h.os, h.tape, h.output, h.size, fun k hk _ => h.block k hk⟩
theorem Kp.refl (z : Nat) (w : World) : Kp z w w := Kp.of (Below.refl _ _)
theorem Kp.trans {z : Nat} {a b c : World} (h : Kp z a b) (k : Kp z b c) : Kp z a c :=
  ⟨k.os.trans h.os, k.tape.trans h.tape, k.output.trans h.output, Nat.le_trans h.size k.size, fun i hi hz => (k.block i (Nat.lt_of_lt_of_le hi h.size) hz).trans (h.block i hi hz)⟩
theorem Kp.set {z : Nat} (w : World) (i : Nat) (u : Value) : Kp z w (w.setCell ⟨z, i, none⟩ u) :=
  ⟨rfl, rfl, rfl, by simp [World.setCell], fun k _ hz => Below.heap_setCell _ _ _ _ hz⟩
theorem Kp.below {z B : Nat} {a w w' : World} (h : Below B a w) (k : Kp z w w') (hB : B ≤ w.heap.size) (hz : B ≤ z) : Below B a w' :=
  h.trans ⟨k.os, k.tape, k.output, k.size, fun i hi => k.block i (by omega) (by omega)⟩

theorem Kp.set_new {z b : Nat} {w W : World} (h : Kp z w W) (hb : w.heap.size ≤ b) (i : Nat) (u : Value) : Kp z w (W.setCell ⟨b, i, none⟩ u) :=
  ⟨h.os, h.tape, h.output, by simpa [World.setCell] using h.size, fun k hk hz => (Below.heap_setCell _ _ _ _ (by show k ≠ b; omega)).trans (h.block k hk hz)⟩
theorem Kp.drewN {z : Nat} {w W : World} (h : Kp z w W) (n : Nat) : Kp z w (W.drewN n) := ⟨h.os, h.tape, h.output, h.size, h.block⟩

theorem lt_of_block {w : World} {b : Nat} {o : Obj} (h : w.heap[b]? = some o) : b < w.heap.size := by
  rcases Nat.lt_or_ge b w.heap.size with h1 | h1
  · exact h1
  · rw [Array.getElem?_eq_none h1] at h; cases h

end Go.Proofs.Ytifijfaefpdmpaa

namespace Go.Proofs.Ytifijfaefpdmpaa

/-- nil, or a row of cells: the numbers zs, of which the first len are the elements. -/
def IsRow (k : IntKind) (w : World) (a : Option Addr) (len cap : Nat) (zs : List Int) : Prop :=
  (a = none ∧ len = 0 ∧ cap = 0 ∧ zs = []) ∨
  ∃ x, a = some x ∧ len ≤ cap ∧ cap ≤ maxLen ∧ zs.length = cap ∧ (∀ i, i < zs.length → w.cell? (x.add i) = some (.int k (zs.getD i 0))) ∧ ∀ n ∈ zs, (Lit.int k n).wf = true
end Go.Proofs.Ytifijfaefpdmpaa

namespace Go.Proofs.Ytifijfaefpdmpaa
open Go.RowKit

/-- the cells of a list, from an address on. -/
def Cells (w : World) (a : Option Addr) (xs : List Int) : Prop := xs ≠ [] → ∃ x, a = some x ∧ x.block < w.heap.size ∧ ∀ i d, xs[i]? = some d → w.cell? (x.add i) = some (.int .i64 d)
/-- v is a slice of the integers xs. -/
def Ro (w : World) (v : Value) (xs : List Int) : Prop := ∃ (a : Option Addr) (c : Nat), v = .slice a xs.length c ∧ xs.length ≤ c ∧ c ≤ 9223372036854775807 ∧ Cells w a xs

theorem cell_lt {w : World} {x : Addr} {v : Value} (h : w.cell? x = some v) : x.block < w.heap.size := by
  rcases Nat.lt_or_ge x.block w.heap.size with h1 | h1
  · exact h1
  · simp [World.cell?, Array.getElem?_eq_none h1] at h

theorem add_block (x : Addr) (i : Nat) : (x.add i).block = x.block := by unfold Addr.add; split <;> rfl

theorem Cells.below {w w' : World} {a : Option Addr} {xs : List Int} (h : Cells w a xs) (hb : Below w.heap.size w w') : Cells w' a xs := fun hx => by
  obtain ⟨x, ha, hl, hc⟩ := h hx
  refine ⟨x, ha, Nat.lt_of_lt_of_le hl hb.size, fun i d hd => ?_⟩
  rw [hb.cell (p := x.add i) (by rw [add_block]; exact hl)]
  exact hc i d hd
theorem Ro.below {w w' : World} {v : Value} {xs : List Int} (h : Ro w v xs) (hb : Below w.heap.size w w') : Ro w' v xs := by
  obtain ⟨a, c, h1, h2, h3, h4⟩ := h
  exact ⟨a, c, h1, h2, h3, h4.below hb⟩
theorem Ro.drewN {w : World} {v : Value} {xs : List Int} (h : Ro w v xs) (n : Nat) : Ro (w.drewN n) v xs := h.below (_root_.Go.below_drewN (Below.refl _ _) n)

/-- what came in. -/
theorem IsRow.ro {w : World} {a : Option Addr} {len cap : Nat} {zs : List Int} (h : IsRow .i64 w a len cap zs) : Ro w (.slice a len cap) (zs.take len) := by
  rcases h with ⟨rfl, rfl, rfl, rfl⟩ | ⟨x, rfl, h1, h2, h3, h4, h5⟩
  · exact ⟨none, 0, rfl, Nat.le_refl _, by omega, fun h => absurd rfl h⟩
  · have hl : (zs.take len).length = len := by rw [List.length_take]; omega
    refine ⟨some x, cap, by rw [hl], by omega, by unfold maxLen at h2; omega, fun hx => ⟨x, rfl, ?_, fun i d hd => ?_⟩⟩
    · have h0 : 0 < zs.length := by
        rcases Nat.eq_zero_or_pos zs.length with h | h
        · exact absurd (by rw [List.length_eq_zero_iff.1 h]; simp) hx
        · exact h
      have := cell_lt (x := x.add 0) (h4 0 h0)
      rwa [add_block] at this
    · rw [List.getElem?_take] at hd
      split at hd
      · obtain ⟨hi, he⟩ := List.getElem?_eq_some_iff.1 hd
        rw [h4 i hi, List.getD_eq_getElem?_getD, hd]
        rfl
      · cases hd
end Go.Proofs.Ytifijfaefpdmpaa

namespace Go.Proofs.Ytifijfaefpdmpaa
open Go.RowKit
set_option linter.unusedVariables false

structure ChV where
  at_ : Int
  old : Int
  new : Int
def ChV.val (k : ChV) : Value := .agg #[.int .i64 k.at_, .int .i64 k.old, .int .i64 k.new]
/-- its cells, from an address on. -/
structure Chc (w : World) (y : Addr) (k : ChV) : Prop where
  c0 : w.cell? y = some (.int .i64 k.at_)
  c1 : w.cell? ⟨y.block, y.off + 1, none⟩ = some (.int .i64 k.old)
  c2 : w.cell? ⟨y.block, y.off + 2, none⟩ = some (.int .i64 k.new)
theorem Chc.lt {w : World} {y : Addr} {k : ChV} (h : Chc w y k) : y.block < w.heap.size := cell_lt h.c0
theorem Chc.below {w w' : World} {y : Addr} {k : ChV} {B : Nat} (h : Chc w y k) (hb : Below B w w') (hy : y.block < B) : Chc w' y k :=
  ⟨by rw [hb.cell (p := y) hy]; exact h.c0, by rw [hb.cell (p := ⟨y.block, y.off + 1, none⟩) hy]; exact h.c1, by rw [hb.cell (p := ⟨y.block, y.off + 2, none⟩) hy]; exact h.c2⟩
/-- v is a slice of them. -/
def Chl (w : World) (v : Value) (ks : List ChV) : Prop := ∃ a c, v = .slice a ks.length c ∧ ks.length ≤ c ∧ c ≤ 9223372036854775807 ∧ (ks ≠ [] → ∃ x, a = some x ∧ x.block < w.heap.size ∧ ∀ (i : Nat) k, ks[i]? = some k → Chc w (x.add (i * 3)) k)
theorem Chl.below {w w' : World} {v : Value} {ks : List ChV} (h : Chl w v ks) (hb : Below w.heap.size w w') : Chl w' v ks := by
  obtain ⟨a, c, h1, h2, h3, h4⟩ := h
  refine ⟨a, c, h1, h2, h3, fun hn => ?_⟩
  obtain ⟨x, e, hx, hk⟩ := h4 hn
  exact ⟨x, e, Nat.lt_of_lt_of_le hx hb.size, fun i k hi => (hk i k hi).below hb (by rw [add_block]; exact hx)⟩
theorem Chc.mk' {w : World} {z : Nat} (k : ChV) (hz : w.heap.size = z) : Chc (w.alloc (.cells #[.int .i64 k.at_, .int .i64 k.old, .int .i64 k.new] 28)) ⟨z, 0, none⟩ k := by
  subst hz
  constructor <;> simp
end Go.Proofs.Ytifijfaefpdmpaa

namespace Go.Proofs.Ytifijfaefpdmpaa
set_option linter.unusedVariables false

namespace Fe
/-- what is at a place; -1 behind the end. -/
def bat (l : List UInt8) (i : Nat) : Int := match l[i]? with
  | some d => (d.toNat : Int)
  | none => -1
theorem bat_in {l : List UInt8} {i : Nat} {d : UInt8} (h : l[i]? = some d) : bat l i = (d.toNat : Int) := by unfold bat; rw [h]
theorem bat_out {l : List UInt8} {i : Nat} (h : l.length ≤ i) : bat l i = -1 := by unfold bat; rw [List.getElem?_eq_none h]
theorem bat_bounds (l : List UInt8) (i : Nat) : -1 ≤ bat l i ∧ bat l i ≤ 255 := by
  unfold bat
  split
  · rename_i d _
    have := d.toNat_lt
    omega
  · omega
theorem bat_iff (l : List UInt8) (i : Nat) : 0 ≤ bat l i ↔ i < l.length := by
  constructor
  · intro h
    apply Nat.lt_of_not_le
    intro h2
    rw [bat_out h2] at h
    omega
  · intro h
    rw [bat_in (List.getElem?_eq_getElem h)]
    omega
/-- what is told of one place. -/
def one (a b : List UInt8) (i : Nat) : List ChV := if bat a i = bat b i then [] else [⟨i, bat a i, bat b i⟩]
/-- what is told of the first n places. -/
def dif (a b : List UInt8) : Nat → List ChV
  | 0 => []
  | n + 1 => dif a b n ++ one a b n
theorem dif_len (a b : List UInt8) : ∀ n, (dif a b n).length ≤ n
  | 0 => by simp [dif]
  | n + 1 => by
    have := dif_len a b n
    unfold dif one
    rw [List.length_append]
    split <;> simp <;> omega
theorem dif_same {a b : List UInt8} {n : Nat} (h : bat a n = bat b n) : dif a b (n + 1) = dif a b n := by rw [dif, one, if_pos h, List.append_nil]
theorem dif_more {a b : List UInt8} {n : Nat} (h : bat a n ≠ bat b n) : dif a b (n + 1) = dif a b n ++ [⟨n, bat a n, bat b n⟩] := by rw [dif, one, if_neg h]
theorem dif_pre (a b : List UInt8) (n : Nat) : ∀ m, n ≤ m → ∃ r, dif a b m = dif a b n ++ r
  | 0, h => ⟨[], by obtain rfl : n = 0 := by omega
                    simp⟩
  | m + 1, h => by
    by_cases e : n = m + 1
    · subst e; exact ⟨[], by simp⟩
    · obtain ⟨r, hr⟩ := dif_pre a b n m (by omega)
      exact ⟨r ++ one a b m, by rw [dif, hr, List.append_assoc]⟩
/-- the changes of two texts. -/
def diff (a b : List UInt8) : List ChV := dif a b (max a.length b.length)
end Fe
end Go.Proofs.Ytifijfaefpdmpaa

namespace Go.Proofs.Ytifijfaefpdmpaa
open Go.RowKit
set_option linter.unusedVariables false

theorem info_ch : (Try.prog.info? 28).map (fun i => (i.zero, i.size, i.bytes)) = some (some (.agg #[.int .i64 0, .int .i64 0, .int .i64 0]), 3, 24) := by kernel_rfl
def ChV.cs (k : ChV) : List Value := [.int .i64 k.at_, .int .i64 k.old, .int .i64 k.new]
theorem flat_ch : ∀ (ks : List ChV) (i j : Nat) (k : ChV), ks[i]? = some k → j < 3 → (ks.flatMap ChV.cs)[i * 3 + j]? = k.cs[j]?
  | [], i, j, k, h, _ => by simp at h
  | x :: ks, 0, j, k, h, hj => by
    simp at h
    subst h
    rw [List.flatMap_cons, List.getElem?_append_left (by simp [ChV.cs]; omega)]
    simp
  | x :: ks, i + 1, j, k, h, hj => by
    rw [List.flatMap_cons, List.getElem?_append_right (by simp [ChV.cs]; omega)]
    have : (i + 1) * 3 + j - (ChV.cs x).length = i * 3 + j := by simp [ChV.cs]; omega
    rw [this]
    exact flat_ch ks i j k (by simpa using h) hj
/-- v is a slice of them, in a block of its own from base on. -/
def Cho (w : World) (base : Nat) (v : Value) (ks : List ChV) : Prop := w.ownsRow base 28 3 v ks.length (ks.flatMap ChV.cs)
theorem Cho.nil (w : World) (base : Nat) : Cho w base (.slice none 0 0) [] := World.ownsRow_nil _ _ _ _
theorem Cho.below {w w' : World} {base : Nat} {v : Value} {ks : List ChV} (h : Cho w base v ks) (hb : Below w.heap.size w w') : Cho w' base v ks :=
  World.ownsRow.kept h (row := none) ⟨hb.os, hb.tape, hb.output, hb.size, fun k hk _ => hb.block k hk⟩ (by cases v.ownBlock <;> simp)
theorem Cho.kept {w w' : World} {base : Nat} {v : Value} {ks : List ChV} {row : Option Nat} (h : Cho w base v ks) (hg : w.grownBy w' row) (hne : v.ownBlock = none ∨ v.ownBlock ≠ row) : Cho w' base v ks := World.ownsRow.kept h hg hne
theorem Cho.alloc {w : World} {base : Nat} {v : Value} {ks : List ChV} (h : Cho w base v ks) (o : Obj) : Cho (w.alloc o) base v ks := World.ownsRow.alloc h o
theorem Cho.block {w : World} {base : Nat} {v : Value} {ks : List ChV} (h : Cho w base v ks) : ∀ k, v.ownBlock = some k → base ≤ k ∧ k < w.heap.size := World.ownsRow.lt h
theorem Cho.mono {w : World} {base base' : Nat} {v : Value} {ks : List ChV} (h : Cho w base v ks) (hb : base' ≤ base) : Cho w base' v ks := by
  refine ⟨h.1, ?_⟩
  rcases h.2 with h1 | ⟨g, cap, cur, h1, h2, h3⟩
  · exact .inl h1
  · exact .inr ⟨g, cap, cur, h1, Nat.le_trans hb h2, h3⟩
theorem Cho.l {w : World} {base : Nat} {v : Value} {ks : List ChV} (h : Cho w base v ks) : Chl w v ks := by
  rcases h.2 with ⟨hv, h0⟩ | ⟨g, cap, cur, hv, hb, hg, h1, h2, h3, h4⟩
  · exact ⟨none, 0, by rw [hv, h0], by omega, by omega, fun hn => absurd (List.length_eq_zero_iff.1 h0) hn⟩
  · refine ⟨_, cap, hv, h1, by unfold maxLen at h2; omega, fun _ => ⟨_, rfl, lt_of_block hg, fun i k hi => ?_⟩⟩
    have hil : i < ks.length := (List.getElem?_eq_some_iff.1 hi).1
    have h5 : w.ownsRow base 28 3 (.slice (some ⟨g, 0, none⟩) ks.length cap) ks.length (ks.flatMap ChV.cs) := by rw [← hv]; exact h
    have hc : ∀ j u, j < 3 → k.cs[j]? = some u → w.cell? ⟨g, i * 3 + j, none⟩ = some u := fun j u hj hu => by
      rw [h5.cellAt (i * 3 + j) (by omega), flat_ch ks i j k hi hj, hu]
    rw [Addr.add_lit, Nat.zero_add]
    exact ⟨hc 0 _ (by decide) rfl, hc 1 _ (by decide) rfl, hc 2 _ (by decide) rfl⟩
theorem Cho.len {w : World} {base : Nat} {v : Value} {ks : List ChV} (h : Cho w base v ks) : ∃ a c, v = .slice a ks.length c := by
  obtain ⟨a, c, h1, -⟩ := h.l
  exact ⟨a, c, h1⟩

/-- one more. -/
theorem app_ch {ops : Array Oper} {rest : List Oper} {o : Oper} {a : Act} {Q : Exit → Act → World → Prop} (w : World) (hgd : o.guard = none) (s x : Operand)
    (ho : o.op = .call { callee := .builtin .append, args := #[s, x], argTypes := #[29, 29] }) (base : Nat) (v : Value) (ks : List ChV) (hs : a.eval s = v) (hown : Cho w base v ks)
    (b : Nat) (d : ChV) (hx : a.eval x = .slice (some ⟨b, 0, none⟩) 1 1) (hd : Chc w ⟨b, 0, none⟩ d) (hl : ks.length ≤ 1000000) (hbase : base ≤ w.heap.size)
    (h : ∀ g cap w', Cho w' base (.slice (some ⟨g, 0, none⟩) (ks.length + 1) cap) (ks ++ [d]) → w.grownBy w' v.ownBlock → (v.ownBlock = some g ∨ g = w.heap.size) → g < w'.heap.size → wpList Try.prog ops Q rest (a.put o.dst (.slice (some ⟨g, 0, none⟩) (ks.length + 1) cap)) w') :
    wpList Try.prog ops Q (o :: rest) a w := by
  obtain ⟨i0, hi, hz0, hz1, hz2⟩ := info_parts info_ch
  refine wpList_append_lies w hgd s x 29 ho base 28 i0 (.agg #[.int .i64 0, .int .i64 0, .int .i64 0]) 3 24 Try.underlying29 hi hz0 hz1 hz2 rfl (by decide) v ks.length _ hs hown ⟨b, 0, none⟩ 1 1 d.cs hx rfl ?_ ?_ (by decide) (by unfold maxLen; omega) (by omega) hbase _ rfl ?_
  · intro j u hj
    have hjn : j < 3 := (List.getElem?_eq_some_iff.1 hj).1
    rw [Addr.add_lit, Nat.zero_add]
    match j, hjn, hj with
    | 0, _, hj => simp [ChV.cs] at hj; subst hj; exact hd.c0
    | 1, _, hj => simp [ChV.cs] at hj; subst hj; exact hd.c1
    | 2, _, hj => simp [ChV.cs] at hj; subst hj; exact hd.c2
  · intro u hu
    simp [ChV.cs] at hu
    rcases hu with rfl | rfl | rfl <;> rfl
  · intro g cap w' h1 h2 h3 h4
    refine h g cap w' ?_ h2 h3 h4
    unfold Cho
    rw [List.length_append, List.flatMap_append]
    simpa using h1
end Go.Proofs.Ytifijfaefpdmpaa

namespace Go.Proofs.Ytifijfaefpdmpaa
open Go.RowKit
set_option linter.unusedVariables false

/-- v is a slice of the bytes l. -/
def By (w : World) (v : Value) (l : List UInt8) : Prop := ∃ (a : Option Addr) (c : Nat), v = .slice a l.length c ∧ l.length ≤ c ∧ c ≤ maxLen ∧ (l ≠ [] → ∃ x, a = some x ∧ x.block < w.heap.size ∧ ∀ (i : Nat) d, l[i]? = some d → w.cell? (x.add i) = some (.int .u8 (d.toNat : Int)))
theorem By.below {w w' : World} {v : Value} {l : List UInt8} (h : By w v l) (hb : Below w.heap.size w w') : By w' v l := by
  obtain ⟨a, c, h1, h2, h3, h4⟩ := h
  refine ⟨a, c, h1, h2, h3, fun hn => ?_⟩
  obtain ⟨x, e, hx, hk⟩ := h4 hn
  refine ⟨x, e, Nat.lt_of_lt_of_le hx hb.size, fun i d hi => ?_⟩
  rw [hb.cell (p := x.add i) (by rw [add_block]; exact hx)]
  exact hk i d hi
end Go.Proofs.Ytifijfaefpdmpaa

namespace Go.Proofs.Ytifijfaefpdmpaa

/-- v tells the fault n. -/
def Er (v : Value) (n : Int) : Prop := (n = 0 ∧ v = .nilIface) ∨ (n ≠ 0 ∧ v = .iface 38 (.int .i64 n))
theorem Er.nil : Er .nilIface 0 := .inl ⟨rfl, rfl⟩
theorem Er.no {n : Int} (h : n ≠ 0) : Er (.iface 38 (.int .i64 n)) n := .inr ⟨h, rfl⟩
end Go.Proofs.Ytifijfaefpdmpaa

namespace Go.Proofs.Ytifijfaefpdmpaa
open Go.RowKit
set_option linter.unusedVariables false

set_option maxRecDepth 100000 in
set_option maxHeartbeats 4000000 in
theorem byteAt_any (v : Value) (l : List UInt8) (i : Nat) (w : World) (h : By w v l) :
    Calls Try.prog 11 #[v, .int .i64 (i : Nat)] w fun e w' => e = .returned (.int .i64 (Fe.bat l i)) ∧ w' = w := by
  obtain ⟨a, c, rfl, h1, h2, h3⟩ := h
  have h2' : c ≤ 9223372036854775807 := by unfold maxLen at h2; omega
  clear h2
  by_cases hi : i < l.length
  · have hi' : (i : Int) < (l.length : Int) := by omega
    obtain ⟨d, hd⟩ : ∃ d, l[i]? = some d := ⟨_, List.getElem?_eq_getElem hi⟩
    have HB : Hid (Fe.bat l i = (d.toNat : Int)) := Fe.bat_in hd
    obtain ⟨x, rfl, hx, hc⟩ := h3 (by rintro rfl; simp at hi)
    have c1 := hc i d hd
    have dl := d.toNat_lt
    have wd : IntKind.i64.wrap (d.toNat : Int) = (d.toNat : Int) := by rw [IntKind.wrap_i64]; omega
    clear hc hd h3
    go_enter Try.func11, Try.ntmps11
    go_wp2
    go_ret
    exact ⟨by rw [HB.out]; rfl, rfl⟩
  · have hi' : ¬ (i : Int) < (l.length : Int) := by omega
    have HB : Hid (Fe.bat l i = -1) := Fe.bat_out (by omega)
    clear h3
    go_enter Try.func11, Try.ntmps11
    go_wp2
    go_ret
    exact ⟨by rw [HB.out]; rfl, rfl⟩
/-- what Diff tells. -/
def DiffSays (a b : List UInt8) (w w' : World) (v r : Value) : Prop :=
  ((6000 < a.length ∨ 6000 < b.length) ∧ v = .slice none 0 0 ∧ Er r 4) ∨ (a.length ≤ 6000 ∧ b.length ≤ 6000 ∧ r = .nilIface ∧ Cho w' w.heap.size v (Fe.diff a b))
set_option maxRecDepth 100000 in
set_option maxHeartbeats 8000000 in
theorem Diff_any (va vb : Value) (a b : List UInt8) (w : World) (ha : By w va a) (hb : By w vb b) :
    Calls Try.prog 6 #[va, vb] w fun e w' => ∃ v r, e = .returned (.tuple #[v, r]) ∧ DiffSays a b w w' v r ∧ Below w.heap.size w w' := by
  have A : Hid (By w va a) := ha
  have B : Hid (By w vb b) := hb
  obtain ⟨pa, ca, rfl, a1, a2, -⟩ := ha
  obtain ⟨pb, cb, rfl, b1, b2, -⟩ := hb
  have a2' : ca ≤ 9223372036854775807 := by unfold maxLen at a2; omega
  have b2' : cb ≤ 9223372036854775807 := by unfold maxLen at b2; omega
  clear a2 b2
  by_cases h1 : 6000 < a.length
  · have h1' : (6000 : Int) < (a.length : Int) := by omega
    have H1 : Hid (6000 < a.length) := h1
    clear h1
    go_enter Try.func6, Try.ntmps6
    go_wp2
    go_ret2
    exact ⟨_, _, rfl, .inl ⟨.inl H1.out, rfl, Er.no (by decide)⟩, Below.refl _ _⟩
  by_cases h2 : 6000 < b.length
  · have h1' : ¬ (6000 : Int) < (a.length : Int) := by omega
    have h2' : (6000 : Int) < (b.length : Int) := by omega
    have H2 : Hid (6000 < b.length) := h2
    clear h1 h2
    go_enter Try.func6, Try.ntmps6
    go_wp2
    go_ret2
    exact ⟨_, _, rfl, .inl ⟨.inr H2.out, rfl, Er.no (by decide)⟩, Below.refl _ _⟩
  have h1' : ¬ (6000 : Int) < (a.length : Int) := by omega
  have h2' : ¬ (6000 : Int) < (b.length : Int) := by omega
  have L : Hid (a.length ≤ 6000 ∧ b.length ≤ 6000) := ⟨by omega, by omega⟩
  clear h1 h2
  obtain ⟨m, hm⟩ : ∃ m, max a.length b.length = m := ⟨_, rfl⟩
  have M : Hid (max a.length b.length = m) := hm
  have hmi : (if a.length < b.length then (b.length : Int) else (a.length : Int)) = (m : Int) := by split <;> omega
  have hmj : (if (a.length : Int) < (b.length : Int) then (b.length : Int) else (a.length : Int)) = (m : Int) := by split <;> omega
  have hm6 : m ≤ 6000 := by omega
  clear hm
  go_enter Try.func6, Try.ntmps6
  go_wp2_with fail
  go_loopw [6, 23] (fun lv iv W => ∃ n : Nat, n ≤ m ∧ iv = .int .i64 (n : Nat) ∧ Cho W w.heap.size lv (Fe.dif a b n) ∧ Below w.heap.size w W) (fun _ iv _ => m - (intOf iv).toNat)
  case atStart => exact ⟨0, Nat.zero_le _, rfl, Cho.nil _ _, Below.refl _ _⟩
  case round =>
  obtain ⟨n, hn, rfl, ho, hb⟩ := hrel
  have O : Hid (Cho wr w.heap.size u6 (Fe.dif a b n)) := ho
  have BW : Hid (Below w.heap.size w wr) := hb
  clear ho hb
  by_cases he : n = m
  case pos =>
    subst he
    go_wp2
    go_ret2
    exact ⟨_, _, rfl, .inr ⟨L.out.1, L.out.2, rfl, by unfold Fe.diff; rw [M.out]; exact O.out⟩, BW.out⟩
  have hlt : n < m := by omega
  have hlt' : (n : Int) < (m : Int) := by omega
  go_wp2_with fail
  refine (byteAt_any _ a n wr (A.out.below BW.out)).mono ?_
  rintro e w1 ⟨rfl, rfl⟩
  go_wp2_with fail
  refine (byteAt_any _ b n _ (B.out.below BW.out)).mono ?_
  rintro e w2 ⟨rfl, rfl⟩
  obtain ⟨x, hx⟩ : ∃ x, Fe.bat a n = x := ⟨_, rfl⟩
  obtain ⟨y, hy⟩ : ∃ y, Fe.bat b n = y := ⟨_, rfl⟩
  have XY : Hid (Fe.bat a n = x ∧ Fe.bat b n = y) := ⟨hx, hy⟩
  rw [hx, hy]
  clear hx hy
  have SZ : Hid (w.heap.size ≤ w2.heap.size) := BW.out.size
  by_cases hxy : x = y
  case pos =>
    have DS : Hid (Fe.dif a b (n + 1) = Fe.dif a b n) := Fe.dif_same (by rw [XY.out.1, XY.out.2, hxy])
    subst hxy
    go_wp2
    go_roundw
    case rel => exact ⟨n + 1, by omega, by go_num, by rw [DS.out]; exact O.out.alloc _, BW.out.alloc SZ.out _⟩
    case measure => simp [intOf]; omega
  have DS : Hid (Fe.dif a b (n + 1) = Fe.dif a b n ++ [⟨n, x, y⟩]) := by
    unfold Hid
    rw [Fe.dif_more (by rw [XY.out.1, XY.out.2]; exact hxy), XY.out.1, XY.out.2]
  have hxb : (x == y) = false := beq_eq_false_iff_ne.2 hxy
  have DL : Hid ((Fe.dif a b n).length ≤ 6000) := Nat.le_trans (Fe.dif_len a b n) (by omega)
  go_wp2_with (at_builtin; refine app_ch _ rfl _ _ rfl w.heap.size _ (Fe.dif a b n) rfl ((O.out.alloc _).alloc _) (w2.heap.size + 1) ⟨n, x, y⟩ rfl (Chc.mk' ⟨n, x, y⟩ (by simp)) (by have := DL.out; omega) (by have := SZ.out; simp; omega) ?_)
  intro g cap w5 o5 g5 a5 l5
  have O5 : Hid (Cho w5 w.heap.size (.slice (some ⟨g, 0, none⟩) ((Fe.dif a b n).length + 1) cap) (Fe.dif a b n ++ [⟨n, x, y⟩])) := o5
  have B5 : Hid (Below w.heap.size w w5) := ((BW.out.alloc SZ.out _).alloc (by have := SZ.out; simp; omega) _).grown g5 (by have := SZ.out; simp; omega) (fun k hk => (O.out.block k hk).1)
  clear o5 g5 a5 l5
  go_wp2
  go_roundw
  case rel => exact ⟨n + 1, by omega, by go_num, by rw [DS.out]; exact O5.out, B5.out⟩
  case measure => simp [intOf]; omega
end Go.Proofs.Ytifijfaefpdmpaa

namespace Go.Proofs.Ytifijfaefpdmpaa
open Go.RowKit
set_option linter.unusedVariables false

theorem By.one_ {w : World} {z : Nat} (hz : w.heap.size = z) (a : UInt8) {n : Int} (hn : n = (a.toNat : Int)) (t : TypeId) (fr : Nat × Nat) : By (w.alloc (.cells #[.int .u8 n] t fr)) (.slice (some ⟨z, 0, none⟩) 1 1) [a] := by
  subst hz hn
  refine ⟨_, 1, rfl, by simp, by unfold maxLen; omega, fun _ => ⟨_, rfl, by simp, fun i d hd => ?_⟩⟩
  match i, hd with
  | 0, hd => simp at hd; subst hd; rw [Addr.add_lit]; exact (Go.Joins.cell_alloc_mark_at _ _ _ _ _ _ rfl).trans rfl
  | i + 1, hd => simp at hd
theorem By.two_ {w : World} {z : Nat} (hz : w.heap.size = z) (a b : UInt8) {n m : Int} (hn : n = (a.toNat : Int)) (hm : m = (b.toNat : Int)) (t : TypeId) (fr : Nat × Nat) : By (w.alloc (.cells #[.int .u8 n, .int .u8 m] t fr)) (.slice (some ⟨z, 0, none⟩) 2 2) [a, b] := by
  subst hz hn hm
  refine ⟨_, 2, rfl, by simp, by unfold maxLen; omega, fun _ => ⟨_, rfl, by simp, fun i d hd => ?_⟩⟩
  match i, hd with
  | 0, hd => simp at hd; subst hd; rw [Addr.add_lit]; exact (Go.Joins.cell_alloc_mark_at _ _ _ _ _ _ rfl).trans rfl
  | 1, hd => simp at hd; subst hd; rw [Addr.add_lit]; exact (Go.Joins.cell_alloc_mark_at _ _ _ _ _ _ rfl).trans rfl
  | i + 2, hd => simp at hd
end Go.Proofs.Ytifijfaefpdmpaa

namespace Go.Proofs.Ytifijfaefpdmpaa
open Go.ChangeShapes Go.WideShapes Go.ChangeAt Go.RowKit
set_option linter.unusedVariables false

theorem byte_of_wf {n : Int} (h : (Lit.int .u8 n).wf = true) : 0 ≤ n ∧ n < 256 := by
  simp only [Lit.wf, Bool.and_eq_true, decide_eq_true_eq] at h
  have h1 : IntKind.u8.min = 0 := by decide
  have h2 : IntKind.u8.max = 255 := by decide
  omega
theorem bulk_pos {H : Type} : ∀ d : DataW H, 1 ≤ Rows.uptoBulk d
  | .lit (.string bytes) => by simp [Rows.uptoBulk]
  | .lit (.int _ _) => by simp [Rows.uptoBulk]
  | .lit (.bool _) => by simp [Rows.uptoBulk]
  | .lit (.float .f32 _) => by simp [Rows.uptoBulk]
  | .lit (.float .f64 _) => by simp [Rows.uptoBulk]
  | .lit .nil => by simp [Rows.uptoBulk]
  | .nil => by simp [Rows.uptoBulk]
  | .ptr d => by simp [Rows.uptoBulk]
  | .slice _ _ => by simp [Rows.uptoBulk]
  | .agg _ => by simp [Rows.uptoBulk]
  | .iface _ _ => by simp [Rows.uptoBulk]
  | .map _ => by simp [Rows.uptoBulk]
  | .held _ => by simp [Rows.uptoBulk]
theorem bulk_len {H : Type} : ∀ ds : List (DataW H), ds.length ≤ Rows.uptoBulkAll ds
  | [] => by simp
  | d :: ds => by
    have h1 := bulk_pos d
    have h2 := bulk_len ds
    simp only [Rows.uptoBulkAll, List.length_cons]
    omega
theorem bulk_slice {H : Type} (es sp : List (DataW H)) : es.length ≤ Rows.uptoBulk (.slice es sp) := by
  have := bulk_len es
  simp only [Rows.uptoBulk]
  omega
end Go.Proofs.Ytifijfaefpdmpaa

namespace Go.Proofs.Ytifijfaefpdmpaa
open Go.ChangeShapes Go.WideShapes Go.ChangeAt Go.RowKit
set_option linter.unusedVariables false

set_option maxRecDepth 100000 in
theorem open_bytes {H : Type} {enc : TypeId × Value → H} {W : World} {base : Nat} {held : Bool} {fuel : Nat} {v : Value} {y : DataW H × List MemPlace} (h : DataW.trod enc Try.prog W base (fun _ => true) held fuel 22 [v] = some y) :
    ∃ l, By W v l ∧ l.length ≤ Rows.uptoBulk y.1 := by
  rcases open_ints Try.underlying22 Try.underlying5 (by kernel_rfl) h with ⟨hcs, rfl⟩ | ⟨x, l, c, zs, hcs, _, hl, hm, hz, rfl, hcell, hwz⟩
  · simp at hcs
    subst hcs
    exact ⟨[], ⟨none, 0, rfl, Nat.le_refl _, by omega, fun h => absurd rfl h⟩, by simp⟩
  · simp at hcs
    subst hcs
    simp only [if_true] at hz
    have hlen : ((zs.take l).map fun n => UInt8.ofNat n.toNat).length = l := by rw [List.length_map, List.length_take]; omega
    refine ⟨(zs.take l).map fun n => UInt8.ofNat n.toNat, ⟨some x, c, by rw [hlen], by omega, by omega, fun hn => ⟨x, rfl, ?_, fun i d hd => ?_⟩⟩, ?_⟩
    · have h0 : 0 < zs.length := by
        rcases Nat.eq_zero_or_pos zs.length with h | h
        · exact absurd (by rw [List.length_eq_zero_iff.1 h]; simp) hn
        · exact h
      have := cell_lt (x := x.add 0) (hcell 0 h0)
      rwa [add_block] at this
    · rw [List.getElem?_map, List.getElem?_take] at hd
      split at hd
      · rename_i hil
        have hi : i < zs.length := by omega
        rw [List.getElem?_eq_getElem hi] at hd
        simp only [Option.map_some, Option.some.injEq] at hd
        have hb := byte_of_wf (hwz zs[i] (List.getElem_mem hi))
        rw [hcell i hi, List.getD_eq_getElem?_getD, List.getElem?_eq_getElem hi, ← hd, UInt8.toNat_ofNat']
        simp only [Option.getD_some]
        congr 2
        omega
      · simp at hd
    · have := bulk_slice (H := H) (lits .u8 (zs.take l)) (lits .u8 (zs.drop l))
      rw [List.length_map]
      simpa [lits] using this
set_option maxRecDepth 100000 in
theorem bytes_in {H : Type} {enc : TypeId × Value → H} {W : World} {base b0 : Nat} {held : Bool} {v : Value} {d : DataW H} {p : List MemPlace} (hv : Value.okWide Try.prog W .any b0 22 v) (h : DataW.Trod enc Try.prog W base (fun _ => true) held 22 v d p) :
    ∃ l, By W v l ∧ l.length ≤ Rows.uptoBulk d := by
  obtain ⟨a, len, cap, rfl⟩ := okWide_slice Try.underlying22 hv
  obtain ⟨fuel, hf⟩ := h
  exact open_bytes hf
end Go.Proofs.Ytifijfaefpdmpaa

namespace Go.Proofs.Ytifijfaefpdmpaa.feedParts
open Go.RowKit
set_option linter.unusedVariables false

theorem fact : Fe.diff [97, 98] [97] = [⟨1, 98, -1⟩] := by
  have h0 : Fe.bat [97, 98] 0 = Fe.bat [97] 0 := by decide
  have h1 : Fe.bat [97, 98] 1 ≠ Fe.bat [97] 1 := by decide
  unfold Fe.diff
  rw [show max ([97, 98] : List UInt8).length ([97] : List UInt8).length = 0 + 1 + 1 from rfl, Fe.dif_more h1, Fe.dif_same h0]
  rfl
/-- what is told of a place, in the list of all. -/
theorem told {a b : List UInt8} {n : Nat} (hn : n < max a.length b.length) (h : Fe.bat a n ≠ Fe.bat b n) : (Fe.diff a b)[(Fe.dif a b n).length]? = some ⟨n, Fe.bat a n, Fe.bat b n⟩ := by
  obtain ⟨r, hr⟩ := Fe.dif_pre a b (n + 1) (max a.length b.length) (by omega)
  unfold Fe.diff
  rw [hr, Fe.dif_more h]
  simp
set_option maxRecDepth 100000 in
set_option maxHeartbeats 16000000 in
theorem walk (va : Value) (a : List UInt8) (vb : Value) (b : List UInt8) (w : World) (h0 : By w va a) (h1 : By w vb b) :
    Calls Try.prog 4 #[va, vb] w fun e w' => e = .returned (.bool true) ∧ Below w.heap.size w w' := by
  have A : Hid (By w va a) := h0
  have B : Hid (By w vb b) := h1
  obtain ⟨pa, ca, rfl, a1, a2, -⟩ := h0
  obtain ⟨pb, cb, rfl, b1, b2, -⟩ := h1
  have a2' : ca ≤ 9223372036854775807 := by unfold maxLen at a2; omega
  have b2' : cb ≤ 9223372036854775807 := by unfold maxLen at b2; omega
  clear a2 b2
  have kc := fun (w : World) (C : Array Value) (n c g : Nat) (hg : g = w.heap.size) => Go.Joins.run_convert_bytes_const_at (P := Try.prog) w 22 5 C n c g hg Try.underlying22 Try.underlying5
  have k1 := kc w #[.int .u8 97, .int .u8 98] 2 2 w.heap.size rfl
  have k2 := kc (w.alloc (.cells #[.int .u8 97, .int .u8 98] 5 (2, 3))) #[.int .u8 97] 1 1 (w.heap.size + 1) (by simp)
  simp only [List.size_toArray, List.length_cons, List.length_nil, Nat.zero_add, Nat.reduceAdd] at k1 k2
  clear kc
  go_enter Try.func4, Try.ntmps4
  go_wp2_with fail
  have B0 : Hid (Below w.heap.size w ((w.alloc (Obj.cells #[.int .u8 97, .int .u8 98] 5 (2, 3))).alloc (Obj.cells #[.int .u8 97] 5 (1, 2)))) := ((Below.refl _ _).alloc (Nat.le_refl _) _).alloc (by simp) _
  refine (Diff_any _ _ [97, 98] [97] _ ((By.two_ rfl 97 98 rfl rfl 5 (2, 3)).below ((Below.refl _ _).alloc (Nat.le_refl _) _)) (By.one_ (by simp) 97 rfl 5 (1, 2))).mono ?_
  rintro e w1 ⟨v, r, rfl, hd, hb⟩
  have B1 : Hid (Below w.heap.size w w1) := B0.out.trans (hb.mono B0.out.size)
  clear hb k1 k2 B0
  rcases hd with ⟨h, -⟩ | ⟨-, -, rfl, hd⟩
  case inl => exact absurd h (by decide)
  rw [fact] at hd
  obtain ⟨q, qc, rfl, -, -, hc⟩ := hd.l
  obtain ⟨x, rfl, -, hx⟩ := hc (by simp)
  obtain ⟨d0, d1, d2⟩ := hx 0 ⟨1, 98, -1⟩ rfl
  have e0 : x.add (0 * 3) = x := by simp [Addr.add]
  rw [e0] at d0 d1 d2
  simp only at d0 d1 d2
  clear hx hc e0 hd
  go_wp2_with fail
  refine (Diff_any _ _ a b _ (A.out.below B1.out) (B.out.below B1.out)).mono ?_
  rintro e w2 ⟨v, r, rfl, hd, hb⟩
  have B2 : Hid (Below w.heap.size w w2) := B1.out.trans (hb.mono B1.out.size)
  clear hb d0 d1 d2
  rcases hd with ⟨h, rfl, hr⟩ | ⟨la, lb, rfl, hd⟩
  case inl =>
    rcases hr with ⟨h4, -⟩ | ⟨-, rfl⟩
    · cases h4
    clear h
    go_wp2
    go_ret
    exact ⟨rfl, B2.out⟩
  have L : Hid (a.length ≤ 6000 ∧ b.length ≤ 6000) := ⟨la, lb⟩
  have D : Hid (Chl w2 v (Fe.diff a b)) := hd.l
  obtain ⟨p, c, rfl, c1, c2, -⟩ := hd.l
  have DL : Hid ((Fe.diff a b).length ≤ 6000) := Nat.le_trans (Fe.dif_len _ _ _) (by omega)
  obtain ⟨dl, hdl⟩ : ∃ n, (Fe.diff a b).length = n := ⟨_, rfl⟩
  have DE : Hid ((Fe.diff a b).length = dl) := hdl
  have dl6 : dl ≤ 6000 := by rw [← hdl]; exact DL.out
  rw [hdl] at c1 ⊢
  clear hd hdl
  go_wp2_with fail
  go_loopw [9, 10] (fun kv iv W => ∃ n : Nat, n ≤ max a.length b.length ∧ kv = .int .i64 ((Fe.dif a b n).length : Nat) ∧ iv = .int .i64 (n : Nat) ∧ W = w2) (fun _ iv _ => max a.length b.length - (intOf iv).toNat)
  case atStart => exact ⟨0, Nat.zero_le _, rfl, rfl, rfl⟩
  case round =>
  obtain ⟨n, hn, rfl, rfl, rfl⟩ := hrel
  have l6 : a.length ≤ 6000 ∧ b.length ≤ 6000 := L.out
  by_cases na : n < a.length
  · have na' : (n : Int) < (a.length : Int) := by omega
    by_cases nb : n < b.length
    · have nb' : (n : Int) < (b.length : Int) := by omega
      obtain ⟨da, hda⟩ : ∃ d, a[n]? = some d := ⟨_, List.getElem?_eq_getElem (by omega)⟩
      have XA : Hid (Fe.bat a n = (da.toNat : Int)) := Fe.bat_in hda
      obtain ⟨q, qc, e', -, -, hq⟩ := A.out.below B2.out
      injection e' with e1 e2 e3
      subst e1 e3
      obtain ⟨xa, rfl, -, hcc⟩ := hq (by rintro rfl; simp at hda)
      have ta := hcc n da hda
      have wa : IntKind.i64.wrap (da.toNat : Int) = (da.toNat : Int) := by have := da.toNat_lt; rw [IntKind.wrap_i64]; omega
      clear hq hcc hda
      obtain ⟨db, hdb⟩ : ∃ d, b[n]? = some d := ⟨_, List.getElem?_eq_getElem (by omega)⟩
      have XB : Hid (Fe.bat b n = (db.toNat : Int)) := Fe.bat_in hdb
      obtain ⟨q, qc, e', -, -, hq⟩ := B.out.below B2.out
      injection e' with e1 e2 e3
      subst e1 e3
      obtain ⟨xb, rfl, -, hcc⟩ := hq (by rintro rfl; simp at hdb)
      have tb := hcc n db hdb
      have wb : IntKind.i64.wrap (db.toNat : Int) = (db.toNat : Int) := by have := db.toNat_lt; rw [IntKind.wrap_i64]; omega
      clear hq hcc hdb
      by_cases hxy : ((da.toNat : Int) : Int) = (db.toNat : Int)
      case pos =>
        have DS : Hid (Fe.dif a b (n + 1) = Fe.dif a b n) := Fe.dif_same (by rw [XA.out, XB.out, hxy])
        have hxb : (((da.toNat : Int) : Int) == (db.toNat : Int)) = true := beq_iff_eq.2 hxy
        go_wp2
        go_roundw
        case rel => exact ⟨n + 1, by omega, by rw [DS.out], by go_num, trivial⟩
        case measure => simp [intOf]; omega
      have hxb : (((da.toNat : Int) : Int) == (db.toNat : Int)) = false := beq_eq_false_iff_ne.2 hxy
      have DS : Hid (Fe.dif a b (n + 1) = Fe.dif a b n ++ [⟨n, (da.toNat : Int), (db.toNat : Int)⟩]) := by
        unfold Hid
        rw [Fe.dif_more (by rw [XA.out, XB.out]; exact hxy), XA.out, XB.out]
      have TD : (Fe.diff a b)[(Fe.dif a b n).length]? = some ⟨n, (da.toNat : Int), (db.toNat : Int)⟩ := by rw [told (by omega) (by rw [XA.out, XB.out]; exact hxy), XA.out, XB.out]
      have hkl : (Fe.dif a b n).length < dl := by rw [← DE.out]; exact (List.getElem?_eq_some_iff.1 TD).1
      obtain ⟨q', c', e', -, -, hq⟩ := D.out
      injection e' with e1 e2 e3
      subst e1 e3
      obtain ⟨xl, rfl, -, hcc⟩ := hq (by rintro h; rw [h] at TD; simp at TD)
      obtain ⟨d0, d1, d2⟩ := hcc _ _ TD
      clear hq hcc TD
      obtain ⟨k, hk⟩ : ∃ k, (Fe.dif a b n).length = k := ⟨_, rfl⟩
      have HK : Hid ((Fe.dif a b n).length = k) := hk
      rw [hk] at hkl d0 d1 d2 ⊢
      simp only at d0 d1 d2
      have hkl' : ¬ (dl : Int) ≤ (k : Int) := by omega
      clear hk
      go_wp2
      go_roundw
      case rel => exact ⟨n + 1, by omega, by rw [DS.out, List.length_append, HK.out]; go_num, by go_num, trivial⟩
      case measure => simp [intOf]; omega
    · have nb' : ¬ (n : Int) < (b.length : Int) := by omega
      obtain ⟨da, hda⟩ : ∃ d, a[n]? = some d := ⟨_, List.getElem?_eq_getElem (by omega)⟩
      have XA : Hid (Fe.bat a n = (da.toNat : Int)) := Fe.bat_in hda
      obtain ⟨q, qc, e', -, -, hq⟩ := A.out.below B2.out
      injection e' with e1 e2 e3
      subst e1 e3
      obtain ⟨xa, rfl, -, hcc⟩ := hq (by rintro rfl; simp at hda)
      have ta := hcc n da hda
      have wa : IntKind.i64.wrap (da.toNat : Int) = (da.toNat : Int) := by have := da.toNat_lt; rw [IntKind.wrap_i64]; omega
      clear hq hcc hda
      have XB : Hid (Fe.bat b n = -1) := Fe.bat_out (by omega)
      by_cases hxy : ((da.toNat : Int) : Int) = -1
      case pos =>
        have DS : Hid (Fe.dif a b (n + 1) = Fe.dif a b n) := Fe.dif_same (by rw [XA.out, XB.out, hxy])
        have hxb : (((da.toNat : Int) : Int) == -1) = true := beq_iff_eq.2 hxy
        go_wp2
        go_roundw
        case rel => exact ⟨n + 1, by omega, by rw [DS.out], by go_num, trivial⟩
        case measure => simp [intOf]; omega
      have hxb : (((da.toNat : Int) : Int) == -1) = false := beq_eq_false_iff_ne.2 hxy
      have DS : Hid (Fe.dif a b (n + 1) = Fe.dif a b n ++ [⟨n, (da.toNat : Int), -1⟩]) := by
        unfold Hid
        rw [Fe.dif_more (by rw [XA.out, XB.out]; exact hxy), XA.out, XB.out]
      have TD : (Fe.diff a b)[(Fe.dif a b n).length]? = some ⟨n, (da.toNat : Int), -1⟩ := by rw [told (by omega) (by rw [XA.out, XB.out]; exact hxy), XA.out, XB.out]
      have hkl : (Fe.dif a b n).length < dl := by rw [← DE.out]; exact (List.getElem?_eq_some_iff.1 TD).1
      obtain ⟨q', c', e', -, -, hq⟩ := D.out
      injection e' with e1 e2 e3
      subst e1 e3
      obtain ⟨xl, rfl, -, hcc⟩ := hq (by rintro h; rw [h] at TD; simp at TD)
      obtain ⟨d0, d1, d2⟩ := hcc _ _ TD
      clear hq hcc TD
      obtain ⟨k, hk⟩ : ∃ k, (Fe.dif a b n).length = k := ⟨_, rfl⟩
      have HK : Hid ((Fe.dif a b n).length = k) := hk
      rw [hk] at hkl d0 d1 d2 ⊢
      simp only at d0 d1 d2
      have hkl' : ¬ (dl : Int) ≤ (k : Int) := by omega
      clear hk
      go_wp2
      go_roundw
      case rel => exact ⟨n + 1, by omega, by rw [DS.out, List.length_append, HK.out]; go_num, by go_num, trivial⟩
      case measure => simp [intOf]; omega
  · have na' : ¬ (n : Int) < (a.length : Int) := by omega
    by_cases nb : n < b.length
    · have nb' : (n : Int) < (b.length : Int) := by omega
      have XA : Hid (Fe.bat a n = -1) := Fe.bat_out (by omega)
      obtain ⟨db, hdb⟩ : ∃ d, b[n]? = some d := ⟨_, List.getElem?_eq_getElem (by omega)⟩
      have XB : Hid (Fe.bat b n = (db.toNat : Int)) := Fe.bat_in hdb
      obtain ⟨q, qc, e', -, -, hq⟩ := B.out.below B2.out
      injection e' with e1 e2 e3
      subst e1 e3
      obtain ⟨xb, rfl, -, hcc⟩ := hq (by rintro rfl; simp at hdb)
      have tb := hcc n db hdb
      have wb : IntKind.i64.wrap (db.toNat : Int) = (db.toNat : Int) := by have := db.toNat_lt; rw [IntKind.wrap_i64]; omega
      clear hq hcc hdb
      by_cases hxy : ((-1) : Int) = (db.toNat : Int)
      case pos =>
        have DS : Hid (Fe.dif a b (n + 1) = Fe.dif a b n) := Fe.dif_same (by rw [XA.out, XB.out, hxy])
        have hxb : (((-1) : Int) == (db.toNat : Int)) = true := beq_iff_eq.2 hxy
        go_wp2
        go_roundw
        case rel => exact ⟨n + 1, by omega, by rw [DS.out], by go_num, trivial⟩
        case measure => simp [intOf]; omega
      have hxb : (((-1) : Int) == (db.toNat : Int)) = false := beq_eq_false_iff_ne.2 hxy
      have DS : Hid (Fe.dif a b (n + 1) = Fe.dif a b n ++ [⟨n, (-1), (db.toNat : Int)⟩]) := by
        unfold Hid
        rw [Fe.dif_more (by rw [XA.out, XB.out]; exact hxy), XA.out, XB.out]
      have TD : (Fe.diff a b)[(Fe.dif a b n).length]? = some ⟨n, (-1), (db.toNat : Int)⟩ := by rw [told (by omega) (by rw [XA.out, XB.out]; exact hxy), XA.out, XB.out]
      have hkl : (Fe.dif a b n).length < dl := by rw [← DE.out]; exact (List.getElem?_eq_some_iff.1 TD).1
      obtain ⟨q', c', e', -, -, hq⟩ := D.out
      injection e' with e1 e2 e3
      subst e1 e3
      obtain ⟨xl, rfl, -, hcc⟩ := hq (by rintro h; rw [h] at TD; simp at TD)
      obtain ⟨d0, d1, d2⟩ := hcc _ _ TD
      clear hq hcc TD
      obtain ⟨k, hk⟩ : ∃ k, (Fe.dif a b n).length = k := ⟨_, rfl⟩
      have HK : Hid ((Fe.dif a b n).length = k) := hk
      rw [hk] at hkl d0 d1 d2 ⊢
      simp only at d0 d1 d2
      have hkl' : ¬ (dl : Int) ≤ (k : Int) := by omega
      clear hk
      go_wp2
      go_roundw
      case rel => exact ⟨n + 1, by omega, by rw [DS.out, List.length_append, HK.out]; go_num, by go_num, trivial⟩
      case measure => simp [intOf]; omega
    · have nb' : ¬ (n : Int) < (b.length : Int) := by omega
      obtain rfl : n = max a.length b.length := by omega
      have E : (Fe.dif a b (max a.length b.length)).length = dl := DE.out
      rw [E]
      have hbb : ((dl : Int) == (dl : Int)) = true := beq_self_eq_true _
      go_wp2
      go_ret
      exact ⟨rfl, B2.out⟩
end Go.Proofs.Ytifijfaefpdmpaa.feedParts

