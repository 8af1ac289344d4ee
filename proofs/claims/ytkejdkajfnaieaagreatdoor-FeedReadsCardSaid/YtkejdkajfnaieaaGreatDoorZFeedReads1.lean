/- What stays where one block turns. (Big2 has the same words for texts of its own; where both are wanted, let Big2 import this.) · What a walk is told of a slice of integers that came in. · Lists of integers: what a slice holds. · api.Change: records in memory. · What has changed: as mathematics. · Slices of api.Change that the call itself makes, by append. · Bytes that came in. · An error that is told. · feed.byteAt, feed.Diff. · Numbers in bytes. Plain mathematics. · Readers of numbers in bytes. Plain mathematics. · What comes of changes, their bytes: as mathematics. · feed.within, anywhere, the function of Apply, check. · A block of integers that may be written. · Lists of integers that the call itself makes, by append. · make([]int, N) for few. · Bytes that the call itself makes, by append. · feed.changed, feed.Apply. -/
import Derived.Test.YtkejdkajfnaieaaGreatDoorRows
import Derived.WalkKit
import Derived.WalkSpells
import Derived.WalkLawsBesides
import Derived.ProofKit
import Derived.Deep.QuietTactic
import Derived.BigQuiet
import Derived.OwnWalk
import Derived.Deep.AppendLies
import Derived.Lib.Bytealg
import Derived.IntWalk
import Derived.Laws.Closers25
import Derived.Deep.DeepCutAuto
import Derived.Laws.MakeOwn
import Derived.Lib.SmallJoins
namespace Go.Proofs.YtkejdkajfnaieaaGreatDoor
open Go.RowKit

/-- nothing below has turned but block z. -/
structure Kp (z : Nat) (w w' : World) : Prop where
  os : w'.os = w.os
  tape : w'.tape = w.tape
  output : w'.output = w.output
  size : w.heap.size ≤ w'.heap.size
  block : ∀ k, k < w.heap.size → k ≠ z → w'.heap[k]? = w.heap[k]?

theorem Kp.of {z : Nat} {w w' : World} (h : Below w.heap.size w w') : Kp z w w' := ⟨h.os, h.tape, h.output, h.size, fun k hk _ => h.block k hk⟩
theorem Kp.refl (z : Nat) (w : World) : Kp z w w := Kp.of (Below.refl _ _)
theorem Kp.trans {z : Nat} {a b c : World} (h : Kp z a b) (k : Kp z b c) : Kp z a c :=
  ⟨k.os.trans h.os, k.tape.trans h.tape, k.output.trans h.output, Nat.le_trans h.size k.size, fun i hi hz => (k.block i (Nat.lt_of_lt_of_le hi h.size) hz).trans (h.block i hi hz)⟩
theorem Kp.set {z : Nat} (w : World) (i : Nat) (u : Value) : Kp z w (w.setCell ⟨z, i, none⟩ u) :=
  ⟨rfl, rfl, rfl, by simp [World.setCell], fun k _ hz => Below.heap_setCell _ _ _ _ hz⟩
theorem Kp.below {z B : Nat} {a w w' : World} (h : Below B a w) (k : Kp z w w') (hB : B ≤ w.heap.size) (hz : B ≤ z) : Below B a w' :=
  h.trans ⟨k.os, k.tape, k.output, k.size, fun i hi => k.block i (by omega) (by omega)⟩

theorem Kp.set_new {z b : Nat} {w W : World} (h : Kp z w W) (hb : w.heap.size ≤ b) (i : Nat) (u : Value) : Kp z w (W.setCell ⟨b, i, none⟩ u) :=
  ⟨h.os, h.tape, h.output, by simpa [World.setCell] using h.size, fun k hk hz => (Below.heap_setCell _ _ _ _ (by show k ≠ b; omega)).trans (h.block k hk hz)⟩
theorem Kp.drewN {z : Nat} {w W : World} (h : Kp z w W) (n : Nat) : Kp z w (W.drewN n) := ⟨h.os, h.tape, h.output, h.size, h.block⟩

theorem lt_of_block {w : World} {b : Nat} {o : Obj} (h : w.heap[b]? = some o) : b < w.heap.size := by
  rcases Nat.lt_or_ge b w.heap.size with h1 | h1
  · exact h1
  · rw [Array.getElem?_eq_none h1] at h; cases h

end Go.Proofs.YtkejdkajfnaieaaGreatDoor

namespace Go.Proofs.YtkejdkajfnaieaaGreatDoor

/-- nil, or a row of cells: the numbers zs, of which the first len are the elements. -/
def IsRow (k : IntKind) (w : World) (a : Option Addr) (len cap : Nat) (zs : List Int) : Prop :=
  (a = none ∧ len = 0 ∧ cap = 0 ∧ zs = []) ∨
  ∃ x, a = some x ∧ len ≤ cap ∧ cap ≤ maxLen ∧ zs.length = cap ∧ (∀ i, i < zs.length → w.cell? (x.add i) = some (.int k (zs.getD i 0))) ∧ ∀ n ∈ zs, (Lit.int k n).wf = true
end Go.Proofs.YtkejdkajfnaieaaGreatDoor

namespace Go.Proofs.YtkejdkajfnaieaaGreatDoor
open Go.RowKit

/-- the cells of a list, from an address on. -/
def Cells (w : World) (a : Option Addr) (xs : List Int) : Prop := xs ≠ [] → ∃ x, a = some x ∧ x.block < w.heap.size ∧ ∀ i d, xs[i]? = some d → w.cell? (x.add i) = some (.int .i64 d)
/-- v is a slice of the integers xs. -/
def Ro (w : World) (v : Value) (xs : List Int) : Prop := ∃ (a : Option Addr) (c : Nat), v = .slice a xs.length c ∧ xs.length ≤ c ∧ c ≤ 9223372036854775807 ∧ Cells w a xs

theorem cell_lt {w : World} {x : Addr} {v : Value} (h : w.cell? x = some v) : x.block < w.heap.size := by
  rcases Nat.lt_or_ge x.block w.heap.size with h1 | h1
  · exact h1
  · simp [World.cell?, Array.getElem?_eq_none h1] at h

theorem add_block (x : Addr) (i : Nat) : (x.add i).block = x.block := by unfold Addr.add; split <;> rfl

theorem Cells.below {w w' : World} {a : Option Addr} {xs : List Int} (h : Cells w a xs) (hb : Below w.heap.size w w') : Cells w' a xs := fun hx => by
  obtain ⟨x, ha, hl, hc⟩ := h hx
  refine ⟨x, ha, Nat.lt_of_lt_of_le hl hb.size, fun i d hd => ?_⟩
  rw [hb.cell (p := x.add i) (by rw [add_block]; exact hl)]
  exact hc i d hd
theorem Ro.below {w w' : World} {v : Value} {xs : List Int} (h : Ro w v xs) (hb : Below w.heap.size w w') : Ro w' v xs := by
  obtain ⟨a, c, h1, h2, h3, h4⟩ := h
  exact ⟨a, c, h1, h2, h3, h4.below hb⟩
theorem Ro.drewN {w : World} {v : Value} {xs : List Int} (h : Ro w v xs) (n : Nat) : Ro (w.drewN n) v xs := h.below (_root_.Go.below_drewN (Below.refl _ _) n)

/-- what came in. -/
theorem IsRow.ro {w : World} {a : Option Addr} {len cap : Nat} {zs : List Int} (h : IsRow .i64 w a len cap zs) : Ro w (.slice a len cap) (zs.take len) := by
  rcases h with ⟨rfl, rfl, rfl, rfl⟩ | ⟨x, rfl, h1, h2, h3, h4, h5⟩
  · exact ⟨none, 0, rfl, Nat.le_refl _, by omega, fun h => absurd rfl h⟩
  · have hl : (zs.take len).length = len := by rw [List.length_take]; omega
    refine ⟨some x, cap, by rw [hl], by omega, by unfold maxLen at h2; omega, fun hx => ⟨x, rfl, ?_, fun i d hd => ?_⟩⟩
    · have h0 : 0 < zs.length := by
        rcases Nat.eq_zero_or_pos zs.length with h | h
        · exact absurd (by rw [List.length_eq_zero_iff.1 h]; simp) hx
        · exact h
      have := cell_lt (x := x.add 0) (h4 0 h0)
      rwa [add_block] at this
    · rw [List.getElem?_take] at hd
      split at hd
      · obtain ⟨hi, he⟩ := List.getElem?_eq_some_iff.1 hd
        rw [h4 i hi, List.getD_eq_getElem?_getD, hd]
        rfl
      · cases hd
end Go.Proofs.YtkejdkajfnaieaaGreatDoor

namespace Go.Proofs.YtkejdkajfnaieaaGreatDoor
open Go.RowKit
set_option linter.unusedVariables false

structure ChV where
  at_ : Int
  old : Int
  new : Int
def ChV.val (k : ChV) : Value := .agg #[.int .i64 k.at_, .int .i64 k.old, .int .i64 k.new]
/-- its cells, from an address on. -/
structure Chc (w : World) (y : Addr) (k : ChV) : Prop where
  c0 : w.cell? y = some (.int .i64 k.at_)
  c1 : w.cell? ⟨y.block, y.off + 1, none⟩ = some (.int .i64 k.old)
  c2 : w.cell? ⟨y.block, y.off + 2, none⟩ = some (.int .i64 k.new)
theorem Chc.lt {w : World} {y : Addr} {k : ChV} (h : Chc w y k) : y.block < w.heap.size := cell_lt h.c0
theorem Chc.below {w w' : World} {y : Addr} {k : ChV} {B : Nat} (h : Chc w y k) (hb : Below B w w') (hy : y.block < B) : Chc w' y k :=
  ⟨by rw [hb.cell (p := y) hy]; exact h.c0, by rw [hb.cell (p := ⟨y.block, y.off + 1, none⟩) hy]; exact h.c1, by rw [hb.cell (p := ⟨y.block, y.off + 2, none⟩) hy]; exact h.c2⟩
/-- v is a slice of them. -/
def Chl (w : World) (v : Value) (ks : List ChV) : Prop := ∃ a c, v = .slice a ks.length c ∧ ks.length ≤ c ∧ c ≤ 9223372036854775807 ∧ (ks ≠ [] → ∃ x, a = some x ∧ x.block < w.heap.size ∧ ∀ (i : Nat) k, ks[i]? = some k → Chc w (x.add (i * 3)) k)
theorem Chl.below {w w' : World} {v : Value} {ks : List ChV} (h : Chl w v ks) (hb : Below w.heap.size w w') : Chl w' v ks := by
  obtain ⟨a, c, h1, h2, h3, h4⟩ := h
  refine ⟨a, c, h1, h2, h3, fun hn => ?_⟩
  obtain ⟨x, e, hx, hk⟩ := h4 hn
  exact ⟨x, e, Nat.lt_of_lt_of_le hx hb.size, fun i k hi => (hk i k hi).below hb (by rw [add_block]; exact hx)⟩
theorem Chc.mk' {w : World} {z : Nat} (k : ChV) (hz : w.heap.size = z) : Chc (w.alloc (.cells #[.int .i64 k.at_, .int .i64 k.old, .int .i64 k.new] 111)) ⟨z, 0, none⟩ k := by
  subst hz
  constructor <;> simp
end Go.Proofs.YtkejdkajfnaieaaGreatDoor

namespace Go.Proofs.YtkejdkajfnaieaaGreatDoor
set_option linter.unusedVariables false

namespace Fe
/-- what is at a place; -1 behind the end. -/
def bat (l : List UInt8) (i : Nat) : Int := match l[i]? with
  | some d => (d.toNat : Int)
  | none => -1
theorem bat_in {l : List UInt8} {i : Nat} {d : UInt8} (h : l[i]? = some d) : bat l i = (d.toNat : Int) := by unfold bat; rw [h]
theorem bat_out {l : List UInt8} {i : Nat} (h : l.length ≤ i) : bat l i = -1 := by unfold bat; rw [List.getElem?_eq_none h]
theorem bat_bounds (l : List UInt8) (i : Nat) : -1 ≤ bat l i ∧ bat l i ≤ 255 := by
  unfold bat
  split
  · rename_i d _
    have := d.toNat_lt
    omega
  · omega
theorem bat_iff (l : List UInt8) (i : Nat) : 0 ≤ bat l i ↔ i < l.length := by
  constructor
  · intro h
    apply Nat.lt_of_not_le
    intro h2
    rw [bat_out h2] at h
    omega
  · intro h
    rw [bat_in (List.getElem?_eq_getElem h)]
    omega
/-- what is told of one place. -/
def one (a b : List UInt8) (i : Nat) : List ChV := if bat a i = bat b i then [] else [⟨i, bat a i, bat b i⟩]
/-- what is told of the first n places. -/
def dif (a b : List UInt8) : Nat → List ChV
  | 0 => []
  | n + 1 => dif a b n ++ one a b n
theorem dif_len (a b : List UInt8) : ∀ n, (dif a b n).length ≤ n
  | 0 => by simp [dif]
  | n + 1 => by
    have := dif_len a b n
    unfold dif one
    rw [List.length_append]
    split <;> simp <;> omega
theorem dif_same {a b : List UInt8} {n : Nat} (h : bat a n = bat b n) : dif a b (n + 1) = dif a b n := by rw [dif, one, if_pos h, List.append_nil]
theorem dif_more {a b : List UInt8} {n : Nat} (h : bat a n ≠ bat b n) : dif a b (n + 1) = dif a b n ++ [⟨n, bat a n, bat b n⟩] := by rw [dif, one, if_neg h]
theorem dif_pre (a b : List UInt8) (n : Nat) : ∀ m, n ≤ m → ∃ r, dif a b m = dif a b n ++ r
  | 0, h => ⟨[], by obtain rfl : n = 0 := by omega
                    simp⟩
  | m + 1, h => by
    by_cases e : n = m + 1
    · subst e; exact ⟨[], by simp⟩
    · obtain ⟨r, hr⟩ := dif_pre a b n m (by omega)
      exact ⟨r ++ one a b m, by rw [dif, hr, List.append_assoc]⟩
/-- the changes of two texts. -/
def diff (a b : List UInt8) : List ChV := dif a b (max a.length b.length)
end Fe
end Go.Proofs.YtkejdkajfnaieaaGreatDoor

namespace Go.Proofs.YtkejdkajfnaieaaGreatDoor
open Go.RowKit
set_option linter.unusedVariables false

theorem info_ch : (Tryz.prog.info? 111).map (fun i => (i.zero, i.size, i.bytes)) = some (some (.agg #[.int .i64 0, .int .i64 0, .int .i64 0]), 3, 24) := by kernel_rfl
def ChV.cs (k : ChV) : List Value := [.int .i64 k.at_, .int .i64 k.old, .int .i64 k.new]
theorem flat_ch : ∀ (ks : List ChV) (i j : Nat) (k : ChV), ks[i]? = some k → j < 3 → (ks.flatMap ChV.cs)[i * 3 + j]? = k.cs[j]?
  | [], i, j, k, h, _ => by simp at h
  | x :: ks, 0, j, k, h, hj => by
    simp at h
    subst h
    rw [List.flatMap_cons, List.getElem?_append_left (by simp [ChV.cs]; omega)]
    simp
  | x :: ks, i + 1, j, k, h, hj => by
    rw [List.flatMap_cons, List.getElem?_append_right (by simp [ChV.cs]; omega)]
    have : (i + 1) * 3 + j - (ChV.cs x).length = i * 3 + j := by simp [ChV.cs]; omega
    rw [this]
    exact flat_ch ks i j k (by simpa using h) hj
/-- v is a slice of them, in a block of its own from base on. -/
def Cho (w : World) (base : Nat) (v : Value) (ks : List ChV) : Prop := w.ownsRow base 111 3 v ks.length (ks.flatMap ChV.cs)
theorem Cho.nil (w : World) (base : Nat) : Cho w base (.slice none 0 0) [] := World.ownsRow_nil _ _ _ _
theorem Cho.below {w w' : World} {base : Nat} {v : Value} {ks : List ChV} (h : Cho w base v ks) (hb : Below w.heap.size w w') : Cho w' base v ks :=
  World.ownsRow.kept h (row := none) ⟨hb.os, hb.tape, hb.output, hb.size, fun k hk _ => hb.block k hk⟩ (by cases v.ownBlock <;> simp)
theorem Cho.kept {w w' : World} {base : Nat} {v : Value} {ks : List ChV} {row : Option Nat} (h : Cho w base v ks) (hg : w.grownBy w' row) (hne : v.ownBlock = none ∨ v.ownBlock ≠ row) : Cho w' base v ks := World.ownsRow.kept h hg hne
theorem Cho.alloc {w : World} {base : Nat} {v : Value} {ks : List ChV} (h : Cho w base v ks) (o : Obj) : Cho (w.alloc o) base v ks := World.ownsRow.alloc h o
theorem Cho.block {w : World} {base : Nat} {v : Value} {ks : List ChV} (h : Cho w base v ks) : ∀ k, v.ownBlock = some k → base ≤ k ∧ k < w.heap.size := World.ownsRow.lt h
theorem Cho.mono {w : World} {base base' : Nat} {v : Value} {ks : List ChV} (h : Cho w base v ks) (hb : base' ≤ base) : Cho w base' v ks := by
  refine ⟨h.1, ?_⟩
  rcases h.2 with h1 | ⟨g, cap, cur, h1, h2, h3⟩
  · exact .inl h1
  · exact .inr ⟨g, cap, cur, h1, Nat.le_trans hb h2, h3⟩
theorem Cho.l {w : World} {base : Nat} {v : Value} {ks : List ChV} (h : Cho w base v ks) : Chl w v ks := by
  rcases h.2 with ⟨hv, h0⟩ | ⟨g, cap, cur, hv, hb, hg, h1, h2, h3, h4⟩
  · exact ⟨none, 0, by rw [hv, h0], by omega, by omega, fun hn => absurd (List.length_eq_zero_iff.1 h0) hn⟩
  · refine ⟨_, cap, hv, h1, by unfold maxLen at h2; omega, fun _ => ⟨_, rfl, lt_of_block hg, fun i k hi => ?_⟩⟩
    have hil : i < ks.length := (List.getElem?_eq_some_iff.1 hi).1
    have h5 : w.ownsRow base 111 3 (.slice (some ⟨g, 0, none⟩) ks.length cap) ks.length (ks.flatMap ChV.cs) := by rw [← hv]; exact h
    have hc : ∀ j u, j < 3 → k.cs[j]? = some u → w.cell? ⟨g, i * 3 + j, none⟩ = some u := fun j u hj hu => by
      rw [h5.cellAt (i * 3 + j) (by omega), flat_ch ks i j k hi hj, hu]
    rw [Addr.add_lit, Nat.zero_add]
    exact ⟨hc 0 _ (by decide) rfl, hc 1 _ (by decide) rfl, hc 2 _ (by decide) rfl⟩
theorem Cho.len {w : World} {base : Nat} {v : Value} {ks : List ChV} (h : Cho w base v ks) : ∃ a c, v = .slice a ks.length c := by
  obtain ⟨a, c, h1, -⟩ := h.l
  exact ⟨a, c, h1⟩

/-- one more. -/
theorem app_ch {ops : Array Oper} {rest : List Oper} {o : Oper} {a : Act} {Q : Exit → Act → World → Prop} (w : World) (hgd : o.guard = none) (s x : Operand)
    (ho : o.op = .call { callee := .builtin .append, args := #[s, x], argTypes := #[47, 47] }) (base : Nat) (v : Value) (ks : List ChV) (hs : a.eval s = v) (hown : Cho w base v ks)
    (b : Nat) (d : ChV) (hx : a.eval x = .slice (some ⟨b, 0, none⟩) 1 1) (hd : Chc w ⟨b, 0, none⟩ d) (hl : ks.length ≤ 1000000) (hbase : base ≤ w.heap.size)
    (h : ∀ g cap w', Cho w' base (.slice (some ⟨g, 0, none⟩) (ks.length + 1) cap) (ks ++ [d]) → w.grownBy w' v.ownBlock → (v.ownBlock = some g ∨ g = w.heap.size) → g < w'.heap.size → wpList Tryz.prog ops Q rest (a.put o.dst (.slice (some ⟨g, 0, none⟩) (ks.length + 1) cap)) w') :
    wpList Tryz.prog ops Q (o :: rest) a w := by
  obtain ⟨i0, hi, hz0, hz1, hz2⟩ := info_parts info_ch
  refine wpList_append_lies w hgd s x 47 ho base 111 i0 (.agg #[.int .i64 0, .int .i64 0, .int .i64 0]) 3 24 Tryz.underlying47 hi hz0 hz1 hz2 rfl (by decide) v ks.length _ hs hown ⟨b, 0, none⟩ 1 1 d.cs hx rfl ?_ ?_ (by decide) (by unfold maxLen; omega) (by omega) hbase _ rfl ?_
  · intro j u hj
    have hjn : j < 3 := (List.getElem?_eq_some_iff.1 hj).1
    rw [Addr.add_lit, Nat.zero_add]
    match j, hjn, hj with
    | 0, _, hj => simp [ChV.cs] at hj; subst hj; exact hd.c0
    | 1, _, hj => simp [ChV.cs] at hj; subst hj; exact hd.c1
    | 2, _, hj => simp [ChV.cs] at hj; subst hj; exact hd.c2
  · intro u hu
    simp [ChV.cs] at hu
    rcases hu with rfl | rfl | rfl <;> rfl
  · intro g cap w' h1 h2 h3 h4
    refine h g cap w' ?_ h2 h3 h4
    unfold Cho
    rw [List.length_append, List.flatMap_append]
    simpa using h1
end Go.Proofs.YtkejdkajfnaieaaGreatDoor

namespace Go.Proofs.YtkejdkajfnaieaaGreatDoor
open Go.RowKit
set_option linter.unusedVariables false

/-- v is a slice of the bytes l. -/
def By (w : World) (v : Value) (l : List UInt8) : Prop := ∃ (a : Option Addr) (c : Nat), v = .slice a l.length c ∧ l.length ≤ c ∧ c ≤ maxLen ∧ (l ≠ [] → ∃ x, a = some x ∧ x.block < w.heap.size ∧ ∀ (i : Nat) d, l[i]? = some d → w.cell? (x.add i) = some (.int .u8 (d.toNat : Int)))
theorem By.below {w w' : World} {v : Value} {l : List UInt8} (h : By w v l) (hb : Below w.heap.size w w') : By w' v l := by
  obtain ⟨a, c, h1, h2, h3, h4⟩ := h
  refine ⟨a, c, h1, h2, h3, fun hn => ?_⟩
  obtain ⟨x, e, hx, hk⟩ := h4 hn
  refine ⟨x, e, Nat.lt_of_lt_of_le hx hb.size, fun i d hi => ?_⟩
  rw [hb.cell (p := x.add i) (by rw [add_block]; exact hx)]
  exact hk i d hi
end Go.Proofs.YtkejdkajfnaieaaGreatDoor

namespace Go.Proofs.YtkejdkajfnaieaaGreatDoor

/-- v tells the fault n. -/
def Er (v : Value) (n : Int) : Prop := (n = 0 ∧ v = .nilIface) ∨ (n ≠ 0 ∧ v = .iface 97 (.int .i64 n))
theorem Er.nil : Er .nilIface 0 := .inl ⟨rfl, rfl⟩
theorem Er.no {n : Int} (h : n ≠ 0) : Er (.iface 97 (.int .i64 n)) n := .inr ⟨h, rfl⟩
end Go.Proofs.YtkejdkajfnaieaaGreatDoor

namespace Go.Proofs.YtkejdkajfnaieaaGreatDoor
open Go.RowKit
set_option linter.unusedVariables false

set_option maxRecDepth 100000 in
set_option maxHeartbeats 4000000 in
theorem byteAt_any (v : Value) (l : List UInt8) (i : Nat) (w : World) (h : By w v l) :
    Calls Tryz.prog 82 #[v, .int .i64 (i : Nat)] w fun e w' => e = .returned (.int .i64 (Fe.bat l i)) ∧ w' = w := by
  obtain ⟨a, c, rfl, h1, h2, h3⟩ := h
  have h2' : c ≤ 9223372036854775807 := by unfold maxLen at h2; omega
  clear h2
  by_cases hi : i < l.length
  · have hi' : (i : Int) < (l.length : Int) := by omega
    obtain ⟨d, hd⟩ : ∃ d, l[i]? = some d := ⟨_, List.getElem?_eq_getElem hi⟩
    have HB : Hid (Fe.bat l i = (d.toNat : Int)) := Fe.bat_in hd
    obtain ⟨x, rfl, hx, hc⟩ := h3 (by rintro rfl; simp at hi)
    have c1 := hc i d hd
    have dl := d.toNat_lt
    have wd : IntKind.i64.wrap (d.toNat : Int) = (d.toNat : Int) := by rw [IntKind.wrap_i64]; omega
    clear hc hd h3
    go_enter Tryz.func82, Tryz.ntmps82
    go_wp2
    go_ret
    exact ⟨by rw [HB.out]; rfl, rfl⟩
  · have hi' : ¬ (i : Int) < (l.length : Int) := by omega
    have HB : Hid (Fe.bat l i = -1) := Fe.bat_out (by omega)
    clear h3
    go_enter Tryz.func82, Tryz.ntmps82
    go_wp2
    go_ret
    exact ⟨by rw [HB.out]; rfl, rfl⟩
/-- what Diff tells. -/
def DiffSays (a b : List UInt8) (w w' : World) (v r : Value) : Prop :=
  ((6000 < a.length ∨ 6000 < b.length) ∧ v = .slice none 0 0 ∧ Er r 4) ∨ (a.length ≤ 6000 ∧ b.length ≤ 6000 ∧ r = .nilIface ∧ Cho w' w.heap.size v (Fe.diff a b))
set_option maxRecDepth 100000 in
set_option maxHeartbeats 8000000 in
theorem Diff_any (va vb : Value) (a b : List UInt8) (w : World) (ha : By w va a) (hb : By w vb b) :
    Calls Tryz.prog 71 #[va, vb] w fun e w' => ∃ v r, e = .returned (.tuple #[v, r]) ∧ DiffSays a b w w' v r ∧ Below w.heap.size w w' := by
  have A : Hid (By w va a) := ha
  have B : Hid (By w vb b) := hb
  obtain ⟨pa, ca, rfl, a1, a2, -⟩ := ha
  obtain ⟨pb, cb, rfl, b1, b2, -⟩ := hb
  have a2' : ca ≤ 9223372036854775807 := by unfold maxLen at a2; omega
  have b2' : cb ≤ 9223372036854775807 := by unfold maxLen at b2; omega
  clear a2 b2
  by_cases h1 : 6000 < a.length
  · have h1' : (6000 : Int) < (a.length : Int) := by omega
    have H1 : Hid (6000 < a.length) := h1
    clear h1
    go_enter Tryz.func71, Tryz.ntmps71
    go_wp2
    go_ret2
    exact ⟨_, _, rfl, .inl ⟨.inl H1.out, rfl, Er.no (by decide)⟩, Below.refl _ _⟩
  by_cases h2 : 6000 < b.length
  · have h1' : ¬ (6000 : Int) < (a.length : Int) := by omega
    have h2' : (6000 : Int) < (b.length : Int) := by omega
    have H2 : Hid (6000 < b.length) := h2
    clear h1 h2
    go_enter Tryz.func71, Tryz.ntmps71
    go_wp2
    go_ret2
    exact ⟨_, _, rfl, .inl ⟨.inr H2.out, rfl, Er.no (by decide)⟩, Below.refl _ _⟩
  have h1' : ¬ (6000 : Int) < (a.length : Int) := by omega
  have h2' : ¬ (6000 : Int) < (b.length : Int) := by omega
  have L : Hid (a.length ≤ 6000 ∧ b.length ≤ 6000) := ⟨by omega, by omega⟩
  clear h1 h2
  obtain ⟨m, hm⟩ : ∃ m, max a.length b.length = m := ⟨_, rfl⟩
  have M : Hid (max a.length b.length = m) := hm
  have hmi : (if a.length < b.length then (b.length : Int) else (a.length : Int)) = (m : Int) := by split <;> omega
  have hmj : (if (a.length : Int) < (b.length : Int) then (b.length : Int) else (a.length : Int)) = (m : Int) := by split <;> omega
  have hm6 : m ≤ 6000 := by omega
  clear hm
  go_enter Tryz.func71, Tryz.ntmps71
  go_wp2_with fail
  go_loopw [6, 23] (fun lv iv W => ∃ n : Nat, n ≤ m ∧ iv = .int .i64 (n : Nat) ∧ Cho W w.heap.size lv (Fe.dif a b n) ∧ Below w.heap.size w W) (fun _ iv _ => m - (intOf iv).toNat)
  case atStart => exact ⟨0, Nat.zero_le _, rfl, Cho.nil _ _, Below.refl _ _⟩
  case round =>
  obtain ⟨n, hn, rfl, ho, hb⟩ := hrel
  have O : Hid (Cho wr w.heap.size u6 (Fe.dif a b n)) := ho
  have BW : Hid (Below w.heap.size w wr) := hb
  clear ho hb
  by_cases he : n = m
  case pos =>
    subst he
    go_wp2
    go_ret2
    exact ⟨_, _, rfl, .inr ⟨L.out.1, L.out.2, rfl, by unfold Fe.diff; rw [M.out]; exact O.out⟩, BW.out⟩
  have hlt : n < m := by omega
  have hlt' : (n : Int) < (m : Int) := by omega
  go_wp2_with fail
  refine (byteAt_any _ a n wr (A.out.below BW.out)).mono ?_
  rintro e w1 ⟨rfl, rfl⟩
  go_wp2_with fail
  refine (byteAt_any _ b n _ (B.out.below BW.out)).mono ?_
  rintro e w2 ⟨rfl, rfl⟩
  obtain ⟨x, hx⟩ : ∃ x, Fe.bat a n = x := ⟨_, rfl⟩
  obtain ⟨y, hy⟩ : ∃ y, Fe.bat b n = y := ⟨_, rfl⟩
  have XY : Hid (Fe.bat a n = x ∧ Fe.bat b n = y) := ⟨hx, hy⟩
  rw [hx, hy]
  clear hx hy
  have SZ : Hid (w.heap.size ≤ w2.heap.size) := BW.out.size
  by_cases hxy : x = y
  case pos =>
    have DS : Hid (Fe.dif a b (n + 1) = Fe.dif a b n) := Fe.dif_same (by rw [XY.out.1, XY.out.2, hxy])
    subst hxy
    go_wp2
    go_roundw
    case rel => exact ⟨n + 1, by omega, by go_num, by rw [DS.out]; exact O.out.alloc _, BW.out.alloc SZ.out _⟩
    case measure => simp [intOf]; omega
  have DS : Hid (Fe.dif a b (n + 1) = Fe.dif a b n ++ [⟨n, x, y⟩]) := by
    unfold Hid
    rw [Fe.dif_more (by rw [XY.out.1, XY.out.2]; exact hxy), XY.out.1, XY.out.2]
  have hxb : (x == y) = false := beq_eq_false_iff_ne.2 hxy
  have DL : Hid ((Fe.dif a b n).length ≤ 6000) := Nat.le_trans (Fe.dif_len a b n) (by omega)
  go_wp2_with (at_builtin; refine app_ch _ rfl _ _ rfl w.heap.size _ (Fe.dif a b n) rfl ((O.out.alloc _).alloc _) (w2.heap.size + 1) ⟨n, x, y⟩ rfl (Chc.mk' ⟨n, x, y⟩ (by simp)) (by have := DL.out; omega) (by have := SZ.out; simp; omega) ?_)
  intro g cap w5 o5 g5 a5 l5
  have O5 : Hid (Cho w5 w.heap.size (.slice (some ⟨g, 0, none⟩) ((Fe.dif a b n).length + 1) cap) (Fe.dif a b n ++ [⟨n, x, y⟩])) := o5
  have B5 : Hid (Below w.heap.size w w5) := ((BW.out.alloc SZ.out _).alloc (by have := SZ.out; simp; omega) _).grown g5 (by have := SZ.out; simp; omega) (fun k hk => (O.out.block k hk).1)
  clear o5 g5 a5 l5
  go_wp2
  go_roundw
  case rel => exact ⟨n + 1, by omega, by go_num, by rw [DS.out]; exact O5.out, B5.out⟩
  case measure => simp [intOf]; omega
end Go.Proofs.YtkejdkajfnaieaaGreatDoor

namespace Go.Proofs.YtkejdkajfnaieaaGreatDoor
set_option linter.unusedVariables false
namespace Wd

/-- numbers below 0 between the others. -/
def zz (n : Int) : Nat := if n < 0 then ((-(n + 1)).toNat) * 2 + 1 else n.toNat * 2
def unz (x : Nat) : Int := if x % 2 = 1 then -((x / 2 : Nat) : Int) - 1 else ((x / 2 : Nat) : Int)
theorem unz_zz (n : Int) : unz (zz n) = n := by
  unfold unz zz
  by_cases h : n < 0
  · rw [if_pos h, if_pos (by omega)]; omega
  · rw [if_neg h, if_neg (by omega)]; omega
theorem zz_unz (x : Nat) : zz (unz x) = x := by
  unfold unz zz
  by_cases h : x % 2 = 1
  · rw [if_pos h, if_pos (by omega)]; omega
  · rw [if_neg h, if_neg (by omega)]; omega
def In64 (n : Int) : Prop := -9223372036854775808 ≤ n ∧ n ≤ 9223372036854775807
theorem zz_lt {n : Int} (h : In64 n) : zz n < 18446744073709551616 := by
  unfold In64 at h
  unfold zz
  split <;> omega
theorem unz_in {x : Nat} (h : x < 18446744073709551616) : In64 (unz x) := by
  unfold In64 unz
  split <;> omega

/-- seven bits a byte. -/
def vl (x : Nat) : List UInt8 := if h : x < 128 then [UInt8.ofNat x] else UInt8.ofNat (x % 128 + 128) :: vl (x / 128)
termination_by x
theorem vl_small {x : Nat} (h : x < 128) : vl x = [UInt8.ofNat x] := by rw [vl, dif_pos h]
theorem vl_great {x : Nat} (h : 128 ≤ x) : vl x = UInt8.ofNat (x % 128 + 128) :: vl (x / 128) := by rw [vl, dif_neg (by omega)]
def num (n : Int) : List UInt8 := vl (zz n)
/-- the number that bytes go on with: i bytes are read, they come to x. -/
def rd (i x : Nat) : List UInt8 → Option (Nat × Nat)
  | [] => none
  | c :: t => if i = 9 ∧ 1 < c.toNat then none else if 128 ≤ c.toNat then rd (i + 1) (x + c.toNat % 128 * 128 ^ i) t else if c.toNat = 0 ∧ 0 < i then none else some (x + c.toNat * 128 ^ i, i + 1)

theorem pow_le9 {i : Nat} (h : i ≤ 9) : 128 ^ i ≤ 128 ^ 9 := Nat.pow_le_pow_right (by decide) h
theorem pow9 : (128 : Nat) ^ 9 = 9223372036854775808 := by decide
theorem rd_le : ∀ (l : List UInt8) (i x y n : Nat), i ≤ 9 → x < 128 ^ i → rd i x l = some (y, n) → i < n ∧ n ≤ i + l.length ∧ n ≤ 10 ∧ y < 18446744073709551616
  | [], i, x, y, n, hi, hx, h => by simp [rd] at h
  | c :: t, i, x, y, n, hi, hx, h => by
    have hc : c.toNat < 256 := c.toNat_lt
    have hs : 128 ^ (i + 1) = 128 ^ i * 128 := Nat.pow_succ ..
    unfold rd at h
    split at h
    · cases h
    · rename_i h9
      split at h
      · rename_i hm
        have : i ≠ 9 := fun e => h9 ⟨e, by omega⟩
        have hm2 : c.toNat % 128 * 128 ^ i ≤ 127 * 128 ^ i := Nat.mul_le_mul_right _ (by omega)
        obtain ⟨h1, h2, h3, h4⟩ := rd_le t (i + 1) _ y n (by omega) (by omega) h
        simp only [List.length_cons]
        exact ⟨by omega, by omega, h3, h4⟩
      · split at h
        · cases h
        · injection h with h
          injection h with h1 h2
          subst h1 h2
          refine ⟨by omega, by simp only [List.length_cons]; omega, by omega, ?_⟩
          by_cases e : i = 9
          · subst e
            have : c.toNat ≤ 1 := by
              rcases Nat.lt_or_ge 1 c.toNat with h | h
              · exact absurd ⟨rfl, h⟩ h9
              · exact h
            have : c.toNat * 128 ^ 9 ≤ 1 * 128 ^ 9 := Nat.mul_le_mul_right _ this
            rw [pow9] at this hx ⊢
            omega
          · have h8 : 128 ^ i ≤ 128 ^ 8 := Nat.pow_le_pow_right (by decide) (by omega)
            have h82 : (128 : Nat) ^ 8 = 72057594037927936 := by decide
            have : c.toNat * 128 ^ i ≤ 127 * 128 ^ i := Nat.mul_le_mul_right _ (by omega)
            omega
theorem rd_vl : ∀ (f x i a : Nat) (t : List UInt8), x ≤ f → i ≤ 9 → x * 128 ^ i < 18446744073709551616 → (i = 0 ∨ 0 < x) → rd i a (vl x ++ t) = some (a + x * 128 ^ i, i + (vl x).length)
  | f, x, i, a, t, hf, hi, hx, hz => by
    by_cases h : x < 128
    · have e : (UInt8.ofNat x).toNat = x := by rw [UInt8.toNat_ofNat']; omega
      rw [vl_small h]
      show rd i a (UInt8.ofNat x :: t) = _
      unfold rd
      rw [e, if_neg, if_neg (by omega), if_neg (by omega)]
      · rfl
      · rintro ⟨e9, h1⟩
        subst e9
        have : 2 * 128 ^ 9 ≤ x * 128 ^ 9 := Nat.mul_le_mul_right _ h1
        rw [pow9] at this hx
        omega
    · have e : (UInt8.ofNat (x % 128 + 128)).toNat = x % 128 + 128 := by rw [UInt8.toNat_ofNat']; omega
      have hs : 128 ^ (i + 1) = 128 ^ i * 128 := Nat.pow_succ ..
      have i9 : i ≠ 9 := fun e9 => by
        subst e9
        have : 128 * 128 ^ 9 ≤ x * 128 ^ 9 := Nat.mul_le_mul_right _ (by omega)
        rw [pow9] at this hx
        omega
      rw [vl_great (by omega)]
      show rd i a (UInt8.ofNat (x % 128 + 128) :: (vl (x / 128) ++ t)) = _
      unfold rd
      have hsum : x = x / 128 * 128 + x % 128 := by omega
      have hmul : x * 128 ^ i = x / 128 * 128 ^ (i + 1) + x % 128 * 128 ^ i := by
        conv => lhs; rw [hsum]
        rw [Nat.add_mul, hs, Nat.mul_comm (128 ^ i) 128, Nat.mul_assoc]
      rw [e, if_neg (fun h => i9 h.1), if_pos (by omega)]
      match f, hf with
      | 0, hf => omega
      | f + 1, hf =>
        rw [rd_vl f (x / 128) (i + 1) _ t (by omega) (by omega) (by omega) (.inr (by omega))]
        simp only [List.length_cons]
        have e3 : (x % 128 + 128) % 128 = x % 128 := by omega
        rw [e3, hmul]
        congr 2
        · omega
        · omega
termination_by f => f
theorem rd_back : ∀ (l : List UInt8) (i a y n : Nat), i ≤ 9 → rd i a l = some (y, n) → ∃ x t, y = a + x * 128 ^ i ∧ l = vl x ++ t ∧ n = i + (vl x).length ∧ (i = 0 ∨ 0 < x)
  | [], i, a, y, n, hi, h => by simp [rd] at h
  | c :: t, i, a, y, n, hi, h => by
    have hc : c.toNat < 256 := c.toNat_lt
    have hs : 128 ^ (i + 1) = 128 ^ i * 128 := Nat.pow_succ ..
    unfold rd at h
    split at h
    · cases h
    · rename_i h9
      split at h
      · rename_i hm
        have i9 : i ≠ 9 := fun e => h9 ⟨e, by omega⟩
        obtain ⟨x, t', h1, h2, h3, h4⟩ := rd_back t (i + 1) _ y n (by omega) h
        have x0 : 0 < x := by omega
        have e1 : (x * 128 + c.toNat % 128) % 128 + 128 = c.toNat := by omega
        have e2 : (x * 128 + c.toNat % 128) / 128 = x := by omega
        have ev : vl (x * 128 + c.toNat % 128) = c :: vl x := by
          rw [vl_great (by omega), e1, e2, UInt8.ofNat_toNat]
        refine ⟨x * 128 + c.toNat % 128, t', ?_, ?_, ?_, .inr (by omega)⟩
        · rw [h1, hs, Nat.add_mul, Nat.mul_comm (128 ^ i) 128, ← Nat.mul_assoc]; omega
        · rw [ev, h2]; rfl
        · rw [ev, h3]; simp only [List.length_cons]; omega
      · rename_i hm
        split at h
        · cases h
        · rename_i hz
          injection h with h
          injection h with h1 h2
          have ev : vl c.toNat = [c] := by rw [vl_small (by omega), UInt8.ofNat_toNat]
          refine ⟨c.toNat, t, h1.symm, by rw [ev]; rfl, by rw [ev, ← h2]; rfl, ?_⟩
          omega

/-- the number that stands at a place, and the place behind it. -/
def pnum (b : List UInt8) (a : Nat) : Option (Int × Nat) := match rd 0 0 (b.drop a) with
  | none => none
  | some (x, n) => some (unz x, a + n)
theorem pnum_le {b : List UInt8} {a : Nat} {v : Int} {a' : Nat} (h : pnum b a = some (v, a')) : a < a' ∧ a' ≤ b.length ∧ a' ≤ a + 10 ∧ In64 v := by
  unfold pnum at h
  split at h
  · cases h
  · rename_i x n hr
    injection h with h
    injection h with h1 h2
    obtain ⟨e1, e2, e3, e4⟩ := rd_le _ 0 0 x n (by omega) (by simp) hr
    rw [List.length_drop] at e2
    refine ⟨by omega, by omega, by omega, by rw [← h1]; exact unz_in e4⟩
theorem pnum_num {b : List UInt8} {a : Nat} {n : Int} {t : List UInt8} (h : In64 n) (hb : b.drop a = num n ++ t) : pnum b a = some (n, a + (num n).length) := by
  unfold pnum
  rw [hb]
  unfold num
  rw [rd_vl _ (zz n) 0 0 t (Nat.le_refl _) (by omega) (by simpa using zz_lt h) (.inl rfl)]
  simp [unz_zz]
theorem pnum_back {b : List UInt8} {a : Nat} {v : Int} {a' : Nat} (h : pnum b a = some (v, a')) : b.drop a = num v ++ b.drop a' ∧ a' = a + (num v).length := by
  unfold pnum at h
  split at h
  · cases h
  · rename_i x n hr
    injection h with h
    injection h with h1 h2
    obtain ⟨x', t, e1, e2, e3, -⟩ := rd_back _ 0 0 x n (by omega) hr
    have ex : x = x' := by omega
    subst ex
    have en : num v = vl x := by unfold num; rw [← h1, zz_unz]
    have el : a' = a + (num v).length := by rw [en]; omega
    refine ⟨?_, el⟩
    rw [en, el, ← List.drop_drop, e2, en, List.drop_left]

/-- readers, one behind the other. -/
abbrev Pr (α : Type) := Nat → Option (α × Nat)
def prep {α : Type} (p : Pr α) : Nat → Pr (List α)
  | 0, a => some ([], a)
  | n + 1, a => match p a with
    | none => none
    | some (v, a') => match prep p n a' with
      | none => none
      | some (l, a'') => some (v :: l, a'')
theorem prep_snoc {α : Type} (p : Pr α) : ∀ (n a : Nat), prep p (n + 1) a = match prep p n a with
    | none => none
    | some (l, a') => match p a' with
      | none => none
      | some (v, a'') => some (l ++ [v], a'')
  | 0, a => by
    simp only [prep]
    cases p a with
    | none => rfl
    | some x => rfl
  | n + 1, a => by
    rw [prep]
    rw [show prep p (n + 1) a = (match p a with | none => none | some (v, a') => match prep p n a' with | none => none | some (l, a'') => some (v :: l, a'')) from rfl]
    cases p a with
    | none => rfl
    | some x =>
      obtain ⟨v, a'⟩ := x
      simp only
      rw [prep_snoc p n a']
      cases prep p n a' with
      | none => rfl
      | some y =>
        obtain ⟨l, a''⟩ := y
        simp only
        cases p a'' with
        | none => rfl
        | some z => rfl
theorem prep_len {α : Type} {p : Pr α} : ∀ {n a : Nat} {l : List α} {a' : Nat}, prep p n a = some (l, a') → l.length = n
  | 0, a, l, a', h => by simp [prep] at h; rw [h.1]; rfl
  | n + 1, a, l, a', h => by
    rw [prep] at h
    split at h
    · cases h
    · split at h
      · cases h
      · rename_i hh
        injection h with h
        injection h with h1 h2
        rw [← h1, List.length_cons, prep_len hh]
def pmany (b : List UInt8) (a : Nat) : Option (Nat × Nat) := match pnum b a with
  | none => none
  | some (n, a') => if 0 ≤ n ∧ n ≤ 200 then some (n.toNat, a') else none
def pbind {α β : Type} (p : Pr α) (f : α → Pr β) : Pr β := fun a => match p a with
  | none => none
  | some (v, a') => f v a'
def plist {α : Type} (b : List UInt8) (p : Pr α) : Pr (List α) := pbind (pmany b) (fun n => prep p n)
def pret {α : Type} (v : α) : Pr α := fun a => some (v, a)
end Wd
end Go.Proofs.YtkejdkajfnaieaaGreatDoor

namespace Go.Proofs.YtkejdkajfnaieaaGreatDoor
set_option linter.unusedVariables false
namespace Wd

/-- what a reader that goes on where something is wrong has read: f: something was wrong. -/
def Rd {α : Type} (p : Pr α) (a : Nat) (f : Bool) (v : α) (a' : Nat) (f' : Bool) : Prop := (f = true → f' = true) ∧ (f = false → (p a = some (v, a') ∧ f' = false) ∨ (p a = none ∧ f' = true))
theorem Rd.ret {α : Type} (v : α) (a : Nat) (f : Bool) : Rd (pret v) a f v a f := ⟨fun h => h, fun h => .inl ⟨rfl, h⟩⟩
theorem Rd.bind {α β : Type} {p : Pr α} {q : α → Pr β} {a : Nat} {f : Bool} {v : α} {a' : Nat} {f' : Bool} {u : β} {a'' : Nat} {f'' : Bool} (h1 : Rd p a f v a' f') (h2 : Rd (q v) a' f' u a'' f'') : Rd (pbind p q) a f u a'' f'' := by
  refine ⟨fun h => h2.1 (h1.1 h), fun h => ?_⟩
  rcases h1.2 h with ⟨e1, e2⟩ | ⟨e1, e2⟩
  · unfold pbind
    rw [e1]
    exact h2.2 e2
  · refine .inr ⟨?_, h2.1 e2⟩
    unfold pbind
    rw [e1]
theorem Rd.snoc {α : Type} {p : Pr α} {n a : Nat} {f : Bool} {l : List α} {a' : Nat} {f' : Bool} {v : α} {a'' : Nat} {f'' : Bool} (h1 : Rd (prep p n) a f l a' f') (h2 : Rd p a' f' v a'' f'') : Rd (prep p (n + 1)) a f (l ++ [v]) a'' f'' := by
  refine ⟨fun h => h2.1 (h1.1 h), fun h => ?_⟩
  rw [prep_snoc]
  rcases h1.2 h with ⟨e1, e2⟩ | ⟨e1, e2⟩
  · rw [e1]
    rcases h2.2 e2 with ⟨e3, e4⟩ | ⟨e3, e4⟩
    · exact .inl ⟨by simp only [e3], e4⟩
    · exact .inr ⟨by simp only [e3], e4⟩
  · exact .inr ⟨by rw [e1], h2.1 e2⟩
theorem Rd.nil {α : Type} (p : Pr α) (a : Nat) (f : Bool) : Rd (prep p 0) a f [] a f := ⟨fun h => h, fun h => .inl ⟨rfl, h⟩⟩
theorem prep_none {α : Type} {p : Pr α} {n a : Nat} (h : prep p n a = none) : ∀ m, prep p (n + m) a = none
  | 0 => h
  | m + 1 => by
    rw [show n + (m + 1) = (n + m) + 1 from rfl, prep_snoc, prep_none h m]
theorem Rd.early {α : Type} {p : Pr α} {n a : Nat} {f : Bool} {l : List α} {a' : Nat} (h : Rd (prep p n) a f l a' true) {m : Nat} (hm : n ≤ m) (l' : List α) (a'' : Nat) : Rd (prep p m) a f l' a'' true := by
  refine ⟨fun _ => rfl, fun hf => ?_⟩
  rcases h.2 hf with ⟨-, e⟩ | ⟨e, -⟩
  · cases e
  · have := prep_none e (m - n)
    rw [Nat.add_sub_cancel' hm] at this
    exact .inr ⟨this, rfl⟩
theorem Rd.bad {α : Type} {p : Pr α} {a : Nat} {v : α} {a' : Nat} : Rd p a true v a' true := ⟨fun h => h, fun h => by cases h⟩
/-- the list behind how many there are. -/
theorem Rd.list {α : Type} {b : List UInt8} {p : Pr α} {a : Nat} {f : Bool} {n : Nat} {a' : Nat} {f' : Bool} {l : List α} {a'' : Nat} {f'' : Bool} (h1 : Rd (pmany b) a f n a' f') (h2 : Rd (prep p n) a' f' l a'' f'') : Rd (plist b p) a f l a'' f'' := Rd.bind (q := fun n => prep p n) h1 h2
theorem plist_eq {α : Type} (b : List UInt8) (p : Pr α) : plist b p = pbind (pmany b) (fun n => prep p n) := rfl

def wr (l : List Int) : List UInt8 := l.flatMap num
/-- a reader reads what was written, and nothing else. -/
structure Reads {α : Type} (b : List UInt8) (p : Pr α) (e : α → List Int) (ok : α → Prop) : Prop where
  fwd : ∀ {a : Nat} {v : α} {t : List UInt8}, ok v → b.drop a = wr (e v) ++ t → p a = some (v, a + (wr (e v)).length)
  back : ∀ {a : Nat} {v : α} {a' : Nat}, p a = some (v, a') → ok v ∧ b.drop a = wr (e v) ++ b.drop a' ∧ a' = a + (wr (e v)).length
theorem wr_append (l m : List Int) : wr (l ++ m) = wr l ++ wr m := by unfold wr; rw [List.flatMap_append]
theorem wr_one (n : Int) : wr [n] = num n := by simp [wr]
theorem reads_num (b : List UInt8) : Reads b (pnum b) (fun n => [n]) In64 where
  fwd := fun {a v t} h hb => by
    rw [wr_one] at hb ⊢
    exact pnum_num h hb
  back := fun {a v a'} h => by
    rw [wr_one]
    exact ⟨(pnum_le h).2.2.2, (pnum_back h).1, (pnum_back h).2⟩
theorem reads_ret {α : Type} (b : List UInt8) (v : α) : Reads b (pret v) (fun _ => []) (fun u => u = v) where
  fwd := fun {a u t} h hb => by subst h; rfl
  back := fun {a u a'} h => by
    unfold pret at h
    injection h with h
    injection h with h1 h2
    exact ⟨h1.symm, by rw [h2]; rfl, by rw [h2]; rfl⟩
/-- one behind the other: f finds the first part of what comes of both. -/
theorem Reads.bind {α β : Type} {b : List UInt8} {p : Pr α} {q : α → Pr β} {e : α → List Int} {e' : β → List Int} {ok : α → Prop} {ok' : α → β → Prop} (f : β → α) (h1 : Reads b p e ok) (h2 : ∀ v, Reads b (q v) e' (ok' v)) (hf : ∀ v u, ok' v u → f u = v) : Reads b (pbind p q) (fun u => e (f u) ++ e' u) (fun u => ok (f u) ∧ ok' (f u) u) where
  fwd := fun {a u t} h hb => by
    rw [wr_append, List.append_assoc] at hb
    unfold pbind
    rw [h1.fwd h.1 hb]
    simp only
    rw [wr_append, List.length_append, ← Nat.add_assoc]
    refine (h2 (f u)).fwd (t := t) h.2 ?_
    rw [← List.drop_drop, hb, List.drop_left]
  back := fun {a u a'} h => by
    unfold pbind at h
    split at h
    · cases h
    · rename_i v a1 hp
      obtain ⟨k1, k2, k3⟩ := h1.back hp
      obtain ⟨m1, m2, m3⟩ := (h2 v).back h
      have ev := hf v u m1
      rw [ev]
      refine ⟨⟨k1, m1⟩, ?_, ?_⟩
      · rw [wr_append, List.append_assoc, k2, m2]
      · rw [wr_append, List.length_append, m3, k3]; omega
theorem Reads.rep {α : Type} {b : List UInt8} {p : Pr α} {e : α → List Int} {ok : α → Prop} (h : Reads b p e ok) : ∀ n, Reads b (prep p n) (fun l => l.flatMap e) (fun l => l.length = n ∧ ∀ v ∈ l, ok v)
  | 0 => {
    fwd := fun {a l t} hl hb => by
      obtain rfl := List.length_eq_zero_iff.1 hl.1
      rfl
    back := fun {a l a'} hl => by
      simp only [prep, Option.some.injEq, Prod.mk.injEq] at hl
      obtain ⟨rfl, rfl⟩ := hl
      exact ⟨⟨rfl, by simp⟩, rfl, rfl⟩ }
  | n + 1 => {
    fwd := fun {a l t} hl hb => by
      match l, hl with
      | v :: l, hl =>
        rw [List.flatMap_cons, wr_append] at hb ⊢
        rw [List.append_assoc] at hb
        rw [prep, h.fwd (hl.2 v (by simp)) hb]
        simp only
        rw [(Reads.rep h n).fwd (v := l) (t := t) ⟨by simpa using hl.1, fun u hu => hl.2 u (by simp [hu])⟩ (by rw [← List.drop_drop, hb, List.drop_left])]
        simp only [List.length_append]
        rw [Nat.add_assoc]
    back := fun {a l a'} hl => by
      rw [prep] at hl
      split at hl
      · cases hl
      · rename_i v a1 hp
        split at hl
        · cases hl
        · rename_i l' a2 hq
          injection hl with hl
          injection hl with e1 e2
          subst e1 e2
          obtain ⟨k1, k2, k3⟩ := h.back hp
          obtain ⟨m1, m2, m3⟩ := (Reads.rep h n).back hq
          refine ⟨⟨by rw [List.length_cons, m1.1], ?_⟩, ?_, ?_⟩
          · intro u hu
            rcases List.mem_cons.1 hu with rfl | hu
            · exact k1
            · exact m1.2 u hu
          · rw [List.flatMap_cons, wr_append, List.append_assoc, k2, m2]
          · rw [List.flatMap_cons, wr_append, List.length_append, m3, k3]; omega }
theorem in_200 {n : Nat} (h : n ≤ 200) : In64 (n : Int) := by unfold In64; omega
theorem reads_many (b : List UInt8) : Reads b (pmany b) (fun n => [(n : Int)]) (fun n => n ≤ 200) where
  fwd := fun {a v t} h hb => by
    rw [wr_one] at hb ⊢
    unfold pmany
    rw [pnum_num (in_200 h) hb]
    simp only
    rw [if_pos (by omega)]
    rfl
  back := fun {a v a'} h => by
    unfold pmany at h
    split at h
    · cases h
    · rename_i n a1 hp
      split at h
      · rename_i hn
        injection h with h
        injection h with e1 e2
        subst e1 e2
        rw [wr_one]
        have : ((n.toNat : Nat) : Int) = n := by omega
        rw [this]
        exact ⟨by omega, (pnum_back hp).1, (pnum_back hp).2⟩
      · cases h
theorem Reads.list {α : Type} {b : List UInt8} {p : Pr α} {e : α → List Int} {ok : α → Prop} (h : Reads b p e ok) : Reads b (plist b p) (fun l => (l.length : Int) :: l.flatMap e) (fun l => l.length ≤ 200 ∧ ∀ v ∈ l, ok v) := by
  have := Reads.bind (q := fun n => prep p n) List.length (reads_many b) (fun n => h.rep n) (fun n l hl => hl.1)
  rw [plist_eq]
  exact { fwd := fun {a v t} hv hb => this.fwd (a := a) (v := v) (t := t) ⟨hv.1, rfl, hv.2⟩ hb, back := fun {a v a'} hh => by obtain ⟨⟨h1, h2, h3⟩, h4, h5⟩ := this.back hh; exact ⟨⟨h1, h3⟩, h4, h5⟩ }
/-- the same, told by other words. -/
theorem Reads.as {α : Type} {b : List UInt8} {p : Pr α} {e e' : α → List Int} {ok ok' : α → Prop} (h : Reads b p e ok) (he : ∀ v, e' v = e v) (ho : ∀ v, ok' v ↔ ok v) : Reads b p e' ok' := by
  obtain rfl : e' = e := funext he
  obtain rfl : ok' = ok := funext fun v => propext (ho v)
  exact h
end Wd
end Go.Proofs.YtkejdkajfnaieaaGreatDoor

namespace Go.Proofs.YtkejdkajfnaieaaGreatDoor
set_option linter.unusedVariables false
namespace Fe

/-- a change that can be none. -/
def Bad (c : ChV) : Prop := ¬ (0 ≤ c.at_ ∧ c.at_ ≤ 5999) ∨ ¬ (-1 ≤ c.old ∧ c.old ≤ 255) ∨ ¬ (-1 ≤ c.new ∧ c.new ≤ 255) ∨ c.old = c.new
instance : DecidablePred Bad := fun c => by unfold Bad; exact inferInstance
/-- what is wrong with changes, behind a place p. -/
def cfault (ok : ChV → Bool) : Int → List ChV → Int
  | _, [] => 0
  | p, c :: cs => if Bad c then 1 else if c.at_ ≤ p then 5 else if ok c = true then cfault ok c.at_ cs else 7
def Fine (ok : ChV → Bool) : Int → List ChV → Prop
  | _, [] => True
  | p, c :: cs => ¬ Bad c ∧ p < c.at_ ∧ ok c = true ∧ Fine ok c.at_ cs
theorem fine_zero {ok : ChV → Bool} : ∀ {l : List ChV} {p : Int}, cfault ok p l = 0 ↔ Fine ok p l
  | [], p => by simp [cfault, Fine]
  | c :: cs, p => by
    unfold cfault Fine
    by_cases h1 : Bad c
    · simp [h1]
    · by_cases h2 : c.at_ ≤ p
      · simp [h1, h2]; omega
      · by_cases h3 : ok c = true
        · simp only [h1, h2, h3, if_false, if_true, not_false_eq_true, true_and, fine_zero (l := cs)]
          exact ⟨fun h => ⟨by omega, h⟩, fun h => h.2⟩
        · simp [h1, h2, h3]
theorem fine_snoc {ok : ChV → Bool} {c : ChV} : ∀ {l : List ChV} {p : Int}, Fine ok p l → (∀ x ∈ l, x.at_ < c.at_) → p < c.at_ → ¬ Bad c → ok c = true → Fine ok p (l ++ [c])
  | [], p, _, _, h3, h4, h5 => ⟨h4, h3, h5, trivial⟩
  | x :: l, p, h1, h2, h3, h4, h5 => ⟨h1.1, h1.2.1, h1.2.2.1, fine_snoc h1.2.2.2 (fun y hy => h2 y (by simp [hy])) (h2 x (by simp)) h4 h5⟩
theorem fine_mem {ok : ChV → Bool} : ∀ {l : List ChV} {p : Int}, Fine ok p l → ∀ c ∈ l, ¬ Bad c
  | [], _, _, c, hc => by simp at hc
  | x :: l, p, h, c, hc => by
    rcases List.mem_cons.1 hc with rfl | hc
    · exact h.1
    · exact fine_mem h.2.2.2 c hc
theorem fine_any {ok : ChV → Bool} : ∀ {l : List ChV} {p : Int}, Fine ok p l → Fine (fun _ => true) p l
  | [], _, _ => trivial
  | x :: l, p, h => ⟨h.1, h.2.1, rfl, fine_any h.2.2.2⟩
/-- is it there? -/
def isThere (a : List UInt8) (c : ChV) : Bool := bat a c.at_.toNat == c.old
theorem dif_at {a b : List UInt8} : ∀ {n : Nat}, ∀ c ∈ dif a b n, 0 ≤ c.at_ ∧ c.at_ < (n : Int)
  | 0, c, h => by simp [dif] at h
  | n + 1, c, h => by
    unfold dif one at h
    rcases List.mem_append.1 h with h | h
    · have := dif_at c h
      omega
    · split at h
      · simp at h
      · simp at h
        subst h
        simp
        omega
theorem dif_fine {a b : List UInt8} : ∀ {n : Nat}, n ≤ 6000 → Fine (isThere a) (-1) (dif a b n)
  | 0, _ => trivial
  | n + 1, hn => by
    by_cases h : bat a n = bat b n
    · rw [dif_same h]; exact dif_fine (by omega)
    · rw [dif_more h]
      refine fine_snoc (dif_fine (by omega)) (fun x hx => (dif_at x hx).2) (by simp; omega) ?_ (by simp [isThere])
      have h1 := bat_bounds a n
      have h2 := bat_bounds b n
      unfold Bad
      simp only
      omega
/-- turned round. -/
def swap (c : ChV) : ChV := ⟨c.at_, c.new, c.old⟩
theorem dif_swap {a b : List UInt8} : ∀ {n : Nat}, (dif a b n).map swap = dif b a n
  | 0 => rfl
  | n + 1 => by
    by_cases h : bat a n = bat b n
    · rw [dif_same h, dif_same h.symm, dif_swap]
    · rw [dif_more h, dif_more (fun e => h e.symm), List.map_append, dif_swap]
      rfl
theorem diff_swap (a b : List UInt8) : (diff a b).map swap = diff b a := by
  unfold diff
  rw [dif_swap, Nat.max_comm]
theorem dif_none (a : List UInt8) : ∀ n, dif a a n = []
  | 0 => rfl
  | n + 1 => by rw [dif_same rfl, dif_none a n]
theorem diff_fine {a b : List UInt8} (ha : a.length ≤ 6000) (hb : b.length ≤ 6000) : Fine (isThere a) (-1) (diff a b) := dif_fine (by omega)

/-- all places of a text. -/
def pl (a : List UInt8) (N : Nat) : List Int := (List.range N).map (bat a)
theorem pl_len (a : List UInt8) (N : Nat) : (pl a N).length = N := by simp [pl]
theorem pl_get {a : List UInt8} {N i : Nat} (h : i < N) : (pl a N)[i]? = some (bat a i) := by simp [pl, h]
def puts (ps : List Int) (l : List ChV) : List Int := l.foldl (fun q c => q.set c.at_.toNat c.new) ps
theorem puts_len : ∀ (l : List ChV) (ps : List Int), (puts ps l).length = ps.length
  | [], ps => rfl
  | c :: l, ps => by
    show (puts (ps.set c.at_.toNat c.new) l).length = _
    rw [puts_len l, List.length_set]
theorem puts_snoc (ps : List Int) (l : List ChV) (c : ChV) : puts ps (l ++ [c]) = (puts ps l).set c.at_.toNat c.new := by simp [puts, List.foldl_append]
/-- the bytes of places, without a gap. -/
def col : List Int → Nat → List UInt8 → Option (List UInt8)
  | [], _, b => some b
  | n :: ps, i, b => if n = -1 then col ps (i + 1) b else if b.length < i then none else col ps (i + 1) (b ++ [UInt8.ofNat n.toNat])
/-- all places, the first n of the second text. -/
def mix (a b : List UInt8) (N n : Nat) : List Int := (List.range N).map (fun i => if i < n then bat b i else bat a i)
theorem mix_get {a b : List UInt8} {N n i : Nat} (h : i < N) : (mix a b N n)[i]? = some (if i < n then bat b i else bat a i) := by simp [mix, h]
theorem mix_none {a b : List UInt8} {N n i : Nat} (h : N ≤ i) : (mix a b N n)[i]? = none := by
  apply List.getElem?_eq_none
  simp [mix, h]
theorem puts_mix {a b : List UInt8} {N : Nat} : ∀ {n : Nat}, n ≤ N → puts (pl a N) (dif a b n) = mix a b N n
  | 0, _ => by simp [dif, puts, pl, mix]
  | n + 1, hn => by
    apply List.ext_getElem?
    intro i
    have ih := puts_mix (a := a) (b := b) (N := N) (n := n) (by omega)
    by_cases hi : i < N
    · rw [mix_get hi]
      by_cases h : bat a n = bat b n
      · rw [dif_same h, ih, mix_get hi]
        by_cases e : i = n
        · subst e; simp [h]
        · by_cases e2 : i < n
          · rw [if_pos e2, if_pos (by omega)]
          · rw [if_neg e2, if_neg (by omega)]
      · rw [dif_more h, puts_snoc, ih, List.getElem?_set]
        simp only [Int.toNat_natCast]
        by_cases e : n = i
        · subst e
          simp [mix, hi]
        · rw [if_neg e, mix_get hi]
          by_cases e2 : i < n
          · rw [if_pos e2, if_pos (by omega)]
          · rw [if_neg e2, if_neg (by omega)]
    · rw [mix_none (by omega)]
      apply List.getElem?_eq_none
      rw [puts_len, pl_len]
      omega
theorem puts_diff {a b : List UInt8} {N : Nat} (ha : a.length ≤ N) (hb : b.length ≤ N) : puts (pl a N) (diff a b) = pl b N := by
  unfold diff
  rw [puts_mix (by omega)]
  unfold mix pl
  apply List.map_congr_left
  intro i hi
  by_cases h : i < max a.length b.length
  · rw [if_pos h]
  · rw [if_neg h, bat_out (by omega), bat_out (by omega)]
theorem col_front {b : List UInt8} {N : Nat} (hb : b.length ≤ N) : ∀ {n : Nat}, n ≤ b.length → col (pl b N) 0 [] = col ((pl b N).drop n) n (b.take n)
  | 0, _ => by simp
  | n + 1, hn => by
    rw [col_front hb (n := n) (by omega)]
    have hd : b[n]? = some b[n] := List.getElem?_eq_getElem (by omega)
    have hp : n < (pl b N).length := by rw [pl_len]; omega
    rw [List.drop_eq_getElem_cons hp]
    have e : (pl b N)[n] = (b[n].toNat : Int) := by
      have := pl_get (a := b) (N := N) (i := n) (by omega)
      rw [List.getElem?_eq_getElem hp, bat_in hd] at this
      injection this
    rw [e, col, if_neg (by omega), if_neg (by rw [List.length_take]; omega), List.take_succ_eq_append_getElem (by omega)]
    simp
theorem col_back {b : List UInt8} {N : Nat} : ∀ (m n : Nat), N - n ≤ m → b.length ≤ n → col ((pl b N).drop n) n b = some b
  | 0, n, hm, hn => by rw [List.drop_eq_nil_of_le (by rw [pl_len]; omega)]; rfl
  | m + 1, n, hm, hn => by
    by_cases h : N ≤ n
    · rw [List.drop_eq_nil_of_le (by rw [pl_len]; omega)]; rfl
    · have hp : n < (pl b N).length := by rw [pl_len]; omega
      rw [List.drop_eq_getElem_cons hp]
      have e : (pl b N)[n] = -1 := by
        have := pl_get (a := b) (N := N) (i := n) (by omega)
        rw [List.getElem?_eq_getElem hp, bat_out hn] at this
        injection this
      rw [e, col, if_pos rfl]
      exact col_back m (n + 1) (by omega) (by omega)
theorem col_all {b : List UInt8} {N : Nat} (hb : b.length ≤ N) : col (pl b N) 0 [] = some b := by
  rw [col_front hb (n := b.length) (Nat.le_refl _), List.take_length]
  exact col_back _ _ (Nat.le_refl _) (Nat.le_refl _)
/-- what Apply tells: the fault, or the text. -/
def applied (a : List UInt8) (l : List ChV) (N : Nat) : Option (List UInt8) := col (puts (pl a N) l) 0 []
theorem applied_diff {a b : List UInt8} {N : Nat} (ha : a.length ≤ N) (hb : b.length ≤ N) : applied a (diff a b) N = some b := by
  unfold applied
  rw [puts_diff ha hb, col_all hb]

/-- the numbers of changes. -/
def chain : Int → List ChV → List Int
  | _, [] => []
  | p, c :: cs => (c.at_ - p) :: (c.old + 1) :: (c.new + 1) :: chain c.at_ cs
def nums (l : List ChV) : List Int := (l.length : Int) :: chain 0 l
def wrap (x : Int) : Int := IntKind.i64.wrap x
/-- n changes that are read, one behind the other. -/
def ptr (b : List UInt8) (a0 : Nat) : Nat → Option (List ChV × Int × Nat)
  | 0 => some ([], 0, a0)
  | n + 1 => match ptr b a0 n with
    | none => none
    | some (l, p, a) => match Wd.pnum b a with
      | none => none
      | some (x, a1) => match Wd.pnum b a1 with
        | none => none
        | some (y, a2) => match Wd.pnum b a2 with
          | none => none
          | some (z, a3) => some (l ++ [⟨wrap (p + x), wrap (y - 1), wrap (z - 1)⟩], wrap (p + x), a3)
theorem ptr_len {b : List UInt8} {a0 : Nat} : ∀ {n : Nat} {l : List ChV} {p : Int} {a : Nat}, ptr b a0 n = some (l, p, a) → l.length = n
  | 0, l, p, a, h => by
    simp only [ptr, Option.some.injEq, Prod.mk.injEq] at h
    obtain ⟨rfl, -⟩ := h
    rfl
  | n + 1, l, p, a, h => by
    unfold ptr at h
    split at h
    · cases h
    · rename_i l' p' a' hp
      split at h
      · cases h
      · split at h
        · cases h
        · split at h
          · cases h
          · injection h with h
            injection h with h1 h2
            subst h1
            rw [List.length_append, ptr_len hp]
            rfl
theorem ptr_none {b : List UInt8} {a0 n : Nat} (h : ptr b a0 n = none) : ∀ m, ptr b a0 (n + m) = none
  | 0 => h
  | m + 1 => by
    show ptr b a0 ((n + m) + 1) = none
    unfold ptr
    rw [ptr_none h m]
/-- the changes that bytes begin with, and how many bytes they are. -/
def unpack (b : List UInt8) : Option (List ChV × Nat) := match Wd.pnum b 0 with
  | none => none
  | some (m, a0) => if 0 ≤ m ∧ m ≤ 6000 then match ptr b a0 m.toNat with
    | none => none
    | some (l, _, a) => if cfault (fun _ => true) (-1) l = 0 then some (l, a) else none
    else none
end Fe
end Go.Proofs.YtkejdkajfnaieaaGreatDoor

namespace Go.Proofs.YtkejdkajfnaieaaGreatDoor
open Go.RowKit
set_option linter.unusedVariables false

set_option maxHeartbeats 400000 in
theorem fwin_any (x a b : Int) (w : World) :
    Calls Tryz.prog 57 #[.int .i64 x, .int .i64 a, .int .i64 b] w fun e w' => e = .returned (.bool (decide (a ≤ x ∧ x ≤ b))) ∧ w' = w := by
  by_cases h1 : a ≤ x
  · by_cases h2 : x ≤ b
    · go_enter Tryz.func57, Tryz.ntmps57
      go_wp2
      go_ret
      exact ⟨by simp [h1, h2], rfl⟩
    · go_enter Tryz.func57, Tryz.ntmps57
      go_wp2
      go_ret
      exact ⟨by simp; omega, rfl⟩
  · go_enter Tryz.func57, Tryz.ntmps57
    go_wp2
    go_ret
    exact ⟨by simp; omega, rfl⟩
theorem fwin_is (x a b : Int) (r : Bool) (h : decide (a ≤ x ∧ x ≤ b) = r) : Hid (∀ w, Calls Tryz.prog 57 #[.int .i64 x, .int .i64 a, .int .i64 b] w fun e w' => e = .returned (.bool r) ∧ w' = w) :=
  fun w => (fwin_any x a b w).mono fun e w' ⟨h', hw⟩ => ⟨by rw [h', h], hw⟩
set_option maxHeartbeats 400000 in
theorem anywhere_any (c : ChV) (w : World) : Calls Tryz.prog 59 #[c.val] w fun e w' => e = .returned (.bool true) ∧ Below w.heap.size w w' := by
  have B : Hid (Below w.heap.size w (w.alloc (Obj.cells #[.int .i64 c.at_, .int .i64 c.old, .int .i64 c.new] 111))) := (Below.refl _ _).alloc (Nat.le_refl _) _
  unfold ChV.val
  go_enter Tryz.func59, Tryz.ntmps59
  go_wp2
  go_ret
  exact ⟨rfl, B.out⟩
set_option maxRecDepth 20000 in
set_option maxHeartbeats 2000000 in
theorem isThere_any (v : Value) (a : List UInt8) (z : Nat) (c : ChV) (w : World) (h : By w v a) (hz : w.cell? ⟨z, 0, none⟩ = some v) (hc : ¬ Fe.Bad c) :
    Calls Tryz.prog 81 #[c.val, .pointer (some ⟨z, 0, none⟩)] w fun e w' => e = .returned (.bool (Fe.isThere a c)) ∧ Below w.heap.size w w' := by
  obtain ⟨p, o, n⟩ := c
  have hp : 0 ≤ p := by unfold Fe.Bad at hc; simp only at hc; omega
  obtain ⟨i, rfl⟩ : ∃ i : Nat, p = (i : Nat) := ⟨p.toNat, by omega⟩
  have B : Hid (Below w.heap.size w (w.alloc (Obj.cells #[.int .i64 (i : Nat), .int .i64 o, .int .i64 n] 111))) := (Below.refl _ _).alloc (Nat.le_refl _) _
  have BY : Hid (By w v a) := h
  have zl := cell_lt hz
  have cz : (w.alloc (Obj.cells #[.int .i64 (i : Nat), .int .i64 o, .int .i64 n] 111)).cell? ⟨z, 0, none⟩ = some v := by rw [B.out.cell zl]; exact hz
  obtain ⟨ad, cap, rfl, -, -, -⟩ := h
  clear hc hp hz zl
  unfold ChV.val
  simp only
  go_enter Tryz.func81, Tryz.ntmps81
  go_upto_region 1 with fail
  have y0 : (w.alloc (Obj.cells #[.int .i64 (i : Nat), .int .i64 o, .int .i64 n] 111)).cell? ⟨w.heap.size, 0, none⟩ = some (.int .i64 (i : Nat)) := by simp
  have y1 : (w.alloc (Obj.cells #[.int .i64 (i : Nat), .int .i64 o, .int .i64 n] 111)).cell? ⟨w.heap.size, 1, none⟩ = some (.int .i64 o) := by simp
  have BV : Hid (By (w.alloc (Obj.cells #[.int .i64 (i : Nat), .int .i64 o, .int .i64 n] 111)) (.slice ad a.length cap) a) := BY.out.below B.out
  generalize (w.alloc (Obj.cells #[.int .i64 (i : Nat), .int .i64 o, .int .i64 n] 111)) = w1 at *
  obtain ⟨x, hx⟩ : ∃ x, Fe.bat a i = x := ⟨_, rfl⟩
  have BT : Hid (∀ W, By W (.slice ad a.length cap) a → Calls Tryz.prog 82 #[.slice ad a.length cap, .int .i64 (i : Nat)] W fun e w' => e = .returned (.int .i64 x) ∧ w' = W) := fun W hW => by
    have := byteAt_any _ a i W hW
    rw [hx] at this
    exact this
  obtain ⟨r, hr⟩ : ∃ r, (x == o) = r := ⟨_, rfl⟩
  have HR : Hid (Fe.isThere a ⟨(i : Nat), o, n⟩ = r) := by
    unfold Hid Fe.isThere
    simp only [Int.toNat_natCast]
    rw [hx, hr]
  have BQ : Hid (∀ q, Below w.heap.size w (w1.drewN q)) := fun q => ⟨B.out.os, B.out.tape, B.out.output, B.out.size, B.out.block⟩
  clear hx
  go_quiet ((go_at_call 82; exact Calls.quiet_of_same (BT.out _ BV.out)))
  go_wp2
  go_ret
  exact ⟨by rw [HR.out]; rfl, BQ.out _⟩

/-- what check tells. -/
def chk (ok : ChV → Bool) (ks : List ChV) : Int := if 6000 < ks.length then 4 else Fe.cfault ok (-1) ks
set_option maxRecDepth 100000 in
set_option maxHeartbeats 8000000 in
theorem fcheck_any (K : Nat) (eK : ∀ args w, (callFunc K args).run Tryz.prog w = .ok (.enter K args) w) (u : Value) (cs : Array Value) (ks : List ChV) (ok : ChV → Bool) (w : World) (hu : Chl w u ks)
    (hp : ∀ W, Below w.heap.size w W → ∀ c, ¬ Fe.Bad c → Calls Tryz.prog K (#[c.val] ++ cs) W fun e w' => e = .returned (.bool (ok c)) ∧ Below W.heap.size W w') :
    Calls Tryz.prog 58 #[u, .func (Fn.func K) #[] cs] w fun e w' => ∃ v, e = .returned v ∧ Er v (chk ok ks) ∧ Below w.heap.size w w' := by
  have U : Hid (Chl w u ks) := hu
  have HP : Hid (∀ W, Below w.heap.size w W → ∀ c, ¬ Fe.Bad c → Calls Tryz.prog K (#[c.val] ++ cs) W fun e w' => e = .returned (.bool (ok c)) ∧ Below W.heap.size W w') := hp
  obtain ⟨ad, cap, rfl, c1, c2, -⟩ := hu
  clear hp
  by_cases hl : 6000 < ks.length
  · have hl' : (6000 : Int) < (ks.length : Int) := by omega
    have E : Hid (chk ok ks = 4) := by unfold Hid chk; rw [if_pos hl]
    clear hl
    go_enter Tryz.func58, Tryz.ntmps58
    go_wp2
    go_ret
    exact ⟨_, rfl, by rw [E.out]; exact Er.no (by decide), Below.refl _ _⟩
  have hl' : ¬ (6000 : Int) < (ks.length : Int) := by omega
  have hl6 : ks.length ≤ 6000 := by omega
  have E : Hid (chk ok ks = Fe.cfault ok (-1) ks) := by unfold Hid chk; rw [if_neg hl]
  clear hl
  go_enter Tryz.func58, Tryz.ntmps58
  go_wp2_with fail
  go_loopw [5, 14] (fun pv iv W => ∃ (n : Nat) (p : Int), n ≤ ks.length ∧ pv = .int .i64 p ∧ iv = .int .i64 (n : Nat) ∧ Fe.cfault ok (-1) ks = Fe.cfault ok p (ks.drop n) ∧ Below w.heap.size w W) (fun _ iv _ => ks.length - (intOf iv).toNat)
  case atStart => exact ⟨0, -1, Nat.zero_le _, rfl, rfl, by simp, Below.refl _ _⟩
  case round =>
  obtain ⟨n, p, hn, rfl, rfl, he, hb⟩ := hrel
  have HE : Hid (Fe.cfault ok (-1) ks = Fe.cfault ok p (ks.drop n)) := he
  have BW : Hid (Below w.heap.size w wr) := hb
  clear he hb
  by_cases hne : n = ks.length
  · have EZ : Hid (chk ok ks = 0) := by
      unfold Hid
      rw [E.out, HE.out, hne, List.drop_length]
      rfl
    subst hne
    go_wp2
    go_ret
    exact ⟨_, rfl, by rw [EZ.out]; exact Er.nil, BW.out⟩
  have hnl : n < ks.length := by omega
  have hnl' : (n : Int) < (ks.length : Int) := by omega
  obtain ⟨c, hc⟩ : ∃ c, ks[n]? = some c := ⟨_, List.getElem?_eq_getElem hnl⟩
  have HC : Hid (ks.drop n = c :: ks.drop (n + 1)) := by
    unfold Hid
    rw [List.drop_eq_getElem_cons hnl]
    congr 1
    rw [List.getElem?_eq_getElem hnl] at hc
    injection hc
  have EC : Hid (chk ok ks = if Fe.Bad c then 1 else if c.at_ ≤ p then 5 else if ok c = true then Fe.cfault ok c.at_ (ks.drop (n + 1)) else 7) := by
    unfold Hid
    rw [E.out, HE.out, HC.out]
    rfl
  obtain ⟨a', c', e', -, -, hq⟩ := U.out.below BW.out
  injection e' with e1 e2 e3
  subst e1 e3
  obtain ⟨x, rfl, -, hcc⟩ := hq (by rintro rfl; simp at hnl)
  obtain ⟨d0, d1, d2⟩ := hcc n c hc
  clear hq hcc hc
  have SZ : Hid (w.heap.size ≤ wr.heap.size) := BW.out.size
  have BA : Hid (Below w.heap.size w (wr.alloc (Obj.cells #[.int .i64 c.at_, .int .i64 c.old, .int .i64 c.new] 111))) := BW.out.alloc SZ.out _
  have CK : Hid (¬ Fe.Bad c → Calls Tryz.prog K (#[c.val] ++ cs) (wr.alloc (Obj.cells #[.int .i64 c.at_, .int .i64 c.old, .int .i64 c.new] 111)) fun e w' => e = .returned (.bool (ok c)) ∧ Below (wr.alloc (Obj.cells #[.int .i64 c.at_, .int .i64 c.old, .int .i64 c.new] 111)).heap.size (wr.alloc (Obj.cells #[.int .i64 c.at_, .int .i64 c.old, .int .i64 c.new] 111)) w') := fun h => HP.out _ BA.out c h
  obtain ⟨ca, co, cn⟩ := c
  simp only [ChV.val] at d0 d1 d2 CK BA EC ⊢
  by_cases h1 : 0 ≤ ca ∧ ca ≤ 5999
  case neg =>
    have W1 := fwin_is ca 0 5999 false (decide_eq_false h1)
    have EF : Hid (chk ok ks = 1) := by unfold Hid; rw [EC.out, if_pos (.inl h1)]
    go_wp2_with fail
    refine (W1.out _).mono ?_
    rintro e w' ⟨rfl, rfl⟩
    go_wp2
    go_ret
    exact ⟨_, rfl, by rw [EF.out]; exact Er.no (by decide), BA.out⟩
  have W1 := fwin_is ca 0 5999 true (decide_eq_true h1)
  go_wp2_with fail
  refine (W1.out _).mono ?_
  rintro e w' ⟨rfl, rfl⟩
  by_cases h2 : -1 ≤ co ∧ co ≤ 255
  case neg =>
    have W2 := fwin_is co (-1) 255 false (decide_eq_false h2)
    have EF : Hid (chk ok ks = 1) := by unfold Hid; rw [EC.out, if_pos (.inr (.inl h2))]
    go_wp2_with fail
    refine (W2.out _).mono ?_
    rintro e w' ⟨rfl, rfl⟩
    go_wp2
    go_ret
    exact ⟨_, rfl, by rw [EF.out]; exact Er.no (by decide), BA.out⟩
  have W2 := fwin_is co (-1) 255 true (decide_eq_true h2)
  go_wp2_with fail
  refine (W2.out _).mono ?_
  rintro e w' ⟨rfl, rfl⟩
  by_cases h3 : -1 ≤ cn ∧ cn ≤ 255
  case neg =>
    have W3 := fwin_is cn (-1) 255 false (decide_eq_false h3)
    have EF : Hid (chk ok ks = 1) := by unfold Hid; rw [EC.out, if_pos (.inr (.inr (.inl h3)))]
    go_wp2_with fail
    refine (W3.out _).mono ?_
    rintro e w' ⟨rfl, rfl⟩
    go_wp2
    go_ret
    exact ⟨_, rfl, by rw [EF.out]; exact Er.no (by decide), BA.out⟩
  have W3 := fwin_is cn (-1) 255 true (decide_eq_true h3)
  go_wp2_with fail
  refine (W3.out _).mono ?_
  rintro e w' ⟨rfl, rfl⟩
  by_cases h4 : co = cn
  case pos =>
    have EF : Hid (chk ok ks = 1) := by unfold Hid; rw [EC.out, if_pos (.inr (.inr (.inr h4)))]
    subst h4
    go_wp2
    go_ret
    exact ⟨_, rfl, by rw [EF.out]; exact Er.no (by decide), BA.out⟩
  have h4b : (co == cn) = false := beq_eq_false_iff_ne.2 h4
  have NB : Hid (¬ Fe.Bad ⟨ca, co, cn⟩) := by
    unfold Hid Fe.Bad
    simp only
    rintro (h | h | h | h)
    · exact h h1
    · exact h h2
    · exact h h3
    · exact h4 h
  by_cases h5 : ca ≤ p
  case pos =>
    have EF : Hid (chk ok ks = 5) := by unfold Hid; rw [EC.out, if_neg NB.out, if_pos h5]
    go_wp2
    go_ret
    exact ⟨_, rfl, by rw [EF.out]; exact Er.no (by decide), BA.out⟩
  cases hok : ok ⟨ca, co, cn⟩ with
  | false =>
    have EF : Hid (chk ok ks = 7) := by unfold Hid; rw [EC.out, if_neg NB.out, if_neg h5, hok]; rfl
    rw [hok] at CK
    clear hok
    go_wp2_with fail
    refine (CK.out NB.out).mono ?_
    rintro e w2 ⟨rfl, hb⟩
    have B2 : Hid (Below w.heap.size w w2) := BA.out.trans (hb.mono BA.out.size)
    clear hb
    go_wp2
    go_ret
    exact ⟨_, rfl, by rw [EF.out]; exact Er.no (by decide), B2.out⟩
  | true =>
    have EF : Hid (Fe.cfault ok (-1) ks = Fe.cfault ok ca (ks.drop (n + 1))) := by unfold Hid; rw [← E.out, EC.out, if_neg NB.out, if_neg h5, hok]; rfl
    rw [hok] at CK
    clear hok
    go_wp2_with fail
    refine (CK.out NB.out).mono ?_
    rintro e w2 ⟨rfl, hb⟩
    have B2 : Hid (Below w.heap.size w w2) := BA.out.trans (hb.mono BA.out.size)
    have y0 : w2.cell? ⟨wr.heap.size, 0, none⟩ = some (.int .i64 ca) := by
      rw [hb.cell (p := ⟨wr.heap.size, 0, none⟩) (by simp)]
      simp
    clear hb
    go_wp2
    go_roundw
    case rel => exact ⟨n + 1, ca, by omega, rfl, by go_num, EF.out, B2.out⟩
    case measure => simp [intOf]; omega
end Go.Proofs.YtkejdkajfnaieaaGreatDoor

namespace Go.Proofs.YtkejdkajfnaieaaGreatDoor
open Go.RowKit

def intCells (ds : List Int) : List Value := ds.map fun d => .int .i64 d

/-- block b holds the integers ds, and some cells behind. -/
def Bk (w : World) (b : Nat) (ds : List Int) (r : Array Value) : Prop := w.heap[b]? = some (.cells ((intCells ds).toArray ++ r) 3 (0, 0))

theorem Bk.cell {w : World} {b : Nat} {ds : List Int} {r : Array Value} (h : Bk w b ds r) {i : Nat} {d : Int} (hd : ds[i]? = some d) : w.cell? ⟨b, i, none⟩ = some (.int .i64 d) := by
  have hi : i < ds.length := (List.getElem?_eq_some_iff.1 hd).1
  unfold Bk at h
  simp only [World.cell?, h]
  simp [intCells, Array.getElem?_append, hi]
  exact (List.getElem?_eq_some_iff.1 hd).2
theorem Bk.thaw {w : World} {b : Nat} {ds : List Int} {r : Array Value} (h : Bk w b ds r) (i : Nat) : w.frozen? ⟨b, i, none⟩ = false := by
  unfold Bk at h
  simp [World.frozen?, h]
theorem Bk.set {w : World} {b : Nat} {ds : List Int} {r : Array Value} (h : Bk w b ds r) (i : Nat) (d : Int) (hi : i < ds.length) : Bk (w.setCell ⟨b, i, none⟩ (.int .i64 d)) b (ds.set i d) r := by
  unfold Bk at *
  rw [heap_setCell_same w b i _ _ _ h]
  have e : (intCells (ds.set i d)).toArray = (intCells ds).toArray.setIfInBounds i (.int .i64 d) := by
    simp [intCells, List.map_set]
  rw [e]
  have hl : i < (intCells ds).toArray.size := by simpa [intCells] using hi
  rw [Array.setIfInBounds_append_left hl]
theorem Bk.drewN {w : World} {b : Nat} {ds : List Int} {r : Array Value} (h : Bk w b ds r) (n : Nat) : Bk (w.drewN n) b ds r := h
theorem Bk.kp {w w' : World} {b z : Nat} {ds : List Int} {r : Array Value} (h : Bk w b ds r) (hk : Kp z w w') (hne : b ≠ z) : Bk w' b ds r := by
  unfold Bk at *
  rw [hk.block b (lt_of_block h) hne]; exact h
theorem Bk.below {w w' : World} {b : Nat} {ds : List Int} {r : Array Value} (h : Bk w b ds r) (hb : Below w.heap.size w w') : Bk w' b ds r := by
  unfold Bk at *
  rw [hb.block b (lt_of_block h)]; exact h
theorem Bk.lt {w : World} {b : Nat} {ds : List Int} {r : Array Value} (h : Bk w b ds r) : b < w.heap.size := lt_of_block h
theorem Bk.ro {w : World} {b c : Nat} {ds : List Int} {r : Array Value} (h : Bk w b ds r) (h1 : ds.length ≤ c) (h2 : c ≤ 9223372036854775807) : Ro w (.slice (some ⟨b, 0, none⟩) ds.length c) ds :=
  ⟨_, c, rfl, h1, h2, fun _ => ⟨_, rfl, h.lt, fun i d hd => by rw [Addr.add_lit, Nat.zero_add]; exact h.cell hd⟩⟩
/-- another cell, another block. -/
theorem Bk.other {w : World} {b : Nat} {ds : List Int} {r : Array Value} (h : Bk w b ds r) {g : Nat} (hne : b ≠ g) (i : Nat) (u : Value) : Bk (w.setCell ⟨g, i, none⟩ u) b ds r := by
  unfold Bk at *
  rw [Below.heap_setCell _ _ _ _ hne]; exact h
theorem Bk.low {w w' : World} {b B : Nat} {ds : List Int} {r : Array Value} (h : Bk w b ds r) (hb : Below B w w') (hB : b < B) : Bk w' b ds r := by
  unfold Bk at *
  rw [hb.block b hB]; exact h
end Go.Proofs.YtkejdkajfnaieaaGreatDoor

namespace Go.Proofs.YtkejdkajfnaieaaGreatDoor
open Go.RowKit
set_option linter.unusedVariables false

theorem info_int : (Tryz.prog.info? 3).map (fun i => (i.zero, i.size, i.bytes)) = some (some (.int .i64 0), 1, 8) := by kernel_rfl

/-- v is a slice of the integers xs, in a block of its own from base on. -/
def Ow (w : World) (base : Nat) (v : Value) (xs : List Int) : Prop := w.ownsRow base 3 1 v xs.length (xs.map (Value.int .i64))
theorem Ow.nil (w : World) (base : Nat) : Ow w base (.slice none 0 0) [] := World.ownsRow_nil _ _ _ _
theorem Ow.ro {w : World} {base : Nat} {v : Value} {xs : List Int} (h : Ow w base v xs) : Ro w v xs := by
  rcases h.2 with ⟨hv, h0⟩ | ⟨g, cap, cur, hv, hb, hg, h1, h2, h3, h4⟩
  · obtain rfl := List.length_eq_zero_iff.1 h0
    exact ⟨none, 0, hv, Nat.le_refl _, by omega, fun h => absurd rfl h⟩
  · refine ⟨_, cap, hv, h1, by unfold maxLen at h2; omega, fun _ => ⟨_, rfl, lt_of_block hg, fun i d hd => ?_⟩⟩
    have hi : i < xs.length := (List.getElem?_eq_some_iff.1 hd).1
    rw [Addr.add_lit, Nat.zero_add]
    have h5 : w.ownsRow base 3 1 (.slice (some ⟨g, 0, none⟩) xs.length cap) xs.length (xs.map (Value.int .i64)) := by rw [← hv]; exact h
    rw [h5.cellAt i (by omega), List.getElem?_map, hd]
    rfl
theorem Ow.kept {w w' : World} {base : Nat} {v : Value} {xs : List Int} {row : Option Nat} (h : Ow w base v xs) (hg : w.grownBy w' row) (hne : v.ownBlock = none ∨ v.ownBlock ≠ row) : Ow w' base v xs := World.ownsRow.kept h hg hne
theorem Ow.alloc {w : World} {base : Nat} {v : Value} {xs : List Int} (h : Ow w base v xs) (o : Obj) : Ow (w.alloc o) base v xs := World.ownsRow.alloc h o
theorem Ow.drewN {w : World} {base : Nat} {v : Value} {xs : List Int} (h : Ow w base v xs) (n : Nat) : Ow (w.drewN n) base v xs := h
theorem Ow.block {w : World} {base : Nat} {v : Value} {xs : List Int} (h : Ow w base v xs) : ∀ k, v.ownBlock = some k → base ≤ k ∧ k < w.heap.size := World.ownsRow.lt h
theorem Ow.below {w w' : World} {base : Nat} {v : Value} {xs : List Int} (h : Ow w base v xs) (hb : Below w.heap.size w w') : Ow w' base v xs :=
  h.kept (row := none) ⟨hb.os, hb.tape, hb.output, hb.size, fun k hk _ => hb.block k hk⟩ (by cases v.ownBlock <;> simp)
theorem Ow.mono {w : World} {base base' : Nat} {v : Value} {xs : List Int} (h : Ow w base v xs) (hb : base' ≤ base) : Ow w base' v xs := by
  refine ⟨h.1, ?_⟩
  rcases h.2 with h1 | ⟨g, cap, cur, h1, h2, h3⟩
  · exact .inl h1
  · exact .inr ⟨g, cap, cur, h1, Nat.le_trans hb h2, h3⟩
theorem Ow.len {w : World} {base : Nat} {v : Value} {xs : List Int} (h : Ow w base v xs) : ∃ a c, v = .slice a xs.length c := by
  obtain ⟨a, c, h1, -⟩ := h.ro
  exact ⟨a, c, h1⟩

/-- one more. -/
theorem app_int {ops : Array Oper} {rest : List Oper} {o : Oper} {a : Act} {Q : Exit → Act → World → Prop} (w : World) (hgd : o.guard = none) (s x : Operand)
    (ho : o.op = .call { callee := .builtin .append, args := #[s, x], argTypes := #[23, 23] }) (base : Nat) (v : Value) (xs : List Int) (hs : a.eval s = v) (hown : Ow w base v xs)
    (ad : Addr) (d : Int) (hx : a.eval x = .slice (some ad) 1 1) (hd : w.cell? ad = some (.int .i64 d)) (hl : xs.length ≤ 1000000000) (hbase : base ≤ w.heap.size)
    (h : ∀ g cap w', Ow w' base (.slice (some ⟨g, 0, none⟩) (xs.length + 1) cap) (xs ++ [d]) → w.grownBy w' v.ownBlock → (v.ownBlock = some g ∨ g = w.heap.size) → g < w'.heap.size → wpList Tryz.prog ops Q rest (a.put o.dst (.slice (some ⟨g, 0, none⟩) (xs.length + 1) cap)) w') :
    wpList Tryz.prog ops Q (o :: rest) a w := by
  obtain ⟨i0, hi, hz0, hz1, hz2⟩ := info_parts info_int
  refine wpList_append_lies w hgd s x 23 ho base 3 i0 (.int .i64 0) 1 8 Tryz.underlying23 hi hz0 hz1 hz2 rfl (by decide) v xs.length _ hs hown ad 1 1 [.int .i64 d] hx rfl ?_ ?_ (by decide) (by unfold maxLen; omega) (by omega) hbase _ rfl ?_
  · intro j u hj
    match j, hj with
    | 0, hj => simp at hj; subst hj; exact hd
  · intro u hu
    simp at hu
    subst hu
    rfl
  · intro g cap w' h1 h2 h3 h4
    refine h g cap w' ?_ h2 h3 h4
    unfold Ow
    rw [List.length_append, List.map_append]
    exact h1

/-- a list of one. -/
theorem Ow.one {w : World} {base z : Nat} (d : Int) (hb : base ≤ w.heap.size) (hz : w.heap.size = z) : Ow (w.alloc (.cells #[.int .i64 d] 3)) base (.slice (some ⟨z, 0, none⟩) 1 1) [d] := by
  subst hz
  exact ⟨rfl, .inr ⟨_, _, _, rfl, hb, heap_alloc_new w _, Nat.le_refl _, by unfold maxLen; decide, rfl, rfl⟩⟩
end Go.Proofs.YtkejdkajfnaieaaGreatDoor

namespace Go.Proofs.YtkejdkajfnaieaaGreatDoor
open Go.RowKit
set_option linter.unusedVariables false

theorem made_ints (n : Nat) : madeCells #[Value.int .i64 0] n = (intCells (List.replicate n 0)).toArray := by
  apply Array.ext_getElem?
  intro i
  unfold madeCells intCells
  by_cases h : i < n
  · simp [h, Nat.mod_one]
  · simp [h]
theorem makeI (n : Nat) (w : World) (h : n ≤ 1000000) : ∃ w', (Instr.makeSlice 23 (.int .i64 (n : Nat)) (.int .i64 (n : Nat))).run Tryz.prog w = .ok (.slice (some ⟨w.heap.size, 0, none⟩) n n) w' ∧ Bk w' w.heap.size (List.replicate n 0) #[] ∧ Below w.heap.size w w' ∧ w'.heap.size = w.heap.size + 1 := by
  obtain ⟨i0, hi, hz0, hz1, hz2⟩ := info_parts info_int
  have hr := run_make (P := Tryz.prog) w 23 3 i0 (.int .i64 0) Tryz.underlying23 hi hz0 .i64 .i64 (n : Nat) (n : Nat) (by omega) (Int.le_refl _) (by rw [hz2]; omega) (by omega)
  refine ⟨_, hr, ?_, (Below.refl _ _).alloc (Nat.le_refl _) _, by simp⟩
  unfold Bk
  rw [hz1, Int.toNat_natCast, Nat.mul_one, heap_alloc_new]
  have e : (Value.int .i64 0).cells = #[Value.int .i64 0] := rfl
  rw [e, made_ints, Array.append_empty]
end Go.Proofs.YtkejdkajfnaieaaGreatDoor

namespace Go.Proofs.YtkejdkajfnaieaaGreatDoor
open Go.RowKit
set_option linter.unusedVariables false

/-- the bytes of a list, as cells. -/
def byteCells (l : List UInt8) : List Value := l.map fun b => .int .u8 (b.toNat : Nat)
theorem info_byte : (Tryz.prog.info? 5).map (fun i => (i.zero, i.size, i.bytes)) = some (some (.int .u8 0), 1, 1) := by kernel_rfl
/-- v is a slice of the bytes l, in a block of its own from base on. -/
def Ob (w : World) (base : Nat) (v : Value) (l : List UInt8) : Prop := w.ownsRow base 5 1 v l.length (byteCells l)
theorem Ob.nil (w : World) (base : Nat) : Ob w base (.slice none 0 0) [] := World.ownsRow_nil _ _ _ _
theorem Ob.alloc {w : World} {base : Nat} {v : Value} {l : List UInt8} (h : Ob w base v l) (o : Obj) : Ob (w.alloc o) base v l := World.ownsRow.alloc h o
theorem Ob.drew {w : World} {base : Nat} {v : Value} {l : List UInt8} (h : Ob w base v l) : Ob w.drew base v l := h
theorem Ob.block {w : World} {base : Nat} {v : Value} {l : List UInt8} (h : Ob w base v l) : ∀ k, v.ownBlock = some k → base ≤ k ∧ k < w.heap.size := World.ownsRow.lt h

theorem byteCells_snoc (l : List UInt8) (b : UInt8) : byteCells (l ++ [b]) = byteCells l ++ [.int .u8 (b.toNat : Nat)] := by simp [byteCells]

theorem Ob.len {w : World} {base : Nat} {v : Value} {l : List UInt8} (h : Ob w base v l) : ∃ a c, v = .slice a l.length c := by
  rcases h.2 with ⟨hv, h0⟩ | ⟨g, cap, cur, hv, _⟩
  · exact ⟨none, 0, by rw [hv, h0]⟩
  · exact ⟨_, _, hv⟩
theorem Ob.text {w : World} {base : Nat} {v : Value} {l : List UInt8} (h : Ob w base v l) (hl : 0 < l.length) :
    ∃ g cap, v = .slice (some ⟨g, 0, none⟩) l.length cap ∧ ∀ j (hj : j < l.length), w.cell? ((⟨g, 0, none⟩ : Addr).add j) = some (.int .u8 (l[j].toNat : Int)) := by
  obtain ⟨g, cap, hv, -, -⟩ := World.ownsRow.form h hl
  refine ⟨g, cap, hv, fun j hj => ?_⟩
  subst hv
  rw [Addr.add_lit, Nat.zero_add, World.ownsRow.cellAt h j (by omega)]
  simp [byteCells, List.getElem?_eq_getElem hj]
theorem step_app_byte {ops : Array Oper} {o : Oper} {a : Act} {K : Act → World → Prop} {Q : Exit → Act → World → Prop} {E : Prop} (w : World) (hgd : o.guard = none) (s x : Operand)
    (ho : o.op = .call { callee := .builtin .append, args := #[s, x], argTypes := #[46, 46] }) (base : Nat) (v : Value) (l : List UInt8) (hs : a.eval s = v) (hown : Ob w base v l)
    (ad : Addr) (b : UInt8) (hx : a.eval x = .slice (some ad) 1 1) (hd : w.cell? ad = some (.int .u8 (b.toNat : Nat))) (hl : l.length ≤ 2000000000) (hbase : base ≤ w.heap.size)
    (h : ∀ g cap w', Ob w' base (.slice (some ⟨g, 0, none⟩) (l.length + 1) cap) (l ++ [b]) → w.grownBy w' v.ownBlock → g < w'.heap.size → K (a.put o.dst (.slice (some ⟨g, 0, none⟩) (l.length + 1) cap)) w') :
    if Region.wanted o (yielded ops a.tmps) = true then Oper.wp Tryz.prog o a w K Q else E := by
  obtain ⟨i0, hi, hz0, hz1, hz2⟩ := info_parts info_byte
  refine step_append_lies w hgd s x 46 ho base 5 i0 (.int .u8 0) 1 1 Tryz.underlying46 hi hz0 hz1 hz2 rfl (by decide) v l.length _ hs hown ad 1 1 [.int .u8 (b.toNat : Nat)] hx rfl ?_ ?_ (by decide) (by unfold maxLen; omega) (by omega) hbase _ rfl ?_
  · intro j u hj
    match j, hj with
    | 0, hj => simp at hj; subst hj; exact hd
  · intro u hu
    simp at hu
    subst hu
    rfl
  · intro g cap w' h1 h2 h3 h4
    refine h g cap w' ?_ h2 h4
    unfold Ob
    rw [List.length_append, byteCells_snoc]
    exact h1
theorem app_byte {ops : Array Oper} {rest : List Oper} {o : Oper} {a : Act} {Q : Exit → Act → World → Prop} (w : World) (hgd : o.guard = none) (s x : Operand)
    (ho : o.op = .call { callee := .builtin .append, args := #[s, x], argTypes := #[46, 46] }) (base : Nat) (v : Value) (l : List UInt8) (hs : a.eval s = v) (hown : Ob w base v l)
    (ad : Addr) (b : UInt8) (hx : a.eval x = .slice (some ad) 1 1) (hd : w.cell? ad = some (.int .u8 (b.toNat : Nat))) (hl : l.length ≤ 2000000000) (hbase : base ≤ w.heap.size)
    (h : ∀ g cap w', Ob w' base (.slice (some ⟨g, 0, none⟩) (l.length + 1) cap) (l ++ [b]) → w.grownBy w' v.ownBlock → g < w'.heap.size → wpList Tryz.prog ops Q rest (a.put o.dst (.slice (some ⟨g, 0, none⟩) (l.length + 1) cap)) w') :
    wpList Tryz.prog ops Q (o :: rest) a w := by
  obtain ⟨i0, hi, hz0, hz1, hz2⟩ := info_parts info_byte
  refine wpList_append_lies w hgd s x 46 ho base 5 i0 (.int .u8 0) 1 1 Tryz.underlying46 hi hz0 hz1 hz2 rfl (by decide) v l.length _ hs hown ad 1 1 [.int .u8 (b.toNat : Nat)] hx rfl ?_ ?_ (by decide) (by unfold maxLen; omega) (by omega) hbase _ rfl ?_
  · intro j u hj
    match j, hj with
    | 0, hj => simp at hj; subst hj; exact hd
  · intro u hu
    simp at hu
    subst hu
    rfl
  · intro g cap w' h1 h2 h3 h4
    refine h g cap w' ?_ h2 h4
    unfold Ob
    rw [List.length_append, byteCells_snoc]
    exact h1

end Go.Proofs.YtkejdkajfnaieaaGreatDoor

namespace Go.Proofs.YtkejdkajfnaieaaGreatDoor
open Go.RowKit
set_option linter.unusedVariables false

namespace Fe
theorem pl_front {a : List UInt8} {N n : Nat} (h : n < N) : ((pl a N).take n ++ List.replicate (N - n) 0).set n (bat a n) = (pl a N).take (n + 1) ++ List.replicate (N - (n + 1)) 0 := by
  have l9 : ((pl a N).take n).length = n := by rw [List.length_take, pl_len]; omega
  rw [List.set_append_right _ _ (by omega), l9, Nat.sub_self, List.take_add_one, pl_get h]
  have : N - n = (N - (n + 1)) + 1 := by omega
  rw [this, List.replicate_succ]
  simp
theorem puts_bounds {a : List UInt8} {N : Nat} : ∀ {l : List ChV}, (∀ c ∈ l, ¬ Bad c) → ∀ x ∈ puts (pl a N) l, -1 ≤ x ∧ x ≤ 255 := by
  have H : ∀ (l : List ChV) (ps : List Int), (∀ c ∈ l, ¬ Bad c) → (∀ x ∈ ps, -1 ≤ x ∧ x ≤ 255) → ∀ x ∈ puts ps l, -1 ≤ x ∧ x ≤ 255 := by
    intro l
    induction l with
    | nil => intro ps _ h; exact h
    | cons c l ih =>
      intro ps hl hp
      refine ih (ps.set c.at_.toNat c.new) (fun d hd => hl d (by simp [hd])) (fun x hx => ?_)
      rcases List.mem_or_eq_of_mem_set hx with h | rfl
      · exact hp x h
      · have := hl c (by simp)
        unfold Bad at this
        omega
  intro l hl
  refine H l _ hl (fun x hx => ?_)
  unfold pl at hx
  obtain ⟨i, -, rfl⟩ := List.mem_map.1 hx
  exact bat_bounds a i
end Fe
/-- what changed tells. -/
def ChgSays (a : List UInt8) (l : List ChV) (w w' : World) (v r : Value) : Prop :=
  (Fe.applied a l 6000 = none ∧ v = .slice none 0 0 ∧ r = .iface 97 (.int .i64 3)) ∨ (∃ b, Fe.applied a l 6000 = some b ∧ r = .nilIface ∧ Ob w' w.heap.size v b)
set_option maxRecDepth 100000 in
set_option maxHeartbeats 16000000 in
theorem changed_any (va vl : Value) (a : List UInt8) (ks : List ChV) (w : World) (ha : By w va a) (hl : Chl w vl ks) (hk : ks.length ≤ 6000) (hb : ∀ c ∈ ks, ¬ Fe.Bad c) :
    Calls Tryz.prog 83 #[va, vl] w fun e w' => ∃ v r, e = .returned (.tuple #[v, r]) ∧ ChgSays a ks w w' v r ∧ Below w.heap.size w w' := by
  have A : Hid (By w va a) := ha
  have L : Hid (Chl w vl ks) := hl
  have NB : Hid (∀ c ∈ ks, ¬ Fe.Bad c) := hb
  obtain ⟨pa, ca, rfl, a1, a2, -⟩ := ha
  obtain ⟨pl, cl, rfl, l1, l2, -⟩ := hl
  have a2' : ca ≤ 9223372036854775807 := by unfold maxLen at a2; omega
  clear a2 hb
  obtain ⟨w1, hm, hbk, hbb, hs⟩ := makeI 6000 w (by omega)
  obtain ⟨N, hN⟩ : ∃ N : Nat, N = 6000 := ⟨_, rfl⟩
  have HN : Hid (N = 6000) := hN
  have hN' : (N : Int) = 6000 := by omega
  rw [← hN] at hbk
  have BK : Hid (Bk w1 w.heap.size (List.replicate N 0) #[]) := hbk
  have BB : Hid (Below w.heap.size w w1) := hbb
  obtain ⟨z, hz⟩ : ∃ z, w.heap.size = z := ⟨_, rfl⟩
  have HZ : Hid (w.heap.size = z) := hz
  rw [hz] at BK hm
  have hm' : (Instr.makeSlice 23 (.int .i64 6000) (.int .i64 6000)).run Tryz.prog w = .ok (.slice (some ⟨z, 0, none⟩) 6000 6000) w1 := hm
  clear hbk hbb hs hm hN
  go_enter Tryz.func83, Tryz.ntmps83
  go_wp2_with fail
  go_loopw [16] (fun j W => ∃ n : Nat, n ≤ N ∧ j = .int .i64 (n : Nat) ∧ Bk W z ((Fe.pl a N).take n ++ List.replicate (N - n) 0) #[] ∧ Below z w W) (fun j _ => N - (intOf j).toNat)
  case atStart => exact ⟨0, Nat.zero_le _, rfl, by simpa using BK.out, by rw [← HZ.out]; exact BB.out⟩
  case round =>
  obtain ⟨n, hn, rfl, hb, hB⟩ := hrel
  have B1 : Hid (Bk wr z ((Fe.pl a N).take n ++ List.replicate (N - n) 0) #[]) := hb
  have W1 : Hid (Below z w wr) := hB
  clear hb hB
  by_cases hne : n = N
  case neg =>
    have hnl : n < N := by omega
    have hnl' : (n : Int) < 6000 := by omega
    go_wp2_with fail
    refine (byteAt_any _ a n _ (A.out.below (by rw [HZ.out]; exact W1.out))).mono ?_
    rintro e w2 ⟨rfl, rfl⟩
    have tz := B1.out.thaw n
    have cz := B1.out.cell (i := n) (d := 0) (by
      have l9 : ((Fe.pl a N).take n).length = n := by rw [List.length_take, Fe.pl_len]; omega
      rw [List.getElem?_append_right (by omega), l9, Nat.sub_self, List.getElem?_replicate, if_pos (by omega)])
    have SZ : Hid (Bk (w2.setCell ⟨z, n, none⟩ (.int .i64 (Fe.bat a n))) z ((Fe.pl a N).take (n + 1) ++ List.replicate (N - (n + 1)) 0) #[]) := by
      have h9 := B1.out.set n (Fe.bat a n) (by simp [Fe.pl_len]; omega)
      rw [Fe.pl_front hnl] at h9
      exact h9
    have WZ : Hid (Below z w (w2.setCell ⟨z, n, none⟩ (.int .i64 (Fe.bat a n)))) := W1.out.setCell (Nat.le_refl _) _
    go_wp2
    go_roundw
    case rel => exact ⟨n + 1, by omega, by go_num, SZ.out, WZ.out⟩
    case measure => simp [intOf]; omega
  have BP : Hid (Bk wr z (Fe.pl a N) #[]) := by
    have := B1.out
    rw [hne, Nat.sub_self, List.replicate_zero, List.append_nil, List.take_of_length_le (by rw [Fe.pl_len]; exact Nat.le_refl _)] at this
    exact this
  have hnn : ¬ (n : Int) < 6000 := by omega
  clear B1 BK hm'
  go_wp2_with fail
  go_loopw [28] (fun j W => ∃ m : Nat, m ≤ ks.length ∧ j = .int .i64 (m : Nat) ∧ Bk W z (Fe.puts (Fe.pl a N) (ks.take m)) #[] ∧ Below z w W) (fun j _ => ks.length - (intOf j).toNat)
  case atStart => exact ⟨0, Nat.zero_le _, rfl, by simpa [Fe.puts] using BP.out, W1.out⟩
  case round =>
  obtain ⟨m, hm, rfl, hb, hB⟩ := hrel
  have B1 : Hid (Bk wr z (Fe.puts (Fe.pl a N) (ks.take m)) #[]) := hb
  have W2 : Hid (Below z w wr) := hB
  clear hb hB BP
  by_cases hme : m = ks.length
  case neg =>
    have hml : m < ks.length := by omega
    have hml' : (m : Int) < (ks.length : Int) := by omega
    obtain ⟨c, hc⟩ : ∃ c, ks[m]? = some c := ⟨_, List.getElem?_eq_getElem hml⟩
    have PN : Hid (Fe.puts (Fe.pl a N) (ks.take (m + 1)) = (Fe.puts (Fe.pl a N) (ks.take m)).set c.at_.toNat c.new) := by
      unfold Hid
      rw [List.take_add_one, hc]
      exact Fe.puts_snoc _ _ _
    have nb := NB.out c (List.mem_of_getElem? hc)
    obtain ⟨a', c', e', -, -, hq⟩ := L.out.below (by rw [HZ.out]; exact W2.out)
    injection e' with e1 e2 e3
    subst e1 e3
    obtain ⟨x, rfl, -, hcc⟩ := hq (by rintro rfl; simp at hml)
    obtain ⟨d0, d1, d2⟩ := hcc m c hc
    clear hq hcc hc
    obtain ⟨cc, co, cn⟩ := c
    unfold Fe.Bad at nb
    simp only at d0 d1 d2 PN nb
    obtain ⟨i, rfl⟩ : ∃ i : Nat, cc = (i : Nat) := ⟨cc.toNat, by omega⟩
    have hi6 : (i : Int) < 6000 := by omega
    have hiN : i < N := by omega
    rw [Int.toNat_natCast] at PN
    have SW : Hid (z ≤ wr.heap.size) := by unfold Hid; rw [← HZ.out]; exact W2.out.size
    obtain ⟨wa, hwa⟩ : ∃ W, wr.alloc (Obj.cells #[.int .i64 (i : Nat), .int .i64 co, .int .i64 cn] 111) = W := ⟨_, rfl⟩
    have BA : Hid (Bk wa z (Fe.puts (Fe.pl a N) (ks.take m)) #[]) := by rw [← hwa]; exact B1.out.below ((Below.refl _ _).alloc (Nat.le_refl _) _)
    have WA : Hid (Below z w wa) := by rw [← hwa]; exact W2.out.alloc SW.out _
    have y0 : wa.cell? ⟨wr.heap.size, 0, none⟩ = some (.int .i64 (i : Nat)) := by rw [← hwa]; simp
    have y2 : wa.cell? ⟨wr.heap.size, 2, none⟩ = some (.int .i64 cn) := by rw [← hwa]; simp
    have tz := BA.out.thaw i
    obtain ⟨d, hd⟩ : ∃ d, (Fe.puts (Fe.pl a N) (ks.take m))[i]? = some d := ⟨_, List.getElem?_eq_getElem (by rw [Fe.puts_len, Fe.pl_len]; exact hiN)⟩
    have cz := BA.out.cell hd
    have SZ : Hid (Bk (wa.setCell ⟨z, i, none⟩ (.int .i64 cn)) z (Fe.puts (Fe.pl a N) (ks.take (m + 1))) #[]) := by
      have h9 := BA.out.set i cn (by rw [Fe.puts_len, Fe.pl_len]; exact hiN)
      rw [← PN.out] at h9
      exact h9
    have WZ : Hid (Below z w (wa.setCell ⟨z, i, none⟩ (.int .i64 cn))) := WA.out.setCell (Nat.le_refl _) _
    clear hd nb
    go_upto_region 10 with fail
    try rw [hwa]
    clear hwa
    go_wp2
    go_roundw
    case rel => exact ⟨m + 1, by omega, by go_num, SZ.out, WZ.out⟩
    case measure => simp [intOf]; omega
  obtain ⟨ps, hps⟩ : ∃ ps, Fe.puts (Fe.pl a N) ks = ps := ⟨_, rfl⟩
  have PS : Hid (Fe.applied a ks 6000 = Fe.col ps 0 [] ∧ ps.length = N) := ⟨by unfold Fe.applied; rw [← HN.out, hps], by rw [← hps, Fe.puts_len, Fe.pl_len]⟩
  have PB : Hid (∀ x ∈ ps, -1 ≤ x ∧ x ≤ 255) := by rw [← hps]; exact Fe.puts_bounds NB.out
  have BP : Hid (Bk wr z ps #[]) := by
    have := B1.out
    rw [hme, List.take_length, hps] at this
    exact this
  subst hme
  clear B1 hps
  go_wp2_with fail
  go_loopw [10, 41] (fun bv j W => ∃ (k : Nat) (b : List UInt8), k ≤ N ∧ j = .int .i64 (k : Nat) ∧ b.length ≤ k ∧ Fe.col ps 0 [] = Fe.col (ps.drop k) k b ∧ Ob W (z + 1) bv b ∧ Bk W z ps #[] ∧ Below z w W) (fun _ j _ => N - (intOf j).toNat)
  case atStart => exact ⟨0, [], Nat.zero_le _, rfl, Nat.le_refl _, rfl, Ob.nil _ _, BP.out, W2.out⟩
  case round =>
  obtain ⟨k, b, hk, rfl, hbl, hcol, hob, hbk, hB⟩ := hrel
  have CL : Hid (Fe.col ps 0 [] = Fe.col (ps.drop k) k b) := hcol
  have OB : Hid (Ob wr (z + 1) u10 b) := hob
  have B3 : Hid (Bk wr z ps #[]) := hbk
  have W3 : Hid (Below z w wr) := hB
  obtain ⟨bp, bc, rfl⟩ := hob.len
  clear hcol hob hbk hB BP
  by_cases hke : k = N
  case pos =>
    have hkn : ¬ (k : Int) < 6000 := by omega
    have CE : Hid (Fe.applied a ks 6000 = some b) := by
      unfold Hid
      rw [PS.out.1, CL.out, List.drop_eq_nil_of_le (by rw [PS.out.2]; omega)]
      rfl
    go_wp2
    go_ret2
    refine ⟨_, _, rfl, .inr ⟨b, CE.out, rfl, ?_⟩, by first | exact W3.out | (rw [HZ.out]; exact W3.out)⟩
    have o9 := Go.Joins.ownsRow_le OB.out (Nat.le_succ z)
    first | exact o9 | (rw [HZ.out]; exact o9)
  have hkl : k < N := by omega
  have hkl' : (k : Int) < 6000 := by omega
  obtain ⟨x, hx⟩ : ∃ x, ps[k]? = some x := ⟨_, List.getElem?_eq_getElem (by rw [PS.out.2]; exact hkl)⟩
  have DR : Hid (ps.drop k = x :: ps.drop (k + 1)) := by
    unfold Hid
    have hp : k < ps.length := by rw [PS.out.2]; exact hkl
    rw [List.drop_eq_getElem_cons hp]
    rw [List.getElem?_eq_getElem hp] at hx
    injection hx with hx
    rw [hx]
  have CX : Hid (Fe.col ps 0 [] = if x = -1 then Fe.col (ps.drop (k + 1)) (k + 1) b else if b.length < k then none else Fe.col (ps.drop (k + 1)) (k + 1) (b ++ [UInt8.ofNat x.toNat])) := by
    unfold Hid
    rw [CL.out, DR.out]
    rfl
  have xb := PB.out x (List.mem_of_getElem? hx)
  have cx := B3.out.cell hx
  clear hx
  by_cases hx1 : x = -1
  case pos =>
    have CN : Hid (Fe.col ps 0 [] = Fe.col (ps.drop (k + 1)) (k + 1) b) := by unfold Hid; rw [CX.out, if_pos hx1]
    subst hx1
    go_wp2
    go_roundw
    case rel => exact ⟨k + 1, b, by omega, by go_num, by omega, CN.out, OB.out, B3.out, W3.out⟩
    case measure => simp [intOf]; omega
  have hxb : (x == -1) = false := beq_eq_false_iff_ne.2 hx1
  by_cases hg : b.length < k
  case pos =>
    have hg' : (b.length : Int) < (k : Int) := by omega
    have CN : Hid (Fe.applied a ks 6000 = none) := by unfold Hid; rw [PS.out.1, CX.out, if_neg hx1, if_pos hg]
    go_wp2
    go_ret2
    exact ⟨_, _, rfl, .inl ⟨CN.out, rfl, rfl⟩, by first | exact W3.out | (rw [HZ.out]; exact W3.out)⟩
  have hg' : ¬ (b.length : Int) < (k : Int) := by omega
  have CN : Hid (Fe.col ps 0 [] = Fe.col (ps.drop (k + 1)) (k + 1) (b ++ [UInt8.ofNat x.toNat])) := by unfold Hid; rw [CX.out, if_neg hx1, if_neg hg]
  have xw : IntKind.u8.wrap x = x := by rw [IntKind.wrap_u8]; omega
  have XN : Hid (x = (((UInt8.ofNat x.toNat).toNat : Nat) : Int)) := by
    unfold Hid
    rw [UInt8.toNat_ofNat']
    omega
  have SW : Hid (z + 1 ≤ wr.heap.size) := B3.out.lt
  go_wp2_with (at_builtin; refine app_byte _ rfl _ _ rfl (z + 1) _ b rfl (OB.out.alloc _) ⟨wr.heap.size, 0, none⟩ (UInt8.ofNat x.toNat) rfl (by rw [← XN.out]; simp) (by omega) (by have := SW.out; simp; omega) ?_)
  intro g cap w5 o5 g5 l5
  have O5 : Hid (Ob w5 (z + 1) (.slice (some ⟨g, 0, none⟩) (b.length + 1) cap) (b ++ [UInt8.ofNat x.toNat])) := o5
  have hob : ∀ j, (Value.slice bp b.length bc).ownBlock = some j → z + 1 ≤ j := fun j hj => (OB.out.block j hj).1
  have B5 : Hid (Below (z + 1) wr w5) := ((Below.refl _ _).alloc SW.out _).grown g5 (by have := SW.out; simp; omega) hob
  have K5 : Hid (Bk w5 z ps #[]) := B3.out.low B5.out (by omega)
  have W5 : Hid (Below z w w5) := W3.out.trans (B5.out.mono (by omega))
  clear o5 g5 l5 hob
  go_wp2
  go_roundw
  case rel => exact ⟨k + 1, b ++ [UInt8.ofNat x.toNat], by omega, by go_num, by rw [List.length_append]; simp; omega, CN.out, O5.out, K5.out, W5.out⟩
  case measure => simp [intOf]; omega
end Go.Proofs.YtkejdkajfnaieaaGreatDoor

