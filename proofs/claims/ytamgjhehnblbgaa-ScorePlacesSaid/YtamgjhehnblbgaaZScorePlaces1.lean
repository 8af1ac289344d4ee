/- What stays where one block turns. (Big2 has the same words for texts of its own; where both are wanted, let Big2 import this.) · What a walk is told of a slice of integers that came in. · Lists of integers: what a slice holds. · A block of integers that may be written. · Lists of integers that the call itself makes, by append. · make([]int, N) for few. · An error that is told. · Numbers in bytes. Plain mathematics. · api.Unit: records in memory. · api.Job: records in memory. · Worlds in bytes. Plain mathematics. · Worlds in memory. · score.above, Rank, Winner. · A list of integers that is written out, of any length. · What a walk is told of a slice of integers that came in. · Lists of integers: a whole list behind another one. · Worlds: the numbers that are written, as mathematics; a world's slices. · What a walk is told of worlds and bytes that came in. · The walk of ScorePlaces, out of the contracts of what it calls. -/
import Derived.Test.YtamgjhehnblbgaaRows
import Derived.WalkKit
import Derived.WalkSpells
import Derived.WalkLawsBesides
import Derived.ProofKit
import Derived.Deep.QuietTactic
import Derived.BigQuiet
import Derived.OwnWalk
import Derived.Deep.AppendLies
import Derived.Laws.MakeOwn
import Derived.Deep.DeepCutAuto
import Derived.OpenShut
import Derived.Laws.AppendOwnNone
import Derived.Deep.SlicePairs
import Derived.ChangeArms
namespace Go.Proofs.Ytamgjhehnblbgaa
open Go.RowKit

/-- nothing below has turned but block z. -/
structure Kp (z : Nat) (w w' : World) : Prop where
  os : w'.os = w.os
  tape : w'.tape = w.tape
  output : w'.output = w.output
  size : w.heap.size ≤ w'.heap.size
  block : ∀ k, k < w.heap.size → k ≠ z → w'.heap[k]? = w.heap[k]?

theorem Kp.of {z : Nat} {w w' : World} (h : Below w.heap.size w w') : Kp z w w' := ⟨h.os, h.tape, h.output, h.size, fun k hk _ => h.block k hk⟩
theorem Kp.refl (z : Nat) (w : World) : Kp z w w := Kp.of (Below.refl _ _)
theorem Kp.trans {z : Nat} {a b c : World} (h : Kp z a b) (k : Kp z b c) : Kp z a c :=
  ⟨k.os.trans h.os, k.tape.trans h.tape, k.output.trans h.output, Nat.le_trans h.size k.size, fun i hi hz => (k.block i (Nat.lt_of_lt_of_le hi h.size) hz).trans (h.block i hi hz)⟩
theorem Kp.set {z : Nat} (w : World) (i : Nat) (u : Value) : Kp z w (w.setCell ⟨z, i, none⟩ u) :=
  ⟨rfl, rfl, rfl, by simp [World.setCell], fun k _ hz => Below.heap_setCell _ _ _ _ hz⟩
theorem Kp.below {z B : Nat} {a w w' : World} (h : Below B a w) (k : Kp z w w') (hB : B ≤ w.heap.size) (hz : B ≤ z) : Below B a w' :=
  h.trans ⟨k.os, k.tape, k.output, k.size, fun i hi => k.block i (by omega) (by omega)⟩

theorem Kp.set_new {z b : Nat} {w W : World} (h : Kp z w W) (hb : w.heap.size ≤ b) (i : Nat) (u : Value) : Kp z w (W.setCell ⟨b, i, none⟩ u) :=
  ⟨h.os, h.tape, h.output, by simpa [World.setCell] using h.size, fun k hk hz => (Below.heap_setCell _ _ _ _ (by show k ≠ b; omega)).trans (h.block k hk hz)⟩
theorem Kp.drewN {z : Nat} {w W : World} (h : Kp z w W) (n : Nat) : Kp z w (W.drewN n) := ⟨h.os, h.tape, h.output, h.size, h.block⟩

theorem lt_of_block {w : World} {b : Nat} {o : Obj} (h : w.heap[b]? = some o) : b < w.heap.size := by
  rcases Nat.lt_or_ge b w.heap.size with h1 | h1
  · exact h1
  · rw [Array.getElem?_eq_none h1] at h; cases h

end Go.Proofs.Ytamgjhehnblbgaa

namespace Go.Proofs.Ytamgjhehnblbgaa

/-- nil, or a row of cells: the numbers zs, of which the first len are the elements. -/
def IsRow (k : IntKind) (w : World) (a : Option Addr) (len cap : Nat) (zs : List Int) : Prop :=
  (a = none ∧ len = 0 ∧ cap = 0 ∧ zs = []) ∨
  ∃ x, a = some x ∧ len ≤ cap ∧ cap ≤ maxLen ∧ zs.length = cap ∧ (∀ i, i < zs.length → w.cell? (x.add i) = some (.int k (zs.getD i 0))) ∧ ∀ n ∈ zs, (Lit.int k n).wf = true
end Go.Proofs.Ytamgjhehnblbgaa

namespace Go.Proofs.Ytamgjhehnblbgaa
open Go.RowKit

/-- the cells of a list, from an address on. -/
def Cells (w : World) (a : Option Addr) (xs : List Int) : Prop := xs ≠ [] → ∃ x, a = some x ∧ x.block < w.heap.size ∧ ∀ i d, xs[i]? = some d → w.cell? (x.add i) = some (.int .i64 d)
/-- v is a slice of the integers xs. -/
def Ro (w : World) (v : Value) (xs : List Int) : Prop := ∃ (a : Option Addr) (c : Nat), v = .slice a xs.length c ∧ xs.length ≤ c ∧ c ≤ 9223372036854775807 ∧ Cells w a xs

theorem cell_lt {w : World} {x : Addr} {v : Value} (h : w.cell? x = some v) : x.block < w.heap.size := by
  rcases Nat.lt_or_ge x.block w.heap.size with h1 | h1
  · exact h1
  · simp [World.cell?, Array.getElem?_eq_none h1] at h

theorem add_block (x : Addr) (i : Nat) : (x.add i).block = x.block := by unfold Addr.add; split <;> rfl

theorem Cells.below {w w' : World} {a : Option Addr} {xs : List Int} (h : Cells w a xs) (hb : Below w.heap.size w w') : Cells w' a xs := fun hx => by
  obtain ⟨x, ha, hl, hc⟩ := h hx
  refine ⟨x, ha, Nat.lt_of_lt_of_le hl hb.size, fun i d hd => ?_⟩
  rw [hb.cell (p := x.add i) (by rw [add_block]; exact hl)]
  exact hc i d hd
theorem Ro.below {w w' : World} {v : Value} {xs : List Int} (h : Ro w v xs) (hb : Below w.heap.size w w') : Ro w' v xs := by
  obtain ⟨a, c, h1, h2, h3, h4⟩ := h
  exact ⟨a, c, h1, h2, h3, h4.below hb⟩
theorem Ro.drewN {w : World} {v : Value} {xs : List Int} (h : Ro w v xs) (n : Nat) : Ro (w.drewN n) v xs := h.below (_root_.Go.below_drewN (Below.refl _ _) n)

/-- what came in. -/
theorem IsRow.ro {w : World} {a : Option Addr} {len cap : Nat} {zs : List Int} (h : IsRow .i64 w a len cap zs) : Ro w (.slice a len cap) (zs.take len) := by
  rcases h with ⟨rfl, rfl, rfl, rfl⟩ | ⟨x, rfl, h1, h2, h3, h4, h5⟩
  · exact ⟨none, 0, rfl, Nat.le_refl _, by omega, fun h => absurd rfl h⟩
  · have hl : (zs.take len).length = len := by rw [List.length_take]; omega
    refine ⟨some x, cap, by rw [hl], by omega, by unfold maxLen at h2; omega, fun hx => ⟨x, rfl, ?_, fun i d hd => ?_⟩⟩
    · have h0 : 0 < zs.length := by
        rcases Nat.eq_zero_or_pos zs.length with h | h
        · exact absurd (by rw [List.length_eq_zero_iff.1 h]; simp) hx
        · exact h
      have := cell_lt (x := x.add 0) (h4 0 h0)
      rwa [add_block] at this
    · rw [List.getElem?_take] at hd
      split at hd
      · obtain ⟨hi, he⟩ := List.getElem?_eq_some_iff.1 hd
        rw [h4 i hi, List.getD_eq_getElem?_getD, hd]
        rfl
      · cases hd
end Go.Proofs.Ytamgjhehnblbgaa

namespace Go.Proofs.Ytamgjhehnblbgaa
open Go.RowKit

def intCells (ds : List Int) : List Value := ds.map fun d => .int .i64 d

/-- block b holds the integers ds, and some cells behind. -/
def Bk (w : World) (b : Nat) (ds : List Int) (r : Array Value) : Prop := w.heap[b]? = some (.cells ((intCells ds).toArray ++ r) 3 (0, 0))

theorem Bk.cell {w : World} {b : Nat} {ds : List Int} {r : Array Value} (h : Bk w b ds r) {i : Nat} {d : Int} (hd : ds[i]? = some d) : w.cell? ⟨b, i, none⟩ = some (.int .i64 d) := by
  have hi : i < ds.length := (List.getElem?_eq_some_iff.1 hd).1
  unfold Bk at h
  simp only [World.cell?, h]
  simp [intCells, Array.getElem?_append, hi]
  exact (List.getElem?_eq_some_iff.1 hd).2
theorem Bk.thaw {w : World} {b : Nat} {ds : List Int} {r : Array Value} (h : Bk w b ds r) (i : Nat) : w.frozen? ⟨b, i, none⟩ = false := by
  unfold Bk at h
  simp [World.frozen?, h]
theorem Bk.set {w : World} {b : Nat} {ds : List Int} {r : Array Value} (h : Bk w b ds r) (i : Nat) (d : Int) (hi : i < ds.length) : Bk (w.setCell ⟨b, i, none⟩ (.int .i64 d)) b (ds.set i d) r := by
  unfold Bk at *
  rw [heap_setCell_same w b i _ _ _ h]
  have e : (intCells (ds.set i d)).toArray = (intCells ds).toArray.setIfInBounds i (.int .i64 d) := by
    simp [intCells, List.map_set]
  rw [e]
  have hl : i < (intCells ds).toArray.size := by simpa [intCells] using hi
  rw [Array.setIfInBounds_append_left hl]
theorem Bk.drewN {w : World} {b : Nat} {ds : List Int} {r : Array Value} (h : Bk w b ds r) (n : Nat) : Bk (w.drewN n) b ds r := h
theorem Bk.kp {w w' : World} {b z : Nat} {ds : List Int} {r : Array Value} (h : Bk w b ds r) (hk : Kp z w w') (hne : b ≠ z) : Bk w' b ds r := by
  unfold Bk at *
  rw [hk.block b (lt_of_block h) hne]; exact h
theorem Bk.below {w w' : World} {b : Nat} {ds : List Int} {r : Array Value} (h : Bk w b ds r) (hb : Below w.heap.size w w') : Bk w' b ds r := by
  unfold Bk at *
  rw [hb.block b (lt_of_block h)]; exact h
theorem Bk.lt {w : World} {b : Nat} {ds : List Int} {r : Array Value} (h : Bk w b ds r) : b < w.heap.size := lt_of_block h
theorem Bk.ro {w : World} {b c : Nat} {ds : List Int} {r : Array Value} (h : Bk w b ds r) (h1 : ds.length ≤ c) (h2 : c ≤ 9223372036854775807) : Ro w (.slice (some ⟨b, 0, none⟩) ds.length c) ds :=
  ⟨_, c, rfl, h1, h2, fun _ => ⟨_, rfl, h.lt, fun i d hd => by rw [Addr.add_lit, Nat.zero_add]; exact h.cell hd⟩⟩
/-- another cell, another block. -/
theorem Bk.other {w : World} {b : Nat} {ds : List Int} {r : Array Value} (h : Bk w b ds r) {g : Nat} (hne : b ≠ g) (i : Nat) (u : Value) : Bk (w.setCell ⟨g, i, none⟩ u) b ds r := by
  unfold Bk at *
  rw [Below.heap_setCell _ _ _ _ hne]; exact h
theorem Bk.low {w w' : World} {b B : Nat} {ds : List Int} {r : Array Value} (h : Bk w b ds r) (hb : Below B w w') (hB : b < B) : Bk w' b ds r := by
  unfold Bk at *
  rw [hb.block b hB]; exact h
end Go.Proofs.Ytamgjhehnblbgaa

namespace Go.Proofs.Ytamgjhehnblbgaa
open Go.RowKit
set_option linter.unusedVariables false

theorem info_int : (Try.prog.info? 3).map (fun i => (i.zero, i.size, i.bytes)) = some (some (.int .i64 0), 1, 8) := by kernel_rfl

/-- v is a slice of the integers xs, in a block of its own from base on. -/
def Ow (w : World) (base : Nat) (v : Value) (xs : List Int) : Prop := w.ownsRow base 3 1 v xs.length (xs.map (Value.int .i64))
theorem Ow.nil (w : World) (base : Nat) : Ow w base (.slice none 0 0) [] := World.ownsRow_nil _ _ _ _
theorem Ow.ro {w : World} {base : Nat} {v : Value} {xs : List Int} (h : Ow w base v xs) : Ro w v xs := by
  rcases h.2 with ⟨hv, h0⟩ | ⟨g, cap, cur, hv, hb, hg, h1, h2, h3, h4⟩
  · obtain rfl := List.length_eq_zero_iff.1 h0
    exact ⟨none, 0, hv, Nat.le_refl _, by omega, fun h => absurd rfl h⟩
  · refine ⟨_, cap, hv, h1, by unfold maxLen at h2; omega, fun _ => ⟨_, rfl, lt_of_block hg, fun i d hd => ?_⟩⟩
    have hi : i < xs.length := (List.getElem?_eq_some_iff.1 hd).1
    rw [Addr.add_lit, Nat.zero_add]
    have h5 : w.ownsRow base 3 1 (.slice (some ⟨g, 0, none⟩) xs.length cap) xs.length (xs.map (Value.int .i64)) := by rw [← hv]; exact h
    rw [h5.cellAt i (by omega), List.getElem?_map, hd]
    rfl
theorem Ow.kept {w w' : World} {base : Nat} {v : Value} {xs : List Int} {row : Option Nat} (h : Ow w base v xs) (hg : w.grownBy w' row) (hne : v.ownBlock = none ∨ v.ownBlock ≠ row) : Ow w' base v xs := World.ownsRow.kept h hg hne
theorem Ow.alloc {w : World} {base : Nat} {v : Value} {xs : List Int} (h : Ow w base v xs) (o : Obj) : Ow (w.alloc o) base v xs := World.ownsRow.alloc h o
theorem Ow.drewN {w : World} {base : Nat} {v : Value} {xs : List Int} (h : Ow w base v xs) (n : Nat) : Ow (w.drewN n) base v xs := h
theorem Ow.block {w : World} {base : Nat} {v : Value} {xs : List Int} (h : Ow w base v xs) : ∀ k, v.ownBlock = some k → base ≤ k ∧ k < w.heap.size := World.ownsRow.lt h
theorem Ow.below {w w' : World} {base : Nat} {v : Value} {xs : List Int} (h : Ow w base v xs) (hb : Below w.heap.size w w') : Ow w' base v xs :=
  h.kept (row := none) ⟨hb.os, hb.tape, hb.output, hb.size, fun k hk _ => hb.block k hk⟩ (by cases v.ownBlock <;> simp)
theorem Ow.mono {w : World} {base base' : Nat} {v : Value} {xs : List Int} (h : Ow w base v xs) (hb : base' ≤ base) : Ow w base' v xs := by
  refine ⟨h.1, ?_⟩
  rcases h.2 with h1 | ⟨g, cap, cur, h1, h2, h3⟩
  · exact .inl h1
  · exact .inr ⟨g, cap, cur, h1, Nat.le_trans hb h2, h3⟩
theorem Ow.len {w : World} {base : Nat} {v : Value} {xs : List Int} (h : Ow w base v xs) : ∃ a c, v = .slice a xs.length c := by
  obtain ⟨a, c, h1, -⟩ := h.ro
  exact ⟨a, c, h1⟩

/-- one more. -/
theorem app_int {ops : Array Oper} {rest : List Oper} {o : Oper} {a : Act} {Q : Exit → Act → World → Prop} (w : World) (hgd : o.guard = none) (s x : Operand)
    (ho : o.op = .call { callee := .builtin .append, args := #[s, x], argTypes := #[27, 27] }) (base : Nat) (v : Value) (xs : List Int) (hs : a.eval s = v) (hown : Ow w base v xs)
    (ad : Addr) (d : Int) (hx : a.eval x = .slice (some ad) 1 1) (hd : w.cell? ad = some (.int .i64 d)) (hl : xs.length ≤ 1000000000) (hbase : base ≤ w.heap.size)
    (h : ∀ g cap w', Ow w' base (.slice (some ⟨g, 0, none⟩) (xs.length + 1) cap) (xs ++ [d]) → w.grownBy w' v.ownBlock → (v.ownBlock = some g ∨ g = w.heap.size) → g < w'.heap.size → wpList Try.prog ops Q rest (a.put o.dst (.slice (some ⟨g, 0, none⟩) (xs.length + 1) cap)) w') :
    wpList Try.prog ops Q (o :: rest) a w := by
  obtain ⟨i0, hi, hz0, hz1, hz2⟩ := info_parts info_int
  refine wpList_append_lies w hgd s x 27 ho base 3 i0 (.int .i64 0) 1 8 Try.underlying27 hi hz0 hz1 hz2 rfl (by decide) v xs.length _ hs hown ad 1 1 [.int .i64 d] hx rfl ?_ ?_ (by decide) (by unfold maxLen; omega) (by omega) hbase _ rfl ?_
  · intro j u hj
    match j, hj with
    | 0, hj => simp at hj; subst hj; exact hd
  · intro u hu
    simp at hu
    subst hu
    rfl
  · intro g cap w' h1 h2 h3 h4
    refine h g cap w' ?_ h2 h3 h4
    unfold Ow
    rw [List.length_append, List.map_append]
    exact h1

/-- a list of one. -/
theorem Ow.one {w : World} {base z : Nat} (d : Int) (hb : base ≤ w.heap.size) (hz : w.heap.size = z) : Ow (w.alloc (.cells #[.int .i64 d] 3)) base (.slice (some ⟨z, 0, none⟩) 1 1) [d] := by
  subst hz
  exact ⟨rfl, .inr ⟨_, _, _, rfl, hb, heap_alloc_new w _, Nat.le_refl _, by unfold maxLen; decide, rfl, rfl⟩⟩
end Go.Proofs.Ytamgjhehnblbgaa

namespace Go.Proofs.Ytamgjhehnblbgaa
open Go.RowKit
set_option linter.unusedVariables false

theorem made_ints (n : Nat) : madeCells #[Value.int .i64 0] n = (intCells (List.replicate n 0)).toArray := by
  apply Array.ext_getElem?
  intro i
  unfold madeCells intCells
  by_cases h : i < n
  · simp [h, Nat.mod_one]
  · simp [h]
theorem makeI (n : Nat) (w : World) (h : n ≤ 1000000) : ∃ w', (Instr.makeSlice 27 (.int .i64 (n : Nat)) (.int .i64 (n : Nat))).run Try.prog w = .ok (.slice (some ⟨w.heap.size, 0, none⟩) n n) w' ∧ Bk w' w.heap.size (List.replicate n 0) #[] ∧ Below w.heap.size w w' ∧ w'.heap.size = w.heap.size + 1 := by
  obtain ⟨i0, hi, hz0, hz1, hz2⟩ := info_parts info_int
  have hr := run_make (P := Try.prog) w 27 3 i0 (.int .i64 0) Try.underlying27 hi hz0 .i64 .i64 (n : Nat) (n : Nat) (by omega) (Int.le_refl _) (by rw [hz2]; omega) (by omega)
  refine ⟨_, hr, ?_, (Below.refl _ _).alloc (Nat.le_refl _) _, by simp⟩
  unfold Bk
  rw [hz1, Int.toNat_natCast, Nat.mul_one, heap_alloc_new]
  have e : (Value.int .i64 0).cells = #[Value.int .i64 0] := rfl
  rw [e, made_ints, Array.append_empty]
end Go.Proofs.Ytamgjhehnblbgaa

namespace Go.Proofs.Ytamgjhehnblbgaa

/-- v tells the fault n. -/
def Er (v : Value) (n : Int) : Prop := (n = 0 ∧ v = .nilIface) ∨ (n ≠ 0 ∧ v = .iface 42 (.int .i64 n))
theorem Er.nil : Er .nilIface 0 := .inl ⟨rfl, rfl⟩
theorem Er.no {n : Int} (h : n ≠ 0) : Er (.iface 42 (.int .i64 n)) n := .inr ⟨h, rfl⟩
end Go.Proofs.Ytamgjhehnblbgaa

namespace Go.Proofs.Ytamgjhehnblbgaa
set_option linter.unusedVariables false
namespace Wd

/-- numbers below 0 between the others. -/
def zz (n : Int) : Nat := if n < 0 then ((-(n + 1)).toNat) * 2 + 1 else n.toNat * 2
def unz (x : Nat) : Int := if x % 2 = 1 then -((x / 2 : Nat) : Int) - 1 else ((x / 2 : Nat) : Int)
theorem unz_zz (n : Int) : unz (zz n) = n := by
  unfold unz zz
  by_cases h : n < 0
  · rw [if_pos h, if_pos (by omega)]; omega
  · rw [if_neg h, if_neg (by omega)]; omega
theorem zz_unz (x : Nat) : zz (unz x) = x := by
  unfold unz zz
  by_cases h : x % 2 = 1
  · rw [if_pos h, if_pos (by omega)]; omega
  · rw [if_neg h, if_neg (by omega)]; omega
def In64 (n : Int) : Prop := -9223372036854775808 ≤ n ∧ n ≤ 9223372036854775807
theorem zz_lt {n : Int} (h : In64 n) : zz n < 18446744073709551616 := by
  unfold In64 at h
  unfold zz
  split <;> omega
theorem unz_in {x : Nat} (h : x < 18446744073709551616) : In64 (unz x) := by
  unfold In64 unz
  split <;> omega

/-- seven bits a byte. -/
def vl (x : Nat) : List UInt8 := if h : x < 128 then [UInt8.ofNat x] else UInt8.ofNat (x % 128 + 128) :: vl (x / 128)
termination_by x
theorem vl_small {x : Nat} (h : x < 128) : vl x = [UInt8.ofNat x] := by rw [vl, dif_pos h]
theorem vl_great {x : Nat} (h : 128 ≤ x) : vl x = UInt8.ofNat (x % 128 + 128) :: vl (x / 128) := by rw [vl, dif_neg (by omega)]
def num (n : Int) : List UInt8 := vl (zz n)
/-- the number that bytes go on with: i bytes are read, they come to x. -/
def rd (i x : Nat) : List UInt8 → Option (Nat × Nat)
  | [] => none
  | c :: t => if i = 9 ∧ 1 < c.toNat then none else if 128 ≤ c.toNat then rd (i + 1) (x + c.toNat % 128 * 128 ^ i) t else if c.toNat = 0 ∧ 0 < i then none else some (x + c.toNat * 128 ^ i, i + 1)

theorem pow_le9 {i : Nat} (h : i ≤ 9) : 128 ^ i ≤ 128 ^ 9 := Nat.pow_le_pow_right (by decide) h
theorem pow9 : (128 : Nat) ^ 9 = 9223372036854775808 := by decide
theorem rd_le : ∀ (l : List UInt8) (i x y n : Nat), i ≤ 9 → x < 128 ^ i → rd i x l = some (y, n) → i < n ∧ n ≤ i + l.length ∧ n ≤ 10 ∧ y < 18446744073709551616
  | [], i, x, y, n, hi, hx, h => by simp [rd] at h
  | c :: t, i, x, y, n, hi, hx, h => by
    have hc : c.toNat < 256 := c.toNat_lt
    have hs : 128 ^ (i + 1) = 128 ^ i * 128 := Nat.pow_succ ..
    unfold rd at h
    split at h
    · cases h
    · rename_i h9
      split at h
      · rename_i hm
        have : i ≠ 9 := fun e => h9 ⟨e, by omega⟩
        have hm2 : c.toNat % 128 * 128 ^ i ≤ 127 * 128 ^ i := Nat.mul_le_mul_right _ (by omega)
        obtain ⟨h1, h2, h3, h4⟩ := rd_le t (i + 1) _ y n (by omega) (by omega) h
        simp only [List.length_cons]
        exact ⟨by omega, by omega, h3, h4⟩
      · split at h
        · cases h
        · injection h with h
          injection h with h1 h2
          subst h1 h2
          refine ⟨by omega, by simp only [List.length_cons]; omega, by omega, ?_⟩
          by_cases e : i = 9
          · subst e
            have : c.toNat ≤ 1 := by
              rcases Nat.lt_or_ge 1 c.toNat with h | h
              · exact absurd ⟨rfl, h⟩ h9
              · exact h
            have : c.toNat * 128 ^ 9 ≤ 1 * 128 ^ 9 := Nat.mul_le_mul_right _ this
            rw [pow9] at this hx ⊢
            omega
          · have h8 : 128 ^ i ≤ 128 ^ 8 := Nat.pow_le_pow_right (by decide) (by omega)
            have h82 : (128 : Nat) ^ 8 = 72057594037927936 := by decide
            have : c.toNat * 128 ^ i ≤ 127 * 128 ^ i := Nat.mul_le_mul_right _ (by omega)
            omega
theorem rd_vl : ∀ (f x i a : Nat) (t : List UInt8), x ≤ f → i ≤ 9 → x * 128 ^ i < 18446744073709551616 → (i = 0 ∨ 0 < x) → rd i a (vl x ++ t) = some (a + x * 128 ^ i, i + (vl x).length)
  | f, x, i, a, t, hf, hi, hx, hz => by
    by_cases h : x < 128
    · have e : (UInt8.ofNat x).toNat = x := by rw [UInt8.toNat_ofNat']; omega
      rw [vl_small h]
      show rd i a (UInt8.ofNat x :: t) = _
      unfold rd
      rw [e, if_neg, if_neg (by omega), if_neg (by omega)]
      · rfl
      · rintro ⟨e9, h1⟩
        subst e9
        have : 2 * 128 ^ 9 ≤ x * 128 ^ 9 := Nat.mul_le_mul_right _ h1
        rw [pow9] at this hx
        omega
    · have e : (UInt8.ofNat (x % 128 + 128)).toNat = x % 128 + 128 := by rw [UInt8.toNat_ofNat']; omega
      have hs : 128 ^ (i + 1) = 128 ^ i * 128 := Nat.pow_succ ..
      have i9 : i ≠ 9 := fun e9 => by
        subst e9
        have : 128 * 128 ^ 9 ≤ x * 128 ^ 9 := Nat.mul_le_mul_right _ (by omega)
        rw [pow9] at this hx
        omega
      rw [vl_great (by omega)]
      show rd i a (UInt8.ofNat (x % 128 + 128) :: (vl (x / 128) ++ t)) = _
      unfold rd
      have hsum : x = x / 128 * 128 + x % 128 := by omega
      have hmul : x * 128 ^ i = x / 128 * 128 ^ (i + 1) + x % 128 * 128 ^ i := by
        conv => lhs; rw [hsum]
        rw [Nat.add_mul, hs, Nat.mul_comm (128 ^ i) 128, Nat.mul_assoc]
      rw [e, if_neg (fun h => i9 h.1), if_pos (by omega)]
      match f, hf with
      | 0, hf => omega
      | f + 1, hf =>
        rw [rd_vl f (x / 128) (i + 1) _ t (by omega) (by omega) (by omega) (.inr (by omega))]
        simp only [List.length_cons]
        have e3 : (x % 128 + 128) % 128 = x % 128 := by omega
        rw [e3, hmul]
        congr 2
        · omega
        · omega
termination_by f => f
theorem rd_back : ∀ (l : List UInt8) (i a y n : Nat), i ≤ 9 → rd i a l = some (y, n) → ∃ x t, y = a + x * 128 ^ i ∧ l = vl x ++ t ∧ n = i + (vl x).length ∧ (i = 0 ∨ 0 < x)
  | [], i, a, y, n, hi, h => by simp [rd] at h
  | c :: t, i, a, y, n, hi, h => by
    have hc : c.toNat < 256 := c.toNat_lt
    have hs : 128 ^ (i + 1) = 128 ^ i * 128 := Nat.pow_succ ..
    unfold rd at h
    split at h
    · cases h
    · rename_i h9
      split at h
      · rename_i hm
        have i9 : i ≠ 9 := fun e => h9 ⟨e, by omega⟩
        obtain ⟨x, t', h1, h2, h3, h4⟩ := rd_back t (i + 1) _ y n (by omega) h
        have x0 : 0 < x := by omega
        have e1 : (x * 128 + c.toNat % 128) % 128 + 128 = c.toNat := by omega
        have e2 : (x * 128 + c.toNat % 128) / 128 = x := by omega
        have ev : vl (x * 128 + c.toNat % 128) = c :: vl x := by
          rw [vl_great (by omega), e1, e2, UInt8.ofNat_toNat]
        refine ⟨x * 128 + c.toNat % 128, t', ?_, ?_, ?_, .inr (by omega)⟩
        · rw [h1, hs, Nat.add_mul, Nat.mul_comm (128 ^ i) 128, ← Nat.mul_assoc]; omega
        · rw [ev, h2]; rfl
        · rw [ev, h3]; simp only [List.length_cons]; omega
      · rename_i hm
        split at h
        · cases h
        · rename_i hz
          injection h with h
          injection h with h1 h2
          have ev : vl c.toNat = [c] := by rw [vl_small (by omega), UInt8.ofNat_toNat]
          refine ⟨c.toNat, t, h1.symm, by rw [ev]; rfl, by rw [ev, ← h2]; rfl, ?_⟩
          omega

/-- the number that stands at a place, and the place behind it. -/
def pnum (b : List UInt8) (a : Nat) : Option (Int × Nat) := match rd 0 0 (b.drop a) with
  | none => none
  | some (x, n) => some (unz x, a + n)
theorem pnum_le {b : List UInt8} {a : Nat} {v : Int} {a' : Nat} (h : pnum b a = some (v, a')) : a < a' ∧ a' ≤ b.length ∧ a' ≤ a + 10 ∧ In64 v := by
  unfold pnum at h
  split at h
  · cases h
  · rename_i x n hr
    injection h with h
    injection h with h1 h2
    obtain ⟨e1, e2, e3, e4⟩ := rd_le _ 0 0 x n (by omega) (by simp) hr
    rw [List.length_drop] at e2
    refine ⟨by omega, by omega, by omega, by rw [← h1]; exact unz_in e4⟩
theorem pnum_num {b : List UInt8} {a : Nat} {n : Int} {t : List UInt8} (h : In64 n) (hb : b.drop a = num n ++ t) : pnum b a = some (n, a + (num n).length) := by
  unfold pnum
  rw [hb]
  unfold num
  rw [rd_vl _ (zz n) 0 0 t (Nat.le_refl _) (by omega) (by simpa using zz_lt h) (.inl rfl)]
  simp [unz_zz]
theorem pnum_back {b : List UInt8} {a : Nat} {v : Int} {a' : Nat} (h : pnum b a = some (v, a')) : b.drop a = num v ++ b.drop a' ∧ a' = a + (num v).length := by
  unfold pnum at h
  split at h
  · cases h
  · rename_i x n hr
    injection h with h
    injection h with h1 h2
    obtain ⟨x', t, e1, e2, e3, -⟩ := rd_back _ 0 0 x n (by omega) hr
    have ex : x = x' := by omega
    subst ex
    have en : num v = vl x := by unfold num; rw [← h1, zz_unz]
    have el : a' = a + (num v).length := by rw [en]; omega
    refine ⟨?_, el⟩
    rw [en, el, ← List.drop_drop, e2, en, List.drop_left]

/-- readers, one behind the other. -/
abbrev Pr (α : Type) := Nat → Option (α × Nat)
def prep {α : Type} (p : Pr α) : Nat → Pr (List α)
  | 0, a => some ([], a)
  | n + 1, a => match p a with
    | none => none
    | some (v, a') => match prep p n a' with
      | none => none
      | some (l, a'') => some (v :: l, a'')
theorem prep_snoc {α : Type} (p : Pr α) : ∀ (n a : Nat), prep p (n + 1) a = match prep p n a with
    | none => none
    | some (l, a') => match p a' with
      | none => none
      | some (v, a'') => some (l ++ [v], a'')
  | 0, a => by
    simp only [prep]
    cases p a with
    | none => rfl
    | some x => rfl
  | n + 1, a => by
    rw [prep]
    rw [show prep p (n + 1) a = (match p a with | none => none | some (v, a') => match prep p n a' with | none => none | some (l, a'') => some (v :: l, a'')) from rfl]
    cases p a with
    | none => rfl
    | some x =>
      obtain ⟨v, a'⟩ := x
      simp only
      rw [prep_snoc p n a']
      cases prep p n a' with
      | none => rfl
      | some y =>
        obtain ⟨l, a''⟩ := y
        simp only
        cases p a'' with
        | none => rfl
        | some z => rfl
theorem prep_len {α : Type} {p : Pr α} : ∀ {n a : Nat} {l : List α} {a' : Nat}, prep p n a = some (l, a') → l.length = n
  | 0, a, l, a', h => by simp [prep] at h; rw [h.1]; rfl
  | n + 1, a, l, a', h => by
    rw [prep] at h
    split at h
    · cases h
    · split at h
      · cases h
      · rename_i hh
        injection h with h
        injection h with h1 h2
        rw [← h1, List.length_cons, prep_len hh]
def pmany (b : List UInt8) (a : Nat) : Option (Nat × Nat) := match pnum b a with
  | none => none
  | some (n, a') => if 0 ≤ n ∧ n ≤ 200 then some (n.toNat, a') else none
def pbind {α β : Type} (p : Pr α) (f : α → Pr β) : Pr β := fun a => match p a with
  | none => none
  | some (v, a') => f v a'
def plist {α : Type} (b : List UInt8) (p : Pr α) : Pr (List α) := pbind (pmany b) (fun n => prep p n)
def pret {α : Type} (v : α) : Pr α := fun a => some (v, a)
end Wd
end Go.Proofs.Ytamgjhehnblbgaa

namespace Go.Proofs.Ytamgjhehnblbgaa
open Go.RowKit
set_option linter.unusedVariables false

structure UnV where
  id : Int
  player : Int
  kind : Int
  at_ : Int
  life : Int
  load : Int
  task : Int
  goal : Int
def UnV.val (k : UnV) : Value := .agg #[.int .i64 k.id, .int .i64 k.player, .int .i64 k.kind, .int .i64 k.at_, .int .i64 k.life, .int .i64 k.load, .int .i64 k.task, .int .i64 k.goal]
/-- its cells, from an address on. -/
structure Unc (w : World) (y : Addr) (k : UnV) : Prop where
  c0 : w.cell? y = some (.int .i64 k.id)
  c1 : w.cell? ⟨y.block, y.off + 1, none⟩ = some (.int .i64 k.player)
  c2 : w.cell? ⟨y.block, y.off + 2, none⟩ = some (.int .i64 k.kind)
  c3 : w.cell? ⟨y.block, y.off + 3, none⟩ = some (.int .i64 k.at_)
  c4 : w.cell? ⟨y.block, y.off + 4, none⟩ = some (.int .i64 k.life)
  c5 : w.cell? ⟨y.block, y.off + 5, none⟩ = some (.int .i64 k.load)
  c6 : w.cell? ⟨y.block, y.off + 6, none⟩ = some (.int .i64 k.task)
  c7 : w.cell? ⟨y.block, y.off + 7, none⟩ = some (.int .i64 k.goal)
theorem Unc.lt {w : World} {y : Addr} {k : UnV} (h : Unc w y k) : y.block < w.heap.size := cell_lt h.c0
theorem Unc.below {w w' : World} {y : Addr} {k : UnV} {B : Nat} (h : Unc w y k) (hb : Below B w w') (hy : y.block < B) : Unc w' y k :=
  ⟨by rw [hb.cell (p := y) hy]; exact h.c0, by rw [hb.cell (p := ⟨y.block, y.off + 1, none⟩) hy]; exact h.c1, by rw [hb.cell (p := ⟨y.block, y.off + 2, none⟩) hy]; exact h.c2, by rw [hb.cell (p := ⟨y.block, y.off + 3, none⟩) hy]; exact h.c3, by rw [hb.cell (p := ⟨y.block, y.off + 4, none⟩) hy]; exact h.c4, by rw [hb.cell (p := ⟨y.block, y.off + 5, none⟩) hy]; exact h.c5, by rw [hb.cell (p := ⟨y.block, y.off + 6, none⟩) hy]; exact h.c6, by rw [hb.cell (p := ⟨y.block, y.off + 7, none⟩) hy]; exact h.c7⟩
/-- v is a slice of them. -/
def Unl (w : World) (v : Value) (ks : List UnV) : Prop := ∃ a c, v = .slice a ks.length c ∧ ks.length ≤ c ∧ c ≤ 9223372036854775807 ∧ (ks ≠ [] → ∃ x, a = some x ∧ x.block < w.heap.size ∧ ∀ (i : Nat) k, ks[i]? = some k → Unc w (x.add (i * 8)) k)
theorem Unl.below {w w' : World} {v : Value} {ks : List UnV} (h : Unl w v ks) (hb : Below w.heap.size w w') : Unl w' v ks := by
  obtain ⟨a, c, h1, h2, h3, h4⟩ := h
  refine ⟨a, c, h1, h2, h3, fun hn => ?_⟩
  obtain ⟨x, e, hx, hk⟩ := h4 hn
  exact ⟨x, e, Nat.lt_of_lt_of_le hx hb.size, fun i k hi => (hk i k hi).below hb (by rw [add_block]; exact hx)⟩
theorem Unc.mk' {w : World} {z : Nat} (k : UnV) (hz : w.heap.size = z) : Unc (w.alloc (.cells #[.int .i64 k.id, .int .i64 k.player, .int .i64 k.kind, .int .i64 k.at_, .int .i64 k.life, .int .i64 k.load, .int .i64 k.task, .int .i64 k.goal] 39)) ⟨z, 0, none⟩ k := by
  subst hz
  constructor <;> simp
end Go.Proofs.Ytamgjhehnblbgaa

namespace Go.Proofs.Ytamgjhehnblbgaa
open Go.RowKit
set_option linter.unusedVariables false

structure JbV where
  player : Int
  unit : Int
  kind : Int
  left : Int
def JbV.val (k : JbV) : Value := .agg #[.int .i64 k.player, .int .i64 k.unit, .int .i64 k.kind, .int .i64 k.left]
/-- its cells, from an address on. -/
structure Jbc (w : World) (y : Addr) (k : JbV) : Prop where
  c0 : w.cell? y = some (.int .i64 k.player)
  c1 : w.cell? ⟨y.block, y.off + 1, none⟩ = some (.int .i64 k.unit)
  c2 : w.cell? ⟨y.block, y.off + 2, none⟩ = some (.int .i64 k.kind)
  c3 : w.cell? ⟨y.block, y.off + 3, none⟩ = some (.int .i64 k.left)
theorem Jbc.lt {w : World} {y : Addr} {k : JbV} (h : Jbc w y k) : y.block < w.heap.size := cell_lt h.c0
theorem Jbc.below {w w' : World} {y : Addr} {k : JbV} {B : Nat} (h : Jbc w y k) (hb : Below B w w') (hy : y.block < B) : Jbc w' y k :=
  ⟨by rw [hb.cell (p := y) hy]; exact h.c0, by rw [hb.cell (p := ⟨y.block, y.off + 1, none⟩) hy]; exact h.c1, by rw [hb.cell (p := ⟨y.block, y.off + 2, none⟩) hy]; exact h.c2, by rw [hb.cell (p := ⟨y.block, y.off + 3, none⟩) hy]; exact h.c3⟩
/-- v is a slice of them. -/
def Jbl (w : World) (v : Value) (ks : List JbV) : Prop := ∃ a c, v = .slice a ks.length c ∧ ks.length ≤ c ∧ c ≤ 9223372036854775807 ∧ (ks ≠ [] → ∃ x, a = some x ∧ x.block < w.heap.size ∧ ∀ (i : Nat) k, ks[i]? = some k → Jbc w (x.add (i * 4)) k)
theorem Jbl.below {w w' : World} {v : Value} {ks : List JbV} (h : Jbl w v ks) (hb : Below w.heap.size w w') : Jbl w' v ks := by
  obtain ⟨a, c, h1, h2, h3, h4⟩ := h
  refine ⟨a, c, h1, h2, h3, fun hn => ?_⟩
  obtain ⟨x, e, hx, hk⟩ := h4 hn
  exact ⟨x, e, Nat.lt_of_lt_of_le hx hb.size, fun i k hi => (hk i k hi).below hb (by rw [add_block]; exact hx)⟩
theorem Jbc.mk' {w : World} {z : Nat} (k : JbV) (hz : w.heap.size = z) : Jbc (w.alloc (.cells #[.int .i64 k.player, .int .i64 k.unit, .int .i64 k.kind, .int .i64 k.left] 62)) ⟨z, 0, none⟩ k := by
  subst hz
  constructor <;> simp
end Go.Proofs.Ytamgjhehnblbgaa

namespace Go.Proofs.Ytamgjhehnblbgaa
set_option linter.unusedVariables false

structure WV where
  turn : Int
  next : Int
  wide : Int
  high : Int
  gs : List Int
  os : List Int
  gold : List Int
  us : List UnV
  qs : List JbV
namespace Wd

/-- what a reader that goes on where something is wrong has read: f: something was wrong. -/
def Rd {α : Type} (p : Pr α) (a : Nat) (f : Bool) (v : α) (a' : Nat) (f' : Bool) : Prop := (f = true → f' = true) ∧ (f = false → (p a = some (v, a') ∧ f' = false) ∨ (p a = none ∧ f' = true))
theorem Rd.ret {α : Type} (v : α) (a : Nat) (f : Bool) : Rd (pret v) a f v a f := ⟨fun h => h, fun h => .inl ⟨rfl, h⟩⟩
theorem Rd.bind {α β : Type} {p : Pr α} {q : α → Pr β} {a : Nat} {f : Bool} {v : α} {a' : Nat} {f' : Bool} {u : β} {a'' : Nat} {f'' : Bool} (h1 : Rd p a f v a' f') (h2 : Rd (q v) a' f' u a'' f'') : Rd (pbind p q) a f u a'' f'' := by
  refine ⟨fun h => h2.1 (h1.1 h), fun h => ?_⟩
  rcases h1.2 h with ⟨e1, e2⟩ | ⟨e1, e2⟩
  · unfold pbind
    rw [e1]
    exact h2.2 e2
  · refine .inr ⟨?_, h2.1 e2⟩
    unfold pbind
    rw [e1]
theorem Rd.snoc {α : Type} {p : Pr α} {n a : Nat} {f : Bool} {l : List α} {a' : Nat} {f' : Bool} {v : α} {a'' : Nat} {f'' : Bool} (h1 : Rd (prep p n) a f l a' f') (h2 : Rd p a' f' v a'' f'') : Rd (prep p (n + 1)) a f (l ++ [v]) a'' f'' := by
  refine ⟨fun h => h2.1 (h1.1 h), fun h => ?_⟩
  rw [prep_snoc]
  rcases h1.2 h with ⟨e1, e2⟩ | ⟨e1, e2⟩
  · rw [e1]
    rcases h2.2 e2 with ⟨e3, e4⟩ | ⟨e3, e4⟩
    · exact .inl ⟨by simp only [e3], e4⟩
    · exact .inr ⟨by simp only [e3], e4⟩
  · exact .inr ⟨by rw [e1], h2.1 e2⟩
theorem Rd.nil {α : Type} (p : Pr α) (a : Nat) (f : Bool) : Rd (prep p 0) a f [] a f := ⟨fun h => h, fun h => .inl ⟨rfl, h⟩⟩
theorem prep_none {α : Type} {p : Pr α} {n a : Nat} (h : prep p n a = none) : ∀ m, prep p (n + m) a = none
  | 0 => h
  | m + 1 => by
    rw [show n + (m + 1) = (n + m) + 1 from rfl, prep_snoc, prep_none h m]
theorem Rd.early {α : Type} {p : Pr α} {n a : Nat} {f : Bool} {l : List α} {a' : Nat} (h : Rd (prep p n) a f l a' true) {m : Nat} (hm : n ≤ m) (l' : List α) (a'' : Nat) : Rd (prep p m) a f l' a'' true := by
  refine ⟨fun _ => rfl, fun hf => ?_⟩
  rcases h.2 hf with ⟨-, e⟩ | ⟨e, -⟩
  · cases e
  · have := prep_none e (m - n)
    rw [Nat.add_sub_cancel' hm] at this
    exact .inr ⟨this, rfl⟩
theorem Rd.bad {α : Type} {p : Pr α} {a : Nat} {v : α} {a' : Nat} : Rd p a true v a' true := ⟨fun h => h, fun h => by cases h⟩
/-- the list behind how many there are. -/
theorem Rd.list {α : Type} {b : List UInt8} {p : Pr α} {a : Nat} {f : Bool} {n : Nat} {a' : Nat} {f' : Bool} {l : List α} {a'' : Nat} {f'' : Bool} (h1 : Rd (pmany b) a f n a' f') (h2 : Rd (prep p n) a' f' l a'' f'') : Rd (plist b p) a f l a'' f'' := Rd.bind (q := fun n => prep p n) h1 h2
theorem plist_eq {α : Type} (b : List UInt8) (p : Pr α) : plist b p = pbind (pmany b) (fun n => prep p n) := rfl

def punit (b : List UInt8) : Pr UnV := pbind (pnum b) fun v0 => pbind (pnum b) fun v1 => pbind (pnum b) fun v2 => pbind (pnum b) fun v3 => pbind (pnum b) fun v4 => pbind (pnum b) fun v5 => pbind (pnum b) fun v6 => pbind (pnum b) fun v7 => pret ⟨v0, v1, v2, v3, v4, v5, v6, v7⟩
def pjob (b : List UInt8) : Pr JbV := pbind (pnum b) fun v0 => pbind (pnum b) fun v1 => pbind (pnum b) fun v2 => pbind (pnum b) fun v3 => pret ⟨v0, v1, v2, v3⟩
def pworld (b : List UInt8) : Pr WV := pbind (pnum b) fun t => pbind (pnum b) fun x => pbind (pnum b) fun wd => pbind (pnum b) fun hg => pbind (plist b (pnum b)) fun gs => pbind (plist b (pnum b)) fun os => pbind (plist b (pnum b)) fun gold => pbind (plist b (punit b)) fun us => pbind (plist b (pjob b)) fun qs => pret ⟨t, x, wd, hg, gs, os, gold, us, qs⟩

def unums (u : UnV) : List Int := [u.id, u.player, u.kind, u.at_, u.life, u.load, u.task, u.goal]
def jnums (j : JbV) : List Int := [j.player, j.unit, j.kind, j.left]
def nums (W : WV) : List Int := [W.turn, W.next, W.wide, W.high] ++ ((W.gs.length : Int) :: W.gs) ++ ((W.os.length : Int) :: W.os) ++ ((W.gold.length : Int) :: W.gold) ++ ((W.us.length : Int) :: W.us.flatMap unums) ++ ((W.qs.length : Int) :: W.qs.flatMap jnums)
def wr (l : List Int) : List UInt8 := l.flatMap num
def enc (W : WV) : List UInt8 := wr (nums W)
structure Wok (W : WV) : Prop where
  in_ : ∀ n ∈ nums W, In64 n
  g : W.gs.length ≤ 200
  o : W.os.length ≤ 200
  p : W.gold.length ≤ 200
  u : W.us.length ≤ 200
  q : W.qs.length ≤ 200

/-- a reader reads what was written, and nothing else. -/
structure Reads {α : Type} (b : List UInt8) (p : Pr α) (e : α → List Int) (ok : α → Prop) : Prop where
  fwd : ∀ {a : Nat} {v : α} {t : List UInt8}, ok v → b.drop a = wr (e v) ++ t → p a = some (v, a + (wr (e v)).length)
  back : ∀ {a : Nat} {v : α} {a' : Nat}, p a = some (v, a') → ok v ∧ b.drop a = wr (e v) ++ b.drop a' ∧ a' = a + (wr (e v)).length
theorem wr_append (l m : List Int) : wr (l ++ m) = wr l ++ wr m := by unfold wr; rw [List.flatMap_append]
theorem wr_one (n : Int) : wr [n] = num n := by simp [wr]
theorem reads_num (b : List UInt8) : Reads b (pnum b) (fun n => [n]) In64 where
  fwd := fun {a v t} h hb => by
    rw [wr_one] at hb ⊢
    exact pnum_num h hb
  back := fun {a v a'} h => by
    rw [wr_one]
    exact ⟨(pnum_le h).2.2.2, (pnum_back h).1, (pnum_back h).2⟩
theorem reads_ret {α : Type} (b : List UInt8) (v : α) : Reads b (pret v) (fun _ => []) (fun u => u = v) where
  fwd := fun {a u t} h hb => by subst h; rfl
  back := fun {a u a'} h => by
    unfold pret at h
    injection h with h
    injection h with h1 h2
    exact ⟨h1.symm, by rw [h2]; rfl, by rw [h2]; rfl⟩
/-- one behind the other: f finds the first part of what comes of both. -/
theorem Reads.bind {α β : Type} {b : List UInt8} {p : Pr α} {q : α → Pr β} {e : α → List Int} {e' : β → List Int} {ok : α → Prop} {ok' : α → β → Prop} (f : β → α) (h1 : Reads b p e ok) (h2 : ∀ v, Reads b (q v) e' (ok' v)) (hf : ∀ v u, ok' v u → f u = v) : Reads b (pbind p q) (fun u => e (f u) ++ e' u) (fun u => ok (f u) ∧ ok' (f u) u) where
  fwd := fun {a u t} h hb => by
    rw [wr_append, List.append_assoc] at hb
    unfold pbind
    rw [h1.fwd h.1 hb]
    simp only
    rw [wr_append, List.length_append, ← Nat.add_assoc]
    refine (h2 (f u)).fwd (t := t) h.2 ?_
    rw [← List.drop_drop, hb, List.drop_left]
  back := fun {a u a'} h => by
    unfold pbind at h
    split at h
    · cases h
    · rename_i v a1 hp
      obtain ⟨k1, k2, k3⟩ := h1.back hp
      obtain ⟨m1, m2, m3⟩ := (h2 v).back h
      have ev := hf v u m1
      rw [ev]
      refine ⟨⟨k1, m1⟩, ?_, ?_⟩
      · rw [wr_append, List.append_assoc, k2, m2]
      · rw [wr_append, List.length_append, m3, k3]; omega
theorem Reads.rep {α : Type} {b : List UInt8} {p : Pr α} {e : α → List Int} {ok : α → Prop} (h : Reads b p e ok) : ∀ n, Reads b (prep p n) (fun l => l.flatMap e) (fun l => l.length = n ∧ ∀ v ∈ l, ok v)
  | 0 => {
    fwd := fun {a l t} hl hb => by
      obtain rfl := List.length_eq_zero_iff.1 hl.1
      rfl
    back := fun {a l a'} hl => by
      simp only [prep, Option.some.injEq, Prod.mk.injEq] at hl
      obtain ⟨rfl, rfl⟩ := hl
      exact ⟨⟨rfl, by simp⟩, rfl, rfl⟩ }
  | n + 1 => {
    fwd := fun {a l t} hl hb => by
      match l, hl with
      | v :: l, hl =>
        rw [List.flatMap_cons, wr_append] at hb ⊢
        rw [List.append_assoc] at hb
        rw [prep, h.fwd (hl.2 v (by simp)) hb]
        simp only
        rw [(Reads.rep h n).fwd (v := l) (t := t) ⟨by simpa using hl.1, fun u hu => hl.2 u (by simp [hu])⟩ (by rw [← List.drop_drop, hb, List.drop_left])]
        simp only [List.length_append]
        rw [Nat.add_assoc]
    back := fun {a l a'} hl => by
      rw [prep] at hl
      split at hl
      · cases hl
      · rename_i v a1 hp
        split at hl
        · cases hl
        · rename_i l' a2 hq
          injection hl with hl
          injection hl with e1 e2
          subst e1 e2
          obtain ⟨k1, k2, k3⟩ := h.back hp
          obtain ⟨m1, m2, m3⟩ := (Reads.rep h n).back hq
          refine ⟨⟨by rw [List.length_cons, m1.1], ?_⟩, ?_, ?_⟩
          · intro u hu
            rcases List.mem_cons.1 hu with rfl | hu
            · exact k1
            · exact m1.2 u hu
          · rw [List.flatMap_cons, wr_append, List.append_assoc, k2, m2]
          · rw [List.flatMap_cons, wr_append, List.length_append, m3, k3]; omega }
theorem in_200 {n : Nat} (h : n ≤ 200) : In64 (n : Int) := by unfold In64; omega
theorem reads_many (b : List UInt8) : Reads b (pmany b) (fun n => [(n : Int)]) (fun n => n ≤ 200) where
  fwd := fun {a v t} h hb => by
    rw [wr_one] at hb ⊢
    unfold pmany
    rw [pnum_num (in_200 h) hb]
    simp only
    rw [if_pos (by omega)]
    rfl
  back := fun {a v a'} h => by
    unfold pmany at h
    split at h
    · cases h
    · rename_i n a1 hp
      split at h
      · rename_i hn
        injection h with h
        injection h with e1 e2
        subst e1 e2
        rw [wr_one]
        have : ((n.toNat : Nat) : Int) = n := by omega
        rw [this]
        exact ⟨by omega, (pnum_back hp).1, (pnum_back hp).2⟩
      · cases h
theorem Reads.list {α : Type} {b : List UInt8} {p : Pr α} {e : α → List Int} {ok : α → Prop} (h : Reads b p e ok) : Reads b (plist b p) (fun l => (l.length : Int) :: l.flatMap e) (fun l => l.length ≤ 200 ∧ ∀ v ∈ l, ok v) := by
  have := Reads.bind (q := fun n => prep p n) List.length (reads_many b) (fun n => h.rep n) (fun n l hl => hl.1)
  rw [plist_eq]
  exact { fwd := fun {a v t} hv hb => this.fwd (a := a) (v := v) (t := t) ⟨hv.1, rfl, hv.2⟩ hb, back := fun {a v a'} hh => by obtain ⟨⟨h1, h2, h3⟩, h4, h5⟩ := this.back hh; exact ⟨⟨h1, h3⟩, h4, h5⟩ }
/-- the same, told by other words. -/
theorem Reads.as {α : Type} {b : List UInt8} {p : Pr α} {e e' : α → List Int} {ok ok' : α → Prop} (h : Reads b p e ok) (he : ∀ v, e' v = e v) (ho : ∀ v, ok' v ↔ ok v) : Reads b p e' ok' := by
  obtain rfl : e' = e := funext he
  obtain rfl : ok' = ok := funext fun v => propext (ho v)
  exact h
theorem reads_unit (b : List UInt8) : Reads b (punit b) unums (fun u => ∀ n ∈ unums u, In64 n) := by
  have h := reads_num b
  have := Reads.bind UnV.id h (fun v0 => Reads.bind UnV.player h (fun v1 => Reads.bind UnV.kind h (fun v2 => Reads.bind UnV.at_ h (fun v3 => Reads.bind UnV.life h (fun v4 => Reads.bind UnV.load h (fun v5 => Reads.bind UnV.task h (fun v6 => Reads.bind UnV.goal h (fun v7 => reads_ret b (⟨v0, v1, v2, v3, v4, v5, v6, v7⟩ : UnV)) (by intro v u hu; subst hu; rfl)) (by intro v u hu; rw [hu.2])) (by intro v u hu; rw [hu.2.2])) (by intro v u hu; rw [hu.2.2.2])) (by intro v u hu; rw [hu.2.2.2.2])) (by intro v u hu; rw [hu.2.2.2.2.2])) (by intro v u hu; rw [hu.2.2.2.2.2.2])) (by intro v u hu; rw [hu.2.2.2.2.2.2.2])
  refine this.as (fun v => rfl) fun v => ?_
  simp [unums]
theorem reads_job (b : List UInt8) : Reads b (pjob b) jnums (fun u => ∀ n ∈ jnums u, In64 n) := by
  have h := reads_num b
  have := Reads.bind JbV.player h (fun v0 => Reads.bind JbV.unit h (fun v1 => Reads.bind JbV.kind h (fun v2 => Reads.bind JbV.left h (fun v3 => reads_ret b (⟨v0, v1, v2, v3⟩ : JbV)) (by intro v u hu; subst hu; rfl)) (by intro v u hu; rw [hu.2])) (by intro v u hu; rw [hu.2.2])) (by intro v u hu; rw [hu.2.2.2])
  refine this.as (fun v => rfl) fun v => ?_
  simp [jnums]
theorem fm_one : ∀ l : List Int, l.flatMap (fun n => [n]) = l
  | [] => rfl
  | x :: l => by rw [List.flatMap_cons, fm_one l]; rfl
theorem reads_ints (b : List UInt8) : Reads b (plist b (pnum b)) (fun l => (l.length : Int) :: l) (fun l => l.length ≤ 200 ∧ ∀ v ∈ l, In64 v) := (reads_num b).list.as (fun v => by rw [fm_one]) (fun v => Iff.rfl)
theorem reads_world (b : List UInt8) : Reads b (pworld b) nums Wok := by
  have h := reads_num b
  have hi := reads_ints b
  have := Reads.bind WV.turn h (fun v0 => Reads.bind WV.next h (fun v1 => Reads.bind WV.wide h (fun v2 => Reads.bind WV.high h (fun v3 => Reads.bind WV.gs hi (fun v4 => Reads.bind WV.os hi (fun v5 => Reads.bind WV.gold hi (fun v6 => Reads.bind WV.us (reads_unit b).list (fun v7 => Reads.bind WV.qs (reads_job b).list (fun v8 => reads_ret b (⟨v0, v1, v2, v3, v4, v5, v6, v7, v8⟩ : WV)) (by intro v u hu; subst hu; rfl)) (by intro v u hu; rw [hu.2])) (by intro v u hu; rw [hu.2.2])) (by intro v u hu; rw [hu.2.2.2])) (by intro v u hu; rw [hu.2.2.2.2])) (by intro v u hu; rw [hu.2.2.2.2.2])) (by intro v u hu; rw [hu.2.2.2.2.2.2])) (by intro v u hu; rw [hu.2.2.2.2.2.2.2])) (by intro v u hu; rw [hu.2.2.2.2.2.2.2.2])
  refine this.as (fun v => by simp [nums]) fun v => ?_
  constructor
  · intro k
    have i := k.in_
    have mem : ∀ {n : Int}, n ∈ nums v ↔ n = v.turn ∨ n = v.next ∨ n = v.wide ∨ n = v.high ∨ n = v.gs.length ∨ n ∈ v.gs ∨ n = v.os.length ∨ n ∈ v.os ∨ n = v.gold.length ∨ n ∈ v.gold ∨ n = v.us.length ∨ n ∈ v.us.flatMap unums ∨ n = v.qs.length ∨ n ∈ v.qs.flatMap jnums := by
      intro n; simp [nums]
    refine ⟨i _ (mem.2 (by simp)), i _ (mem.2 (by simp)), i _ (mem.2 (by simp)), i _ (mem.2 (by simp)), ⟨k.g, fun n hn => i _ (mem.2 (by simp [hn]))⟩, ⟨k.o, fun n hn => i _ (mem.2 (by simp [hn]))⟩, ⟨k.p, fun n hn => i _ (mem.2 (by simp [hn]))⟩, ⟨k.u, fun u hu n hn => i _ (mem.2 ?_)⟩, ⟨k.q, fun u hu n hn => i _ (mem.2 ?_)⟩, rfl⟩
    · have : n ∈ v.us.flatMap unums := List.mem_flatMap.2 ⟨u, hu, hn⟩
      simp only [this, true_or, or_true]
    · have : n ∈ v.qs.flatMap jnums := List.mem_flatMap.2 ⟨u, hu, hn⟩
      simp only [this, or_true]
  · rintro ⟨h0, h1, h2, h3, ⟨h4, h5⟩, ⟨h6, h7⟩, ⟨h8, h9⟩, ⟨h10, h11⟩, ⟨h12, h13⟩, -⟩
    refine ⟨?_, h4, h6, h8, h10, h12⟩
    intro n hn
    simp only [nums, List.mem_append, List.mem_cons, List.not_mem_nil, or_false, List.mem_flatMap] at hn
    rcases hn with (((((rfl | rfl | rfl | rfl) | (rfl | hn)) | (rfl | hn)) | (rfl | hn)) | (rfl | ⟨u, hu, hn⟩)) | (rfl | ⟨u, hu, hn⟩)
    · exact h0
    · exact h1
    · exact h2
    · exact h3
    · exact in_200 h4
    · exact h5 _ hn
    · exact in_200 h6
    · exact h7 _ hn
    · exact in_200 h8
    · exact h9 _ hn
    · exact in_200 h10
    · exact h11 u hu n hn
    · exact in_200 h12
    · exact h13 u hu n hn

theorem dec_enc {W : WV} (h : Wok W) (t : List UInt8) : pworld (enc W ++ t) 0 = some (W, (enc W).length) := by
  have := (reads_world (enc W ++ t)).fwd (a := 0) (v := W) (t := t) h rfl
  rw [Nat.zero_add] at this
  exact this
theorem dec_back {b : List UInt8} {W : WV} {n : Nat} (h : pworld b 0 = some (W, n)) : Wok W ∧ b = enc W ++ b.drop n ∧ n = (enc W).length := by
  obtain ⟨h1, h2, h3⟩ := (reads_world b).back h
  exact ⟨h1, h2, by rw [h3, Nat.zero_add]; rfl⟩
theorem num_pos (n : Int) : 0 < (num n).length := by
  unfold num
  by_cases h : zz n < 128
  · rw [vl_small h]; simp
  · rw [vl_great (by omega)]; simp
theorem dec_cut {W : WV} (h : Wok W) {m : Nat} (hm : m < (enc W).length) : pworld ((enc W).take m) 0 = none := by
  cases hp : pworld ((enc W).take m) 0 with
  | none => rfl
  | some x =>
    obtain ⟨W', n⟩ := x
    obtain ⟨k1, k2, k3⟩ := dec_back hp
    have e : enc W = enc W' ++ (((enc W).take m).drop n ++ (enc W).drop m) := by
      rw [← List.append_assoc, ← k2, List.take_append_drop]
    have d1 := dec_enc k1 (((enc W).take m).drop n ++ (enc W).drop m)
    rw [← e] at d1
    have d2 := dec_enc h []
    rw [List.append_nil, d1] at d2
    have d3 : (enc W').length = (enc W).length := by injection d2 with d2; injection d2
    have d4 := congrArg List.length k2
    rw [List.length_append, List.length_take] at d4
    omega
end Wd
end Go.Proofs.Ytamgjhehnblbgaa

namespace Go.Proofs.Ytamgjhehnblbgaa
open Go.RowKit
set_option linter.unusedVariables false

/-- v is a world. -/
def Wl (w : World) (v : Value) (W : WV) : Prop := ∃ u1 u2 u3 u4 u5, v = .agg #[.int .i64 W.turn, .int .i64 W.next, .int .i64 W.wide, .int .i64 W.high, u1, u2, u3, u4, u5] ∧ Ro w u1 W.gs ∧ Ro w u2 W.os ∧ Ro w u3 W.gold ∧ Unl w u4 W.us ∧ Jbl w u5 W.qs
theorem Wl.below {w w' : World} {v : Value} {W : WV} (h : Wl w v W) (hb : Below w.heap.size w w') : Wl w' v W := by
  obtain ⟨u1, u2, u3, u4, u5, h1, h2, h3, h4, h5, h6⟩ := h
  exact ⟨u1, u2, u3, u4, u5, h1, h2.below hb, h3.below hb, h4.below hb, h5.below hb, h6.below hb⟩
/-- a world in a box. -/
structure Bw (w : World) (z : Nat) (W : WV) (u1 u2 u3 u4 u5 : Value) : Prop where
  c0 : w.cell? ⟨z, 0, none⟩ = some (.int .i64 W.turn)
  c1 : w.cell? ⟨z, 1, none⟩ = some (.int .i64 W.next)
  c2 : w.cell? ⟨z, 2, none⟩ = some (.int .i64 W.wide)
  c3 : w.cell? ⟨z, 3, none⟩ = some (.int .i64 W.high)
  c4 : w.cell? ⟨z, 4, none⟩ = some u1
  c5 : w.cell? ⟨z, 5, none⟩ = some u2
  c6 : w.cell? ⟨z, 6, none⟩ = some u3
  c7 : w.cell? ⟨z, 7, none⟩ = some u4
  c8 : w.cell? ⟨z, 8, none⟩ = some u5
theorem Bw.lt {w : World} {z : Nat} {W : WV} {u1 u2 u3 u4 u5 : Value} (h : Bw w z W u1 u2 u3 u4 u5) : z < w.heap.size := cell_lt h.c0
theorem Bw.below {w w' : World} {z n : Nat} {W : WV} {u1 u2 u3 u4 u5 : Value} (h : Bw w z W u1 u2 u3 u4 u5) (hb : Below n w w') (hn : z < n) : Bw w' z W u1 u2 u3 u4 u5 :=
  ⟨by rw [hb.cell (p := ⟨z, 0, none⟩) hn]; exact h.c0, by rw [hb.cell (p := ⟨z, 1, none⟩) hn]; exact h.c1, by rw [hb.cell (p := ⟨z, 2, none⟩) hn]; exact h.c2, by rw [hb.cell (p := ⟨z, 3, none⟩) hn]; exact h.c3, by rw [hb.cell (p := ⟨z, 4, none⟩) hn]; exact h.c4, by rw [hb.cell (p := ⟨z, 5, none⟩) hn]; exact h.c5, by rw [hb.cell (p := ⟨z, 6, none⟩) hn]; exact h.c6, by rw [hb.cell (p := ⟨z, 7, none⟩) hn]; exact h.c7, by rw [hb.cell (p := ⟨z, 8, none⟩) hn]; exact h.c8⟩
theorem Bw.mk' {w : World} {z : Nat} (W : WV) (u1 u2 u3 u4 u5 : Value) (hz : w.heap.size = z) : Bw (w.alloc (.cells #[.int .i64 W.turn, .int .i64 W.next, .int .i64 W.wide, .int .i64 W.high, u1, u2, u3, u4, u5] 33)) z W u1 u2 u3 u4 u5 := by
  subst hz
  constructor <;> simp
/-- the world with which nothing begins. -/
def WV.zero : WV := ⟨0, 0, 0, 0, [], [], [], [], []⟩
end Go.Proofs.Ytamgjhehnblbgaa

namespace Go.Proofs.Ytamgjhehnblbgaa
open Go.RowKit
set_option linter.unusedVariables false

namespace Sc
def above (ps : List Int) (p : Int) : Nat := ps.countP (fun x => decide (p < x))
def ranks (ps : List Int) : List Int := ps.map fun p => ((1 + above ps p : Nat) : Int)
theorem ranks_len (ps : List Int) : (ranks ps).length = ps.length := by unfold ranks; simp
theorem ranks_get {ps : List Int} {i : Nat} {p : Int} (h : ps[i]? = some p) : (ranks ps)[i]? = some ((1 + above ps p : Nat) : Int) := by unfold ranks; simp [h]
theorem take_next {ps : List Int} {n : Nat} {x p : Int} (h : ps[n]? = some x) : above (ps.take (n + 1)) p = above (ps.take n) p + if p < x then 1 else 0 := by
  unfold above
  rw [List.take_add_one, h, List.countP_append]
  simp [List.countP_cons]
theorem above_le (ps : List Int) (p : Int) : above ps p ≤ ps.length := List.countP_le_length
/-- who has won. -/
def won (us : List UnV) : Int × Bool := match us with | [] => (0, false) | u :: _ => if us.all (fun x => decide (x.player = u.player)) = true then (u.player, true) else (0, false)
end Sc
set_option maxRecDepth 20000 in
set_option maxHeartbeats 2000000 in
theorem above_any (v : Value) (ps : List Int) (p : Int) (w : World) (h : Ro w v ps) :
    Calls Try.prog 10 #[v, .int .i64 p] w fun e w' => e = .returned (.int .i64 (Sc.above ps p : Nat)) ∧ w' = w := by
  have R : Hid (Ro w v ps) := h
  obtain ⟨a, c, rfl, c1, c2, -⟩ := h
  go_enter Try.func10, Try.ntmps10
  go_wp2_with fail
  go_loop [5, 10] (fun m j => ∃ n : Nat, n ≤ ps.length ∧ j = .int .i64 (n : Nat) ∧ ∃ x : Nat, x = Sc.above (ps.take n) p ∧ m = .int .i64 (x : Nat)) (fun _ j => ps.length - (intOf j).toNat)
  case atStart => exact ⟨0, Nat.zero_le _, rfl, 0, by simp [Sc.above], rfl⟩
  case round =>
    obtain ⟨n, hn, rfl, x, hx, rfl⟩ := hrel
    have HX : Hid (x = Sc.above (ps.take n) p) := hx
    have xl : x ≤ n := by rw [hx]; exact Nat.le_trans (Sc.above_le _ _) (by rw [List.length_take]; omega)
    clear hx
    by_cases hne : n = ps.length
    · subst hne
      go_wp2
      go_ret
      refine ⟨?_, rfl⟩
      have := HX.out
      rw [List.take_of_length_le (Nat.le_refl _)] at this
      rw [this]
      rfl
    · have hnl : n < ps.length := by omega
      have hnl' : (n : Int) < (ps.length : Int) := by omega
      obtain ⟨d, hd⟩ : ∃ d, ps[n]? = some d := ⟨_, List.getElem?_eq_getElem hnl⟩
      have NX : Hid (Sc.above (ps.take (n + 1)) p = x + if p < d then 1 else 0) := by unfold Hid; rw [Sc.take_next hd, ← HX.out]
      obtain ⟨a', c', e', -, -, hz⟩ := R.out
      injection e' with e1 e2 e3
      subst e1 e3
      obtain ⟨y, rfl, -, hy⟩ := hz (by rintro rfl; simp at hnl)
      have cy := hy n d hd
      clear hy hz hd e2
      by_cases hp : p < d
      · have NX' : Hid (Sc.above (ps.take (n + 1)) p = x + 1) := by unfold Hid; rw [NX.out, if_pos hp]
        go_wp2
        refine ⟨⟨n + 1, by omega, by go_num, x + 1, NX'.out.symm, by go_num⟩, by simp [intOf]; omega⟩
      · have NX' : Hid (Sc.above (ps.take (n + 1)) p = x) := by unfold Hid; rw [NX.out, if_neg hp]; rfl
        go_wp2
        refine ⟨⟨n + 1, by omega, by go_num, x, NX'.out.symm, rfl⟩, by simp [intOf]; omega⟩
set_option maxRecDepth 20000 in
set_option maxHeartbeats 4000000 in
theorem rank_any (v : Value) (ps : List Int) (w : World) (h : Ro w v ps) :
    Calls Try.prog 6 #[v] w fun e w' => ∃ (r u : Value), e = .returned (.tuple #[r, u]) ∧ Below w.heap.size w w' ∧
      ((200 < ps.length ∧ Ro w' r [] ∧ Er u 4) ∨ (ps.length ≤ 200 ∧ Ro w' r (Sc.ranks ps) ∧ Er u 0)) := by
  have R : Hid (Ro w v ps) := h
  obtain ⟨a, c, rfl, c1, c2, -⟩ := h
  by_cases h2 : 200 < ps.length
  · have h2' : (200 : Int) < (ps.length : Int) := by omega
    go_enter Try.func6, Try.ntmps6
    go_wp2
    go_ret2
    exact ⟨_, _, rfl, Below.refl _ _, .inl ⟨h2, ⟨none, 0, rfl, Nat.le_refl _, by omega, fun h => absurd rfl h⟩, Er.no (by decide)⟩⟩
  · have h2' : ¬ (200 : Int) < (ps.length : Int) := by omega
    go_enter Try.func6, Try.ntmps6
    obtain ⟨w1, hm, hb, hbb, hs⟩ := makeI ps.length w (by omega)
    have BK : Hid (Bk w1 w.heap.size (List.replicate ps.length 0) #[]) := hb
    have BB : Hid (Below w.heap.size w w1) := hbb
    clear hb hbb hs
    obtain ⟨z, hz⟩ : ∃ z, w.heap.size = z := ⟨_, rfl⟩
    have HZ : Hid (w.heap.size = z) := hz
    rw [hz] at BK hm
    go_wp2_with fail
    go_loopw [16] (fun j W => ∃ n : Nat, n ≤ ps.length ∧ j = .int .i64 (n : Nat) ∧ Bk W z ((Sc.ranks ps).take n ++ List.replicate (ps.length - n) 0) #[] ∧ Below z w W) (fun j _ => ps.length - (intOf j).toNat)
    case atStart => exact ⟨0, Nat.zero_le _, rfl, by simpa using BK.out, by rw [← HZ.out]; exact BB.out⟩
    case round =>
      obtain ⟨n, hn, rfl, hb, hB⟩ := hrel
      have B1 : Hid (Bk wr z ((Sc.ranks ps).take n ++ List.replicate (ps.length - n) 0) #[]) := hb
      have W1 : Hid (Below z w wr) := hB
      clear hb hB
      by_cases hne : n = ps.length
      · subst hne
        go_wp2
        go_ret2
        refine ⟨_, _, rfl, by rw [HZ.out]; exact W1.out, .inr ⟨by omega, ?_, Er.nil⟩⟩
        have := B1.out.ro (c := ps.length) (by simp [Sc.ranks_len]) (by omega)
        rw [Nat.sub_self, List.replicate_zero, List.append_nil, List.take_of_length_le (by rw [Sc.ranks_len]; exact Nat.le_refl _), Sc.ranks_len] at this
        exact this
      · have hnl : n < ps.length := by omega
        have hnl' : (n : Int) < (ps.length : Int) := by omega
        obtain ⟨d, hd⟩ : ∃ d, ps[n]? = some d := ⟨_, List.getElem?_eq_getElem hnl⟩
        have HD : Hid (ps[n]? = some d) := hd
        have RR : Hid (Ro wr (.slice a ps.length c) ps) := R.out.below (by rw [HZ.out]; exact W1.out)
        obtain ⟨a', c', e', -, -, hy⟩ := RR.out
        injection e' with e1 e2 e3
        subst e1 e3
        obtain ⟨y, rfl, -, hy⟩ := hy (by rintro rfl; simp at hnl)
        have cy := hy n d hd
        have AL := Sc.above_le ps d
        clear hy hd e2
        go_wp2_with fail
        refine (above_any _ ps d _ RR.out).mono ?_
        rintro e w2 ⟨rfl, rfl⟩
        obtain ⟨q, hq⟩ : ∃ q, Sc.above ps d = q := ⟨_, rfl⟩
        have NX : Hid ((Sc.ranks ps)[n]? = some ((1 + q : Nat) : Int)) := by unfold Hid; rw [Sc.ranks_get HD.out, hq]
        rw [hq] at AL ⊢
        clear hq
        have tz := B1.out.thaw n
        have cz := B1.out.cell (i := n) (d := 0) (by
          have l9 : ((Sc.ranks ps).take n).length = n := by rw [List.length_take, Sc.ranks_len]; omega
          rw [List.getElem?_append_right (by omega), l9, Nat.sub_self, List.getElem?_replicate, if_pos (by omega)])
        have SZ : Hid (Bk (w2.setCell ⟨z, n, none⟩ (.int .i64 ((1 + q : Nat) : Int))) z ((Sc.ranks ps).take (n + 1) ++ List.replicate (ps.length - (n + 1)) 0) #[]) := by
          have h9 := B1.out.set n ((1 + q : Nat) : Int) (by simp [Sc.ranks_len]; omega)
          have e9 : ((Sc.ranks ps).take n ++ List.replicate (ps.length - n) 0).set n ((1 + q : Nat) : Int) = (Sc.ranks ps).take (n + 1) ++ List.replicate (ps.length - (n + 1)) 0 := by
            have l9 : ((Sc.ranks ps).take n).length = n := by rw [List.length_take, Sc.ranks_len]; omega
            rw [List.set_append_right _ _ (by omega), l9, Nat.sub_self, List.take_add_one, NX.out]
            have : ps.length - n = (ps.length - (n + 1)) + 1 := by omega
            rw [this, List.replicate_succ]
            simp
          rw [e9] at h9
          exact h9
        go_wp2
        refine ⟨⟨n + 1, by omega, by go_num, ?_, ?_⟩, by simp [intOf]; omega⟩
        · have e9 : (1 : Int) + (q : Nat) = ((1 + q : Nat) : Int) := by omega
          first | exact SZ.out | (rw [e9]; exact SZ.out)
        · exact W1.out.setCell (p := ⟨z, n, none⟩) (Nat.le_refl _) _
theorem won_none {us : List UnV} {u x : UnV} {n : Nat} (h0 : us[0]? = some u) (hx : us[n]? = some x) (hne : x.player ≠ u.player) : Sc.won us = (0, false) := by
  cases us with
  | nil => simp at h0
  | cons y l =>
    simp at h0
    subst h0
    unfold Sc.won
    simp only
    rw [if_neg]
    intro h
    rw [List.all_eq_true] at h
    have := h x (List.mem_of_getElem? hx)
    simp at this
    exact hne this
theorem won_one {us : List UnV} {u : UnV} (h0 : us[0]? = some u) (h : ∀ x ∈ us, x.player = u.player) : Sc.won us = (u.player, true) := by
  cases us with
  | nil => simp at h0
  | cons y l =>
    simp at h0
    subst h0
    unfold Sc.won
    simp only
    rw [if_pos]
    rw [List.all_eq_true]
    intro x hx
    simp [h x hx]
set_option maxRecDepth 20000 in
set_option maxHeartbeats 4000000 in
theorem winner_any (v : Value) (X : WV) (w : World) (h : Wl w v X) :
    Calls Try.prog 7 #[v] w fun e w' => e = .returned (.tuple #[.int .i64 (Sc.won X.us).1, .bool (Sc.won X.us).2]) ∧ Below w.heap.size w w' := by
  obtain ⟨v1, v2, v3, v4, v5, rfl, r1, r2, r3, hu, r5⟩ := h
  have UU : Hid (Unl w v4 X.us) := hu
  obtain ⟨au, cu, rfl, cu1, cu2, -⟩ := hu
  go_enter Try.func7, Try.ntmps7
  clear r1 r2 r3 r5
  by_cases h0 : X.us = []
  · have W0 : Hid (Sc.won X.us = (0, false)) := by unfold Hid; rw [h0]; rfl
    have l0 : X.us.length = 0 := by rw [h0]; rfl
    clear h0
    have B1 : Hid (Below w.heap.size w (w.alloc (Obj.cells #[.int .i64 X.turn, .int .i64 X.next, .int .i64 X.wide, .int .i64 X.high, v1, v2, v3, .slice au X.us.length cu, v5] 33))) := (Below.refl _ _).alloc (Nat.le_refl _) _
    go_wp2
    go_ret2
    exact ⟨by rw [W0.out]; rfl, (Below.refl _ _).alloc (Nat.le_refl _) _⟩
  · have l0 : 0 < X.us.length := List.length_pos_iff.2 h0
    have l0' : (0 : Int) < (X.us.length : Int) := by omega
    have l00 : ((X.us.length : Int) == 0) = false := by rw [beq_eq_false_iff_ne]; omega
    obtain ⟨u, hu0⟩ : ∃ u, X.us[0]? = some u := ⟨_, List.getElem?_eq_getElem l0⟩
    have U0 : Hid (X.us[0]? = some u) := hu0
    have B1 : Hid (Below w.heap.size w (w.alloc (Obj.cells #[.int .i64 X.turn, .int .i64 X.next, .int .i64 X.wide, .int .i64 X.high, v1, v2, v3, .slice au X.us.length cu, v5] 33))) := (Below.refl _ _).alloc (Nat.le_refl _) _
    obtain ⟨a', c', e', -, -, hy⟩ := UU.out
    injection e' with e1 e2 e3
    subst e1 e3
    obtain ⟨xu, rfl, hxl, hy⟩ := hy h0
    have AL : Hid (xu.block < w.heap.size ∧ ∀ (i : Nat) k, X.us[i]? = some k → Unc w (xu.add (i * 8)) k) := ⟨hxl, hy⟩
    clear hy hxl hu0 h0 e2
    have C1 : Hid ((w.alloc (Obj.cells #[.int .i64 X.turn, .int .i64 X.next, .int .i64 X.wide, .int .i64 X.high, v1, v2, v3, .slice (some xu) X.us.length cu, v5] 33)).cell? ⟨w.heap.size, 7, none⟩ = some (.slice (some xu) X.us.length cu)) := by unfold Hid; simp
    go_upto_region 3 with fail
    obtain ⟨z, hz⟩ : ∃ z, w.heap.size = z := ⟨_, rfl⟩
    have HZ : Hid (w.heap.size = z) := hz
    rw [hz] at C1 ⊢
    clear hz
    generalize (w.alloc (Obj.cells #[.int .i64 X.turn, .int .i64 X.next, .int .i64 X.wide, .int .i64 X.high, v1, v2, v3, .slice (some xu) X.us.length cu, v5] 33)) = w1 at *
    have c7 := C1.out
    have UC0 := (AL.out.2 0 u U0.out).below B1.out (by rw [add_block]; exact AL.out.1)
    have y1 : w1.cell? ⟨xu.block, xu.off + 1, none⟩ = some (.int .i64 u.player) := UC0.c1
    clear UC0
    go_wp2_with fail
    go_loopw [19] (fun j W => ∃ n : Nat, n ≤ X.us.length ∧ j = .int .i64 (n : Nat) ∧ Below w1.heap.size w1 W ∧ ∀ x ∈ X.us.take n, x.player = u.player) (fun j _ => X.us.length - (intOf j).toNat)
    case atStart => exact ⟨0, Nat.zero_le _, rfl, Below.refl _ _, by simp⟩
    case round =>
      obtain ⟨n, hn, rfl, hB, hall⟩ := hrel
      have W1 : Hid (Below w1.heap.size w1 wr) := hB
      have HA : Hid (∀ x ∈ X.us.take n, x.player = u.player) := hall
      have BW : Hid (Below w.heap.size w wr) := B1.out.trans (hB.mono B1.out.size)
      clear hB hall c7 y1
      by_cases hne : n = X.us.length
      · have WW : Hid (Sc.won X.us = (u.player, true)) := won_one U0.out (fun x hx => HA.out x (by rw [hne, List.take_of_length_le (Nat.le_refl _)]; exact hx))
        subst hne
        go_wp2
        go_ret2
        exact ⟨by rw [WW.out]; rfl, BW.out⟩
      · have hnl : n < X.us.length := by omega
        have hnl' : (n : Int) < (X.us.length : Int) := by omega
        obtain ⟨x, hx⟩ : ∃ x, X.us[n]? = some x := ⟨_, List.getElem?_eq_getElem hnl⟩
        have HX : Hid (X.us[n]? = some x) := hx
        have UC := (AL.out.2 n x hx).below BW.out (by rw [add_block]; exact AL.out.1)
        obtain ⟨y0, y1, y2, y3, y4, y5, y6, y7⟩ := UC
        clear hx
        go_upto_region 7 with fail
        have B4 : Hid (Below wr.heap.size wr (wr.alloc (Obj.cells #[.int .i64 x.id, .int .i64 x.player, .int .i64 x.kind, .int .i64 x.at_, .int .i64 x.life, .int .i64 x.load, .int .i64 x.task, .int .i64 x.goal] 39))) := (Below.refl _ _).alloc (Nat.le_refl _) _
        have X4 := Unc.mk' (w := wr) x rfl
        clear y0 y1 y2 y3 y4 y5 y6 y7
        have z1 := X4.c1
        clear X4
        generalize wr.alloc (Obj.cells #[.int .i64 x.id, .int .i64 x.player, .int .i64 x.kind, .int .i64 x.at_, .int .i64 x.life, .int .i64 x.load, .int .i64 x.task, .int .i64 x.goal] 39) = w4 at *
        have z1' : w4.cell? ⟨wr.heap.size, 1, none⟩ = some (.int .i64 x.player) := z1
        have BX : Hid (Below w.heap.size w w4) := BW.out.trans (B4.out.mono BW.out.size)
        clear z1
        by_cases hp : x.player = u.player
        · have HP : Hid (x.player = u.player) := hp
          rw [hp] at z1'
          clear hp
          go_wp2
          refine ⟨⟨n + 1, by omega, by go_num, W1.out.trans (B4.out.mono W1.out.size), ?_⟩, by simp [intOf]; omega⟩
          intro y hy
          rw [List.take_add_one, HX.out] at hy
          simp at hy
          rcases hy with hy | rfl
          · exact HA.out y hy
          · exact HP.out
        · have WW : Hid (Sc.won X.us = (0, false)) := won_none U0.out HX.out hp
          go_wp2
          go_ret2
          exact ⟨by rw [WW.out]; rfl, BX.out⟩
end Go.Proofs.Ytamgjhehnblbgaa

namespace Go.Proofs.Ytamgjhehnblbgaa
open Go.RowKit
set_option linter.unusedVariables false

/-- any. -/
theorem Ro.lit {w : World} {z : Nat} (xs : List Int) (cs : Array Value) (hc : cs.toList = xs.map (Value.int .i64)) (hl : xs.length ≤ 1000) (hz : w.heap.size = z) : Ro (w.alloc (.cells cs 3)) (.slice (some ⟨z, 0, none⟩) xs.length xs.length) xs := by
  subst hz
  refine ⟨_, xs.length, rfl, Nat.le_refl _, by omega, fun _ => ⟨_, rfl, by simp, fun i d hd => ?_⟩⟩
  rw [Addr.add_lit, Nat.zero_add]
  have hh := heap_alloc_new w (.cells cs 3)
  simp only [World.cell?, hh]
  rw [← Array.getElem?_toList, hc, List.getElem?_map, hd]
  rfl
end Go.Proofs.Ytamgjhehnblbgaa

namespace Go.Proofs.Ytamgjhehnblbgaa
open Go.ChangeShapes Go.WideShapes Go.ChangeAt Go.RowKit
set_option linter.unusedVariables false

set_option maxRecDepth 100000 in
theorem ints_in {H : Type} {enc : TypeId × Value → H} {W : World} {base b0 : Nat} {held : Bool} {v : Value} {d : DataW H} {p : List MemPlace} (hv : Value.okWide Try.prog W .any b0 27 v) (h : DataW.Trod enc Try.prog W base (fun _ => true) held 27 v d p) : ∃ zs, Ro W v zs := by
  obtain ⟨a, len, cap, rfl⟩ := okWide_slice Try.underlying27 hv
  obtain ⟨fuel, hf⟩ := h
  rcases open_ints Try.underlying27 Try.underlying3 (by kernel_rfl) hf with ⟨hcs, _⟩ | ⟨x, l, c, zs, hcs, _, hl, hm, hz, _, hcell, hwz⟩
  · simp [Value.cells] at hcs
    obtain ⟨rfl, rfl, rfl⟩ := hcs
    exact ⟨_, IsRow.ro (.inl ⟨rfl, rfl, rfl, rfl⟩)⟩
  · simp [Value.cells] at hcs
    obtain ⟨rfl, rfl, rfl⟩ := hcs
    exact ⟨_, IsRow.ro (zs := zs) (.inr ⟨_, rfl, hl, hm, by simpa using hz, hcell, hwz⟩)⟩
end Go.Proofs.Ytamgjhehnblbgaa

namespace Go.Proofs.Ytamgjhehnblbgaa
open Go.RowKit
set_option linter.unusedVariables false

theorem run_append_no {P : Program} {w : World} (base : Nat) (t ty e : TypeId) (i : TypeInfo) (size : Nat) (ht : P.underlying t = some (.slice e)) (hi : P.info? e = some i)
    (v : Value) (n : Nat) (xs : List Value) (hown : w.ownsRow base e size v n xs) (a : Option Addr) (c : Nat) :
    (Builtin.append_ #[t, t] ty #[v, .slice a 0 c]).run P w = .ok v w := by
  rcases hown.2 with ⟨rfl, rfl⟩ | ⟨g, cap, cur, rfl, _, _, hnc, _⟩
  · cases a <;> simp [Builtin.append_, run_underlying ht, sizeOf, typeInfo, hi, Builtin.lenOf, Builtin.firstCells, loadCells, loadCellsFrom]
  · cases a <;> simp [Builtin.append_, run_underlying ht, sizeOf, typeInfo, hi, Builtin.lenOf, Builtin.firstCells, hnc, storeCells, loadCells, loadCellsFrom]
theorem app_row {ops : Array Oper} {rest : List Oper} {o : Oper} {a : Act} {Q : Exit → Act → World → Prop} (w : World) (hgd : o.guard = none) (s x : Operand)
    (ho : o.op = .call { callee := .builtin .append, args := #[s, x], argTypes := #[27, 27] }) (base : Nat) (v : Value) (xs : List Int) (hs : a.eval s = v) (hown : Ow w base v xs)
    (u : Value) (ys : List Int) (hx : a.eval x = u) (hu : Ro w u ys) (hl : xs.length + ys.length ≤ 1000000000) (hbase : base ≤ w.heap.size)
    (h : ∀ v' w', Ow w' base v' (xs ++ ys) → w.grownBy w' v.ownBlock → (v'.ownBlock = v.ownBlock ∨ v'.ownBlock = some w.heap.size) → wpList Try.prog ops Q rest (a.put o.dst v') w') :
    wpList Try.prog ops Q (o :: rest) a w := by
  obtain ⟨i0, hi, hz0, hz1, hz2⟩ := info_parts info_int
  obtain ⟨ad, c, rfl, h1, h2, h3⟩ := hu
  by_cases hn : ys = []
  · subst hn
    refine wpList_plain hgd fun K hK => ?_
    have hrun := run_append_no (P := Try.prog) (w := w) base 27 o.type 3 i0 1 Try.underlying27 hi v xs.length _ hown ad c
    have hx' : a.eval x = .slice ad 0 c := hx
    unfold Oper.wp
    simp [execOp, ho, resolve, invoke, builtin, hs, hx', hrun, Result.andThen]
    exact hK _ _ (h v w (by simpa using hown) (World.grownBy.refl _ _) (.inl rfl))
  · obtain ⟨y, rfl, hy, hc⟩ := h3 hn
    refine wpList_append_lies w hgd s x 27 ho base 3 i0 (.int .i64 0) 1 8 Try.underlying27 hi hz0 hz1 hz2 rfl (by decide) v xs.length _ hs hown y ys.length c (ys.map (Value.int .i64)) hx (by simp) ?_ ?_ (List.length_pos_iff.2 hn) (by unfold maxLen; omega) (by omega) hbase _ rfl ?_
    · intro j u hj
      rw [List.getElem?_map] at hj
      cases hd : ys[j]? with
      | none => rw [hd] at hj; cases hj
      | some d => rw [hd] at hj; cases hj; exact hc j d hd
    · exact ints_oneCell _ _
    · intro g cap w' k1 k2 k3 _
      refine h _ w' ?_ k2 ?_
      · unfold Ow
        rw [List.length_append, List.map_append]
        exact k1
      · rcases k3 with k3 | k3
        · exact .inl k3.symm
        · exact .inr (by rw [k3]; rfl)
end Go.Proofs.Ytamgjhehnblbgaa

namespace Go.Proofs.Ytamgjhehnblbgaa
open Go.RowKit
set_option linter.unusedVariables false

/-- up to which list they are there. -/
def nums1 (W : WV) : Nat → List Int
  | 0 => [W.turn, W.next, W.wide, W.high]
  | 1 => [W.turn, W.next, W.wide, W.high] ++ ((W.gs.length : Int) :: W.gs)
  | 2 => [W.turn, W.next, W.wide, W.high] ++ ((W.gs.length : Int) :: W.gs) ++ ((W.os.length : Int) :: W.os)
  | _ => [W.turn, W.next, W.wide, W.high] ++ ((W.gs.length : Int) :: W.gs) ++ ((W.os.length : Int) :: W.os) ++ ((W.gold.length : Int) :: W.gold)
def nums2 (W : WV) (k : Nat) : List Int := nums1 W 3 ++ ((W.us.length : Int) :: (W.us.take k).flatMap Wd.unums)
def nums3 (W : WV) (k : Nat) : List Int := nums2 W W.us.length ++ ((W.qs.length : Int) :: (W.qs.take k).flatMap Wd.jnums)
theorem nums3_all (W : WV) : nums3 W W.qs.length = Wd.nums W := by
  simp [nums3, nums2, nums1, Wd.nums]
structure WSmall (W : WV) : Prop where
  g : W.gs.length ≤ 1048576
  o : W.os.length ≤ 1048576
  p : W.gold.length ≤ 1048576
  u : W.us.length ≤ 1048576
  q : W.qs.length ≤ 1048576
theorem nums1_len {W : WV} (h : WSmall W) (k : Nat) : (nums1 W k).length ≤ 4000000 := by
  obtain ⟨h1, h2, h3, h4, h5⟩ := h
  match k with
  | 0 => simp [nums1]
  | 1 => simp [nums1]; omega
  | 2 => simp [nums1]; omega
  | _ + 3 => simp [nums1]; omega
theorem flat_len {α : Type} {f : α → List Int} {n : Nat} (hf : ∀ x, (f x).length = n) : ∀ l : List α, (l.flatMap f).length = n * l.length
  | [] => by simp
  | x :: l => by rw [List.flatMap_cons, List.length_append, flat_len hf l, hf, List.length_cons, Nat.mul_add]; omega
theorem nums2_len {W : WV} (h : WSmall W) (k : Nat) : (nums2 W k).length ≤ 13000000 := by
  have h1 := nums1_len h 3
  have h2 := h.u
  unfold nums2
  rw [List.length_append, List.length_cons, flat_len (n := 8) (fun x => rfl), List.length_take]
  omega
theorem nums3_len {W : WV} (h : WSmall W) (k : Nat) : (nums3 W k).length ≤ 18000000 := by
  have h1 := nums2_len h W.us.length
  have h2 := h.q
  unfold nums3
  rw [List.length_append, List.length_cons, flat_len (n := 4) (fun x => rfl), List.length_take]
  omega
theorem nums2_next {W : WV} {k : Nat} {u : UnV} (h : W.us[k]? = some u) : nums2 W (k + 1) = nums2 W k ++ Wd.unums u := by
  obtain ⟨hi, e⟩ := List.getElem?_eq_some_iff.1 h
  unfold nums2
  rw [List.take_succ_eq_append_getElem hi, List.flatMap_append, e]
  simp
theorem nums3_next {W : WV} {k : Nat} {u : JbV} (h : W.qs[k]? = some u) : nums3 W (k + 1) = nums3 W k ++ Wd.jnums u := by
  obtain ⟨hi, e⟩ := List.getElem?_eq_some_iff.1 h
  unfold nums3
  rw [List.take_succ_eq_append_getElem hi, List.flatMap_append, e]
  simp
theorem Bw.grown {w w' : World} {z : Nat} {W : WV} {u1 u2 u3 u4 u5 : Value} {row : Option Nat} (h : Bw w z W u1 u2 u3 u4 u5) (hg : w.grownBy w' row) (hr : ∀ k, row = some k → z < k) : Bw w' z W u1 u2 u3 u4 u5 :=
  h.below (n := z + 1) ((Below.refl _ _).grown hg h.lt (fun k hk => hr k hk)) (Nat.lt_succ_self _)
theorem cell_of_new {w : World} {z i : Nat} {cs : Array Value} {T : TypeId} {v : Value} (hz : w.heap.size = z) (hv : cs[i]? = some v) : (w.alloc (.cells cs T)).cell? ⟨z, i, none⟩ = some v := by
  subst hz
  simp only [World.cell?, heap_alloc_new]
  simpa using hv
/-- what is there as long as lists are written. -/
structure Nm1 (w : World) (W : WV) (u1 u2 u3 u4 u5 : Value) (zl : Nat) (lv : Value) (l : List Int) (W' : World) : Prop where
  o : Ow W' (w.heap.size + 2) lv l
  ne : lv.ownBlock ≠ some zl
  b : Bw W' w.heap.size W u1 u2 u3 u4 u5
  c0 : W'.cell? ⟨zl, 0, none⟩ = some u1
  c1 : W'.cell? ⟨zl, 1, none⟩ = some u2
  c2 : W'.cell? ⟨zl, 2, none⟩ = some u3
  bl : Below w.heap.size w W'
theorem Nm1.step {w : World} {W : WV} {u1 u2 u3 u4 u5 : Value} {zl : Nat} {lv lv' : Value} {l l' : List Int} {W' W'' X : World} (h : Nm1 w W u1 u2 u3 u4 u5 zl lv l W') (hX1 : Below W'.heap.size W' X) (hg : X.grownBy W'' lv.ownBlock) (ho : Ow W'' (w.heap.size + 2) lv' l') (hb : lv'.ownBlock = lv.ownBlock ∨ lv'.ownBlock = some X.heap.size) : Nm1 w W u1 u2 u3 u4 u5 zl lv' l' W'' := by
  have hzl : zl < W'.heap.size := cell_lt h.c0
  have hXs := hX1.size
  have hob : ∀ k, lv.ownBlock = some k → w.heap.size + 2 ≤ k := fun k hk => (h.o.block k hk).1
  have far : ∀ p : Addr, p.block < W'.heap.size → some p.block ≠ lv.ownBlock → W''.cell? p = W'.cell? p := fun p hp hne => by
    rw [hg.cell_far p (by omega) hne, hX1.cell hp]
  have lz := h.b.lt
  have bw : Below w.heap.size w W'' := (h.bl.trans (hX1.mono (by omega))).grown hg (by omega) (fun k hk => by have := hob k hk; omega)
  refine ⟨ho, ?_, (h.b.below hX1 h.b.lt).grown hg (fun k hk => by have := hob k hk; omega), ?_, ?_, ?_, bw⟩
  · rcases hb with hb | hb
    · rw [hb]; exact h.ne
    · rw [hb]; intro e; injection e with e; omega
  · rw [far ⟨zl, 0, none⟩ hzl (fun e => h.ne e.symm)]; exact h.c0
  · rw [far ⟨zl, 1, none⟩ hzl (fun e => h.ne e.symm)]; exact h.c1
  · rw [far ⟨zl, 2, none⟩ hzl (fun e => h.ne e.symm)]; exact h.c2
theorem own_is {v : Value} {g n cap z : Nat} (h : v.ownBlock = some g ∨ g = z) : (Value.slice (some ⟨g, 0, none⟩) n cap).ownBlock = v.ownBlock ∨ (Value.slice (some ⟨g, 0, none⟩) n cap).ownBlock = some z := by
  rcases h with h | h
  · exact .inl (by rw [h]; rfl)
  · exact .inr (by rw [h]; rfl)
theorem Wl.slices {w : World} {W : WV} {u1 u2 u3 u4 u5 : Value} (h : Wl w (.agg #[.int .i64 W.turn, .int .i64 W.next, .int .i64 W.wide, .int .i64 W.high, u1, u2, u3, u4, u5]) W) : Ro w u1 W.gs ∧ Ro w u2 W.os ∧ Ro w u3 W.gold ∧ Unl w u4 W.us ∧ Jbl w u5 W.qs := by
  obtain ⟨v1, v2, v3, v4, v5, ev, r⟩ := h
  simp only [Value.agg.injEq, Array.mk.injEq, List.cons.injEq, and_true, true_and] at ev
  obtain ⟨rfl, rfl, rfl, rfl, rfl⟩ := ev
  exact r
end Go.Proofs.Ytamgjhehnblbgaa

namespace Go.Proofs.Ytamgjhehnblbgaa
open Go.ChangeShapes Go.WideShapes Go.ChangeAt Go.RowKit
set_option linter.unusedVariables false

theorem in64_of_wf {n : Int} (h : (Lit.int .i64 n).wf = true) : Wd.In64 n := by
  unfold Wd.In64
  simp only [Lit.wf, Bool.and_eq_true, decide_eq_true_eq] at h
  have h1 : IntKind.i64.min = -9223372036854775808 := by decide
  have h2 : IntKind.i64.max = 9223372036854775807 := by decide
  omega
theorem byte_of_wf {n : Int} (h : (Lit.int .u8 n).wf = true) : 0 ≤ n ∧ n < 256 := by
  simp only [Lit.wf, Bool.and_eq_true, decide_eq_true_eq] at h
  have h1 : IntKind.u8.min = 0 := by decide
  have h2 : IntKind.u8.max = 255 := by decide
  omega
theorem bulk_pos {H : Type} : ∀ d : DataW H, 1 ≤ Rows.uptoBulk d
  | .lit (.string bytes) => by simp [Rows.uptoBulk]
  | .lit (.int _ _) => by simp [Rows.uptoBulk]
  | .lit (.bool _) => by simp [Rows.uptoBulk]
  | .lit (.float .f32 _) => by simp [Rows.uptoBulk]
  | .lit (.float .f64 _) => by simp [Rows.uptoBulk]
  | .lit .nil => by simp [Rows.uptoBulk]
  | .nil => by simp [Rows.uptoBulk]
  | .ptr d => by simp [Rows.uptoBulk]
  | .slice _ _ => by simp [Rows.uptoBulk]
  | .agg _ => by simp [Rows.uptoBulk]
  | .iface _ _ => by simp [Rows.uptoBulk]
  | .map _ => by simp [Rows.uptoBulk]
  | .held _ => by simp [Rows.uptoBulk]
theorem bulk_len {H : Type} : ∀ ds : List (DataW H), ds.length ≤ Rows.uptoBulkAll ds
  | [] => by simp
  | d :: ds => by
    have h1 := bulk_pos d
    have h2 := bulk_len ds
    simp only [Rows.uptoBulkAll, List.length_cons]
    omega
theorem bulk_slice {H : Type} (es sp : List (DataW H)) : es.length ≤ Rows.uptoBulk (.slice es sp) := by
  have := bulk_len es
  simp only [Rows.uptoBulk]
  omega

set_option maxRecDepth 100000 in
theorem open_row64 {H : Type} {enc : TypeId × Value → H} {W : World} {base : Nat} {held : Bool} {fuel : Nat} {v : Value} {y : DataW H × List MemPlace} (h : DataW.trod enc Try.prog W base (fun _ => true) held fuel 27 [v] = some y) :
    ∃ zs, Ro W v zs ∧ (∀ n ∈ zs, Wd.In64 n) ∧ zs.length ≤ Rows.uptoBulk y.1 := by
  rcases open_ints Try.underlying27 Try.underlying3 (by kernel_rfl) h with ⟨hcs, rfl⟩ | ⟨x, l, c, zs, hcs, _, hl, hm, hz, rfl, hcell, hwz⟩
  · simp at hcs
    subst hcs
    exact ⟨_, IsRow.ro (.inl ⟨rfl, rfl, rfl, rfl⟩), by simp, by simp⟩
  · simp at hcs
    subst hcs
    refine ⟨_, IsRow.ro (zs := zs) (.inr ⟨_, rfl, hl, hm, by simpa using hz, hcell, hwz⟩), fun n hn => in64_of_wf (hwz n (List.mem_of_mem_take hn)), ?_⟩
    have := bulk_slice (H := H) (lits .i64 (zs.take l)) (lits .i64 (zs.drop l))
    simpa [lits] using this
theorem un_flds : ∃ f0 f1 f2 f3 f4 f5 f6 f7 : Field, Try.prog.underlying 39 = some (.struct #[f0, f1, f2, f3, f4, f5, f6, f7]) ∧ f0.offset = 0 ∧ f0.type = 3 ∧ f1.offset = 1 ∧ f1.type = 3 ∧ f2.offset = 2 ∧ f2.type = 3 ∧ f3.offset = 3 ∧ f3.type = 3 ∧ f4.offset = 4 ∧ f4.type = 3 ∧ f5.offset = 5 ∧ f5.type = 3 ∧ f6.offset = 6 ∧ f6.type = 3 ∧ f7.offset = 7 ∧ f7.type = 3 := ⟨_, _, _, _, _, _, _, _, Try.underlying39, rfl, rfl, rfl, rfl, rfl, rfl, rfl, rfl, rfl, rfl, rfl, rfl, rfl, rfl, rfl, rfl⟩
set_option maxRecDepth 100000 in
theorem open_un64 {H : Type} {enc : TypeId × Value → H} {W : World} {base : Nat} {held : Bool} {fuel : Nat} {cs : List Value} {y : DataW H × List MemPlace} (h : DataW.trod enc Try.prog W base (fun _ => true) held fuel 39 cs = some y) :
    ∃ k : UnV, cs = [.int .i64 k.id, .int .i64 k.player, .int .i64 k.kind, .int .i64 k.at_, .int .i64 k.life, .int .i64 k.load, .int .i64 k.task, .int .i64 k.goal] ∧ ∀ n ∈ Wd.unums k, Wd.In64 n := by
  obtain ⟨f0, f1, f2, f3, f4, f5, f6, f7, he, o0, t0, o1, t1, o2, t2, o3, t3, o4, t4, o5, t5, o6, t6, o7, t7⟩ := un_flds
  obtain ⟨xs, m, -, -, hlen, hxl, hf⟩ := DataW.trod_struct he h
  have csi : Try.prog.cellsOf 3 = 1 := by kernel_rfl
  have csk : Try.prog.cellsOf 39 = 8 := by kernel_rfl
  rw [csk] at hlen
  match cs, hlen with
  | [v0, v1, v2, v3, v4, v5, v6, v7], _ =>
    have hx : xs.length = 8 := hxl
    match xs, hx with
    | [x0, x1, x2, x3, x4, x5, x6, x7], _ =>
      have g0 := hf 0 f0 rfl
      rw [o0, t0, csi] at g0
      have g1 := hf 1 f1 rfl
      rw [o1, t1, csi] at g1
      have g2 := hf 2 f2 rfl
      rw [o2, t2, csi] at g2
      have g3 := hf 3 f3 rfl
      rw [o3, t3, csi] at g3
      have g4 := hf 4 f4 rfl
      rw [o4, t4, csi] at g4
      have g5 := hf 5 f5 rfl
      rw [o5, t5, csi] at g5
      have g6 := hf 6 f6 rfl
      rw [o6, t6, csi] at g6
      have g7 := hf 7 f7 rfl
      rw [o7, t7, csi] at g7
      obtain ⟨m0, e0, -, w0⟩ := DataW.trod_int Try.underlying3 g0
      obtain ⟨m1, e1, -, w1⟩ := DataW.trod_int Try.underlying3 g1
      obtain ⟨m2, e2, -, w2⟩ := DataW.trod_int Try.underlying3 g2
      obtain ⟨m3, e3, -, w3⟩ := DataW.trod_int Try.underlying3 g3
      obtain ⟨m4, e4, -, w4⟩ := DataW.trod_int Try.underlying3 g4
      obtain ⟨m5, e5, -, w5⟩ := DataW.trod_int Try.underlying3 g5
      obtain ⟨m6, e6, -, w6⟩ := DataW.trod_int Try.underlying3 g6
      obtain ⟨m7, e7, -, w7⟩ := DataW.trod_int Try.underlying3 g7
      simp at e0 e1 e2 e3 e4 e5 e6 e7
      subst e0 e1 e2 e3 e4 e5 e6 e7
      refine ⟨⟨m0, m1, m2, m3, m4, m5, m6, m7⟩, rfl, ?_⟩
      intro n hn
      simp only [Wd.unums, List.mem_cons, List.not_mem_nil, or_false] at hn
      rcases hn with rfl | rfl | rfl | rfl | rfl | rfl | rfl | rfl
      · exact in64_of_wf w0
      · exact in64_of_wf w1
      · exact in64_of_wf w2
      · exact in64_of_wf w3
      · exact in64_of_wf w4
      · exact in64_of_wf w5
      · exact in64_of_wf w6
      · exact in64_of_wf w7
theorem open_uns64 {H : Type} {enc : TypeId × Value → H} {W : World} {base : Nat} {held : Bool} {fuel : Nat} {v : Value} {y : DataW H × List MemPlace} (h : DataW.trod enc Try.prog W base (fun _ => true) held fuel 30 [v] = some y) :
    ∃ ks : List UnV, Unl W v ks ∧ (∀ k ∈ ks, ∀ n ∈ Wd.unums k, Wd.In64 n) ∧ ks.length ≤ Rows.uptoBulk y.1 := by
  have csk : Try.prog.cellsOf 39 = 8 := by kernel_rfl
  rcases Go.Deep.open_slice Try.underlying30 h with ⟨hcs, -⟩ | ⟨a, len, cap, m, q, D, Pl, hcs, hb, hl, hm, hmm, rfl, hx⟩
  · simp at hcs
    subst hcs
    exact ⟨[], ⟨none, 0, rfl, Nat.le_refl _, by omega, fun h => absurd rfl h⟩, by simp, by simp⟩
  · simp at hcs
    subst hcs
    have hlm : len ≤ m := by rw [hmm]; simp; exact hl
    have each : ∀ i, i < len → ∃ k : UnV, Unc W (a.add (i * 8)) k ∧ (∀ n ∈ Wd.unums k, Wd.In64 n) := by
      intro i hi
      obtain ⟨cs', h1, h2⟩ := hx i (by omega)
      obtain ⟨k, rfl, hk⟩ := open_un64 h2
      rw [csk] at h1
      obtain ⟨-, -, hcell⟩ := World.cells?_some h1
      refine ⟨k, ?_, hk⟩
      generalize a.add (i * 8) = y at *
      exact ⟨hcell 0 (by decide), hcell 1 (by decide), hcell 2 (by decide), hcell 3 (by decide), hcell 4 (by decide), hcell 5 (by decide), hcell 6 (by decide), hcell 7 (by decide)⟩
    have inh : Inhabited UnV := ⟨⟨0, 0, 0, 0, 0, 0, 0, 0⟩⟩
    obtain ⟨q, hq⟩ := Go.Deep.choose_lt each
    refine ⟨(List.range len).map q, ⟨some a, cap, by simp, by simpa using hl, by unfold maxLen at hm; omega, fun hn => ⟨a, rfl, ?_, fun i k hk => ?_⟩⟩, ?_, ?_⟩
    · have h0 : 0 < len := by
        rcases Nat.eq_zero_or_pos len with h | h
        · subst h; simp at hn
        · exact h
      have := (hq 0 h0).1.lt
      rwa [add_block] at this
    · have hi : i < len := by
        have := (List.getElem?_eq_some_iff.1 hk).1
        simpa using this
      rw [List.getElem?_map, List.getElem?_range hi] at hk
      injection hk with hk
      subst hk
      exact (hq i hi).1
    · intro k hk
      obtain ⟨i, hi, rfl⟩ := List.mem_map.1 hk
      exact (hq i (List.mem_range.1 hi)).2
    · have := bulk_slice ((List.range len).map D) ((List.range (m - len)).map fun j => D (len + j))
      simpa using this
theorem jb_flds : ∃ f0 f1 f2 f3 : Field, Try.prog.underlying 62 = some (.struct #[f0, f1, f2, f3]) ∧ f0.offset = 0 ∧ f0.type = 3 ∧ f1.offset = 1 ∧ f1.type = 3 ∧ f2.offset = 2 ∧ f2.type = 3 ∧ f3.offset = 3 ∧ f3.type = 3 := ⟨_, _, _, _, Try.underlying62, rfl, rfl, rfl, rfl, rfl, rfl, rfl, rfl⟩
set_option maxRecDepth 100000 in
theorem open_jb64 {H : Type} {enc : TypeId × Value → H} {W : World} {base : Nat} {held : Bool} {fuel : Nat} {cs : List Value} {y : DataW H × List MemPlace} (h : DataW.trod enc Try.prog W base (fun _ => true) held fuel 62 cs = some y) :
    ∃ k : JbV, cs = [.int .i64 k.player, .int .i64 k.unit, .int .i64 k.kind, .int .i64 k.left] ∧ ∀ n ∈ Wd.jnums k, Wd.In64 n := by
  obtain ⟨f0, f1, f2, f3, he, o0, t0, o1, t1, o2, t2, o3, t3⟩ := jb_flds
  obtain ⟨xs, m, -, -, hlen, hxl, hf⟩ := DataW.trod_struct he h
  have csi : Try.prog.cellsOf 3 = 1 := by kernel_rfl
  have csk : Try.prog.cellsOf 62 = 4 := by kernel_rfl
  rw [csk] at hlen
  match cs, hlen with
  | [v0, v1, v2, v3], _ =>
    have hx : xs.length = 4 := hxl
    match xs, hx with
    | [x0, x1, x2, x3], _ =>
      have g0 := hf 0 f0 rfl
      rw [o0, t0, csi] at g0
      have g1 := hf 1 f1 rfl
      rw [o1, t1, csi] at g1
      have g2 := hf 2 f2 rfl
      rw [o2, t2, csi] at g2
      have g3 := hf 3 f3 rfl
      rw [o3, t3, csi] at g3
      obtain ⟨m0, e0, -, w0⟩ := DataW.trod_int Try.underlying3 g0
      obtain ⟨m1, e1, -, w1⟩ := DataW.trod_int Try.underlying3 g1
      obtain ⟨m2, e2, -, w2⟩ := DataW.trod_int Try.underlying3 g2
      obtain ⟨m3, e3, -, w3⟩ := DataW.trod_int Try.underlying3 g3
      simp at e0 e1 e2 e3
      subst e0 e1 e2 e3
      refine ⟨⟨m0, m1, m2, m3⟩, rfl, ?_⟩
      intro n hn
      simp only [Wd.jnums, List.mem_cons, List.not_mem_nil, or_false] at hn
      rcases hn with rfl | rfl | rfl | rfl
      · exact in64_of_wf w0
      · exact in64_of_wf w1
      · exact in64_of_wf w2
      · exact in64_of_wf w3
theorem open_jbs64 {H : Type} {enc : TypeId × Value → H} {W : World} {base : Nat} {held : Bool} {fuel : Nat} {v : Value} {y : DataW H × List MemPlace} (h : DataW.trod enc Try.prog W base (fun _ => true) held fuel 31 [v] = some y) :
    ∃ ks : List JbV, Jbl W v ks ∧ (∀ k ∈ ks, ∀ n ∈ Wd.jnums k, Wd.In64 n) ∧ ks.length ≤ Rows.uptoBulk y.1 := by
  have csk : Try.prog.cellsOf 62 = 4 := by kernel_rfl
  rcases Go.Deep.open_slice Try.underlying31 h with ⟨hcs, -⟩ | ⟨a, len, cap, m, q, D, Pl, hcs, hb, hl, hm, hmm, rfl, hx⟩
  · simp at hcs
    subst hcs
    exact ⟨[], ⟨none, 0, rfl, Nat.le_refl _, by omega, fun h => absurd rfl h⟩, by simp, by simp⟩
  · simp at hcs
    subst hcs
    have hlm : len ≤ m := by rw [hmm]; simp; exact hl
    have each : ∀ i, i < len → ∃ k : JbV, Jbc W (a.add (i * 4)) k ∧ (∀ n ∈ Wd.jnums k, Wd.In64 n) := by
      intro i hi
      obtain ⟨cs', h1, h2⟩ := hx i (by omega)
      obtain ⟨k, rfl, hk⟩ := open_jb64 h2
      rw [csk] at h1
      obtain ⟨-, -, hcell⟩ := World.cells?_some h1
      refine ⟨k, ?_, hk⟩
      generalize a.add (i * 4) = y at *
      exact ⟨hcell 0 (by decide), hcell 1 (by decide), hcell 2 (by decide), hcell 3 (by decide)⟩
    have inh : Inhabited JbV := ⟨⟨0, 0, 0, 0⟩⟩
    obtain ⟨q, hq⟩ := Go.Deep.choose_lt each
    refine ⟨(List.range len).map q, ⟨some a, cap, by simp, by simpa using hl, by unfold maxLen at hm; omega, fun hn => ⟨a, rfl, ?_, fun i k hk => ?_⟩⟩, ?_, ?_⟩
    · have h0 : 0 < len := by
        rcases Nat.eq_zero_or_pos len with h | h
        · subst h; simp at hn
        · exact h
      have := (hq 0 h0).1.lt
      rwa [add_block] at this
    · have hi : i < len := by
        have := (List.getElem?_eq_some_iff.1 hk).1
        simpa using this
      rw [List.getElem?_map, List.getElem?_range hi] at hk
      injection hk with hk
      subst hk
      exact (hq i hi).1
    · intro k hk
      obtain ⟨i, hi, rfl⟩ := List.mem_map.1 hk
      exact (hq i (List.mem_range.1 hi)).2
    · have := bulk_slice ((List.range len).map D) ((List.range (m - len)).map fun j => D (len + j))
      simpa using this
theorem world_flds : ∃ f0 f1 f2 f3 f4 f5 : Field, Try.prog.underlying 33 = some (.struct #[f0, f1, f2, f3, f4, f5]) ∧ f0.offset = 0 ∧ f0.type = 3 ∧ f1.offset = 1 ∧ f1.type = 3 ∧ f2.offset = 2 ∧ f2.type = 29 ∧ f3.offset = 6 ∧ f3.type = 27 ∧ f4.offset = 7 ∧ f4.type = 30 ∧ f5.offset = 8 ∧ f5.type = 31 := ⟨_, _, _, _, _, _, Try.underlying33, rfl, rfl, rfl, rfl, rfl, rfl, rfl, rfl, rfl, rfl, rfl, rfl⟩
theorem field_flds : ∃ f0 f1 f2 f3 : Field, Try.prog.underlying 29 = some (.struct #[f0, f1, f2, f3]) ∧ f0.offset = 0 ∧ f0.type = 3 ∧ f1.offset = 1 ∧ f1.type = 3 ∧ f2.offset = 2 ∧ f2.type = 27 ∧ f3.offset = 3 ∧ f3.type = 27 := ⟨_, _, _, _, Try.underlying29, rfl, rfl, rfl, rfl, rfl, rfl, rfl, rfl⟩
theorem ro_len {w : World} {v : Value} {xs : List Int} (h : Ro w v xs) : Wd.In64 (xs.length : Int) := by
  obtain ⟨a, c, -, h1, h2, -⟩ := h
  unfold Wd.In64; omega
set_option maxRecDepth 100000 in
theorem open_world64 {H : Type} {enc : TypeId × Value → H} {W : World} {base : Nat} {held : Bool} {fuel : Nat} {cs : List Value} {y : DataW H × List MemPlace} (h : DataW.trod enc Try.prog W base (fun _ => true) held fuel 33 cs = some y) :
    ∃ X : WV, Wl W (.agg cs.toArray) X ∧ (∀ n ∈ Wd.nums X, Wd.In64 n) ∧ (Rows.uptoBulk y.1 ≤ 1048576 → WSmall X) := by
  obtain ⟨f0, f1, f2, f3, f4, f5, he, o0, t0, o1, t1, o2, t2, o3, t3, o4, t4, o5, t5⟩ := world_flds
  obtain ⟨xs, m, -, rfl, hlen, hxl, hf⟩ := DataW.trod_struct he h
  have csi : Try.prog.cellsOf 3 = 1 := by kernel_rfl
  have csf : Try.prog.cellsOf 29 = 4 := by kernel_rfl
  have csl : Try.prog.cellsOf 27 = 1 := by kernel_rfl
  have csu : Try.prog.cellsOf 30 = 1 := by kernel_rfl
  have csj : Try.prog.cellsOf 31 = 1 := by kernel_rfl
  have csk : Try.prog.cellsOf 33 = 9 := by kernel_rfl
  rw [csk] at hlen
  match cs, hlen with
  | [v0, v1, v2, v3, v4, v5, v6, v7, v8], _ =>
    have hx : xs.length = 6 := hxl
    match xs, hx with
    | [x0, x1, x2, x3, x4, x5], _ =>
      have g0 := hf 0 f0 rfl
      rw [o0, t0, csi] at g0
      have g1 := hf 1 f1 rfl
      rw [o1, t1, csi] at g1
      have g2 := hf 2 f2 rfl
      rw [o2, t2, csf] at g2
      have g3 := hf 3 f3 rfl
      rw [o3, t3, csl] at g3
      have g4 := hf 4 f4 rfl
      rw [o4, t4, csu] at g4
      have g5 := hf 5 f5 rfl
      rw [o5, t5, csj] at g5
      obtain ⟨m0, e0, -, w0⟩ := DataW.trod_int Try.underlying3 g0
      obtain ⟨m1, e1, -, w1⟩ := DataW.trod_int Try.underlying3 g1
      obtain ⟨r0, r1, r2, r3, he', p0, s0, p1, s1, p2, s2, p3, s3⟩ := field_flds
      obtain ⟨ys, m', -, rfl, hlen', hyl, hg⟩ := DataW.trod_struct he' g2
      have hy : ys.length = 4 := hyl
      match ys, hy with
      | [y0, y1, y2, y3], _ =>
        have k0 := hg 0 r0 rfl
        rw [p0, s0, csi] at k0
        have k1 := hg 1 r1 rfl
        rw [p1, s1, csi] at k1
        have k2 := hg 2 r2 rfl
        rw [p2, s2, csl] at k2
        have k3 := hg 3 r3 rfl
        rw [p3, s3, csl] at k3
        obtain ⟨m2, e2, -, w2⟩ := DataW.trod_int Try.underlying3 k0
        obtain ⟨m3, e3, -, w3⟩ := DataW.trod_int Try.underlying3 k1
        simp at e0 e1 e2 e3
        subst e0 e1 e2 e3
        obtain ⟨gs, hgs, igs, bgs⟩ := open_row64 k2
        obtain ⟨os, hos, ios, bos⟩ := open_row64 k3
        obtain ⟨gold, hgold, igold, bgold⟩ := open_row64 g3
        obtain ⟨us, hus, ius, bus⟩ := open_uns64 g4
        obtain ⟨qs, hqs, iqs, bqs⟩ := open_jbs64 g5
        have lu : Wd.In64 (us.length : Int) := by
          obtain ⟨a, c, -, h1, h2, -⟩ := hus
          unfold Wd.In64; omega
        have lq : Wd.In64 (qs.length : Int) := by
          obtain ⟨a, c, -, h1, h2, -⟩ := hqs
          unfold Wd.In64; omega
        refine ⟨⟨m0, m1, m2, m3, gs, os, gold, us, qs⟩, ⟨_, _, _, _, _, rfl, hgs, hos, hgold, hus, hqs⟩, ?_, ?_⟩
        · intro n hn
          simp only [Wd.nums, List.mem_append, List.mem_cons, List.not_mem_nil, or_false, List.mem_flatMap] at hn
          rcases hn with (((((rfl | rfl | rfl | rfl) | (rfl | hn)) | (rfl | hn)) | (rfl | hn)) | (rfl | ⟨u, hu, hn⟩)) | (rfl | ⟨u, hu, hn⟩)
          · exact in64_of_wf w0
          · exact in64_of_wf w1
          · exact in64_of_wf w2
          · exact in64_of_wf w3
          · exact ro_len hgs
          · exact igs _ hn
          · exact ro_len hos
          · exact ios _ hn
          · exact ro_len hgold
          · exact igold _ hn
          · exact lu
          · exact ius u hu n hn
          · exact lq
          · exact iqs u hu n hn
        · intro hb
          simp only [Rows.uptoBulk, Rows.uptoBulkAll, List.map_cons, List.map_nil] at hb
          exact ⟨by simp only; omega, by simp only; omega, by simp only; omega, by simp only; omega, by simp only; omega⟩
set_option maxRecDepth 100000 in
theorem world_in {H : Type} {enc : TypeId × Value → H} {W : World} {base b0 : Nat} {held : Bool} {v : Value} {d : DataW H} {p : List MemPlace} (hv : Value.okWide Try.prog W .any b0 33 v) (h : DataW.Trod enc Try.prog W base (fun _ => true) held 33 v d p) :
    ∃ X : WV, Wl W v X ∧ (∀ n ∈ Wd.nums X, Wd.In64 n) ∧ (Rows.uptoBulk d ≤ 1048576 → WSmall X) := by
  obtain ⟨cs, rfl, hsz⟩ := okWide_struct Try.underlying33 hv
  obtain ⟨fuel, hf⟩ := h
  have := open_world64 hf
  simpa [Value.cells] using this
end Go.Proofs.Ytamgjhehnblbgaa

namespace Go.Proofs.Ytamgjhehnblbgaa
theorem Sc.won_all (us : List UnV) : ∀ x ∈ us, (Sc.won us).2 = true → x.player = (Sc.won us).1 := by
  cases us with
  | nil => intro x hx; simp at hx
  | cons u l =>
    unfold Sc.won
    intro x hx
    simp only
    split
    · rename_i h
      intro _
      rw [List.all_eq_true] at h
      have := h x hx
      simpa using this
    · intro h; simp at h
theorem Sc.won_len (us : List UnV) : (Sc.won us).2 = true → 0 < us.length := by
  cases us with
  | nil => intro h; simp [Sc.won] at h
  | cons u l => intro _; simp
theorem Sc.above_lt {ps : List Int} {p : Int} (h : p ∈ ps) : Sc.above ps p < ps.length := by
  unfold Sc.above
  rcases Nat.lt_or_ge (ps.countP fun x => decide (p < x)) ps.length with h1 | h1
  · exact h1
  · have h2 : (ps.countP fun x => decide (p < x)) = ps.length := Nat.le_antisymm List.countP_le_length h1
    have := List.countP_eq_length.1 h2 p h
    simp at this
theorem Sc.above_mono (ps : List Int) {p q : Int} (h : p ≤ q) : Sc.above ps q ≤ Sc.above ps p := by
  unfold Sc.above
  refine List.countP_mono_left fun x _ hx => ?_
  simp only [decide_eq_true_eq] at hx ⊢
  omega
theorem Sc.above_strict {ps : List Int} {p q : Int} (hq : q ∈ ps) (h : p < q) : Sc.above ps q < Sc.above ps p := by
  induction ps with
  | nil => simp at hq
  | cons x l ih =>
    have m := Sc.above_mono l (Int.le_of_lt h)
    unfold Sc.above at *
    rw [List.countP_cons, List.countP_cons]
    rcases List.mem_cons.1 hq with rfl | hq
    · rw [if_neg (by simp), if_pos (by simpa using h)]
      omega
    · have := ih hq
      by_cases hx : q < x
      · rw [if_pos (by simpa using hx), if_pos (by simp; omega)]
        omega
      · rw [if_neg (by simpa using hx)]
        omega
theorem Sc.first (ps : List Int) : ps ≠ [] → ∃ p ∈ ps, Sc.above ps p = 0 := by
  intro h
  have : ∀ l : List Int, l ≠ [] → ∃ p ∈ l, ∀ x ∈ l, x ≤ p := by
    intro l
    induction l with
    | nil => intro h; exact absurd rfl h
    | cons x l ih =>
      intro _
      by_cases hl : l = []
      · subst hl; exact ⟨x, by simp, by simp⟩
      · obtain ⟨p, hp, hm⟩ := ih hl
        by_cases hx : x ≤ p
        · exact ⟨p, by simp [hp], fun y hy => by rcases List.mem_cons.1 hy with rfl | hy; exact hx; exact hm y hy⟩
        · exact ⟨x, by simp, fun y hy => by rcases List.mem_cons.1 hy with rfl | hy; exact Int.le_refl _; have := hm y hy; omega⟩
  obtain ⟨p, hp, hm⟩ := this ps h
  refine ⟨p, hp, ?_⟩
  unfold Sc.above
  rw [List.countP_eq_zero]
  intro x hx
  have := hm x hx
  simp
  omega
theorem Sc.one_is (ps : List Int) : ((ps.length : Int) == 0 || (Sc.ranks ps).any (· == 1)) = true := by
  by_cases h : ps = []
  · subst h; rfl
  · obtain ⟨p, hp, h0⟩ := Sc.first ps h
    rw [Bool.or_eq_true]
    right
    rw [List.any_eq_true]
    refine ⟨1, ?_, by rfl⟩
    unfold Sc.ranks
    rw [List.mem_map]
    exact ⟨p, hp, by rw [h0]; rfl⟩
theorem Sc.any_next {l : List Int} {n : Nat} {x : Int} (h : l[n]? = some x) : (l.take (n + 1)).any (· == 1) = ((l.take n).any (· == 1) || x == 1) := by
  rw [List.take_add_one, h, List.any_append]
  simp
end Go.Proofs.Ytamgjhehnblbgaa
namespace Go.Proofs.Ytamgjhehnblbgaa.scorePlaces
open Go.RowKit
set_option linter.unusedVariables false

theorem fact : Sc.ranks [5, 9, 5] = [2, 1, 2] := by decide
set_option maxRecDepth 100000 in
set_option maxHeartbeats 16000000 in
theorem walk (v0 : Value) (ps : List Int) (v1 : Value) (X : WV) (w : World) (h0 : Ro w v0 ps) (h1 : Wl w v1 X ∧ ∀ n ∈ Wd.nums X, Wd.In64 n) :
    Calls Try.prog 4 #[v0, v1] w fun e w' => e = .returned (.bool true) ∧ Below w.heap.size w w' := by
  have R0 : Hid (Ro w v0 ps) := h0
  obtain ⟨hw, -⟩ := h1
  have W0 : Hid (Wl w v1 X) := hw
  obtain ⟨v1, v2, v3, v4, v5, rfl, r1, r2, r3, hu, r5⟩ := hw
  have U0 : Hid (Unl w v4 X.us) := hu
  obtain ⟨au, cu, rfl, cu1, cu2, -⟩ := hu
  obtain ⟨a, c, rfl, c1, c2, -⟩ := h0
  clear r1 r2 r3 r5
  have WL : Hid (∀ V, Below w.heap.size w V → Wl V (.agg #[.int .i64 X.turn, .int .i64 X.next, .int .i64 X.wide, .int .i64 X.high, v1, v2, v3, .slice au X.us.length cu, v5]) X) := fun V hV => W0.out.below hV
  have UL : Hid (∀ V, Below w.heap.size w V → Unl V (.slice au X.us.length cu) X.us) := fun V hV => U0.out.below hV
  go_enter Try.func4, Try.ntmps4
  obtain ⟨z, hz⟩ : ∃ z, w.heap.size = z := ⟨_, rfl⟩
  have HZ : Hid (w.heap.size = z) := hz
  have X0 : Hid (Bw (w.alloc (Obj.cells #[.int .i64 X.turn, .int .i64 X.next, .int .i64 X.wide, .int .i64 X.high, v1, v2, v3, .slice au X.us.length cu, v5] 33)) z X v1 v2 v3 (.slice au X.us.length cu) v5) := Bw.mk' (w := w) X v1 v2 v3 (.slice au X.us.length cu) v5 hz
  have B0 : Hid (Below w.heap.size w (w.alloc (Obj.cells #[.int .i64 X.turn, .int .i64 X.next, .int .i64 X.wide, .int .i64 X.high, v1, v2, v3, .slice au X.us.length cu, v5] 33))) := (Below.refl _ _).alloc (Nat.le_refl _) _
  go_upto_region 1 with fail
  generalize (w.alloc (Obj.cells #[.int .i64 X.turn, .int .i64 X.next, .int .i64 X.wide, .int .i64 X.high, v1, v2, v3, .slice au X.us.length cu, v5] 33)) = w1 at *
  have S1 : Hid (z < w1.heap.size) := X0.out.lt
  have L1 : Hid (Ro (w1.alloc (Obj.cells #[.int .i64 5, .int .i64 9, .int .i64 5] 3)) (.slice (some ⟨w1.heap.size, 0, none⟩) 3 3) [5, 9, 5]) := Ro.lit (w := w1) [5, 9, 5] #[.int .i64 5, .int .i64 9, .int .i64 5] rfl (by decide) rfl
  have B2 : Hid (Below w1.heap.size w1 (w1.alloc (Obj.cells #[.int .i64 5, .int .i64 9, .int .i64 5] 3))) := (Below.refl _ _).alloc (Nat.le_refl _) _
  go_wp2_with fail
  refine (rank_any _ [5, 9, 5] _ L1.out).mono ?_
  rintro e w2 ⟨r, u, rfl, b2, hr⟩
  have BW2 : Hid (Below w1.heap.size w1 w2) := B2.out.trans (b2.mono B2.out.size)
  have B3 : Hid (Below w.heap.size w w2) := B0.out.trans (BW2.out.mono B0.out.size)
  have X2 : Hid (Bw w2 z X v1 v2 v3 (.slice au X.us.length cu) v5) := X0.out.below BW2.out X0.out.lt
  rcases hr with ⟨h9, -⟩ | ⟨-, hr, he⟩
  · simp at h9
  obtain rfl : u = .nilIface := by
    rcases he with ⟨-, e⟩ | ⟨h, -⟩
    · exact e
    · exact absurd rfl h
  rw [fact] at hr
  obtain ⟨ra, rc, rfl, -, -, hc⟩ := hr
  obtain ⟨y, rfl, -, hc⟩ := hc (by simp)
  have k0 : w2.cell? y = some (.int .i64 2) := hc 0 2 rfl
  have k1 : w2.cell? ⟨y.block, y.off + 1, none⟩ = some (.int .i64 1) := hc 1 1 rfl
  have k2 : w2.cell? ⟨y.block, y.off + 2, none⟩ = some (.int .i64 2) := hc 2 2 rfl
  clear hc b2 B2 BW2 L1 S1 B0 X0
  have RP : Hid (∀ V, Below w.heap.size w V → Ro V (.slice a ps.length c) ps) := fun V hV => R0.out.below hV
  simp only [List.length_cons, List.length_nil]
  go_upto_region 4 with fail
  clear k0 k1 k2
  go_wp2_with fail
  refine (rank_any _ ps _ (RP.out w2 B3.out)).mono ?_
  rintro e w3 ⟨r, u, rfl, b3, hr⟩
  have B4 : Hid (Below w.heap.size w w3) := B3.out.trans (b3.mono B3.out.size)
  have X3 : Hid (Bw w3 z X v1 v2 v3 (.slice au X.us.length cu) v5) := X2.out.below b3 X2.out.lt
  clear b3
  rcases hr with ⟨h9, -, he⟩ | ⟨h9, hr, he⟩
  · rcases he with ⟨he, -⟩ | ⟨-, rfl⟩
    · omega
    obtain ⟨x0, x1, x2, x3, x4, x5, x6, x7, x8⟩ := X3.out
    go_wp2_with fail
    clear x0 x1 x2 x3 x4 x5 x6 x7 x8
    refine (winner_any _ X w3 (WL.out w3 B4.out)).mono ?_
    rintro e w9 ⟨rfl, b9⟩
    have B9 : Hid (Below w.heap.size w w9) := B4.out.trans (b9.mono B4.out.size)
    have X9 : Hid (Bw w9 z X v1 v2 v3 (.slice au X.us.length cu) v5) := X3.out.below b9 X3.out.lt
    have PL : Hid (∀ x ∈ X.us, (Sc.won X.us).2 = true → x.player = (Sc.won X.us).1) := Sc.won_all X.us
    have PN : Hid ((Sc.won X.us).2 = true → 0 < X.us.length) := Sc.won_len X.us
    generalize (Sc.won X.us).1 = wp at *
    generalize (Sc.won X.us).2 = wb at *
    clear b9
    have x7 := X9.out.c7
    go_wp2_with fail
    clear x7
    go_loopw [14] (fun j V => ∃ n : Nat, n ≤ X.us.length ∧ j = .int .i64 (n : Nat) ∧ Below w9.heap.size w9 V) (fun j _ => X.us.length - (intOf j).toNat)
    case atStart => exact ⟨0, Nat.zero_le _, rfl, Below.refl _ _⟩
    case round =>
      obtain ⟨n, hn, rfl, hB⟩ := hrel
      have BB : Hid (Below w9.heap.size w9 wr) := hB
      have x7 := (X9.out.below hB X9.out.lt).c7
      clear hB
      by_cases hne : n = X.us.length
      · subst hne
        have BF : Hid (Below w.heap.size w wr) := B9.out.trans (BB.out.mono B9.out.size)
        cases wb with
        | false =>
          go_wp2
          go_ret
          exact ⟨rfl, by first | exact BF.out | (rw [← HZ.out]; exact BF.out)⟩
        | true =>
          have p0 := PN.out rfl
          have p1 : (0 : Int) < (X.us.length : Int) := by omega
          go_wp2
          go_ret
          exact ⟨rfl, by first | exact BF.out | (rw [← HZ.out]; exact BF.out)⟩
      · have hnl : n < X.us.length := by omega
        have hnl' : (n : Int) < (X.us.length : Int) := by omega
        obtain ⟨x, hx⟩ : ∃ x, X.us[n]? = some x := ⟨_, List.getElem?_eq_getElem hnl⟩
        obtain ⟨a', c', e', -, -, hy⟩ := UL.out wr (B9.out.trans (BB.out.mono B9.out.size))
        injection e' with e1 e2 e3
        subst e1 e3
        obtain ⟨xu, rfl, hxl, hy⟩ := hy (by rintro hn; rw [hn] at hnl; simp at hnl)
        have y1 := (hy n x hx).c1
        have PX := PL.out x (List.mem_of_getElem? hx)
        clear hy hxl hx e2
        cases wb with
        | false =>
          go_wp2
          exact ⟨⟨n + 1, by omega, by go_num, BB.out⟩, by simp [intOf]; omega⟩
        | true =>
          rw [PX rfl] at y1
          clear PX
          go_wp2
          exact ⟨⟨n + 1, by omega, by go_num, BB.out⟩, by simp [intOf]; omega⟩
  · obtain rfl : u = .nilIface := by
      rcases he with ⟨-, e⟩ | ⟨h, -⟩
      · exact e
      · exact absurd rfl h
    obtain ⟨ra, rc, rfl, -, -, -⟩ := id hr
    have RR : Hid (Ro w3 (.slice ra (Sc.ranks ps).length rc) (Sc.ranks ps)) := hr
    have rl : (Sc.ranks ps).length = ps.length := Sc.ranks_len ps
    have RQ : Hid (∀ V, Below w3.heap.size w3 V → Ro V (.slice ra ps.length rc) (Sc.ranks ps)) := fun V hV => by have := RR.out.below hV; rw [rl] at this; exact this
    rw [rl]
    clear hr RR rl
    go_wp2_with fail
    go_loopw [9, 10] (fun f j V => ∃ n : Nat, n ≤ ps.length ∧ j = .int .i64 (n : Nat) ∧ Below w3.heap.size w3 V ∧ ∃ b : Bool, f = .bool b ∧ b = ((ps.length : Int) == 0 || ((Sc.ranks ps).take n).any (· == 1))) (fun _ j _ => ps.length - (intOf j).toNat)
    case atStart => exact ⟨0, Nat.zero_le _, rfl, Below.refl _ _, _, rfl, by simp⟩
    case round =>
      obtain ⟨n, hn, rfl, hB, fb, rfl, hfb⟩ := hrel
      have BB : Hid (Below w3.heap.size w3 wr) := hB
      have FB : Hid (fb = ((ps.length : Int) == 0 || ((Sc.ranks ps).take n).any (· == 1))) := hfb
      clear hB hfb
      by_cases hne : n = ps.length
      · subst hne
        have FT : fb = true := by
          have h8 := FB.out
          rw [List.take_of_length_le (by rw [Sc.ranks_len]; exact Nat.le_refl _), Sc.one_is] at h8
          exact h8
        clear FB
        subst FT
        have B5 : Hid (Below w.heap.size w wr) := B4.out.trans (BB.out.mono B4.out.size)
        have X5 : Hid (Bw wr z X v1 v2 v3 (.slice au X.us.length cu) v5) := X3.out.below BB.out X3.out.lt
        generalize wr = wq at *
        obtain ⟨x0, x1, x2, x3, x4, x5, x6, x7, x8⟩ := X5.out
        go_wp2_with fail
        clear x0 x1 x2 x3 x4 x5 x6 x7 x8
        refine (winner_any _ X wq (WL.out wq B5.out)).mono ?_
        rintro e w9 ⟨rfl, b9⟩
        have B9 : Hid (Below w.heap.size w w9) := B5.out.trans (b9.mono B5.out.size)
        have X9 : Hid (Bw w9 z X v1 v2 v3 (.slice au X.us.length cu) v5) := X5.out.below b9 X5.out.lt
        have PL : Hid (∀ x ∈ X.us, (Sc.won X.us).2 = true → x.player = (Sc.won X.us).1) := Sc.won_all X.us
        have PN : Hid ((Sc.won X.us).2 = true → 0 < X.us.length) := Sc.won_len X.us
        generalize (Sc.won X.us).1 = wp at *
        generalize (Sc.won X.us).2 = wb at *
        clear b9
        have x7 := X9.out.c7
        go_wp2_with fail
        clear x7
        go_loopw [14] (fun j V => ∃ n : Nat, n ≤ X.us.length ∧ j = .int .i64 (n : Nat) ∧ Below w9.heap.size w9 V) (fun j _ => X.us.length - (intOf j).toNat)
        case atStart => exact ⟨0, Nat.zero_le _, rfl, Below.refl _ _⟩
        case round =>
          obtain ⟨n, hn, rfl, hB⟩ := hrel
          have BB : Hid (Below w9.heap.size w9 wr) := hB
          have x7 := (X9.out.below hB X9.out.lt).c7
          clear hB
          by_cases hne : n = X.us.length
          · subst hne
            have BF : Hid (Below w.heap.size w wr) := B9.out.trans (BB.out.mono B9.out.size)
            cases wb with
            | false =>
              go_wp2
              go_ret
              exact ⟨rfl, by first | exact BF.out | (rw [← HZ.out]; exact BF.out)⟩
            | true =>
              have p0 := PN.out rfl
              have p1 : (0 : Int) < (X.us.length : Int) := by omega
              go_wp2
              go_ret
              exact ⟨rfl, by first | exact BF.out | (rw [← HZ.out]; exact BF.out)⟩
          · have hnl : n < X.us.length := by omega
            have hnl' : (n : Int) < (X.us.length : Int) := by omega
            obtain ⟨x, hx⟩ : ∃ x, X.us[n]? = some x := ⟨_, List.getElem?_eq_getElem hnl⟩
            obtain ⟨a', c', e', -, -, hy⟩ := UL.out wr (B9.out.trans (BB.out.mono B9.out.size))
            injection e' with e1 e2 e3
            subst e1 e3
            obtain ⟨xu, rfl, hxl, hy⟩ := hy (by rintro hn; rw [hn] at hnl; simp at hnl)
            have y1 := (hy n x hx).c1
            have PX := PL.out x (List.mem_of_getElem? hx)
            clear hy hxl hx e2
            cases wb with
            | false =>
              go_wp2
              exact ⟨⟨n + 1, by omega, by go_num, BB.out⟩, by simp [intOf]; omega⟩
            | true =>
              rw [PX rfl] at y1
              clear PX
              go_wp2
              exact ⟨⟨n + 1, by omega, by go_num, BB.out⟩, by simp [intOf]; omega⟩
      · have hnl : n < ps.length := by omega
        have hnl' : (n : Int) < (ps.length : Int) := by omega
        obtain ⟨d, hd⟩ : ∃ d, ps[n]? = some d := ⟨_, List.getElem?_eq_getElem hnl⟩
        have HD : Hid (ps[n]? = some d) := hd
        obtain ⟨q, hq⟩ : ∃ q, Sc.above ps d = q := ⟨_, rfl⟩
        have HQ : Hid (Sc.above ps d = q) := hq
        have ql : q < ps.length := by rw [← hq]; exact Sc.above_lt (List.mem_of_getElem? hd)
        have rk := Sc.ranks_get hd
        rw [hq] at rk
        have NX : Hid (((Sc.ranks ps).take (n + 1)).any (· == 1) = (((Sc.ranks ps).take n).any (· == 1) || ((1 + q : Nat) : Int) == 1)) := Sc.any_next rk
        obtain ⟨q1, hq1⟩ : ∃ q1 : Nat, 1 + q = q1 := ⟨_, rfl⟩
        have HQ1 : Hid (1 + q = q1) := hq1
        rw [hq1] at rk NX
        have RK : Hid ((Sc.ranks ps)[n]? = some ((q1 : Nat) : Int)) := rk
        have g1 : ¬ ((q1 : Nat) : Int) < 1 := by omega
        have g2 : ¬ (ps.length : Int) < ((q1 : Nat) : Int) := by omega
        clear hd hq rk hq1
        obtain ⟨a9, c9, e9, -, -, h9'⟩ := RQ.out wr BB.out
        injection e9 with e91 e92 e93
        subst e91 e93
        obtain ⟨yr, rfl, -, hyr⟩ := h9' (by rintro hn; rw [← Sc.ranks_len, hn] at hnl; simp at hnl)
        have cr := hyr n _ RK.out
        have YR : Hid (∀ V, Below w3.heap.size w3 V → ∀ (i : Nat) x, (Sc.ranks ps)[i]? = some x → V.cell? (yr.add i) = some (.int .i64 x)) := fun V hV i x hx => by
          obtain ⟨a8, c8, e8, -, -, h8⟩ := RQ.out V hV
          injection e8 with e81 e82 e83
          subst e81 e83
          obtain ⟨y8, e8, -, hy8⟩ := h8 (by rintro hn; rw [hn] at hx; simp at hx)
          injection e8 with e8
          subst e8
          exact hy8 i x hx
        clear hyr h9' e92
        have FN : Hid (∀ b : Bool, (b = (fb || (((q1 : Nat) : Int) == 1))) → b = ((ps.length : Int) == 0 || ((Sc.ranks ps).take (n + 1)).any (· == 1))) := fun b hb => by rw [hb, FB.out, NX.out, Bool.or_assoc]
        have DD : (fb = true) ∨ (fb = false ∧ (((q1 : Nat) : Int) == 1) = true) ∨ (fb = false ∧ (((q1 : Nat) : Int) == 1) = false) := by
          cases fb <;> cases (((q1 : Nat) : Int) == 1) <;> simp
        clear FB NX
        rcases DD with rfl | ⟨rfl, dd⟩ | ⟨rfl, dd⟩
        all_goals
          go_upto_region 13 with fail
          (try (have DH : Hid ((((q1 : Nat) : Int) == 1) = true) := dd; clear dd))
          (try (have DH : Hid ((((q1 : Nat) : Int) == 1) = false) := dd; clear dd))
          clear cr g1 g2
          go_wp2_with fail
          generalize wr = wo at *
          go_loopw [11] (fun j V => ∃ m : Nat, m ≤ ps.length ∧ j = .int .i64 (m : Nat) ∧ Below w3.heap.size w3 V) (fun j _ => ps.length - (intOf j).toNat)
          case atStart => exact ⟨0, Nat.zero_le _, rfl, BB.out⟩
          case round =>
            obtain ⟨m, hm, rfl, hB⟩ := hrel
            have BI : Hid (Below w3.heap.size w3 wr) := hB
            clear hB
            by_cases hme : m = ps.length
            · subst hme
              go_wp2
              refine ⟨⟨n + 1, by omega, by go_num, BI.out, _, rfl, FN.out _ ?_⟩, by simp [intOf]; omega⟩
              first | rfl | (rw [DH.out]; rfl)
            · have hml : m < ps.length := by omega
              have hml' : (m : Int) < (ps.length : Int) := by omega
              obtain ⟨f, hf⟩ : ∃ f, ps[m]? = some f := ⟨_, List.getElem?_eq_getElem hml⟩
              obtain ⟨p1, hp1⟩ : ∃ p1 : Nat, 1 + Sc.above ps f = p1 := ⟨_, rfl⟩
              have rk := Sc.ranks_get hf
              rw [hp1] at rk
              have C1 := YR.out wr BI.out n _ RK.out
              have C2 := YR.out wr BI.out m _ rk
              obtain ⟨a9, c9, e9, -, -, h9'⟩ := RP.out wr (B4.out.trans (BI.out.mono B4.out.size))
              injection e9 with e91 e92 e93
              subst e91 e93
              obtain ⟨yp, rfl, -, hyp⟩ := h9' (by rintro hn; rw [hn] at hnl; simp at hnl)
              have C3 := hyp n _ HD.out
              have C4 := hyp m _ hf
              have TW : (f < d ∧ ((q1 : Nat) : Int) < ((p1 : Nat) : Int)) ∨ (¬ f < d ∧ ¬ ((q1 : Nat) : Int) < ((p1 : Nat) : Int)) := by
                by_cases hfd : f < d
                · have := Sc.above_strict (List.mem_of_getElem? HD.out) hfd
                  have := HQ.out
                  have := HQ1.out
                  exact .inl ⟨hfd, by omega⟩
                · have := Sc.above_mono ps (p := d) (q := f) (by omega)
                  have := HQ.out
                  have := HQ1.out
                  exact .inr ⟨hfd, by omega⟩
              clear hyp h9' e92 hf hp1 rk
              rcases TW with ⟨t1, t2⟩ | ⟨t1, t2⟩
              all_goals
                have t2' : (q1 < p1) = (q1 < p1) := rfl
                (try (have t3 : q1 < p1 := by omega))
                (try (have t3 : ¬ q1 < p1 := by omega))
                go_upto_region 16 with fail
                go_quiet (fail)
                have BD : Hid (Below w3.heap.size w3 (wr.drewN nq)) := BI.out.trans ⟨rfl, rfl, rfl, Nat.le_refl _, fun _ _ => rfl⟩
                generalize wr.drewN nq = wn at *
                go_wp2
                exact ⟨⟨m + 1, by omega, by go_num, BD.out⟩, by simp [intOf]; omega⟩
end Go.Proofs.Ytamgjhehnblbgaa.scorePlaces

