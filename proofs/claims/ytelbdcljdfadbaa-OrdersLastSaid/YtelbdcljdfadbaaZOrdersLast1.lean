/- What stays where one block turns. (Big2 has the same words for texts of its own; where both are wanted, let Big2 import this.) · What a walk is told of a slice of integers that came in. · Lists of integers: what a slice holds. · api.Order: records in memory. · The program's orders: which of two stands ahead. · A stable order: elements with the place that they had. Plain mathematics. · orders.unit as a map's key; a map of such keys that a call makes. · orders.Last as mathematics: each unit's last order, and those to train. · Texts: cut at a byte and joined again; whole numbers as digits. Plain mathematics. · Texts: their lines. Plain mathematics. · Orders: what is wrong with them, their text, and back. Plain mathematics. · An error that is told. · The program's orders: what is wrong with one. · Slices of api.Order that the call itself makes, by append. · orders.Check, unitOf, lastOnes. · Orders in a block that may be sorted in place. · A region whose operations read, and call what makes memory, ahead of a tail in one order: it may be walked in the text's order. · The program's orders: compare. · slices.insertionSortCmpFunc of orders by compare. -/
import Derived.Test.YtelbdcljdfadbaaRows
import Derived.WalkKit
import Derived.WalkSpells
import Derived.WalkLawsBesides
import Derived.ProofKit
import Derived.Deep.QuietTactic
import Derived.BigQuiet
import Derived.Laws.Closers25
import Derived.IntWalk
import Derived.LoopN
import Derived.Maps.Own
import Derived.Maps.OwnOps
import Derived.Maps.Views
import Derived.Carry
import Derived.DeepKeys4
import Derived.OwnWalk
import Derived.Deep.AppendLies
import Derived.Deep.DeepCutAuto
import Derived.StillTail
import Derived.Below
import Derived.BigRegion
import Derived.Shelf.Abstract
namespace Go.Proofs.Ytelbdcljdfadbaa
open Go.RowKit

/-- nothing below has turned but block z. -/
structure Kp (z : Nat) (w w' : World) : Prop where
  os : w'.os = w.os
  tape : w'.tape = w.tape
  output : w'.output = w.output
  size : w.heap.size ≤ w'.heap.size
  block : ∀ k, k < w.heap.size → k ≠ z → w'.heap[k]? = w.heap[k]?

theorem Kp.of {z : Nat} {w w' : World} (h : Below w.heap.size w w') : Kp z w w' := ⟨h.os, h.tape, h.output, h.size, fun k hk _ => h.block k hk⟩
theorem Kp.refl (z : Nat) (w : World) : Kp z w w := Kp.of (Below.refl _ _)
theorem Kp.trans {z : Nat} {a b c : World} (h : Kp z a b) (k : Kp z b c) : Kp z a c :=
  ⟨k.os.trans h.os, k.tape.trans h.tape, k.output.trans h.output, Nat.le_trans h.size k.size, fun i hi hz => (k.block i (Nat.lt_of_lt_of_le hi h.size) hz).trans (h.block i hi hz)⟩
theorem Kp.set {z : Nat} (w : World) (i : Nat) (u : Value) : Kp z w (w.setCell ⟨z, i, none⟩ u) :=
  ⟨rfl, rfl, rfl, by simp [World.setCell], fun k _ hz => Below.heap_setCell _ _ _ _ hz⟩
theorem Kp.below {z B : Nat} {a w w' : World} (h : Below B a w) (k : Kp z w w') (hB : B ≤ w.heap.size) (hz : B ≤ z) : Below B a w' :=
  h.trans ⟨k.os, k.tape, k.output, k.size, fun i hi => k.block i (by omega) (by omega)⟩

theorem Kp.set_new {z b : Nat} {w W : World} (h : Kp z w W) (hb : w.heap.size ≤ b) (i : Nat) (u : Value) : Kp z w (W.setCell ⟨b, i, none⟩ u) :=
  ⟨h.os, h.tape, h.output, by simpa [World.setCell] using h.size, fun k hk hz => (Below.heap_setCell _ _ _ _ (by show k ≠ b; omega)).trans (h.block k hk hz)⟩
theorem Kp.drewN {z : Nat} {w W : World} (h : Kp z w W) (n : Nat) : Kp z w (W.drewN n) := ⟨h.os, h.tape, h.output, h.size, h.block⟩

theorem lt_of_block {w : World} {b : Nat} {o : Obj} (h : w.heap[b]? = some o) : b < w.heap.size := by
  rcases Nat.lt_or_ge b w.heap.size with h1 | h1
  · exact h1
  · rw [Array.getElem?_eq_none h1] at h; cases h

end Go.Proofs.Ytelbdcljdfadbaa

namespace Go.Proofs.Ytelbdcljdfadbaa

/-- nil, or a row of cells: the numbers zs, of which the first len are the elements. -/
def IsRow (k : IntKind) (w : World) (a : Option Addr) (len cap : Nat) (zs : List Int) : Prop :=
  (a = none ∧ len = 0 ∧ cap = 0 ∧ zs = []) ∨
  ∃ x, a = some x ∧ len ≤ cap ∧ cap ≤ maxLen ∧ zs.length = cap ∧ (∀ i, i < zs.length → w.cell? (x.add i) = some (.int k (zs.getD i 0))) ∧ ∀ n ∈ zs, (Lit.int k n).wf = true
end Go.Proofs.Ytelbdcljdfadbaa

namespace Go.Proofs.Ytelbdcljdfadbaa
open Go.RowKit

/-- the cells of a list, from an address on. -/
def Cells (w : World) (a : Option Addr) (xs : List Int) : Prop := xs ≠ [] → ∃ x, a = some x ∧ x.block < w.heap.size ∧ ∀ i d, xs[i]? = some d → w.cell? (x.add i) = some (.int .i64 d)
/-- v is a slice of the integers xs. -/
def Ro (w : World) (v : Value) (xs : List Int) : Prop := ∃ (a : Option Addr) (c : Nat), v = .slice a xs.length c ∧ xs.length ≤ c ∧ c ≤ 9223372036854775807 ∧ Cells w a xs

theorem cell_lt {w : World} {x : Addr} {v : Value} (h : w.cell? x = some v) : x.block < w.heap.size := by
  rcases Nat.lt_or_ge x.block w.heap.size with h1 | h1
  · exact h1
  · simp [World.cell?, Array.getElem?_eq_none h1] at h

theorem add_block (x : Addr) (i : Nat) : (x.add i).block = x.block := by unfold Addr.add; split <;> rfl

theorem Cells.below {w w' : World} {a : Option Addr} {xs : List Int} (h : Cells w a xs) (hb : Below w.heap.size w w') : Cells w' a xs := fun hx => by
  obtain ⟨x, ha, hl, hc⟩ := h hx
  refine ⟨x, ha, Nat.lt_of_lt_of_le hl hb.size, fun i d hd => ?_⟩
  rw [hb.cell (p := x.add i) (by rw [add_block]; exact hl)]
  exact hc i d hd
theorem Ro.below {w w' : World} {v : Value} {xs : List Int} (h : Ro w v xs) (hb : Below w.heap.size w w') : Ro w' v xs := by
  obtain ⟨a, c, h1, h2, h3, h4⟩ := h
  exact ⟨a, c, h1, h2, h3, h4.below hb⟩
theorem Ro.drewN {w : World} {v : Value} {xs : List Int} (h : Ro w v xs) (n : Nat) : Ro (w.drewN n) v xs := h.below (_root_.Go.below_drewN (Below.refl _ _) n)

/-- what came in. -/
theorem IsRow.ro {w : World} {a : Option Addr} {len cap : Nat} {zs : List Int} (h : IsRow .i64 w a len cap zs) : Ro w (.slice a len cap) (zs.take len) := by
  rcases h with ⟨rfl, rfl, rfl, rfl⟩ | ⟨x, rfl, h1, h2, h3, h4, h5⟩
  · exact ⟨none, 0, rfl, Nat.le_refl _, by omega, fun h => absurd rfl h⟩
  · have hl : (zs.take len).length = len := by rw [List.length_take]; omega
    refine ⟨some x, cap, by rw [hl], by omega, by unfold maxLen at h2; omega, fun hx => ⟨x, rfl, ?_, fun i d hd => ?_⟩⟩
    · have h0 : 0 < zs.length := by
        rcases Nat.eq_zero_or_pos zs.length with h | h
        · exact absurd (by rw [List.length_eq_zero_iff.1 h]; simp) hx
        · exact h
      have := cell_lt (x := x.add 0) (h4 0 h0)
      rwa [add_block] at this
    · rw [List.getElem?_take] at hd
      split at hd
      · obtain ⟨hi, he⟩ := List.getElem?_eq_some_iff.1 hd
        rw [h4 i hi, List.getD_eq_getElem?_getD, hd]
        rfl
      · cases hd
end Go.Proofs.Ytelbdcljdfadbaa

namespace Go.Proofs.Ytelbdcljdfadbaa
open Go.RowKit
set_option linter.unusedVariables false

structure OrV where
  player : Int
  unit : Int
  what : Int
  arg : Int
def OrV.val (k : OrV) : Value := .agg #[.int .i64 k.player, .int .i64 k.unit, .int .i64 k.what, .int .i64 k.arg]
/-- its cells, from an address on. -/
structure Orc (w : World) (y : Addr) (k : OrV) : Prop where
  c0 : w.cell? y = some (.int .i64 k.player)
  c1 : w.cell? ⟨y.block, y.off + 1, none⟩ = some (.int .i64 k.unit)
  c2 : w.cell? ⟨y.block, y.off + 2, none⟩ = some (.int .i64 k.what)
  c3 : w.cell? ⟨y.block, y.off + 3, none⟩ = some (.int .i64 k.arg)
theorem Orc.lt {w : World} {y : Addr} {k : OrV} (h : Orc w y k) : y.block < w.heap.size := cell_lt h.c0
theorem Orc.below {w w' : World} {y : Addr} {k : OrV} {B : Nat} (h : Orc w y k) (hb : Below B w w') (hy : y.block < B) : Orc w' y k :=
  ⟨by rw [hb.cell (p := y) hy]; exact h.c0, by rw [hb.cell (p := ⟨y.block, y.off + 1, none⟩) hy]; exact h.c1, by rw [hb.cell (p := ⟨y.block, y.off + 2, none⟩) hy]; exact h.c2, by rw [hb.cell (p := ⟨y.block, y.off + 3, none⟩) hy]; exact h.c3⟩
/-- v is a slice of them. -/
def Orl (w : World) (v : Value) (ks : List OrV) : Prop := ∃ a c, v = .slice a ks.length c ∧ ks.length ≤ c ∧ c ≤ 9223372036854775807 ∧ (ks ≠ [] → ∃ x, a = some x ∧ x.block < w.heap.size ∧ ∀ (i : Nat) k, ks[i]? = some k → Orc w (x.add (i * 4)) k)
theorem Orl.below {w w' : World} {v : Value} {ks : List OrV} (h : Orl w v ks) (hb : Below w.heap.size w w') : Orl w' v ks := by
  obtain ⟨a, c, h1, h2, h3, h4⟩ := h
  refine ⟨a, c, h1, h2, h3, fun hn => ?_⟩
  obtain ⟨x, e, hx, hk⟩ := h4 hn
  exact ⟨x, e, Nat.lt_of_lt_of_le hx hb.size, fun i k hi => (hk i k hi).below hb (by rw [add_block]; exact hx)⟩
theorem Orc.mk' {w : World} {z : Nat} (k : OrV) (hz : w.heap.size = z) : Orc (w.alloc (.cells #[.int .i64 k.player, .int .i64 k.unit, .int .i64 k.what, .int .i64 k.arg] 28)) ⟨z, 0, none⟩ k := by
  subst hz
  constructor <;> simp
end Go.Proofs.Ytelbdcljdfadbaa

namespace Go.Proofs.Ytelbdcljdfadbaa
open Go.RowKit
set_option linter.unusedVariables false

def sgn (x y : Int) : Int := if x < y then -1 else if y < x then 1 else 0
def or3 (x y z : Int) : Int := if x ≠ 0 then x else if y ≠ 0 then y else z
def rnk (o : OrV) : Int := if o.what = 3 then 0 else 1
/-- how two orders compare. -/
def cmpo (a b : OrV) : Int := or3 (sgn a.player b.player) (sgn a.unit b.unit) (sgn (rnk a) (rnk b))

theorem isnan_any (x : Int) (w : World) : Calls Try.prog 18 #[.int .i64 x] w fun e w' => e = .returned (.bool false) ∧ w' = w := by
  go_enter Try.func18, Try.ntmps18
  go_wp2
  go_ret
  exact ⟨by simp, rfl⟩
theorem cmpint_any (x y : Int) (w : World) : Calls Try.prog 13 #[.int .i64 x, .int .i64 y] w fun e w' => e = .returned (.int .i64 (sgn x y)) ∧ w' = w := by
  have NA : Hid (∀ x w, Calls Try.prog 18 #[.int .i64 x] w fun e w' => e = .returned (.bool false) ∧ w' = w) := isnan_any
  by_cases h1 : x < y
  · go_enter Try.func13, Try.ntmps13
    go_wp2_with fail
    refine (NA.out _ _).mono ?_
    rintro e w' ⟨rfl, rfl⟩
    go_wp2_with fail
    refine (NA.out _ _).mono ?_
    rintro e w' ⟨rfl, rfl⟩
    go_wp2
    go_ret
    exact ⟨by simp [sgn, h1], rfl⟩
  · by_cases h2 : y < x
    · go_enter Try.func13, Try.ntmps13
      go_wp2_with fail
      refine (NA.out _ _).mono ?_
      rintro e w' ⟨rfl, rfl⟩
      go_wp2_with fail
      refine (NA.out _ _).mono ?_
      rintro e w' ⟨rfl, rfl⟩
      go_wp2
      go_ret
      exact ⟨by simp [sgn, h1, h2], rfl⟩
    · go_enter Try.func13, Try.ntmps13
      go_wp2_with fail
      refine (NA.out _ _).mono ?_
      rintro e w' ⟨rfl, rfl⟩
      go_wp2_with fail
      refine (NA.out _ _).mono ?_
      rintro e w' ⟨rfl, rfl⟩
      go_wp2
      go_ret
      exact ⟨by unfold sgn; rw [if_neg (by omega), if_neg (by omega)]; rfl, rfl⟩
theorem rank_any (o : OrV) (w : World) : Calls Try.prog 14 #[o.val] w fun e w' => e = .returned (.int .i64 (rnk o)) ∧ Below w.heap.size w w' := by
  obtain ⟨p, u, n, a⟩ := o
  have BB : Hid (Below w.heap.size w (w.alloc (Obj.cells #[.int .i64 p, .int .i64 u, .int .i64 n, .int .i64 a] 28))) := (Below.refl _ _).alloc (Nat.le_refl _) _
  unfold OrV.val rnk
  simp only
  by_cases h : n = 3
  · subst h
    go_enter Try.func14, Try.ntmps14
    go_wp2
    go_ret
    exact ⟨rfl, BB⟩
  · have hb : (n == 3) = false := beq_eq_false_iff_ne.2 h
    rw [if_neg h]
    go_enter Try.func14, Try.ntmps14
    go_wp2
    go_ret
    exact ⟨rfl, BB⟩
theorem or_any (x y z : Int) (b : Nat) (w : World) (h0 : w.cell? ⟨b, 0, none⟩ = some (.int .i64 x)) (h1 : w.cell? ⟨b, 1, none⟩ = some (.int .i64 y)) (h2 : w.cell? ⟨b, 2, none⟩ = some (.int .i64 z)) :
    Calls Try.prog 12 #[.slice (some ⟨b, 0, none⟩) 3 3] w fun e w' => e = .returned (.int .i64 (or3 x y z)) ∧ w' = w := by
  by_cases hx : x = 0
  · subst hx
    by_cases hy : y = 0
    · subst hy
      by_cases hz : z = 0
      · subst hz
        go_enter Try.func12, Try.ntmps12
        go_wp2
        refine wp_loop_rounds 4 ?_
        rw [rounds_succ]
        go_wp2
        rw [rounds_succ]
        go_wp2
        rw [rounds_succ]
        go_wp2
        rw [rounds_succ]
        go_wp2
        go_ret
        exact ⟨rfl, rfl⟩
      · have hzb : (z == 0) = false := beq_eq_false_iff_ne.2 hz
        go_enter Try.func12, Try.ntmps12
        go_wp2
        refine wp_loop_rounds 3 ?_
        rw [rounds_succ]
        go_wp2
        rw [rounds_succ]
        go_wp2
        rw [rounds_succ]
        go_wp2
        go_ret
        exact ⟨by simp [or3], rfl⟩
    · have hyb : (y == 0) = false := beq_eq_false_iff_ne.2 hy
      go_enter Try.func12, Try.ntmps12
      go_wp2
      refine wp_loop_rounds 2 ?_
      rw [rounds_succ]
      go_wp2
      rw [rounds_succ]
      go_wp2
      go_ret
      exact ⟨by simp [or3, hy], rfl⟩
  · have hxb : (x == 0) = false := beq_eq_false_iff_ne.2 hx
    go_enter Try.func12, Try.ntmps12
    go_wp2
    refine wp_loop_rounds 1 ?_
    rw [rounds_succ]
    go_wp2
    go_ret
    exact ⟨by simp [or3, hx], rfl⟩
end Go.Proofs.Ytelbdcljdfadbaa

namespace Go.Proofs.Ytelbdcljdfadbaa.So
set_option linter.unusedVariables false

abbrev T := OrV × Nat
/-- the key of an order stands ahead of another one's. -/
def klt (a b : OrV) : Prop := a.player < b.player ∨ (a.player = b.player ∧ (a.unit < b.unit ∨ (a.unit = b.unit ∧ rnk a < rnk b)))
theorem sgn_neg {x y : Int} : sgn x y < 0 ↔ x < y := by
  unfold sgn
  split
  · omega
  · split <;> omega
theorem sgn_zero {x y : Int} : sgn x y = 0 ↔ x = y := by
  unfold sgn
  split
  · omega
  · split <;> omega
theorem klt_iff (a b : OrV) : cmpo a b < 0 ↔ klt a b := by
  unfold cmpo or3 klt
  by_cases h1 : sgn a.player b.player = 0
  · rw [if_neg (fun h => h h1)]
    have e1 := sgn_zero.1 h1
    by_cases h2 : sgn a.unit b.unit = 0
    · rw [if_neg (fun h => h h2), sgn_neg]
      have e2 := sgn_zero.1 h2
      omega
    · rw [if_pos h2, sgn_neg]
      have e2 : ¬ a.unit = b.unit := fun e => h2 (sgn_zero.2 e)
      omega
  · rw [if_pos h1, sgn_neg]
    have e2 : ¬ a.player = b.player := fun e => h1 (sgn_zero.2 e)
    omega
instance (a b : OrV) : Decidable (klt a b) := by unfold klt; infer_instance
theorem klt_irr (a : OrV) : ¬ klt a a := by unfold klt; omega
theorem klt_trans {a b c : OrV} (h : klt a b) (k : klt b c) : klt a c := by unfold klt at *; omega
theorem klt_asym {a b : OrV} (h : klt a b) : ¬ klt b a := by unfold klt at *; omega
theorem klt_neg {a b c : OrV} (h : ¬ klt b a) (k : ¬ klt c b) : ¬ klt c a := by unfold klt at *; omega
/-- x stands ahead of y: by the key, then by the place that it had. -/
def lt (x y : T) : Prop := klt x.1 y.1 ∨ (¬ klt y.1 x.1 ∧ x.2 < y.2)
theorem lt_trans {x y z : T} (h : lt x y) (k : lt y z) : lt x z := by
  unfold lt klt at *
  omega
theorem lt_irr (x : T) : ¬ lt x x := by
  unfold lt klt
  omega
/-- where x had its place ahead of y: what the program asks tells which stands ahead. -/
theorem ask_lt {x y : T} (h : x.2 < y.2) : klt y.1 x.1 ↔ lt y x := by
  unfold lt klt
  omega
theorem ask_ge {x y : T} (h : x.2 < y.2) : ¬ klt y.1 x.1 ↔ lt x y := by
  unfold lt klt
  omega
/-- a list that rises has one order alone. -/
theorem rise_unique : ∀ {l l' : List T}, l.Perm l' → l.Pairwise lt → l'.Pairwise lt → l = l'
  | [], l', p, _, _ => by
    have := p.length_eq
    cases l' with
    | nil => rfl
    | cons x l' => simp at this
  | x :: l, [], p, _, _ => by
    have := p.length_eq
    simp at this
  | x :: l, y :: l', p, h, h' => by
    rw [List.pairwise_cons] at h h'
    have exy : x = y := by
      have hx : x ∈ y :: l' := p.mem_iff.1 (List.mem_cons_self ..)
      have hy : y ∈ x :: l := p.mem_iff.2 (List.mem_cons_self ..)
      rcases List.mem_cons.1 hx with e | hx
      · exact e
      · rcases List.mem_cons.1 hy with e | hy
        · exact e.symm
        · exact absurd (lt_trans (h.1 y hy) (h'.1 x hx)) (lt_irr x)
    subst exy
    rw [rise_unique (List.Perm.cons_inv p) h.2 h'.2]
/-- x is put among those that rise. -/
theorem put_rise {S1 S2 : List T} {x : T} (h : (S1 ++ S2).Pairwise lt) (h1 : ∀ y ∈ S1, lt y x) (h2 : ∀ y ∈ S2, lt x y) : (S1 ++ x :: S2).Pairwise lt := by
  rw [List.pairwise_append] at h ⊢
  refine ⟨h.1, List.pairwise_cons.2 ⟨h2, h.2.1⟩, fun a ha b hb => ?_⟩
  rcases List.mem_cons.1 hb with rfl | hb
  · exact h1 a ha
  · exact h.2.2 a ha b hb
/-- two that rise, one behind the other. -/
theorem cat_rise {S1 S2 : List T} (h1 : S1.Pairwise lt) (h2 : S2.Pairwise lt) (h : ∀ x ∈ S1, ∀ y ∈ S2, lt x y) : (S1 ++ S2).Pairwise lt := List.pairwise_append.2 ⟨h1, h2, h⟩
end Go.Proofs.Ytelbdcljdfadbaa.So

namespace Go.Proofs.Ytelbdcljdfadbaa
open Go.RowKit
set_option linter.unusedVariables false

theorem um_laid : laidOutB Try.prog = true := by kernel_rfl
theorem um_row : (34 : TypeId) < Try.prog.types.size := of_decide_eq_true (by kernel_rfl)
theorem um_wide : (match Try.prog.underlying 34 with | some (.array _ _) | some (.struct _) => true | _ => false) = true := by kernel_rfl
theorem um_law : Maps.Keyed Try.prog 34 := Maps.Keyed.of_law (deep_law_laid um_laid (m := 3) (by omega) um_row (by kernel_rfl) um_wide)
theorem um_cells : Try.prog.cellsOf 34 = 2 := by kernel_rfl
theorem um_int : Try.prog.cellsOf 3 = 1 := by kernel_rfl
theorem um_type : Try.prog.keyType 34 = true := by kernel_rfl
theorem um_size : ∃ m, Try.prog.types.size = m + 1 := ⟨Try.prog.types.size - 1, by have h : 0 < Try.prog.types.size := Nat.lt_of_le_of_lt (Nat.zero_le _) um_row; omega⟩
theorem um_key {p u : Int} (hp : (Lit.int .i64 p).wf = true) (hu : (Lit.int .i64 u).wf = true) : ∃ kl, keyOf Try.prog 34 (.agg #[.int .i64 p, .int .i64 u]) = some kl := by
  obtain ⟨m, hm⟩ := um_size
  have ht := um_type
  have hc := um_cells
  have hi := um_int
  unfold keyOf
  simp only [Try.underlying34]
  rw [if_pos (by simp [ht, Value.formed, Try.underlying34, hc]), hm]
  unfold Program.keyLits
  simp only [Try.underlying34, Value.cells]
  rw [if_pos ⟨by rw [hc]; rfl, by kernel_rfl⟩]
  simp [Program.keyLits, Try.underlying3, hp, hu, hi]
theorem um_zero (w : World) : (zeroValue 3).run Try.prog w = .ok (.int .i64 0) w := by kernel_rfl
theorem wf64 {n : Int} (h0 : -9223372036854775808 ≤ n) (h1 : n ≤ 9223372036854775807) : (Lit.int .i64 n).wf = true := WalkArith.wf_i64 (by omega)
/-- block b is a map: f tells what stands at each player and unit. -/
def Um (w : World) (b n : Nat) (f : Int → Int → Int) : Prop := ∃ D : DataW Unit, w.ownsMap Try.prog 34 (plainElem Try.prog 3) b n D ∧ Maps.IsMap D ∧ ∀ p u kl, keyOf Try.prog 34 (.agg #[.int .i64 p, .int .i64 u]) = some kl → D.atKey kl (.lit (.int .i64 0)) = .lit (.int .i64 (f p u))
def updAt (f : Int → Int → Int) (p u v : Int) : Int → Int → Int := fun p' u' => if p' = p ∧ u' = u then v else f p' u'
theorem um_made (w : World) : Um (w.alloc (.map #[] 0)) w.heap.size 0 (fun _ _ => 0) :=
  ⟨.map [], World.ownsMap_made _ _ _ _, Maps.isMap_empty, fun p u kl _ => Maps.atKey_of_not_has rfl _⟩
theorem Um.lt {w : World} {b n : Nat} {f : Int → Int → Int} (h : Um w b n f) : b < w.heap.size := by
  obtain ⟨D, h1, -⟩ := h
  exact h1.lt
theorem Um.gb {w w' : World} {b n : Nat} {f : Int → Int → Int} {r : Option Nat} (h : Um w b n f) (g : w.grownBy w' r) (hr : some b ≠ r) : Um w' b n f := by
  obtain ⟨D, h1, h2⟩ := h
  exact ⟨D, h1.kept g hr, h2⟩
theorem Um.below {w w' : World} {b n : Nat} {f : Int → Int → Int} (h : Um w b n f) (g : Below w.heap.size w w') : Um w' b n f :=
  h.gb (r := none) ⟨g.os, g.tape, g.output, g.size, fun k hk _ => g.block k hk⟩ (by simp)
theorem Um.put {w : World} {b n : Nat} {f : Int → Int → Int} (h : Um w b n f) (hn : n < maxLen) {p u v : Int} (hp : (Lit.int .i64 p).wf = true) (hu : (Lit.int .i64 u).wf = true) (hv : (Lit.int .i64 v).wf = true) :
    ∃ w', (Instr.mapUpdate 31 (.map (some b)) (.agg #[.int .i64 p, .int .i64 u]) (.int .i64 v)).run Try.prog w = .ok () w' ∧ Um w' b (n + 1) (updAt f p u v) ∧ w.grownBy w' (some b) := by
  obtain ⟨D, h1, hD, h2⟩ := h
  obtain ⟨kl, hk⟩ := um_key hp hu
  obtain ⟨w', r, o, g⟩ := World.ownsMap.update h1 um_law Try.underlying31 hn hk (plainElem_int Try.underlying3 hv)
  refine ⟨w', r, ⟨_, o, hD.put _ _, fun p' u' kl' hk' => ?_⟩, g⟩
  unfold updAt
  by_cases e : kl' = kl
  · subst e
    have ei := um_law.inj hk hk'
    simp only [Value.agg.injEq, Array.mk.injEq, List.cons.injEq, Value.int.injEq, true_and, and_true] at ei
    rw [if_pos ⟨ei.1.symm, ei.2.symm⟩]
    exact Maps.atKey_put_same hD (um_law.key hk) _ _
  · rw [Maps.atKey_put_other e, if_neg, h2 p' u' kl' hk']
    rintro ⟨rfl, rfl⟩
    exact e (Option.some.inj (hk'.symm.trans hk))
theorem Um.look {w : World} {b n : Nat} {f : Int → Int → Int} (h : Um w b n f) {p u : Int} (hp : (Lit.int .i64 p).wf = true) (hu : (Lit.int .i64 u).wf = true) :
    (Instr.lookup 31 (.map (some b)) (.agg #[.int .i64 p, .int .i64 u]) false).run Try.prog w = .ok (.int .i64 (f p u)) w := by
  obtain ⟨D, h1, hD, h2⟩ := h
  obtain ⟨kl, hk⟩ := um_key hp hu
  obtain ⟨c, hr, hat, -⟩ := h1.lookup_int um_law Try.underlying31 Try.underlying3 (um_zero w) hk
  rw [h2 p u kl hk] at hat
  injection hat with e
  injection e with _ e
  rw [e]
  exact hr
end Go.Proofs.Ytelbdcljdfadbaa

namespace Go.Proofs.Ytelbdcljdfadbaa
namespace So
set_option linter.unusedVariables false
/-- where each unit's last order stands, among the first q. -/
def lf (l : List OrV) : Nat → Int → Int → Int
  | 0 => fun _ _ => 0
  | q + 1 => match l[q]? with
    | some o => if o.what = 3 then lf l q else updAt (lf l q) o.player o.unit (q : Nat)
    | none => lf l q
/-- those that count, of the first q, with their places. -/
def kp (l : List OrV) : Nat → List T
  | 0 => []
  | q + 1 => match l[q]? with
    | some o => if o.what = 3 ∨ lf l l.length o.player o.unit = (q : Nat) then kp l q ++ [(o, q)] else kp l q
    | none => kp l q
theorem lf_train {l : List OrV} {q : Nat} {o : OrV} (h : l[q]? = some o) (h3 : o.what = 3) : lf l (q + 1) = lf l q := by rw [lf]; simp only [h]; rw [if_pos h3]
theorem lf_other {l : List OrV} {q : Nat} {o : OrV} (h : l[q]? = some o) (h3 : ¬ o.what = 3) : lf l (q + 1) = updAt (lf l q) o.player o.unit (q : Nat) := by rw [lf]; simp only [h]; rw [if_neg h3]
theorem kp_yes {l : List OrV} {q : Nat} {o : OrV} (h : l[q]? = some o) (h3 : o.what = 3 ∨ lf l l.length o.player o.unit = (q : Nat)) : kp l (q + 1) = kp l q ++ [(o, q)] := by rw [kp]; simp only [h]; rw [if_pos h3]
theorem kp_no {l : List OrV} {q : Nat} {o : OrV} (h : l[q]? = some o) (h3 : ¬ (o.what = 3 ∨ lf l l.length o.player o.unit = (q : Nat))) : kp l (q + 1) = kp l q := by rw [kp]; simp only [h]; rw [if_neg h3]
theorem kp_mem {l : List OrV} : ∀ {q : Nat} {x : T}, x ∈ kp l q → x.2 < q ∧ l[x.2]? = some x.1 ∧ (x.1.what = 3 ∨ lf l l.length x.1.player x.1.unit = (x.2 : Nat))
  | 0, x, h => by simp [kp] at h
  | q + 1, x, h => by
    rw [kp] at h
    cases ho : l[q]? with
    | none =>
      simp only [ho] at h
      obtain ⟨h1, h2⟩ := kp_mem h
      exact ⟨by omega, h2⟩
    | some o =>
      simp only [ho] at h
      split at h
      · rename_i hc
        rcases List.mem_append.1 h with h | h
        · obtain ⟨h1, h2⟩ := kp_mem h
          exact ⟨by omega, h2⟩
        · simp at h
          subst h
          exact ⟨by simp, ho, hc⟩
      · obtain ⟨h1, h2⟩ := kp_mem h
        exact ⟨by omega, h2⟩
theorem kp_in {l : List OrV} {i : Nat} {o : OrV} (ho : l[i]? = some o) (hc : o.what = 3 ∨ lf l l.length o.player o.unit = (i : Nat)) : ∀ {q : Nat}, i < q → (o, i) ∈ kp l q
  | 0, h => by omega
  | q + 1, h => by
    by_cases e : i = q
    · subst e
      rw [kp_yes ho hc]
      simp
    · have ih := kp_in ho hc (q := q) (by omega)
      rw [kp]
      cases hq : l[q]? with
      | none => exact ih
      | some o' =>
        simp only
        split
        · exact List.mem_append_left _ ih
        · exact ih
theorem kp_tags {l : List OrV} : ∀ (q : Nat), (kp l q).Pairwise (fun x y => x.2 < y.2)
  | 0 => List.Pairwise.nil
  | q + 1 => by
    rw [kp]
    cases hq : l[q]? with
    | none => exact kp_tags q
    | some o =>
      simp only
      split
      · refine List.pairwise_append.2 ⟨kp_tags q, by simp, fun x hx y hy => ?_⟩
        simp at hy
        subst hy
        exact (kp_mem hx).1
      · exact kp_tags q
theorem kp_len {l : List OrV} : ∀ (q : Nat), (kp l q).length ≤ q
  | 0 => Nat.le_refl _
  | q + 1 => by
    rw [kp]
    have := kp_len (l := l) q
    cases hq : l[q]? with
    | none => simp only; omega
    | some o =>
      simp only
      split
      · simp; omega
      · omega
/-- the last order of a unit is told. -/
theorem lf_last {l : List OrV} {i : Nat} {o : OrV} (ho : l[i]? = some o) (h3 : ¬ o.what = 3) : ∀ {q : Nat}, i < q → (∀ k x, i < k → k < q → l[k]? = some x → x.what = 3 ∨ x.player ≠ o.player ∨ x.unit ≠ o.unit) → lf l q o.player o.unit = (i : Nat)
  | 0, h, _ => by omega
  | q + 1, h, hn => by
    by_cases e : i = q
    · subst e
      rw [lf_other ho h3]
      unfold updAt
      rw [if_pos ⟨rfl, rfl⟩]
    · have ih := lf_last ho h3 (q := q) (by omega) (fun k x h1 h2 hx => hn k x h1 (by omega) hx)
      rw [lf]
      cases hq : l[q]? with
      | none => exact ih
      | some x =>
        simp only
        split
        · exact ih
        · rename_i hx3
          unfold updAt
          rw [if_neg]
          · exact ih
          · rintro ⟨h1, h2⟩
            rcases hn q x (by omega) (by omega) hq with h | h | h
            · exact hx3 h
            · exact h h1.symm
            · exact h h2.symm
/-- of orders l, those that count. -/
def LastSays (l out : List OrV) : Prop := ∃ S : List T, S.Perm (kp l l.length) ∧ S.Pairwise lt ∧ out = S.map Prod.fst
theorem LastSays.one {l out out' : List OrV} (h : LastSays l out) (h' : LastSays l out') : out = out' := by
  obtain ⟨S, p, r, rfl⟩ := h
  obtain ⟨S', p', r', rfl⟩ := h'
  rw [rise_unique (p.trans p'.symm) r r']
theorem LastSays.len {l out : List OrV} (h : LastSays l out) : out.length ≤ l.length := by
  obtain ⟨S, p, r, rfl⟩ := h
  have := kp_len (l := l) l.length
  rw [List.length_map, p.length_eq]
  exact this
theorem LastSays.mem {l out : List OrV} (h : LastSays l out) {o : OrV} (ho : o ∈ out) : o ∈ l := by
  obtain ⟨S, p, r, rfl⟩ := h
  obtain ⟨x, hx, rfl⟩ := List.mem_map.1 ho
  exact List.mem_of_getElem? (kp_mem (p.mem_iff.1 hx)).2.1
end So
end Go.Proofs.Ytelbdcljdfadbaa

namespace Go.Proofs.Ytelbdcljdfadbaa.Tx

/-- a text at each byte c. -/
def cut (c : UInt8) : List UInt8 → List (List UInt8)
  | [] => [[]]
  | b :: r => if b = c then [] :: cut c r else match cut c r with
    | [] => [[b]]
    | w :: ws => (b :: w) :: ws
/-- and back. -/
def join (c : UInt8) : List (List UInt8) → List UInt8
  | [] => []
  | [w] => w
  | w :: v :: ws => w ++ c :: join c (v :: ws)

theorem cut_ne (c : UInt8) (l : List UInt8) : cut c l ≠ [] := by
  cases l with
  | nil => simp [cut]
  | cons b r =>
    unfold cut
    split
    · simp
    · split <;> simp
theorem join_cons {c : UInt8} {w : List UInt8} {ws : List (List UInt8)} (h : ws ≠ []) : join c (w :: ws) = w ++ c :: join c ws := by
  cases ws with
  | nil => exact absurd rfl h
  | cons v ws => rfl
theorem join_cut (c : UInt8) (l : List UInt8) : join c (cut c l) = l := by
  induction l with
  | nil => rfl
  | cons b r ih =>
    unfold cut
    split
    · rename_i h
      rw [join_cons (cut_ne c r), ih, h]
      rfl
    · cases hw : cut c r with
      | nil => exact absurd hw (cut_ne c r)
      | cons w ws =>
        rw [hw] at ih
        cases ws with
        | nil => rw [← ih]; rfl
        | cons v ws => rw [← ih]; rfl
/-- no word has the byte. -/
theorem cut_free (c : UInt8) (l : List UInt8) : ∀ w ∈ cut c l, c ∉ w := by
  induction l with
  | nil => intro w hw; simp [cut] at hw; subst hw; simp
  | cons b r ih =>
    intro w hw
    unfold cut at hw
    split at hw
    · rcases List.mem_cons.1 hw with rfl | hw
      · simp
      · exact ih w hw
    · rename_i hb
      cases hc : cut c r with
      | nil => exact absurd hc (cut_ne c r)
      | cons v vs =>
        rw [hc] at hw ih
        rcases List.mem_cons.1 hw with rfl | hw
        · intro h
          rcases List.mem_cons.1 h with h | h
          · exact hb h.symm
          · exact ih v (List.mem_cons_self ..) h
        · exact ih w (List.mem_cons_of_mem _ hw)
theorem cut_cons {c b : UInt8} {r w : List UInt8} {ws : List (List UInt8)} (h : b ≠ c) (hr : cut c r = w :: ws) : cut c (b :: r) = (b :: w) :: ws := by
  rw [cut, if_neg h, hr]
theorem cut_word {c : UInt8} {w : List UInt8} (h : c ∉ w) : cut c w = [w] := by
  induction w with
  | nil => rfl
  | cons b w ih =>
    rw [List.mem_cons, not_or] at h
    unfold cut
    rw [if_neg (fun e => h.1 e.symm), ih h.2]
theorem cut_app {c : UInt8} {w : List UInt8} (h : c ∉ w) (r : List UInt8) : cut c (w ++ c :: r) = w :: cut c r := by
  induction w with
  | nil => simp [cut]
  | cons b w ih =>
    rw [List.mem_cons, not_or] at h
    rw [List.cons_append, cut_cons (fun e => h.1 e.symm) (ih h.2)]
theorem cut_join {c : UInt8} : ∀ {ws : List (List UInt8)}, ws ≠ [] → (∀ w ∈ ws, c ∉ w) → cut c (join c ws) = ws
  | [], h, _ => absurd rfl h
  | [w], _, h => cut_word (h w (List.mem_cons_self ..))
  | w :: v :: ws, _, h => by
    rw [join_cons (by simp), cut_app (h w (List.mem_cons_self ..)), cut_join (by simp) (fun x hx => h x (List.mem_cons_of_mem _ hx))]

/-- a digit. -/
def isDig (b : UInt8) : Bool := decide (48 ≤ b.toNat) && decide (b.toNat ≤ 57)
/-- the digits of a number. -/
def dig (n : Nat) : List UInt8 := if n < 10 then [(48 + n).toUInt8] else dig (n / 10) ++ [(48 + n % 10).toUInt8]
termination_by n
/-- the number of some digits. -/
def val (l : List UInt8) : Nat := l.foldl (fun n b => n * 10 + (b.toNat - 48)) 0
/-- a whole number of at most so many digits, without a needless 0. -/
def whole (most : Nat) (l : List UInt8) : Option Nat := if l = [] ∨ most < l.length ∨ (l.head? = some 48 ∧ 1 < l.length) then none else if l.all isDig then some (val l) else none

theorem dig_small {n : Nat} (h : n < 10) : dig n = [(48 + n).toUInt8] := by rw [dig, if_pos h]
theorem dig_big {n : Nat} (h : ¬ n < 10) : dig n = dig (n / 10) ++ [(48 + n % 10).toUInt8] := by rw [dig, if_neg h]
theorem sign_nat {d : Nat} (h : d < 10) : ((48 + d).toUInt8).toNat = 48 + d := by
  show (48 + d) % 256 = 48 + d
  omega
theorem val_snoc (l : List UInt8) (b : UInt8) : val (l ++ [b]) = val l * 10 + (b.toNat - 48) := by
  unfold val
  rw [List.foldl_append]
  rfl
theorem dig_ne (n : Nat) : dig n ≠ [] := by
  rw [dig]
  split <;> simp
theorem dig_all (n : Nat) : (dig n).all isDig = true := by
  induction n using Nat.strongRecOn with
  | ind n ih =>
    by_cases h : n < 10
    · rw [dig_small h]
      simp [isDig]
      omega
    · rw [dig_big h, List.all_append, ih (n / 10) (by omega)]
      simp [isDig]
      omega
theorem val_dig (n : Nat) : val (dig n) = n := by
  induction n using Nat.strongRecOn with
  | ind n ih =>
    by_cases h : n < 10
    · rw [dig_small h]
      show 0 * 10 + (((48 + n).toUInt8).toNat - 48) = n
      rw [sign_nat h]
      omega
    · rw [dig_big h, val_snoc, ih (n / 10) (by omega), sign_nat (show n % 10 < 10 by omega)]
      omega
theorem dig_head (n : Nat) : (dig n).head? = some 48 → n = 0 := by
  induction n using Nat.strongRecOn with
  | ind n ih =>
    intro h
    by_cases hn : n < 10
    · rw [dig_small hn] at h
      simp only [List.head?_cons, Option.some.injEq] at h
      have h2 : ((48 + n).toUInt8).toNat = 48 := by rw [h]; rfl
      rw [sign_nat hn] at h2
      omega
    · rw [dig_big hn] at h
      cases hd : dig (n / 10) with
      | nil => exact absurd hd (dig_ne _)
      | cons b r =>
        rw [hd] at h
        have := ih (n / 10) (by omega) (by rw [hd]; simpa using h)
        omega
theorem dig_len {n : Nat} : ∀ {k : Nat}, 0 < k → n < 10 ^ k → (dig n).length ≤ k := by
  induction n using Nat.strongRecOn with
  | ind n ih =>
    intro k hk h
    by_cases hn : n < 10
    · rw [dig_small hn]
      simp
      omega
    · rw [dig_big hn, List.length_append]
      cases k with
      | zero => omega
      | succ k =>
        have hk0 : 0 < k := by
          rcases Nat.eq_zero_or_pos k with rfl | hp
          · simp at h; omega
          · exact hp
        have h2 : n / 10 < 10 ^ k := by
          rw [Nat.pow_succ] at h
          omega
        have := ih (n / 10) (by omega) hk0 h2
        simp
        omega
theorem whole_dig {n most : Nat} (h0 : 0 < most) (h : n < 10 ^ most) : whole most (dig n) = some n := by
  unfold whole
  rw [if_neg, if_pos (dig_all n), val_dig]
  rintro (h1 | h1 | ⟨h1, h2⟩)
  · exact dig_ne n h1
  · have := dig_len h0 h
    omega
  · have := dig_head n h1
    subst this
    rw [dig_small (by decide)] at h2
    simp at h2
theorem dig_val : ∀ (k : Nat) (l : List UInt8), l.length = k → l ≠ [] → ¬ (l.head? = some 48 ∧ 1 < l.length) → l.all isDig = true → dig (val l) = l := by
  intro k
  induction k with
  | zero => intro l h1 h2; exact absurd (List.length_eq_zero_iff.1 h1) h2
  | succ k ih =>
    intro l hl hne hz hd
    obtain ⟨r, b, rfl⟩ : ∃ r b, l = r ++ [b] := ⟨l.dropLast, l.getLast hne, (List.dropLast_concat_getLast hne).symm⟩
    have hb : isDig b = true := by
      rw [List.all_append] at hd
      simp at hd
      exact hd.2
    have hbn : 48 ≤ b.toNat ∧ b.toNat ≤ 57 := by
      unfold isDig at hb
      simpa using hb
    have back : ((48 + (b.toNat - 48)).toUInt8) = b := by
      rw [show 48 + (b.toNat - 48) = b.toNat by omega]
      simp
    rw [val_snoc]
    by_cases hr : r = []
    · subst hr
      rw [show val [] = 0 from rfl, Nat.zero_mul, Nat.zero_add, dig_small (by omega), back]
      rfl
    · have hrd : r.all isDig = true := by
        rw [List.all_append] at hd
        simp at hd
        rw [List.all_eq_true]
        exact hd.1
      have hrl : r.length = k := by simpa using hl
      have hhead : (r ++ [b]).head? = r.head? := by
        cases r with
        | nil => exact absurd rfl hr
        | cons a r => rfl
      have hr0 : 0 < r.length := List.length_pos_iff.2 hr
      have hz' : ¬ r.head? = some 48 := fun h => hz ⟨by rw [hhead]; exact h, by simp; omega⟩
      have hi := ih r hrl hr (fun h => hz' h.1) hrd
      have hv : val r ≠ 0 := by
        intro h
        rw [h, dig_small (by decide)] at hi
        rw [← hi] at hz'
        exact hz' rfl
      have e : (val r * 10 + (b.toNat - 48)) / 10 = val r := by omega
      have e2 : (val r * 10 + (b.toNat - 48)) % 10 = b.toNat - 48 := by omega
      rw [dig_big (by omega), e, e2, hi, back]
theorem dig_whole {most n : Nat} {l : List UInt8} (h : whole most l = some n) : dig n = l := by
  unfold whole at h
  split at h
  · cases h
  · rename_i hc
    rw [not_or, not_or] at hc
    split at h
    · rename_i hd
      injection h with h
      rw [← h]
      exact dig_val l.length l rfl hc.1 hc.2.2 hd
    · cases h
theorem whole_lt {most n : Nat} {l : List UInt8} (h : whole most l = some n) : l.length ≤ most := by
  unfold whole at h
  split at h
  · cases h
  · rename_i hc
    rw [not_or, not_or] at hc
    omega
theorem whole_ne {most n : Nat} {l : List UInt8} (h : whole most l = some n) : l ≠ [] := by
  rintro rfl
  simp [whole] at h
/-- digits are no blank and no end of a line. -/
theorem dig_free (n : Nat) (c : UInt8) (h : c.toNat < 48) : c ∉ dig n := by
  intro hm
  have := List.all_eq_true.1 (dig_all n) c hm
  unfold isDig at this
  simp at this
  omega
end Go.Proofs.Ytelbdcljdfadbaa.Tx

namespace Go.Proofs.Ytelbdcljdfadbaa.Tx

/-- the lines of a text, each with its end, if it has one. -/
def lines : List UInt8 → List (List UInt8)
  | [] => []
  | b :: r => if b = 10 then [10] :: lines r else match lines r with
    | [] => [[b]]
    | w :: ws => (b :: w) :: ws

theorem lines_app : ∀ {w : List UInt8}, (10 : UInt8) ∉ w → ∀ r, lines (w ++ 10 :: r) = (w ++ [10]) :: lines r
  | [], _, r => by simp [lines]
  | b :: w, h, r => by
    rw [List.mem_cons, not_or] at h
    rw [List.cons_append, lines, if_neg (fun e => h.1 e.symm), lines_app h.2 r]
    rfl
theorem lines_word : ∀ {w : List UInt8}, (10 : UInt8) ∉ w → w ≠ [] → lines w = [w]
  | [], _, h => absurd rfl h
  | [b], h, _ => by
    rw [List.mem_cons, not_or] at h
    rw [lines, if_neg (fun e => h.1 e.symm)]
    rfl
  | b :: c :: w, h, _ => by
    rw [List.mem_cons, not_or] at h
    rw [lines, if_neg (fun e => h.1 e.symm), lines_word h.2 (by simp)]
/-- a text has no end of a line, or a first one. -/
theorem first10 : ∀ s : List UInt8, (10 : UInt8) ∉ s ∨ ∃ w r, (10 : UInt8) ∉ w ∧ s = w ++ 10 :: r
  | [] => .inl (by simp)
  | b :: s => by
    by_cases h : b = 10
    · subst h
      exact .inr ⟨[], s, by simp, rfl⟩
    · rcases first10 s with h1 | ⟨w, r, h1, rfl⟩
      · left
        rw [List.mem_cons, not_or]
        exact ⟨fun e => h e.symm, h1⟩
      · right
        refine ⟨b :: w, r, ?_, rfl⟩
        rw [List.mem_cons, not_or]
        exact ⟨fun e => h e.symm, h1⟩
/-- what lines say, by their ends alone: what is read of a text at each end of a line is what is read of its lines. -/
theorem lines_ind {p : List UInt8 → Prop} (h0 : p []) (h1 : ∀ w, (10 : UInt8) ∉ w → w ≠ [] → p w) (h2 : ∀ w r, (10 : UInt8) ∉ w → p r → p (w ++ 10 :: r)) : ∀ s, p s := by
  intro s
  obtain ⟨n, hn⟩ : ∃ n, s.length = n := ⟨_, rfl⟩
  induction n using Nat.strongRecOn generalizing s with
  | ind n ih =>
    rcases first10 s with h | ⟨w, r, h, rfl⟩
    · by_cases e : s = []
      · subst e; exact h0
      · exact h1 s h e
    · refine h2 w r h (ih r.length ?_ r rfl)
      rw [← hn, List.length_append, List.length_cons]
      omega
theorem lines_sum (s : List UInt8) : (lines s).flatten = s := by
  refine lines_ind (p := fun s => (lines s).flatten = s) rfl (fun w h e => ?_) (fun w r h ih => ?_) s
  · rw [lines_word h e]; simp
  · rw [lines_app h, List.flatten_cons, ih]; simp
theorem lines_len {s x : List UInt8} (h : x ∈ lines s) : x.length ≤ s.length := by
  have h1 := lines_sum s
  obtain ⟨a, b, e⟩ := List.append_of_mem h
  rw [e] at h1
  rw [← h1]
  simp
  omega
theorem lines_ne {s x : List UInt8} : x ∈ lines s → x ≠ [] := by
  refine lines_ind (p := fun s => x ∈ lines s → x ≠ []) (fun h => by simp [lines] at h) (fun w h e hx => ?_) (fun w r h ih hx => ?_) s
  · rw [lines_word h e] at hx
    simp at hx
    subst hx
    exact e
  · rw [lines_app h] at hx
    rcases List.mem_cons.1 hx with rfl | hx
    · simp
    · exact ih hx
end Go.Proofs.Ytelbdcljdfadbaa.Tx

namespace Go.Proofs.Ytelbdcljdfadbaa.Od
open Tx
set_option linter.unusedVariables false

def bad (o : OrV) : Prop := o.player < 0 ∨ 3 < o.player ∨ o.unit < 0 ∨ 1000000 < o.unit ∨ o.arg < 0 ∨ 1000000 < o.arg ∨ o.what < 0 ∨ 3 < o.what ∨ (o.what = 0 ∧ o.arg ≠ 0)
instance (o : OrV) : Decidable (bad o) := by unfold bad; infer_instance
/-- what is wrong with one. -/
def fault (o : OrV) : Int := if bad o then 1 else 0
theorem fault_bad {o : OrV} (h : bad o) : fault o = 1 := if_pos h
theorem fault_ok {o : OrV} (h : ¬ bad o) : fault o = 0 := if_neg h
/-- what is wrong with some. -/
def faults (l : List OrV) : Int := if 60 < l.length then 4 else if l.any (fun o => decide (bad o)) then 1 else 0

def nStop : List UInt8 := [115, 116, 111, 112]
def nMarch : List UInt8 := [109, 97, 114, 99, 104]
def nGather : List UInt8 := [103, 97, 116, 104, 101, 114]
def nTrain : List UInt8 := [116, 114, 97, 105, 110]
/-- the word for What. -/
def name (n : Int) : List UInt8 := if n = 0 then nStop else if n = 1 then nMarch else if n = 2 then nGather else nTrain
def unname (l : List UInt8) : Option Int := if l = nStop then some 0 else if l = nMarch then some 1 else if l = nGather then some 2 else if l = nTrain then some 3 else none
def words (o : OrV) : List (List UInt8) := dig o.player.toNat :: dig o.unit.toNat :: name o.what :: (if o.what = 0 then [] else [dig o.arg.toNat])
def oline (o : OrV) : List UInt8 := join 32 (words o)
def prt (l : List OrV) : List UInt8 := l.flatMap fun o => oline o ++ [10]

/-- the order of a line's words. -/
def ofWords : List (List UInt8) → Option OrV
  | [a, b, c] => match unname c, whole 7 a, whole 7 b with
    | some n, some x, some y => if n = 0 then some ⟨x, y, 0, 0⟩ else none
    | _, _, _ => none
  | [a, b, c, d] => match unname c, whole 7 a, whole 7 b, whole 7 d with
    | some n, some x, some y, some z => if n = 0 then none else some ⟨x, y, n, z⟩
    | _, _, _, _ => none
  | _ => none
/-- the order of a line: it ends, and has these words. -/
def ofLine (l : List UInt8) : Option OrV := if l.getLast? = some 10 then ofWords (cut 32 l.dropLast) else none
/-- the orders of some lines; else the line, and the fault. -/
def go (acc : List OrV) : List (List UInt8) → (Nat × Int) ⊕ List OrV
  | [] => .inr acc
  | l :: r => match ofLine l with
    | none => .inl (acc.length, 2)
    | some o => if acc.length = 60 then .inl (acc.length, 4) else if fault o = 0 then go (acc ++ [o]) r else .inl (acc.length, fault o)
def parse (s : List UInt8) : (Nat × Int) ⊕ List OrV := go [] (lines s)

theorem unname_name {n : Int} (h0 : 0 ≤ n) (h3 : n ≤ 3) : unname (name n) = some n := by
  rcases (by omega : n = 0 ∨ n = 1 ∨ n = 2 ∨ n = 3) with rfl | rfl | rfl | rfl <;> rfl
theorem name_unname {l : List UInt8} {n : Int} (h : unname l = some n) : name n = l ∧ 0 ≤ n ∧ n ≤ 3 := by
  unfold unname at h
  split at h
  · rename_i e; injection h with h; subst h; exact ⟨e.symm, by decide, by decide⟩
  · split at h
    · rename_i e; injection h with h; subst h; exact ⟨e.symm, by decide, by decide⟩
    · split at h
      · rename_i e; injection h with h; subst h; exact ⟨e.symm, by decide, by decide⟩
      · split at h
        · rename_i e; injection h with h; subst h; exact ⟨e.symm, by decide, by decide⟩
        · cases h
theorem ok_of {o : OrV} (h : ¬ bad o) : 0 ≤ o.player ∧ o.player ≤ 3 ∧ 0 ≤ o.unit ∧ o.unit ≤ 1000000 ∧ 0 ≤ o.arg ∧ o.arg ≤ 1000000 ∧ 0 ≤ o.what ∧ o.what ≤ 3 ∧ (o.what = 0 → o.arg = 0) := by
  unfold bad at h
  omega
theorem name_free (n : Int) (c : UInt8) (h : c.toNat < 97) : c ∉ name n := by
  unfold name
  have : ∀ l : List UInt8, (l.all fun b => decide (97 ≤ b.toNat)) = true → c ∉ l := fun l hl hm => by
    have := List.all_eq_true.1 hl c hm
    simp at this
    omega
  split
  · exact this _ (by decide)
  · split
    · exact this _ (by decide)
    · split
      · exact this _ (by decide)
      · exact this _ (by decide)
theorem words_free (o : OrV) (c : UInt8) (hc : c.toNat < 48) : ∀ w ∈ words o, c ∉ w := by
  intro w hw
  unfold words at hw
  simp only [List.mem_cons] at hw
  rcases hw with rfl | rfl | rfl | hw
  · exact dig_free _ c hc
  · exact dig_free _ c hc
  · exact name_free _ c (by omega)
  · split at hw
    · simp at hw
    · simp at hw
      subst hw
      exact dig_free _ c hc
theorem mem_join {c d : UInt8} : ∀ {ws : List (List UInt8)}, d ∈ join c ws → d = c ∨ ∃ w ∈ ws, d ∈ w
  | [], h => by simp [join] at h
  | [w], h => .inr ⟨w, List.mem_cons_self .., h⟩
  | w :: v :: ws, h => by
    rw [join_cons (by simp), List.mem_append, List.mem_cons] at h
    rcases h with h | h | h
    · exact .inr ⟨w, List.mem_cons_self .., h⟩
    · exact .inl h
    · rcases mem_join h with h | ⟨x, hx, hd⟩
      · exact .inl h
      · exact .inr ⟨x, List.mem_cons_of_mem _ hx, hd⟩
theorem oline_free (o : OrV) : (10 : UInt8) ∉ oline o := by
  intro h
  rcases mem_join h with h | ⟨w, hw, hd⟩
  · revert h; decide
  · exact words_free o 10 (by decide) w hw hd
theorem whole7 {n : Int} (h0 : 0 ≤ n) (h : n ≤ 1000000) : whole 7 (dig n.toNat) = some n.toNat := whole_dig (by decide) (by show n.toNat < 10000000; omega)
theorem ofWords_words {o : OrV} (h : ¬ bad o) : ofWords (words o) = some o := by
  obtain ⟨p, u, n, a⟩ := o
  obtain ⟨h1, h2, h3, h4, h5, h6, h7, h8, h9⟩ := ok_of h
  simp only at *
  have e1 := whole7 h1 (by omega)
  have e2 := whole7 h3 h4
  have e3 := whole7 h5 h6
  have e4 := unname_name h7 h8
  by_cases hn : n = 0
  · subst hn
    have ha := h9 rfl
    subst ha
    show ofWords [dig p.toNat, dig u.toNat, name 0] = _
    simp only [ofWords, e4, e1, e2]
    simp
    omega
  · have : words ⟨p, u, n, a⟩ = [dig p.toNat, dig u.toNat, name n, dig a.toNat] := by
      unfold words
      simp [hn]
    rw [this]
    simp only [ofWords, e4, e1, e2, e3]
    simp [hn]
    omega
theorem words_ofWords {ws : List (List UInt8)} {o : OrV} (h : ofWords ws = some o) : words o = ws := by
  match ws, h with
  | [], h => simp [ofWords] at h
  | [a], h => simp [ofWords] at h
  | [a, b], h => simp [ofWords] at h
  | [a, b, c], h =>
    simp only [ofWords] at h
    cases h1 : unname c with
    | none => rw [h1] at h; simp at h
    | some n =>
      cases h2 : whole 7 a with
      | none => rw [h2] at h; simp at h
      | some x =>
        cases h3 : whole 7 b with
        | none => rw [h3] at h; simp at h
        | some y =>
          rw [h1, h2, h3] at h
          by_cases hn : n = 0
          · subst hn
            simp at h
            subst h
            have e := (name_unname h1).1
            show [dig (x : Int).toNat, dig (y : Int).toNat, name 0] = [a, b, c]
            rw [Int.toNat_natCast, Int.toNat_natCast, dig_whole h2, dig_whole h3, e]
          · simp [hn] at h
  | [a, b, c, d], h =>
    simp only [ofWords] at h
    cases h1 : unname c with
    | none => rw [h1] at h; simp at h
    | some n =>
      cases h2 : whole 7 a with
      | none => rw [h2] at h; simp at h
      | some x =>
        cases h3 : whole 7 b with
        | none => rw [h3] at h; simp at h
        | some y =>
          cases h4 : whole 7 d with
          | none => rw [h4] at h; simp at h
          | some z =>
            rw [h1, h2, h3, h4] at h
            simp only at h
            split at h
            · cases h
            · rename_i hn
              injection h with h
              subst h
              have e := (name_unname h1).1
              unfold words
              simp only [if_neg hn]
              rw [Int.toNat_natCast, Int.toNat_natCast, Int.toNat_natCast, dig_whole h2, dig_whole h3, dig_whole h4, e]
  | a :: b :: c :: d :: e :: r, h => simp [ofWords] at h
theorem ofLine_end (l : List UInt8) : ofLine (l ++ [10]) = ofWords (cut 32 l) := by
  unfold ofLine
  simp
theorem ofLine_open {l : List UInt8} (h : (10 : UInt8) ∉ l) : ofLine l = none := by
  unfold ofLine
  rw [if_neg]
  intro e
  exact h (List.mem_of_getLast? e)
theorem lines_prt : ∀ l : List OrV, lines (prt l) = l.map fun o => oline o ++ [10]
  | [] => rfl
  | o :: l => by
    show lines ((oline o ++ [10]) ++ prt l) = _
    rw [List.append_assoc]
    show lines (oline o ++ 10 :: prt l) = _
    rw [lines_app (oline_free o), lines_prt l]
    rfl
theorem go_lines : ∀ {l acc : List OrV}, (∀ o ∈ l, ¬ bad o) → acc.length + l.length ≤ 60 → go acc (l.map fun o => oline o ++ [10]) = .inr (acc ++ l)
  | [], acc, _, _ => by simp [go]
  | o :: l, acc, h, hn => by
    have ho := h o (List.mem_cons_self ..)
    have e : cut 32 (oline o) = words o := cut_join (by simp [words]) (words_free o 32 (by decide))
    simp only [List.length_cons] at hn
    rw [List.map_cons, go, ofLine_end, e, ofWords_words ho]
    simp only
    rw [if_neg (by omega), if_pos (fault_ok ho), go_lines (fun x hx => h x (List.mem_cons_of_mem _ hx)) (by simp; omega)]
    simp
theorem faults_ok {l : List OrV} (h : faults l = 0) : l.length ≤ 60 ∧ ∀ o ∈ l, ¬ bad o := by
  unfold faults at h
  split at h
  · omega
  · split at h
    · omega
    · rename_i h1 h2
      rw [Bool.not_eq_true, List.any_eq_false] at h2
      exact ⟨by omega, fun o ho => by simpa using h2 o ho⟩
theorem faults_of {l : List OrV} (h : l.length ≤ 60) (hb : ∀ o ∈ l, ¬ bad o) : faults l = 0 := by
  unfold faults
  rw [if_neg (by omega), if_neg]
  rw [Bool.not_eq_true, List.any_eq_false]
  intro o ho
  simpa using hb o ho
/-- what is printed is read as it was. -/
theorem parse_prt {l : List OrV} (h : faults l = 0) : parse (prt l) = .inr l := by
  obtain ⟨h1, h2⟩ := faults_ok h
  unfold parse
  rw [lines_prt, go_lines h2 (by simpa using h1)]
  rfl
theorem go_back : ∀ {ls : List (List UInt8)} {acc l : List OrV}, go acc ls = .inr l → acc.length ≤ 60 → ∃ l', l = acc ++ l' ∧ prt l' = ls.flatten ∧ l.length ≤ 60 ∧ ∀ o ∈ l', ¬ bad o
  | [], acc, l, h, ha => by
    unfold go at h
    injection h with h
    subst h
    exact ⟨[], by simp, rfl, ha, by simp⟩
  | x :: r, acc, l, h, ha => by
    unfold go at h
    split at h
    · cases h
    · rename_i o ho
      split at h
      · cases h
      · rename_i h60
        split at h
        · rename_i h0
          obtain ⟨l', e1, e2, e3, e4⟩ := go_back h (by simp; omega)
          refine ⟨o :: l', by rw [e1]; simp, ?_, e3, ?_⟩
          · show (oline o ++ [10]) ++ prt l' = _
            unfold ofLine at ho
            split at ho
            · rename_i hx
              have hw := words_ofWords ho
              have : oline o = x.dropLast := by unfold oline; rw [hw, join_cut]
              obtain ⟨ys, hy⟩ := List.getLast?_eq_some_iff.1 hx
              rw [List.flatten_cons, e2, this, hy]
              simp
            · cases ho
          · intro y hy
            rcases List.mem_cons.1 hy with rfl | hy
            · intro hb
              rw [fault_bad hb] at h0
              omega
            · exact e4 y hy
        · cases h
/-- what any text is read as is printed as that text. -/
theorem prt_parse {s : List UInt8} {l : List OrV} (h : parse s = .inr l) : prt l = s ∧ faults l = 0 := by
  unfold parse at h
  obtain ⟨l', e1, e2, e3, e4⟩ := go_back h (by simp)
  rw [List.nil_append] at e1
  subst e1
  exact ⟨by rw [e2, lines_sum], faults_of e3 e4⟩

/-- the same, at each end of a line: what the document's way gives. -/
def goCut (acc : List OrV) : List (List UInt8) → (Nat × Int) ⊕ List OrV
  | [] => .inr acc
  | [w] => if w = [] then .inr acc else .inl (acc.length, 2)
  | w :: v :: r => match ofWords (cut 32 w) with
    | none => .inl (acc.length, 2)
    | some o => if acc.length = 60 then .inl (acc.length, 4) else if fault o = 0 then goCut (acc ++ [o]) (v :: r) else .inl (acc.length, fault o)
theorem goCut_go (s : List UInt8) : ∀ acc, goCut acc (cut 10 s) = go acc (lines s) := by
  refine lines_ind (p := fun s => ∀ acc, goCut acc (cut 10 s) = go acc (lines s)) (fun acc => rfl) (fun w h e acc => ?_) (fun w r h ih acc => ?_) s
  · rw [cut_word h, lines_word h e]
    unfold goCut go
    rw [if_neg e, ofLine_open h]
  · rw [cut_app h, lines_app h]
    cases hc : cut 10 r with
    | nil => exact absurd hc (cut_ne 10 r)
    | cons v vs =>
      unfold goCut go
      rw [ofLine_end]
      cases ofWords (cut 32 w) with
      | none => rfl
      | some o =>
        simp only
        rw [← ih, hc]
end Go.Proofs.Ytelbdcljdfadbaa.Od

namespace Go.Proofs.Ytelbdcljdfadbaa

/-- v tells the fault n. -/
def Er (v : Value) (n : Int) : Prop := (n = 0 ∧ v = .nilIface) ∨ (n ≠ 0 ∧ v = .iface 38 (.int .i64 n))
theorem Er.nil : Er .nilIface 0 := .inl ⟨rfl, rfl⟩
theorem Er.no {n : Int} (h : n ≠ 0) : Er (.iface 38 (.int .i64 n)) n := .inr ⟨h, rfl⟩
end Go.Proofs.Ytelbdcljdfadbaa

namespace Go.Proofs.Ytelbdcljdfadbaa
open Go.RowKit
set_option linter.unusedVariables false

set_option maxHeartbeats 400000 in
theorem owin_any (x b : Int) (w : World) :
    Calls Try.prog 15 #[.int .i64 x, .int .i64 b] w fun e w' => e = .returned (.bool (decide (0 ≤ x ∧ x ≤ b))) ∧ w' = w := by
  by_cases h1 : 0 ≤ x
  · by_cases h2 : x ≤ b
    · go_enter Try.func15, Try.ntmps15
      go_wp2
      go_ret
      exact ⟨by simp [h1, h2], rfl⟩
    · go_enter Try.func15, Try.ntmps15
      go_wp2
      go_ret
      exact ⟨by simp; omega, rfl⟩
  · go_enter Try.func15, Try.ntmps15
    go_wp2
    go_ret
    exact ⟨by simp; omega, rfl⟩
theorem owin_is (x b : Int) (r : Bool) (h : decide (0 ≤ x ∧ x ≤ b) = r) : Hid (∀ w, Calls Try.prog 15 #[.int .i64 x, .int .i64 b] w fun e w' => e = .returned (.bool r) ∧ w' = w) :=
  fun w => (owin_any x b w).mono fun e w' ⟨h', hw⟩ => ⟨by rw [h', h], hw⟩

def OrdSays (o : OrV) (w : World) (e : Ending) (w' : World) : Prop := ∃ v, e = .returned v ∧ Er v (Od.fault o) ∧ Below w.heap.size w w'
set_option maxRecDepth 100000 in
set_option maxHeartbeats 4000000 in
theorem checkOrder_any (o : OrV) (w : World) : Calls Try.prog 10 #[o.val] w (OrdSays o w) := by
  obtain ⟨p, u, n, a⟩ := o
  have BB : Hid (Below w.heap.size w (w.alloc (Obj.cells #[.int .i64 p, .int .i64 u, .int .i64 n, .int .i64 a] 28))) := (Below.refl _ _).alloc (Nat.le_refl _) _
  have bad1 : Od.bad ⟨p, u, n, a⟩ → ∀ w', Hid (Below w.heap.size w w') → OrdSays ⟨p, u, n, a⟩ w (.returned (.iface 38 (.int .i64 1))) w' := fun hb w' hB => ⟨_, rfl, by rw [Od.fault_bad hb]; exact Er.no (by decide), hB⟩
  have B1 : Hid (Od.bad ⟨p, u, n, a⟩ → ∀ w', Hid (Below w.heap.size w w') → OrdSays ⟨p, u, n, a⟩ w (.returned (.iface 38 (.int .i64 1))) w') := bad1
  clear bad1
  unfold OrV.val
  simp only
  by_cases h1 : 0 ≤ p ∧ p ≤ 3
  · have W1 := owin_is p 3 true (decide_eq_true h1)
    by_cases h2 : 0 ≤ u ∧ u ≤ 1000000
    · have W2 := owin_is u 1000000 true (decide_eq_true h2)
      by_cases h3 : 0 ≤ a ∧ a ≤ 1000000
      · have W3 := owin_is a 1000000 true (decide_eq_true h3)
        by_cases h4 : 0 ≤ n ∧ n ≤ 3
        · have W4 := owin_is n 3 true (decide_eq_true h4)
          by_cases h5 : n = 0
          · subst h5
            by_cases h6 : a = 0
            · subst h6
              go_enter Try.func10, Try.ntmps10
              go_wp2_with fail
              refine (W1.out _).mono ?_
              rintro e w' ⟨rfl, rfl⟩
              go_wp2_with fail
              refine (W2.out _).mono ?_
              rintro e w' ⟨rfl, rfl⟩
              go_wp2_with fail
              refine (W3.out _).mono ?_
              rintro e w' ⟨rfl, rfl⟩
              go_wp2_with fail
              refine (W4.out _).mono ?_
              rintro e w' ⟨rfl, rfl⟩
              go_wp2
              go_ret
              exact ⟨_, rfl, by rw [Od.fault_ok (by unfold Od.bad; simp only; omega)]; exact Er.nil, BB⟩
            · have h6b : (a == 0) = false := beq_eq_false_iff_ne.2 h6
              go_enter Try.func10, Try.ntmps10
              go_wp2_with fail
              refine (W1.out _).mono ?_
              rintro e w' ⟨rfl, rfl⟩
              go_wp2_with fail
              refine (W2.out _).mono ?_
              rintro e w' ⟨rfl, rfl⟩
              go_wp2_with fail
              refine (W3.out _).mono ?_
              rintro e w' ⟨rfl, rfl⟩
              go_wp2_with fail
              refine (W4.out _).mono ?_
              rintro e w' ⟨rfl, rfl⟩
              go_wp2
              go_ret
              exact B1.out (.inr (.inr (.inr (.inr (.inr (.inr (.inr (.inr ⟨rfl, h6⟩)))))))) _ BB
          · have h5b : (n == 0) = false := beq_eq_false_iff_ne.2 h5
            go_enter Try.func10, Try.ntmps10
            go_wp2_with fail
            refine (W1.out _).mono ?_
            rintro e w' ⟨rfl, rfl⟩
            go_wp2_with fail
            refine (W2.out _).mono ?_
            rintro e w' ⟨rfl, rfl⟩
            go_wp2_with fail
            refine (W3.out _).mono ?_
            rintro e w' ⟨rfl, rfl⟩
            go_wp2_with fail
            refine (W4.out _).mono ?_
            rintro e w' ⟨rfl, rfl⟩
            go_wp2
            go_ret
            exact ⟨_, rfl, by rw [Od.fault_ok (by unfold Od.bad; simp only; omega)]; exact Er.nil, BB⟩
        · have W4 := owin_is n 3 false (decide_eq_false h4)
          go_enter Try.func10, Try.ntmps10
          go_wp2_with fail
          refine (W1.out _).mono ?_
          rintro e w' ⟨rfl, rfl⟩
          go_wp2_with fail
          refine (W2.out _).mono ?_
          rintro e w' ⟨rfl, rfl⟩
          go_wp2_with fail
          refine (W3.out _).mono ?_
          rintro e w' ⟨rfl, rfl⟩
          go_wp2_with fail
          refine (W4.out _).mono ?_
          rintro e w' ⟨rfl, rfl⟩
          go_wp2
          go_ret
          exact B1.out (by unfold Od.bad; simp only; omega) _ BB
      · have W3 := owin_is a 1000000 false (decide_eq_false h3)
        go_enter Try.func10, Try.ntmps10
        go_wp2_with fail
        refine (W1.out _).mono ?_
        rintro e w' ⟨rfl, rfl⟩
        go_wp2_with fail
        refine (W2.out _).mono ?_
        rintro e w' ⟨rfl, rfl⟩
        go_wp2_with fail
        refine (W3.out _).mono ?_
        rintro e w' ⟨rfl, rfl⟩
        go_wp2
        go_ret
        exact B1.out (by unfold Od.bad; simp only; omega) _ BB
    · have W2 := owin_is u 1000000 false (decide_eq_false h2)
      go_enter Try.func10, Try.ntmps10
      go_wp2_with fail
      refine (W1.out _).mono ?_
      rintro e w' ⟨rfl, rfl⟩
      go_wp2_with fail
      refine (W2.out _).mono ?_
      rintro e w' ⟨rfl, rfl⟩
      go_wp2
      go_ret
      exact B1.out (by unfold Od.bad; simp only; omega) _ BB
  · have W1 := owin_is p 3 false (decide_eq_false h1)
    go_enter Try.func10, Try.ntmps10
    go_wp2_with fail
    refine (W1.out _).mono ?_
    rintro e w' ⟨rfl, rfl⟩
    go_wp2
    go_ret
    exact B1.out (by unfold Od.bad; simp only; omega) _ BB
end Go.Proofs.Ytelbdcljdfadbaa

namespace Go.Proofs.Ytelbdcljdfadbaa
open Go.RowKit
set_option linter.unusedVariables false

theorem info_or : (Try.prog.info? 28).map (fun i => (i.zero, i.size, i.bytes)) = some (some (.agg #[.int .i64 0, .int .i64 0, .int .i64 0, .int .i64 0]), 4, 32) := by kernel_rfl
def OrV.cs (k : OrV) : List Value := [.int .i64 k.player, .int .i64 k.unit, .int .i64 k.what, .int .i64 k.arg]
theorem flat_or : ∀ (ks : List OrV) (i j : Nat) (k : OrV), ks[i]? = some k → j < 4 → (ks.flatMap OrV.cs)[i * 4 + j]? = k.cs[j]?
  | [], i, j, k, h, _ => by simp at h
  | x :: ks, 0, j, k, h, hj => by
    simp at h
    subst h
    rw [List.flatMap_cons, List.getElem?_append_left (by simp [OrV.cs]; omega)]
    simp
  | x :: ks, i + 1, j, k, h, hj => by
    rw [List.flatMap_cons, List.getElem?_append_right (by simp [OrV.cs]; omega)]
    have : (i + 1) * 4 + j - (OrV.cs x).length = i * 4 + j := by simp [OrV.cs]; omega
    rw [this]
    exact flat_or ks i j k (by simpa using h) hj
/-- v is a slice of them, in a block of its own from base on. -/
def Oro (w : World) (base : Nat) (v : Value) (ks : List OrV) : Prop := w.ownsRow base 28 4 v ks.length (ks.flatMap OrV.cs)
theorem Oro.nil (w : World) (base : Nat) : Oro w base (.slice none 0 0) [] := World.ownsRow_nil _ _ _ _
theorem Oro.below {w w' : World} {base : Nat} {v : Value} {ks : List OrV} (h : Oro w base v ks) (hb : Below w.heap.size w w') : Oro w' base v ks :=
  World.ownsRow.kept h (row := none) ⟨hb.os, hb.tape, hb.output, hb.size, fun k hk _ => hb.block k hk⟩ (by cases v.ownBlock <;> simp)
theorem Oro.kept {w w' : World} {base : Nat} {v : Value} {ks : List OrV} {row : Option Nat} (h : Oro w base v ks) (hg : w.grownBy w' row) (hne : v.ownBlock = none ∨ v.ownBlock ≠ row) : Oro w' base v ks := World.ownsRow.kept h hg hne
theorem Oro.alloc {w : World} {base : Nat} {v : Value} {ks : List OrV} (h : Oro w base v ks) (o : Obj) : Oro (w.alloc o) base v ks := World.ownsRow.alloc h o
theorem Oro.block {w : World} {base : Nat} {v : Value} {ks : List OrV} (h : Oro w base v ks) : ∀ k, v.ownBlock = some k → base ≤ k ∧ k < w.heap.size := World.ownsRow.lt h
theorem Oro.mono {w : World} {base base' : Nat} {v : Value} {ks : List OrV} (h : Oro w base v ks) (hb : base' ≤ base) : Oro w base' v ks := by
  refine ⟨h.1, ?_⟩
  rcases h.2 with h1 | ⟨g, cap, cur, h1, h2, h3⟩
  · exact .inl h1
  · exact .inr ⟨g, cap, cur, h1, Nat.le_trans hb h2, h3⟩
theorem Oro.l {w : World} {base : Nat} {v : Value} {ks : List OrV} (h : Oro w base v ks) : Orl w v ks := by
  rcases h.2 with ⟨hv, h0⟩ | ⟨g, cap, cur, hv, hb, hg, h1, h2, h3, h4⟩
  · exact ⟨none, 0, by rw [hv, h0], by omega, by omega, fun hn => absurd (List.length_eq_zero_iff.1 h0) hn⟩
  · refine ⟨_, cap, hv, h1, by unfold maxLen at h2; omega, fun _ => ⟨_, rfl, lt_of_block hg, fun i k hi => ?_⟩⟩
    have hil : i < ks.length := (List.getElem?_eq_some_iff.1 hi).1
    have h5 : w.ownsRow base 28 4 (.slice (some ⟨g, 0, none⟩) ks.length cap) ks.length (ks.flatMap OrV.cs) := by rw [← hv]; exact h
    have hc : ∀ j u, j < 4 → k.cs[j]? = some u → w.cell? ⟨g, i * 4 + j, none⟩ = some u := fun j u hj hu => by
      rw [h5.cellAt (i * 4 + j) (by omega), flat_or ks i j k hi hj, hu]
    rw [Addr.add_lit, Nat.zero_add]
    exact ⟨hc 0 _ (by decide) rfl, hc 1 _ (by decide) rfl, hc 2 _ (by decide) rfl, hc 3 _ (by decide) rfl⟩
theorem Oro.len {w : World} {base : Nat} {v : Value} {ks : List OrV} (h : Oro w base v ks) : ∃ a c, v = .slice a ks.length c := by
  obtain ⟨a, c, h1, -⟩ := h.l
  exact ⟨a, c, h1⟩

/-- one more. -/
theorem app_or {ops : Array Oper} {rest : List Oper} {o : Oper} {a : Act} {Q : Exit → Act → World → Prop} (w : World) (hgd : o.guard = none) (s x : Operand)
    (ho : o.op = .call { callee := .builtin .append, args := #[s, x], argTypes := #[22, 22] }) (base : Nat) (v : Value) (ks : List OrV) (hs : a.eval s = v) (hown : Oro w base v ks)
    (b : Nat) (d : OrV) (hx : a.eval x = .slice (some ⟨b, 0, none⟩) 1 1) (hd : Orc w ⟨b, 0, none⟩ d) (hl : ks.length ≤ 1000000) (hbase : base ≤ w.heap.size)
    (h : ∀ g cap w', Oro w' base (.slice (some ⟨g, 0, none⟩) (ks.length + 1) cap) (ks ++ [d]) → w.grownBy w' v.ownBlock → (v.ownBlock = some g ∨ g = w.heap.size) → g < w'.heap.size → wpList Try.prog ops Q rest (a.put o.dst (.slice (some ⟨g, 0, none⟩) (ks.length + 1) cap)) w') :
    wpList Try.prog ops Q (o :: rest) a w := by
  obtain ⟨i0, hi, hz0, hz1, hz2⟩ := info_parts info_or
  refine wpList_append_lies w hgd s x 22 ho base 28 i0 (.agg #[.int .i64 0, .int .i64 0, .int .i64 0, .int .i64 0]) 4 32 Try.underlying22 hi hz0 hz1 hz2 rfl (by decide) v ks.length _ hs hown ⟨b, 0, none⟩ 1 1 d.cs hx rfl ?_ ?_ (by decide) (by unfold maxLen; omega) (by omega) hbase _ rfl ?_
  · intro j u hj
    have hjn : j < 4 := (List.getElem?_eq_some_iff.1 hj).1
    rw [Addr.add_lit, Nat.zero_add]
    match j, hjn, hj with
    | 0, _, hj => simp [OrV.cs] at hj; subst hj; exact hd.c0
    | 1, _, hj => simp [OrV.cs] at hj; subst hj; exact hd.c1
    | 2, _, hj => simp [OrV.cs] at hj; subst hj; exact hd.c2
    | 3, _, hj => simp [OrV.cs] at hj; subst hj; exact hd.c3
  · intro u hu
    simp [OrV.cs] at hu
    rcases hu with rfl | rfl | rfl | rfl <;> rfl
  · intro g cap w' h1 h2 h3 h4
    refine h g cap w' ?_ h2 h3 h4
    unfold Oro
    rw [List.length_append, List.flatMap_append]
    simpa using h1
end Go.Proofs.Ytelbdcljdfadbaa

namespace Go.Proofs.Ytelbdcljdfadbaa
open Go.RowKit So
set_option linter.unusedVariables false

theorem Um.mono {w : World} {b n n' : Nat} {f : Int → Int → Int} (h : Um w b n f) (hn : n ≤ n') : Um w b n' f := by
  obtain ⟨D, h1, h2⟩ := h
  exact ⟨D, h1.mono hn, h2⟩
def OcI (ks : List OrV) (w : World) (j : Value) (W' : World) : Prop := ∃ q : Nat, q ≤ ks.length ∧ j = .int .i64 (q : Nat) ∧ (∀ (i : Nat) o, i < q → ks[i]? = some o → ¬ Od.bad o) ∧ Below w.heap.size w W'
set_option maxRecDepth 100000 in
set_option maxHeartbeats 4000000 in
theorem ocheck_any (v : Value) (ks : List OrV) (w : World) (h : Orl w v ks) :
    Calls Try.prog 5 #[v] w fun e w' => ∃ u, e = .returned u ∧ Er u (Od.faults ks) ∧ Below w.heap.size w w' := by
  have K0 : Hid (Orl w v ks) := h
  obtain ⟨R, hR⟩ : ∃ R, Od.faults ks = R := ⟨_, rfl⟩
  have HR : Hid (Od.faults ks = R) := hR
  rw [hR]
  clear hR
  obtain ⟨a, c, rfl, c1, c2, -⟩ := h
  by_cases h8 : 60 < ks.length
  · have E : Hid (R = 4) := by unfold Hid; rw [← HR.out]; unfold Od.faults; rw [if_pos h8]
    have h8' : (60 : Int) < (ks.length : Int) := by omega
    go_enter Try.func5, Try.ntmps5
    go_wp2
    go_ret
    exact ⟨_, rfl, by rw [E.out]; exact Er.no (by decide), Below.refl _ _⟩
  · have h8' : ¬ (60 : Int) < (ks.length : Int) := by omega
    have LE : Hid (ks.length ≤ 60) := by unfold Hid; omega
    go_enter Try.func5, Try.ntmps5
    go_wp2_with fail
    go_loopw [12] (fun j W' => OcI ks w j W') (fun j _ => ks.length - (intOf j).toNat)
    case atStart => exact ⟨0, Nat.zero_le _, rfl, fun i o hi => by omega, Below.refl _ _⟩
    case round =>
      obtain ⟨q, hq, rfl, hg, hb⟩ := hrel
      have Gq : Hid (∀ (i : Nat) o, i < q → ks[i]? = some o → ¬ Od.bad o) := hg
      have B : Hid (Below w.heap.size w wr) := hb
      clear hg hb
      by_cases hql : q = ks.length
      · have E : Hid (R = 0) := by
          unfold Hid
          rw [← HR.out]
          refine Od.faults_of LE.out fun o ho => ?_
          obtain ⟨i, hi⟩ := List.mem_iff_getElem?.1 ho
          exact Gq.out i o (by rw [hql]; exact (List.getElem?_eq_some_iff.1 hi).1) hi
        subst hql
        go_wp2
        go_ret
        exact ⟨_, rfl, by rw [E.out]; exact Er.nil, B⟩
      · have hqk : q < ks.length := by omega
        obtain ⟨k, hk⟩ : ∃ k, ks[q]? = some k := ⟨_, List.getElem?_eq_getElem hqk⟩
        have HK : Hid (ks[q]? = some k) := hk
        have K1 := K0.out.below B.out
        have CK : Hid (∀ W : World, Calls Try.prog 10 #[k.val] W (OrdSays k W)) := fun W => checkOrder_any k W
        obtain ⟨F, hF⟩ : ∃ F, Od.fault k = F := ⟨_, rfl⟩
        have HF : Hid (Od.fault k = F) := hF
        clear hF
        obtain ⟨a', c', e, -, -, h3⟩ := K1
        injection e with e1 e2 e3
        subst e1 e3
        obtain ⟨x, rfl, hx1, hx⟩ := h3 (by rintro rfl; simp at hqk)
        have Yc := hx q k hk
        clear hx h3 e2 hk
        obtain ⟨q0, q1, q2, q3⟩ := Yc
        unfold OrV.val at CK
        go_upto_region 6 with fail
        have B1 : Hid (Below wr.heap.size wr (wr.alloc (Obj.cells #[.int .i64 k.player, .int .i64 k.unit, .int .i64 k.what, .int .i64 k.arg] 28))) := (Below.refl _ _).alloc (Nat.le_refl _) _
        have X1 := Orc.mk' (w := wr) k rfl
        clear q0 q1 q2 q3
        generalize wr.alloc (Obj.cells #[.int .i64 k.player, .int .i64 k.unit, .int .i64 k.what, .int .i64 k.arg] 28) = w1 at *
        obtain ⟨x0, x1, x2, x3⟩ := X1
        simp only [Nat.zero_add] at x1 x2 x3
        go_wp2_with fail
        refine Calls.mono (CK.out w1) ?_
        rintro e w2 ⟨u, rfl, hu, b2⟩
        rw [HF.out] at hu
        have B3 : Hid (Below w.heap.size w w2) := B.out.trans ((B1.out.trans (b2.mono B1.out.size)).mono B.out.size)
        clear b2 CK x0 x1 x2 x3 B1
        rcases hu with ⟨hF, rfl⟩ | ⟨hF, rfl⟩
        · have G2 : Hid (∀ (i : Nat) o, i < q + 1 → ks[i]? = some o → ¬ Od.bad o) := fun i o hi ho => by
            by_cases e : i = q
            · subst e
              rw [HK.out] at ho
              obtain rfl := Option.some.inj ho
              intro hbad
              have := HF.out
              rw [Od.fault_bad hbad] at this
              omega
            · exact Gq.out i o (by omega) ho
          go_wp2
          go_round
          case rel => exact ⟨q + 1, by omega, by go_num, G2, B3⟩
          case measure => simp [intOf]; omega
        · have E : Hid (R = F ∧ F ≠ 0) := by
            have hbad : Od.bad k := by
              rcases Classical.em (Od.bad k) with h | h
              · exact h
              · exact absurd (HF.out.symm.trans (Od.fault_ok h)) hF
            refine ⟨?_, hF⟩
            rw [← HR.out, ← HF.out, Od.fault_bad hbad]
            unfold Od.faults
            rw [if_neg (by have := LE.out; omega), if_pos (List.any_eq_true.2 ⟨k, List.mem_of_getElem? HK.out, decide_eq_true hbad⟩)]
          clear hF
          go_wp2
          go_ret
          exact ⟨_, rfl, by rw [E.out.1]; exact Er.no E.out.2, B3⟩
set_option maxHeartbeats 1000000 in
theorem unitOf_any (o : OrV) (w : World) : Calls Try.prog 7 #[o.val] w fun e w' => e = .returned (.agg #[.int .i64 o.player, .int .i64 o.unit]) ∧ Below w.heap.size w w' := by
  unfold OrV.val
  go_enter Try.func7, Try.ntmps7
  go_wp2
  refine bodyPost_ret (v := .agg #[.int .i64 o.player, .int .i64 o.unit]) (by simp [results, Try.results7, go_sem]) rfl ⟨rfl, ?_⟩
  exact ((Below.refl _ _).alloc (Nat.le_refl _) _).alloc (by simp) _
def LoI (ks : List OrV) (w : World) (j : Value) (W' : World) : Prop := ∃ q : Nat, q ≤ ks.length ∧ j = .int .i64 (q : Nat) ∧ Um W' w.heap.size q (lf ks q) ∧ Below w.heap.size w W'
set_option maxRecDepth 100000 in
set_option maxHeartbeats 4000000 in
theorem lastOnes_any (v : Value) (ks : List OrV) (w : World) (h : Orl w v ks) (hl : ks.length ≤ 60) (hb : ∀ o ∈ ks, ¬ Od.bad o) :
    Calls Try.prog 6 #[v] w fun e w' => ∃ b n, e = .returned (.map (some b)) ∧ Um w' b n (lf ks ks.length) ∧ w.heap.size ≤ b ∧ Below w.heap.size w w' := by
  have K0 : Hid (Orl w v ks) := h
  have HB : Hid (∀ o ∈ ks, ¬ Od.bad o) := hb
  have LE : Hid (ks.length ≤ 60) := hl
  obtain ⟨a, c, rfl, c1, c2, -⟩ := h
  have hmm := @run_makeMap Try.prog
  clear hb
  go_enter Try.func6, Try.ntmps6
  go_wp2_with fail
  go_loopw [9] (fun j W' => LoI ks w j W') (fun j _ => ks.length - (intOf j).toNat)
  case atStart => exact ⟨0, Nat.zero_le _, rfl, um_made w, (Below.refl _ _).alloc (Nat.le_refl _) _⟩
  case round =>
    obtain ⟨q, hq, rfl, hg, hb⟩ := hrel
    have Gq : Hid (Um wr w.heap.size q (lf ks q)) := hg
    have B : Hid (Below w.heap.size w wr) := hb
    clear hg hb
    by_cases hql : q = ks.length
    · subst hql
      go_wp2
      go_ret
      exact ⟨_, _, rfl, Gq, Nat.le_refl _, B⟩
    · have hqk : q < ks.length := by omega
      obtain ⟨k, hk⟩ : ∃ k, ks[q]? = some k := ⟨_, List.getElem?_eq_getElem hqk⟩
      have HK : Hid (ks[q]? = some k) := hk
      have OK := Od.ok_of (HB.out k (List.mem_of_getElem? hk))
      have WF : Hid ((Lit.int .i64 k.player).wf = true ∧ (Lit.int .i64 k.unit).wf = true ∧ (Lit.int .i64 ((q : Nat) : Int)).wf = true) := ⟨wf64 (by omega) (by omega), wf64 (by omega) (by omega), wf64 (by omega) (by omega)⟩
      have K1 := K0.out.below B.out
      obtain ⟨a', c', e, -, -, h3⟩ := K1
      injection e with e1 e2 e3
      subst e1 e3
      obtain ⟨x, rfl, hx1, hx⟩ := h3 (by rintro rfl; simp at hqk)
      have Yc := hx q k hk
      clear hx h3 e2 hk OK
      obtain ⟨q0, q1, q2, q3⟩ := Yc
      go_upto_region 5 with fail
      have B1 : Hid (Below wr.heap.size wr (wr.alloc (Obj.cells #[.int .i64 k.player, .int .i64 k.unit, .int .i64 k.what, .int .i64 k.arg] 28))) := (Below.refl _ _).alloc (Nat.le_refl _) _
      have X1 := Orc.mk' (w := wr) k rfl
      clear q0 q1 q2 q3
      generalize wr.alloc (Obj.cells #[.int .i64 k.player, .int .i64 k.unit, .int .i64 k.what, .int .i64 k.arg] 28) = w1 at *
      have G1 : Hid (Um w1 w.heap.size q (lf ks q)) := Gq.out.below B1.out
      have B2 : Hid (Below w.heap.size w w1) := B.out.trans (B1.out.mono B.out.size)
      obtain ⟨x0, x1, x2, x3⟩ := X1
      simp only [Nat.zero_add] at x1 x2 x3
      by_cases h3 : k.what = 3
      · have NX : Hid (Um w1 w.heap.size (q + 1) (lf ks (q + 1))) := by unfold Hid; rw [lf_train HK.out h3]; exact G1.out.mono (by omega)
        go_wp2
        go_round
        case rel => exact ⟨q + 1, by omega, by go_num, NX, B2⟩
        case measure => simp [intOf]; omega
      · have h3b : (k.what == 3) = false := beq_eq_false_iff_ne.2 h3
        go_wp2_with fail
        refine Calls.mono (unitOf_any k w1) ?_
        rintro e w2 ⟨rfl, b2⟩
        have B3 : Hid (Below w.heap.size w w2) := B2.out.trans (b2.mono B2.out.size)
        have G2 : Hid (Um w2 w.heap.size q (lf ks q)) := G1.out.below b2
        obtain ⟨w3, r3, o3, g3⟩ := G2.out.put (by have := LE.out; unfold maxLen; omega) WF.out.1 WF.out.2.1 WF.out.2.2
        have NX : Hid (Um w3 w.heap.size (q + 1) (lf ks (q + 1))) := by unfold Hid; rw [lf_other HK.out h3]; exact o3
        have B4 : Hid (Below w.heap.size w w3) := B3.out.grown g3 B3.out.size (fun k hk => by cases hk; exact Nat.le_refl _)
        clear b2 o3 g3 x0 x1 x2 x3
        go_wp2
        go_round
        case rel => exact ⟨q + 1, by omega, by go_num, NX, B4⟩
        case measure => simp [intOf]; omega
end Go.Proofs.Ytelbdcljdfadbaa

namespace Go.Proofs.Ytelbdcljdfadbaa
open Go.RowKit
set_option linter.unusedVariables false

/-- block g has these orders, and more behind them. -/
def Rb (w : World) (g : Nat) (ks : List OrV) (rest : List Value) : Prop := w.heap[g]? = some (.cells (ks.flatMap OrV.cs ++ rest).toArray 28 (0, 0))
theorem Rb.lt {w : World} {g : Nat} {ks : List OrV} {rest : List Value} (h : Rb w g ks rest) : g < w.heap.size := lt_of_block h
theorem Rb.thaw {w : World} {g : Nat} {ks : List OrV} {rest : List Value} (h : Rb w g ks rest) (i : Nat) : w.frozen? ⟨g, i, none⟩ = false := by
  unfold Rb at h
  simp [World.frozen?, h]
theorem Rb.below {w w' : World} {g B : Nat} {ks : List OrV} {rest : List Value} (h : Rb w g ks rest) (hb : Below B w w') (hB : g < B) : Rb w' g ks rest := by
  unfold Rb at *
  rw [hb.block g hB]; exact h
theorem flat_len (ks : List OrV) : (ks.flatMap OrV.cs).length = ks.length * 4 := by
  induction ks with
  | nil => rfl
  | cons k ks ih =>
    rw [List.flatMap_cons, List.length_append, ih, List.length_cons]
    simp [OrV.cs]
    omega
theorem Rb.at_ {w : World} {g : Nat} {ks : List OrV} {rest : List Value} (h : Rb w g ks rest) {i : Nat} {o : OrV} (ho : ks[i]? = some o) {j : Nat} (hj : j < 4) : w.cell? ⟨g, i * 4 + j, none⟩ = o.cs[j]? := by
  unfold Rb at h
  have hi : i < ks.length := (List.getElem?_eq_some_iff.1 ho).1
  simp only [World.cell?, h]
  have e : (ks.flatMap OrV.cs ++ rest).toArray[i * 4 + j]? = o.cs[j]? := by
    rw [List.getElem?_toArray, List.getElem?_append_left (by rw [flat_len]; omega), flat_or ks i j o ho hj]
  simp only [e]
  simp
theorem Rb.cells {w : World} {g : Nat} {ks : List OrV} {rest : List Value} (h : Rb w g ks rest) {i : Nat} {o : OrV} (ho : ks[i]? = some o) :
    w.cell? ⟨g, i * 4, none⟩ = some (.int .i64 o.player) ∧ w.cell? ⟨g, i * 4 + 1, none⟩ = some (.int .i64 o.unit) ∧ w.cell? ⟨g, i * 4 + 2, none⟩ = some (.int .i64 o.what) ∧ w.cell? ⟨g, i * 4 + 3, none⟩ = some (.int .i64 o.arg) :=
  ⟨h.at_ ho (j := 0) (by decide), h.at_ ho (j := 1) (by decide), h.at_ ho (j := 2) (by decide), h.at_ ho (j := 3) (by decide)⟩
theorem flat_set : ∀ (ks : List OrV) (i : Nat) (o : OrV) (rest : List Value), i < ks.length →
    (ks.set i o).flatMap OrV.cs ++ rest = ((((ks.flatMap OrV.cs ++ rest).set (i * 4) (.int .i64 o.player)).set (i * 4 + 1) (.int .i64 o.unit)).set (i * 4 + 2) (.int .i64 o.what)).set (i * 4 + 3) (.int .i64 o.arg)
  | [], i, o, rest, h => by simp at h
  | k :: ks, 0, o, rest, _ => by
    simp [OrV.cs]
  | k :: ks, i + 1, o, rest, h => by
    have ih := flat_set ks i o rest (by simpa using h)
    rw [show (i + 1) * 4 = i * 4 + 4 by omega, show i * 4 + 4 + 1 = i * 4 + 1 + 4 by omega, show i * 4 + 4 + 2 = i * 4 + 2 + 4 by omega, show i * 4 + 4 + 3 = i * 4 + 3 + 4 by omega, List.set_cons_succ, List.flatMap_cons, List.append_assoc, ih, List.flatMap_cons]
    simp [OrV.cs]
theorem Rb.put {w : World} {g : Nat} {ks : List OrV} {rest : List Value} (h : Rb w g ks rest) {i : Nat} (hi : i < ks.length) (o : OrV) :
    Rb ((((w.setCell ⟨g, i * 4, none⟩ (.int .i64 o.player)).setCell ⟨g, i * 4 + 1, none⟩ (.int .i64 o.unit)).setCell ⟨g, i * 4 + 2, none⟩ (.int .i64 o.what)).setCell ⟨g, i * 4 + 3, none⟩ (.int .i64 o.arg)) g (ks.set i o) rest := by
  unfold Rb at *
  have h1 := heap_setCell_same w g (i * 4) _ _ (.int .i64 o.player) h
  have h2 := heap_setCell_same _ g (i * 4 + 1) _ _ (.int .i64 o.unit) h1
  have h3 := heap_setCell_same _ g (i * 4 + 2) _ _ (.int .i64 o.what) h2
  have h4 := heap_setCell_same _ g (i * 4 + 3) _ _ (.int .i64 o.arg) h3
  rw [h4, flat_set ks i o rest hi]
  simp
theorem rb_below {B g : Nat} {w W : World} {i : Nat} (o : OrV) (h : Below B w W) (hb : B ≤ g) :
    Below B w ((((W.setCell ⟨g, i * 4, none⟩ (.int .i64 o.player)).setCell ⟨g, i * 4 + 1, none⟩ (.int .i64 o.unit)).setCell ⟨g, i * 4 + 2, none⟩ (.int .i64 o.what)).setCell ⟨g, i * 4 + 3, none⟩ (.int .i64 o.arg)) :=
  (((h.setCell (p := ⟨g, i * 4, none⟩) hb _).setCell (p := ⟨g, i * 4 + 1, none⟩) hb _).setCell (p := ⟨g, i * 4 + 2, none⟩) hb _).setCell (p := ⟨g, i * 4 + 3, none⟩) hb _
end Go.Proofs.Ytelbdcljdfadbaa

namespace Go.Proofs.Ytelbdcljdfadbaa
open Go Go.RowKit
set_option linter.unusedVariables false

section
variable {P : Program} {ops : Array Oper} {md : Region.Mode} {C : World → Prop}

/-- the operation gives v, in each of the worlds C, and leaves one of them. -/
def YieldsC (P : Program) (ops : Array Oper) (C : World → Prop) (o : Oper) (v : Value) (a : Act) : Prop :=
  (Region.wanted o (yielded ops a.tmps) = true ∧ ∀ W, C W → ((execOp a.eval o).run P W = .ok (.value v) W ∨ ((execOp a.eval o).run P W = .ok .skip W ∧ v = undef) ∨
    ∃ f args, (execOp a.eval o).run P W = .ok (.enter f args) W ∧ Calls P f args W (fun e w' => e = .returned v ∧ C w'))) ∨
  (Region.wanted o (yielded ops a.tmps) = false ∧ v = undef)
def stC (P : Program) (ops : Array Oper) (C : World → Prop) (i : Nat) (K : Act → Prop) (a : Act) : Prop :=
  match ops[i]? with
  | none => K a
  | some o => ∃ v, YieldsC P ops C o v a ∧ K (a.put o.dst v)
theorem stC_mono {i : Nat} {a : Act} {K K' : Act → Prop} (h : ∀ a, K a → K' a) (hh : stC P ops C i K a) : stC P ops C i K' a := by
  unfold stC at *
  split
  · rename_i ho
    simp only [ho] at hh
    exact h _ hh
  · rename_i o ho
    simp only [ho] at hh
    obtain ⟨v, h1, h2⟩ := hh
    exact ⟨v, h1, h _ h2⟩
theorem YieldsC.of_same {o : Oper} {v : Value} {a a' : Act} (hy : YieldsC P ops C o v a) (he : execOp a'.eval o = execOp a.eval o)
    (hw : Region.wanted o (yielded ops a'.tmps) = Region.wanted o (yielded ops a.tmps)) : YieldsC P ops C o v a' := by
  unfold YieldsC at *
  rw [he, hw]
  exact hy
theorem stC_put {j : Nat} {oi oj : Oper} {v : Value} (hj : ops[j]? = some oj) (hap : oi.apart ops oj = true)
    (hsi : ∀ cs b, oi.op ≠ .select cs b) (hsj : ∀ cs b, oj.op ≠ .select cs b) {K : Act → Prop} {a : Act}
    (hy : YieldsC P ops C oi v a) (h : stC P ops C j K (a.put oi.dst v)) :
    stC P ops C j (fun a' => YieldsC P ops C oi v a' ∧ K (a'.put oi.dst v)) a := by
  obtain ⟨h1, h2, h3⟩ := Oper.apart_spec hap
  unfold stC at *
  simp only [hj] at *
  obtain ⟨u, hu, hk⟩ := h
  refine ⟨u, hu.of_same (execOp_put oj hsj a oi.dst v h1).symm (wanted_put oj a oi.dst v h1).symm, hy.of_same (execOp_put oi hsi a oj.dst u h3) (wanted_put oi a oj.dst u h3), ?_⟩
  rw [← Act.put_comm a v u h2]
  exact hk
theorem wpOp_of_stC {i : Nat} {a : Act} {W : World} {K : Act → Prop} {K' : Act → World → Prop} {Q' : Exit → Act → World → Prop} (h : ∀ a W, K a → C W → K' a W) (hh : stC P ops C i K a) (hW : C W) : wpOp P ops Q' i K' a W := by
  unfold stC at hh
  unfold wpOp
  split
  · rename_i ho
    simp only [ho] at hh
    exact h _ _ hh hW
  · rename_i o ho
    simp only [ho] at hh
    obtain ⟨v, hy, hk⟩ := hh
    rcases hy with ⟨hw, hr⟩ | ⟨hw, rfl⟩
    · simp only [hw, if_true]
      refine .inl ?_
      unfold Oper.wp
      rcases hr W hW with e | ⟨e, rfl⟩ | ⟨f, args, e, hc⟩
      · rw [e]
        exact h _ _ hk hW
      · rw [e]
        exact h _ _ hk hW
      · rw [e]
        exact hc.mono fun e w' ⟨he, hw'⟩ => by subst he; exact h _ _ hk hw'
    · simp only [hw]
      exact h _ _ hk hW
def wpAnyC (P : Program) (md : Region.Mode) (ops : Array Oper) (C : World → Prop) (n : Nat) (L : Array Bool → Act → Prop) : Nat → Array Bool → Act → Prop
  | 0, listed, a => L listed a
  | f + 1, listed, a =>
    Region.ready md ops listed ≠ [] ∧ ∀ i ∈ Region.ready md ops listed, i < n ∧ stC P ops C i (wpAnyC P md ops C n L f (listed.setIfInBounds i true)) a
theorem wpAny_of_headC {n g : Nat} {L : Array Bool → Act → Prop} {Q' : Exit → Act → World → Prop} (hL : ∀ listed a W, L listed a → C W → wpAny P md ops Q' g listed a W) :
    ∀ (f : Nat) (listed : Array Bool) (a : Act) (W : World), wpAnyC P md ops C n L f listed a → C W → wpAny P md ops Q' (f + g) listed a W
  | 0, listed, a, W, h, hW => by rw [Nat.zero_add]; exact hL _ _ _ h hW
  | f + 1, listed, a, W, h, hW => by
    rw [show f + 1 + g = (f + g) + 1 by omega]
    exact ⟨fun h0 => absurd h0 h.1, fun i hi => wpOp_of_stC (fun a' W' h' hW' => wpAny_of_headC hL f _ a' W' h' hW') (h.2 i hi).2 hW⟩
theorem wpAnyC_first {n i : Nat} {oi : Oper} {v : Value} {L : Array Bool → Act → Prop} (hi : ops[i]? = some oi) (hsel : ∀ (j : Nat) (o : Oper) cs b, ops[j]? = some o → o.op ≠ .select cs b)
    (hs : Region.sinkB md ops n = true) (hc : Region.chainB md ops n = true) (hn : n < ops.size) (hin : i < n)
    (hdone : ∀ listed a, L listed a → ∀ j ∈ Region.ready md ops listed, n ≤ j) :
    ∀ (f : Nat) (listed : Array Bool) (a : Act), HeadInv md ops n listed →
      (∀ j oj, ops[j]? = some oj → j ≠ i → listed.getD j true = false → (∀ e ∈ oj.after, Region.binds md e = true → e.on ≠ i) → oi.apart ops oj = true) →
      i ∈ Region.ready md ops listed → YieldsC P ops C oi v a →
      wpAnyC P md ops C n L f (listed.setIfInBounds i true) (a.put oi.dst v) → wpAnyC P md ops C n L (f + 1) listed a := by
  have hit : ∀ {K : Act → Prop} {a : Act}, YieldsC P ops C oi v a → K (a.put oi.dst v) → stC P ops C i K a := fun hy hk => by
    unfold stC
    simp only [hi]
    exact ⟨v, hy, hk⟩
  intro f
  induction f with
  | zero =>
    intro listed a inv _ hr hy H
    have hun := (mem_ready.1 hr).1
    refine ⟨fun h => (by rw [h] at hr; cases hr), fun j hj => ?_⟩
    have hjn : j < n := by
      rcases Nat.lt_or_ge j n with h | h
      · exact h
      · exact absurd hj (tail_waits hs hc hn inv _ i rfl hin hun j h)
    refine ⟨hjn, ?_⟩
    by_cases hji : j = i
    · subst hji; exact hit hy H
    · have := hdone _ _ H j (ready_mono hj hji)
      omega
  | succ f ih =>
    intro listed a inv hfree hr hy H
    have hun := (mem_ready.1 hr).1
    refine ⟨fun h => (by rw [h] at hr; cases hr), fun j hj => ?_⟩
    have hjn : j < n := by
      rcases Nat.lt_or_ge j n with h | h
      · exact h
      · exact absurd hj (tail_waits hs hc hn inv _ i rfl hin hun j h)
    refine ⟨hjn, ?_⟩
    by_cases hji : j = i
    · subst hji; exact hit hy H
    · have h1 := (H.2 j (ready_mono hj hji)).2
      obtain ⟨hjun, oj, hoj, hall⟩ := mem_ready.1 hj
      have hnot : ∀ e ∈ oj.after, Region.binds md e = true → e.on ≠ i := fun e he hb heq => by
        have h1 := hall e he hb
        rw [heq, getD_both hun] at h1
        cases h1
      have h2 := stC_put hoj (hfree j oj hoj hji hjun hnot) (fun cs b => hsel i oi cs b hi) (fun cs b => hsel j oj cs b hoj) hy h1
      have hfree' : ∀ k ok, ops[k]? = some ok → k ≠ i → (listed.setIfInBounds j true).getD k true = false →
          (∀ e ∈ ok.after, Region.binds md e = true → e.on ≠ i) → oi.apart ops ok = true := fun k ok hk hki hun hno => by
        refine hfree k ok hk hki ?_ hno
        by_cases hjk : j = k
        · subst hjk; exact hjun
        · rw [getD_set_ne true hjk] at hun; exact hun
      refine stC_mono (fun a' h3 => ih (listed.setIfInBounds j true) a' (inv.set hj hjn) hfree' (ready_mono hr (Ne.symm hji)) h3.1 ?_) h2
      rw [Array.setIfInBounds_comm _ _ hji]
      exact h3.2
/-- the head, in the text's order. -/
def wpHead (P : Program) (ops : Array Oper) (C : World → Prop) (Q : Act → Prop) : List Oper → Act → Prop
  | [], a => Q a
  | o :: rest, a => ∃ v, YieldsC P ops C o v a ∧ wpHead P ops C Q rest (a.put o.dst v)
theorem wpAnyC_lex {n g : Nat} {Lq : Act → Prop} (hsel : Region.noSelect ops = true) (hs : Region.sinkB md ops n = true) (hc : Region.chainB md ops n = true) (hn : n < ops.size) :
    ∀ (l : List Oper) (k : Nat) (listed : Array Bool) (a : Act), (∀ j, j < l.length → l[j]? = ops[k + j]?) → k + l.length = n → HeadInv md ops n listed →
    Region.lexHead md ops g l.length k listed = true → wpHead P ops C Lq l a →
    wpAnyC P md ops C n (fun listed' a' => Region.seqB md ops g n listed' = true ∧ Lq a') l.length listed a
  | [], k, listed, a, _, hk, _, hB, h => by
    have : k = n := by simpa using hk
    subst this
    exact ⟨by simpa [Region.lexHead] using hB, h⟩
  | o :: l, k, listed, a, hl, hk, inv, hB, h => by
    have h0 : ops[k]? = some o := by simpa using (hl 0 (by simp)).symm
    simp only [List.length_cons, Region.lexHead, Bool.and_eq_true] at hB
    obtain ⟨⟨hr, hf⟩, hB'⟩ := hB
    have hkn : k < n := by simp only [List.length_cons] at hk; omega
    have hr' : k ∈ Region.ready md ops listed := by simpa using hr
    obtain ⟨v, hy, hK⟩ := h
    exact wpAnyC_first h0 (Region.noSelect_spec hsel) hs hc hn hkn (fun listed' a' hL => seqB_ready hL.1) l.length listed a inv (Region.free_spec h0 hf) hr' hy
      (wpAnyC_lex hsel hs hc hn l (k + 1) _ _ (fun j hj => by have := hl (j + 1) (by simp; omega); simpa [Nat.add_assoc, Nat.add_comm 1 j] using this) (by simp only [List.length_cons] at hk; omega) (inv.set hr' hkn) hB' hK)
/-- the region: its head in the text's order, in each of the worlds C; its tail behind it. -/
theorem wp_region_class {id : Nat} {Q : Exit → Act → World → Prop} {a : Act} {w : World} {l : List Oper} (n : Nat) (C : World → Prop) (hm : P.follows .mixedOrders = true) (hB : Region.lexTailB .any l.toArray n = true)
    (hC : C { w with drawn := w.drawn + 1 }) (h : wpHead P l.toArray C (fun a' => ∀ W, C W → wpList P l.toArray Q (l.drop n) a' W) (l.take n) a) : (Code.region id l.toArray true).wp P Q a w := by
  simp only [Region.lexTailB, Bool.and_eq_true, decide_eq_true_eq] at hB
  obtain ⟨⟨⟨⟨hsel, hn⟩, hs⟩, hc⟩, hlex⟩ := hB
  have hn' : n < l.length := by simpa using hn
  have htl : (l.take n).length = n := by simp; omega
  have hdl : (l.drop n).length = l.toArray.size - n := by simp
  have inv0 : HeadInv .any l.toArray n (Array.replicate l.toArray.size false) :=
    ⟨by simp, fun j oj _ hl => (by rw [getD_replicate_false] at hl; cases hl), fun t _ ht => getD_in (by simpa using ht) (getD_replicate_false _ _)⟩
  have H := wpAnyC_lex (md := .any) (g := l.toArray.size - n) hsel hs hc hn (l.take n) 0 _ a (fun j hj => by
    have hj' : j < n := by rw [htl] at hj; exact hj
    simp [hj']) (by simpa using htl) inv0 (by rw [htl]; exact hlex) h
  refine wp_region_any hm ?_
  have := wpAny_of_headC (Q' := Q) (g := l.toArray.size - n) (fun listed a' W hL hW => by
    have := wpAny_of_seq (md := .any) (Q' := Q) (l.drop n) n listed a' W (fun j => by simp [List.getElem?_drop]) (by rw [hdl]; exact hL.1) (hL.2 W hW)
    rwa [hdl] at this) _ _ _ _ H hC
  rw [htl, show n + (l.toArray.size - n) = l.toArray.size by omega] at this
  exact this
end
theorem head_step {P : Program} {ops : Array Oper} {C : World → Prop} {Q : Act → Prop} {o : Oper} {rest : List Oper} {a : Act} (v : Value) (hw : Region.wanted o (yielded ops a.tmps) = true) (hr : ∀ W, C W → (execOp a.eval o).run P W = .ok (.value v) W) (h : wpHead P ops C Q rest (a.put o.dst v)) : wpHead P ops C Q (o :: rest) a :=
  ⟨v, .inl ⟨hw, fun W hW => .inl (hr W hW)⟩, h⟩
theorem head_call {P : Program} {ops : Array Oper} {C : World → Prop} {Q : Act → Prop} {o : Oper} {rest : List Oper} {a : Act} (v : Value) (f : FuncId) (args : Array Value) (hw : Region.wanted o (yielded ops a.tmps) = true) (hr : ∀ W, C W → (execOp a.eval o).run P W = .ok (.enter f args) W)
    (hc : ∀ W, C W → Calls P f args W (fun e w' => e = .returned v ∧ C w')) (h : wpHead P ops C Q rest (a.put o.dst v)) : wpHead P ops C Q (o :: rest) a :=
  ⟨v, .inl ⟨hw, fun W hW => .inr (.inr ⟨f, args, hr W hW, hc W hW⟩)⟩, h⟩

end Go.Proofs.Ytelbdcljdfadbaa

namespace Go.Proofs.Ytelbdcljdfadbaa
open Go.RowKit
set_option linter.unusedVariables false

set_option maxRecDepth 100000 in
set_option maxHeartbeats 4000000 in
theorem compare_any (a b : OrV) (w : World) : Calls Try.prog 9 #[a.val, b.val] w fun e w' => e = .returned (.int .i64 (cmpo a b)) ∧ Below w.heap.size w w' := by
  obtain ⟨p, u, n, x⟩ := a
  obtain ⟨p', u', n', x'⟩ := b
  have ba := (Below.refl w.heap.size w).alloc (Nat.le_refl _) (Obj.cells #[.int .i64 p, .int .i64 u, .int .i64 n, .int .i64 x] 28)
  have B0 : Hid (Below w.heap.size w ((w.alloc (Obj.cells #[.int .i64 p, .int .i64 u, .int .i64 n, .int .i64 x] 28)).alloc (Obj.cells #[.int .i64 p', .int .i64 u', .int .i64 n', .int .i64 x'] 28))) := ba.alloc (by simp) _
  have Oa : Hid (Orc ((w.alloc (Obj.cells #[.int .i64 p, .int .i64 u, .int .i64 n, .int .i64 x] 28)).alloc (Obj.cells #[.int .i64 p', .int .i64 u', .int .i64 n', .int .i64 x'] 28)) ⟨w.heap.size, 0, none⟩ ⟨p, u, n, x⟩) := (Orc.mk' (w := w) ⟨p, u, n, x⟩ rfl).below ((Below.refl _ _).alloc (Nat.le_refl _) _) (by simp)
  have Ob : Hid (Orc ((w.alloc (Obj.cells #[.int .i64 p, .int .i64 u, .int .i64 n, .int .i64 x] 28)).alloc (Obj.cells #[.int .i64 p', .int .i64 u', .int .i64 n', .int .i64 x'] 28)) ⟨w.heap.size + 1, 0, none⟩ ⟨p', u', n', x'⟩) := Orc.mk' ⟨p', u', n', x'⟩ (by simp)
  clear ba
  unfold OrV.val
  simp only
  go_enter Try.func9, Try.ntmps9
  go_upto_region 1 with fail
  generalize ((w.alloc (Obj.cells #[.int .i64 p, .int .i64 u, .int .i64 n, .int .i64 x] 28)).alloc (Obj.cells #[.int .i64 p', .int .i64 u', .int .i64 n', .int .i64 x'] 28)) = w2 at *
  have FC : Hid (∀ W, Below w2.heap.size w2 W → W.cell? ⟨w.heap.size, 0, none⟩ = some (.int .i64 p) ∧ W.cell? ⟨w.heap.size, 1, none⟩ = some (.int .i64 u) ∧ W.cell? ⟨w.heap.size, 2, none⟩ = some (.int .i64 n) ∧ W.cell? ⟨w.heap.size, 3, none⟩ = some (.int .i64 x) ∧ W.cell? ⟨w.heap.size + 1, 0, none⟩ = some (.int .i64 p') ∧ W.cell? ⟨w.heap.size + 1, 1, none⟩ = some (.int .i64 u') ∧ W.cell? ⟨w.heap.size + 1, 2, none⟩ = some (.int .i64 n') ∧ W.cell? ⟨w.heap.size + 1, 3, none⟩ = some (.int .i64 x')) := fun W hW => by
    have a := Oa.out.below hW Oa.out.lt
    have b := Ob.out.below hW Ob.out.lt
    obtain ⟨a0, a1, a2, a3⟩ := a
    obtain ⟨b0, b1, b2, b3⟩ := b
    simp only [Nat.zero_add] at a0 a1 a2 a3 b0 b1 b2 b3
    exact ⟨a0, a1, a2, a3, b0, b1, b2, b3⟩
  have CI : Hid (∀ (i j : Int) W, Below w2.heap.size w2 W → Calls Try.prog 13 #[.int .i64 i, .int .i64 j] W fun e w' => e = .returned (.int .i64 (sgn i j)) ∧ Below w2.heap.size w2 w') := fun i j W hW => (cmpint_any i j W).mono fun e w' ⟨h1, h2⟩ => ⟨h1, by rw [h2]; exact hW⟩
  have CR : Hid (∀ (o : OrV) W, Below w2.heap.size w2 W → Calls Try.prog 14 #[.agg #[.int .i64 o.player, .int .i64 o.unit, .int .i64 o.what, .int .i64 o.arg]] W fun e w' => e = .returned (.int .i64 (rnk o)) ∧ Below w2.heap.size w2 w') := fun o W hW => (rank_any o W).mono fun e w' ⟨h1, h2⟩ => ⟨h1, hW.trans (h2.mono hW.size)⟩
  refine wp_region_class 15 (fun W => Below w2.heap.size w2 W) (by kernel_rfl) (by kernel_rfl) (Below.refl _ _).drew ?_
  simp only [List.take_succ_cons, List.take_zero, List.drop_succ_cons, List.drop_zero]
  refine head_step (.pointer (some ⟨w.heap.size, 0, none⟩)) (by go_simp) (fun W hW => by go_simp) ?_
  go_simp
  refine head_step (.int .i64 p) (by go_simp) (fun W hW => by obtain ⟨a0, -, -, -, -, -, -, -⟩ := FC.out W hW; go_simp) ?_
  go_simp
  refine head_step (.pointer (some ⟨w.heap.size + 1, 0, none⟩)) (by go_simp) (fun W hW => by go_simp) ?_
  go_simp
  refine head_step (.int .i64 p') (by go_simp) (fun W hW => by obtain ⟨-, -, -, -, b0, -, -, -⟩ := FC.out W hW; go_simp) ?_
  go_simp
  refine head_call (Value.int .i64 (sgn p p')) 13 #[.int .i64 p, .int .i64 p'] (by go_simp) (fun W hW => by go_simp) (fun W hW => CI.out p p' W hW) ?_
  go_simp
  refine head_step (.pointer (some ⟨w.heap.size, 1, none⟩)) (by go_simp) (fun W hW => by go_simp) ?_
  go_simp
  refine head_step (.int .i64 u) (by go_simp) (fun W hW => by obtain ⟨-, a1, -, -, -, -, -, -⟩ := FC.out W hW; go_simp) ?_
  go_simp
  refine head_step (.pointer (some ⟨w.heap.size + 1, 1, none⟩)) (by go_simp) (fun W hW => by go_simp) ?_
  go_simp
  refine head_step (.int .i64 u') (by go_simp) (fun W hW => by obtain ⟨-, -, -, -, -, b1, -, -⟩ := FC.out W hW; go_simp) ?_
  go_simp
  refine head_call (Value.int .i64 (sgn u u')) 13 #[.int .i64 u, .int .i64 u'] (by go_simp) (fun W hW => by go_simp) (fun W hW => CI.out u u' W hW) ?_
  go_simp
  refine head_step (.agg #[.int .i64 p, .int .i64 u, .int .i64 n, .int .i64 x]) (by go_simp) (fun W hW => by obtain ⟨a0, a1, a2, a3, -, -, -, -⟩ := FC.out W hW; go_simp) ?_
  go_simp
  refine head_call (Value.int .i64 (rnk ⟨p, u, n, x⟩)) 14 #[.agg #[.int .i64 p, .int .i64 u, .int .i64 n, .int .i64 x]] (by go_simp) (fun W hW => by go_simp) (fun W hW => CR.out ⟨p, u, n, x⟩ W hW) ?_
  go_simp
  refine head_step (Value.agg #[.int .i64 p', .int .i64 u', .int .i64 n', .int .i64 x']) (by go_simp) (fun W hW => by obtain ⟨-, -, -, -, b0, b1, b2, b3⟩ := FC.out W hW; go_simp) ?_
  go_simp
  refine head_call (Value.int .i64 (rnk ⟨p', u', n', x'⟩)) 14 #[Value.agg #[.int .i64 p', .int .i64 u', .int .i64 n', .int .i64 x']] (by go_simp) (fun W hW => by go_simp) (fun W hW => CR.out ⟨p', u', n', x'⟩ W hW) ?_
  go_simp
  refine head_call (Value.int .i64 (sgn (rnk ⟨p, u, n, x⟩) (rnk ⟨p', u', n', x'⟩))) 13 #[Value.int .i64 (rnk ⟨p, u, n, x⟩), .int .i64 (rnk ⟨p', u', n', x'⟩)] (by go_simp) (fun W hW => by go_simp) (fun W hW => CI.out _ _ W hW) ?_
  go_simp
  intro W hW
  obtain ⟨s1, hs1⟩ : ∃ s, sgn p p' = s := ⟨_, rfl⟩
  obtain ⟨s2, hs2⟩ : ∃ s, sgn u u' = s := ⟨_, rfl⟩
  obtain ⟨s3, hs3⟩ : ∃ s, sgn (rnk ⟨p, u, n, x⟩) (rnk ⟨p', u', n', x'⟩) = s := ⟨_, rfl⟩
  have HC : Hid (cmpo ⟨p, u, n, x⟩ ⟨p', u', n', x'⟩ = or3 s1 s2 s3) := by unfold Hid cmpo; rw [hs3]; simp only; rw [hs1, hs2]
  rw [hs1, hs2, hs3]
  have OR := or_any s1 s2 s3 W.heap.size (W.alloc (Obj.cells #[.int .i64 s1, .int .i64 s2, .int .i64 s3] 3)) (by simp) (by simp) (by simp)
  have OR' : Hid (Calls Try.prog 12 #[.slice (some ⟨W.heap.size, 0, none⟩) 3 3] (W.alloc (Obj.cells #[.int .i64 s1, .int .i64 s2, .int .i64 s3] 3)) fun e w' => e = .returned (.int .i64 (or3 s1 s2 s3)) ∧ w' = (W.alloc (Obj.cells #[.int .i64 s1, .int .i64 s2, .int .i64 s3] 3))) := OR
  have BB : Hid (Below w.heap.size w (W.alloc (Obj.cells #[.int .i64 s1, .int .i64 s2, .int .i64 s3] 3))) := (B0.out.trans (hW.mono B0.out.size)).alloc (Nat.le_trans B0.out.size hW.size) _
  clear OR hW FC CI CR hs1 hs2 hs3
  go_wp2_with fail
  refine OR'.out.mono ?_
  rintro e w' ⟨rfl, rfl⟩
  go_wp2
  go_ret
  exact ⟨by rw [HC.out]; rfl, BB⟩
end Go.Proofs.Ytelbdcljdfadbaa

namespace Go.Proofs.Ytelbdcljdfadbaa
open Go.RowKit So
set_option linter.unusedVariables false

abbrev fs (l : List T) : List OrV := l.map Prod.fst
theorem ecmp : ∀ args w, (callFunc 9 args).run Try.prog w = .ok (.enter 9 args) w := enters_of Try.func9 (by kernel_rfl) rfl
theorem at_x (A S1 : List T) (x : T) (R : List T) : (fs (A ++ S1 ++ x :: R))[A.length + S1.length]? = some x.1 := by
  simp [fs]
theorem at_y (A S1 : List T) (y : T) (R : List T) : (fs (A ++ (S1 ++ [y]) ++ R))[A.length + S1.length]? = some y.1 := by
  simp [fs]

theorem swap_two {α : Type} : ∀ (P : List α) (y x : α) (R : List α), ((P ++ y :: x :: R).set (P.length + 1) y).set P.length x = P ++ x :: y :: R
  | [], y, x, R => rfl
  | p :: P, y, x, R => by
    have := swap_two P y x R
    simp only [List.cons_append, List.length_cons, List.set_cons_succ]
    rw [this]
/-- between two rounds of the outer loop. -/
def IsoO (A UU B : List T) (g : Nat) (rest : List Value) (w : World) (m a : Nat) (iv : Value) (W : World) : Prop := ∃ (S V : List T), S.Pairwise lt ∧ S ≠ [] ∧ S.Perm (UU.take S.length) ∧ V = UU.drop S.length ∧ S.length ≤ m ∧ iv = .int .i64 ((a + S.length : Nat) : Int) ∧ Rb W g (fs (A ++ S ++ (V ++ B))) rest ∧ Kp g w W
/-- between two rounds of the inner loop. -/
def IsoI (A S : List T) (x : T) (VB : List T) (g : Nat) (rest : List Value) (w : World) (a : Nat) (jv : Value) (W : World) : Prop := ∃ (S1 S2 : List T), jv = .int .i64 ((a + S1.length : Nat) : Int) ∧ S1 ++ S2 = S ∧ (∀ y ∈ S2, lt x y) ∧ Rb W g (fs (A ++ S1 ++ x :: (S2 ++ VB))) rest ∧ Kp g w W
def SortSays (A U B : List T) (g : Nat) (rest : List Value) (w : World) (e : Ending) (w' : World) : Prop := e = .returned (.tuple #[]) ∧ ∃ S, S.Perm U ∧ S.Pairwise lt ∧ Rb w' g (fs (A ++ S ++ B)) rest ∧ Kp g w w'
set_option maxRecDepth 100000 in
set_option maxHeartbeats 8000000 in
theorem isort_any (A U B : List T) (g cap : Nat) (rest : List Value) (w : World) (hU : U.Pairwise (fun x y => x.2 < y.2)) (hr : Rb w g (fs (A ++ U ++ B)) rest) (hn : (A ++ U ++ B).length ≤ 1000) :
    Calls Try.prog 16 #[.slice (some ⟨g, 0, none⟩) (A ++ U ++ B).length cap, .int .i64 (A.length : Nat), .int .i64 ((A.length + U.length : Nat) : Int), .func (.func 9) #[] #[]] w
      (SortSays A U B g rest w) := by
  obtain ⟨L, hL⟩ : ∃ L, (A ++ U ++ B).length = L := ⟨_, rfl⟩
  have HL : Hid ((A ++ U ++ B).length = L) := hL
  have HL2 : Hid (A.length + U.length + B.length = L) := by unfold Hid; rw [← hL]; simp; omega
  obtain ⟨a, ha⟩ : ∃ a, A.length = a := ⟨_, rfl⟩
  obtain ⟨m, hm⟩ : ∃ m, U.length = m := ⟨_, rfl⟩
  have Ha : Hid (A.length = a) := ha
  have Hm : Hid (U.length = m) := hm
  have hle : a + m ≤ L := by have := HL2.out; omega
  have R0 : Hid (Rb w g (fs (A ++ U ++ B)) rest) := hr
  have HU : Hid (U.Pairwise (fun x y => x.2 < y.2)) := hU
  rw [hL, ha, hm]
  obtain ⟨q, hq⟩ : ∃ q, a + m = q := ⟨_, rfl⟩
  rw [hq]
  rw [hL] at hn
  clear hL ha hm hr hU
  go_enter Try.func16, Try.ntmps16
  go_wp2
  cases U with
  | nil =>
    have hm0 : m = 0 := by have := Hm.out; simpa using this.symm
    have hqa : ¬ ((a : Nat) : Int) + 1 < (q : Int) := by omega
    refine wp_loop_rounds 1 ?_
    rw [rounds_succ]
    go_wp2
    go_end0
    exact ⟨rfl, [], List.Perm.refl _, List.Pairwise.nil, R0, Kp.refl _ _⟩
  | cons u U' =>
    have hm1 : 1 ≤ m := by have := Hm.out; simp at this; omega
    go_loopw [8] (fun iv W => IsoO A (u :: U') B g rest w m a iv W) (fun iv _ => q - (intOf iv).toNat)
    case atStart =>
      refine ⟨[u], U', by simp, by simp, by simp, by simp, hm1, by simp, ?_, Kp.refl _ _⟩
      have := R0.out
      simpa using this
    case round =>
      obtain ⟨S, V, hS, hne, hp, hV, hle2, rfl, hrb, hk⟩ := hrel
      have RB : Hid (Rb wr g (fs (A ++ S ++ (V ++ B))) rest) := hrb
      have KK : Hid (Kp g w wr) := hk
      have HS : Hid (S.Pairwise lt ∧ S.Perm ((u :: U').take S.length)) := ⟨hS, hp⟩
      clear hrb hk hS hp
      obtain ⟨i, hi⟩ : ∃ i, a + S.length = i := ⟨_, rfl⟩
      rw [hi]
      by_cases he : S.length = m
      · have hlt : ¬ ((i : Nat) : Int) < ((q : Nat) : Int) := by omega
        have FIN : Hid (∃ S', S'.Perm (u :: U') ∧ S'.Pairwise lt ∧ Rb wr g (fs (A ++ S' ++ B)) rest ∧ Kp g w wr) := by
          have h1 : (u :: U').length = m := Hm.out
          have h2 : V = [] := by rw [hV]; exact List.drop_eq_nil_of_le (by omega)
          have h3 := HS.out.2
          rw [List.take_of_length_le (by omega)] at h3
          have h4 := RB.out
          rw [h2] at h4
          exact ⟨S, h3, HS.out.1, by simpa using h4, KK.out⟩
        clear hV
        go_wp2
        go_end0
        exact ⟨rfl, FIN⟩
      · have hlt : ((i : Nat) : Int) < ((q : Nat) : Int) := by omega
        have hUl : (u :: U').length = m := Hm.out
        obtain ⟨x, V', hVx⟩ : ∃ x V', V = x :: V' := by
          cases hv : V with
          | nil =>
            rw [hV] at hv
            have := List.drop_eq_nil_iff.1 hv
            omega
          | cons x V' => exact ⟨x, V', rfl⟩
        have HX : Hid (∀ y ∈ S, y.2 < x.2) := fun y hy => by
          have hy2 := HS.out.2.mem_iff.1 hy
          have hsp : (u :: U') = (u :: U').take S.length ++ x :: V' := by rw [← hVx, hV, List.take_append_drop]
          have h2 := HU.out
          rw [hsp, List.pairwise_append] at h2
          exact h2.2.2 y hy2 x (List.mem_cons_self ..)
        have HV : Hid ((u :: U').take (S.length + 1) = (u :: U').take S.length ++ [x] ∧ (u :: U').drop (S.length + 1) = V') := by
          have hsp : (u :: U').drop S.length = x :: V' := by rw [← hV, hVx]
          refine ⟨?_, ?_⟩
          · rw [List.take_add_one, ← List.head?_drop, hsp]; rfl
          · rw [← List.drop_drop, hsp]; rfl
        have RX : Hid (Rb wr g (fs (A ++ S ++ x :: (V' ++ B))) rest) := by
          have := RB.out
          rw [hVx] at this
          exact this
        clear hV RB hVx
        go_wp2_with fail
        go_loopw [9] (fun jv W => IsoI A S x (V' ++ B) g rest w a jv W) (fun jv _ => (intOf jv).toNat)
        case atStart => exact ⟨S, [], by rw [hi], by simp, by simp, RX, KK⟩
        case round =>
          obtain ⟨S1, S2, rfl, h12, h2x, hrb, hk⟩ := hrel
          have RB : Hid (Rb wr g (fs (A ++ S1 ++ x :: (S2 ++ (V' ++ B)))) rest) := hrb
          have K1 : Hid (Kp g w wr) := hk
          have H2 : Hid (∀ y ∈ S2, lt x y) := h2x
          have H12 : Hid (S1 ++ S2 = S) := h12
          have hj : a + S1.length < L := by
            have h1 := congrArg List.length h12
            simp at h1
            omega
          have hji : ((a + S1.length : Nat) : Int) < (L : Int) := by omega
          clear hrb hk h2x h12
          rcases List.eq_nil_or_concat S1 with h0 | ⟨S1', y, h0⟩
          · subst h0
            have hgt : ¬ ((a : Nat) : Int) < ((a + ([] : List T).length : Nat) : Int) := by simp
            have NEXT : Hid (∃ (S' V2 : List T), S'.Pairwise lt ∧ S' ≠ [] ∧ S'.Perm ((u :: U').take S'.length) ∧ V2 = (u :: U').drop S'.length ∧ S'.length ≤ m ∧ S'.length = S.length + 1 ∧ Rb wr g (fs (A ++ S' ++ (V2 ++ B))) rest ∧ Kp g w wr) := by
              have e := H12.out
              simp only [List.nil_append] at e
              have hl : (x :: S2).length = S.length + 1 := by rw [e]; rfl
              refine ⟨x :: S2, V', ?_, by simp, ?_, ?_, by omega, hl, ?_, K1.out⟩
              · exact List.pairwise_cons.2 ⟨H2.out, by rw [e]; exact HS.out.1⟩
              · rw [hl, HV.out.1, e]
                exact ((HS.out.2.cons x).trans (List.perm_append_singleton x _).symm)
              · rw [hl, HV.out.2]
              · have := RB.out
                simpa using this
            simp only [List.length_nil, Nat.add_zero]
            go_upto_region 4 with fail
            go_quiet (fail)
            go_wp2
            go_round
            case rel =>
              obtain ⟨S', V2, q1, q2, q3, q4, q5, q6, q7, q8⟩ := NEXT.out
              exact ⟨S', V2, q1, q2, q3, q4, q5, by rw [q6, ← Nat.add_assoc, hi]; go_num, q7, q8.drewN _⟩
            case measure => simp [intOf]; omega
          · subst h0
            obtain ⟨k, hk⟩ : ∃ k, a + S1'.length = k := ⟨_, rfl⟩
            have hk1 : a + (S1'.concat y).length = k + 1 := by rw [← hk]; simp; omega
            have hkL : k + 1 < L := by omega
            have Hx : Hid ((fs (A ++ S1'.concat y ++ x :: (S2 ++ (V' ++ B))))[k + 1]? = some x.1) := by
              unfold Hid
              rw [← hk1, ← Ha.out]
              exact at_x A _ x _
            have Hy : Hid ((fs (A ++ S1'.concat y ++ x :: (S2 ++ (V' ++ B))))[k]? = some y.1) := by
              unfold Hid
              rw [← hk, ← Ha.out, List.concat_eq_append]
              exact at_y A _ y _
            have FC : Hid (∀ W, Below wr.heap.size wr W → W.cell? ⟨g, (k + 1) * 4, none⟩ = some (.int .i64 x.1.player) ∧ W.cell? ⟨g, (k + 1) * 4 + 1, none⟩ = some (.int .i64 x.1.unit) ∧ W.cell? ⟨g, (k + 1) * 4 + 2, none⟩ = some (.int .i64 x.1.what) ∧ W.cell? ⟨g, (k + 1) * 4 + 3, none⟩ = some (.int .i64 x.1.arg) ∧ W.cell? ⟨g, k * 4, none⟩ = some (.int .i64 y.1.player) ∧ W.cell? ⟨g, k * 4 + 1, none⟩ = some (.int .i64 y.1.unit) ∧ W.cell? ⟨g, k * 4 + 2, none⟩ = some (.int .i64 y.1.what) ∧ W.cell? ⟨g, k * 4 + 3, none⟩ = some (.int .i64 y.1.arg)) := fun W hW => by
              have r := RB.out.below hW RB.out.lt
              obtain ⟨x0, x1, x2, x3⟩ := r.cells Hx.out
              obtain ⟨y0, y1, y2, y3⟩ := r.cells Hy.out
              exact ⟨x0, x1, x2, x3, y0, y1, y2, y3⟩
            have CC : Hid (∀ W, Below wr.heap.size wr W → Calls Try.prog 9 #[.agg #[.int .i64 x.1.player, .int .i64 x.1.unit, .int .i64 x.1.what, .int .i64 x.1.arg], .agg #[.int .i64 y.1.player, .int .i64 y.1.unit, .int .i64 y.1.what, .int .i64 y.1.arg]] W fun e w' => e = .returned (.int .i64 (cmpo x.1 y.1)) ∧ Below wr.heap.size wr w') := fun W hW => (compare_any x.1 y.1 W).mono fun e w' ⟨h1, h2⟩ => ⟨h1, hW.trans (h2.mono hW.size)⟩
            have ec := ecmp
            have hgt : ((a : Nat) : Int) < ((k : Nat) : Int) + 1 := by omega
            have kpos : ¬ ((k : Nat) : Int) + 1 < 0 := by omega
            have hki : ((k : Nat) : Int) + 1 < (L : Int) := by omega
            have hki0 : ((k : Nat) : Int) < (L : Int) := by omega
            have kk1 : ((k : Nat) : Int) + 1 - 1 = k := by omega
            have kw : IntKind.i64.wrap ((k : Nat) : Int) = k := by rw [IntKind.wrap_i64]; omega
            have e1 : ((a + (S1'.concat y).length : Nat) : Int) = (k : Int) + 1 := by rw [hk1]; rfl
            rw [e1]
            clear hji hj
            go_upto_region 4 with fail
            refine wp_region_class 16 (fun W => Below wr.heap.size wr W) (by kernel_rfl) (by kernel_rfl) (Below.refl _ _).drew ?_
            simp only [List.take_succ_cons, List.take_zero, List.drop_succ_cons, List.drop_zero]
            refine head_step (.int .i64 ((k : Int) + 1)) (by go_simp) (fun W hW => by go_simp) ?_
            go_simp
            refine head_step (.int .i64 (a : Int)) (by go_simp) (fun W hW => by go_simp) ?_
            go_simp
            refine head_step (.bool true) (by go_simp) (fun W hW => by go_simp) ?_
            go_simp
            refine head_step (.bool true) (by go_simp) (fun W hW => by go_simp) ?_
            go_simp
            refine head_step (.func (.func 9) #[] #[]) (by go_simp) (fun W hW => by go_simp) ?_
            go_simp
            refine head_step (.slice (some ⟨g, 0, none⟩) L cap) (by go_simp) (fun W hW => by go_simp) ?_
            go_simp
            refine head_step (.int .i64 ((k : Int) + 1)) (by go_simp) (fun W hW => by go_simp) ?_
            go_simp
            refine head_step (.pointer (some ⟨g, (k + 1) * 4, none⟩)) (by go_simp) (fun W hW => by go_simp) ?_
            go_simp
            refine head_step (.agg #[.int .i64 x.1.player, .int .i64 x.1.unit, .int .i64 x.1.what, .int .i64 x.1.arg]) (by go_simp) (fun W hW => by obtain ⟨x0, x1, x2, x3, -⟩ := FC.out W hW; go_simp) ?_
            go_simp
            refine head_step (.slice (some ⟨g, 0, none⟩) L cap) (by go_simp) (fun W hW => by go_simp) ?_
            go_simp
            refine head_step (.int .i64 ((k : Int) + 1)) (by go_simp) (fun W hW => by go_simp) ?_
            go_simp
            refine head_step (.int .i64 (k : Int)) (by go_simp) (fun W hW => by go_simp) ?_
            go_simp
            refine head_step (.pointer (some ⟨g, k * 4, none⟩)) (by go_simp) (fun W hW => by go_simp) ?_
            go_simp
            refine head_step (.agg #[.int .i64 y.1.player, .int .i64 y.1.unit, .int .i64 y.1.what, .int .i64 y.1.arg]) (by go_simp) (fun W hW => by obtain ⟨-, -, -, -, y0, y1, y2, y3⟩ := FC.out W hW; go_simp) ?_
            go_simp
            refine head_call (.int .i64 (cmpo x.1 y.1)) 9 #[.agg #[.int .i64 x.1.player, .int .i64 x.1.unit, .int .i64 x.1.what, .int .i64 x.1.arg], .agg #[.int .i64 y.1.player, .int .i64 y.1.unit, .int .i64 y.1.what, .int .i64 y.1.arg]] (by go_simp) (fun W hW => by go_simp) (fun W hW => CC.out W hW) ?_
            go_simp
            refine head_step (.bool (decide (cmpo x.1 y.1 < 0))) (by go_simp) (fun W hW => by go_simp) ?_
            go_simp
            intro W hW
            have RW : Hid (Rb W g (fs (A ++ S1'.concat y ++ x :: (S2 ++ (V' ++ B)))) rest) := RB.out.below hW RB.out.lt
            have KW : Hid (Kp g w W) := K1.out.trans (Kp.of hW)
            have IX : Hid (∀ z ∈ S1'.concat y, z.2 < x.2) := fun z hz => HX.out z (by rw [← H12.out]; exact List.mem_append_left _ hz)
            have PW : Hid ((S1'.concat y ++ S2).Pairwise lt) := by unfold Hid; rw [H12.out]; exact HS.out.1
            by_cases hc : cmpo x.1 y.1 < 0
            · have LX : Hid (lt x y) := (ask_lt (IX.out y (by simp))).1 ((klt_iff _ _).1 hc)
              obtain ⟨x0, x1, x2, x3, y0, y1, y2, y3⟩ := FC.out W hW
              have f0 := RW.out.thaw ((k + 1) * 4)
              have f1 := RW.out.thaw ((k + 1) * 4 + 1)
              have f2 := RW.out.thaw ((k + 1) * 4 + 2)
              have f3 := RW.out.thaw ((k + 1) * 4 + 3)
              have f4 := RW.out.thaw (k * 4)
              have f5 := RW.out.thaw (k * 4 + 1)
              have f6 := RW.out.thaw (k * 4 + 2)
              have f7 := RW.out.thaw (k * 4 + 3)
              clear hW FC CC
              go_wp2_with fail
              go_region
              have hlen : (fs (A ++ S1'.concat y ++ x :: (S2 ++ (V' ++ B)))).length = L := by
                have h1 := HL2.out
                have h2 := congrArg List.length H12.out
                have h3 := congrArg List.length HV.out.2
                simp [fs] at h2 h3 ⊢
                have h4 : (u :: U').length = m := Hm.out
                have h5 := Ha.out
                simp at h4 h1
                omega
              have rr := (RW.out.put (i := k + 1) (by rw [hlen]; exact hkL) y.1).put (i := k) (by rw [List.length_set, hlen]; omega) x.1
              have el : ((fs (A ++ S1'.concat y ++ x :: (S2 ++ (V' ++ B)))).set (k + 1) y.1).set k x.1 = fs (A ++ S1' ++ x :: (y :: S2 ++ (V' ++ B))) := by
                have hP : (fs (A ++ S1')).length = k := by simp [fs, ← hk, Ha.out]
                have h1 := swap_two (fs (A ++ S1')) y.1 x.1 (fs (S2 ++ (V' ++ B)))
                rw [hP] at h1
                have e1 : fs (A ++ S1'.concat y ++ x :: (S2 ++ (V' ++ B))) = fs (A ++ S1') ++ y.1 :: x.1 :: fs (S2 ++ (V' ++ B)) := by simp [fs]
                have e2 : fs (A ++ S1' ++ x :: (y :: S2 ++ (V' ++ B))) = fs (A ++ S1') ++ x.1 :: y.1 :: fs (S2 ++ (V' ++ B)) := by simp [fs]
                rw [e1, e2]
                exact h1
              rw [el] at rr
              have RR : Hid (Rb _ g (fs (A ++ S1' ++ x :: (y :: S2 ++ (V' ++ B)))) rest) := rr
              have KR : Hid (Kp g w _) := (((((((KW.out.trans (Kp.set W ((k + 1) * 4) (.int .i64 y.1.player))).trans (Kp.set _ ((k + 1) * 4 + 1) (.int .i64 y.1.unit))).trans (Kp.set _ ((k + 1) * 4 + 2) (.int .i64 y.1.what))).trans (Kp.set _ ((k + 1) * 4 + 3) (.int .i64 y.1.arg))).trans (Kp.set _ (k * 4) (.int .i64 x.1.player))).trans (Kp.set _ (k * 4 + 1) (.int .i64 x.1.unit))).trans (Kp.set _ (k * 4 + 2) (.int .i64 x.1.what))).trans (Kp.set _ (k * 4 + 3) (.int .i64 x.1.arg))
              clear rr
              go_wp2
              go_roundw
              case rel =>
                refine ⟨S1', y :: S2, by rw [hk], by rw [← H12.out]; simp, fun z hz => ?_, RR.out.below (Below.refl _ _).drew RR.out.lt, KR.out.trans (Kp.of (Below.refl _ _).drew)⟩
                rcases List.mem_cons.1 hz with rfl | hz
                · exact LX.out
                · exact H2.out z hz
              case measure => simp [intOf]
            · have LX : Hid (lt y x) := (ask_ge (IX.out y (by simp))).1 (fun h => hc ((klt_iff _ _).2 h))
              have NEXT : Hid (∃ (S' V2 : List T), S'.Pairwise lt ∧ S' ≠ [] ∧ S'.Perm ((u :: U').take S'.length) ∧ V2 = (u :: U').drop S'.length ∧ S'.length ≤ m ∧ S'.length = S.length + 1 ∧ Rb W g (fs (A ++ S' ++ (V2 ++ B))) rest ∧ Kp g w W) := by
                have hl : (S1'.concat y ++ x :: S2).length = S.length + 1 := by
                  rw [← H12.out]
                  simp
                  omega
                refine ⟨S1'.concat y ++ x :: S2, V', ?_, by simp, ?_, ?_, by omega, hl, ?_, KW.out⟩
                · refine put_rise PW.out (fun z hz => ?_) H2.out
                  rw [List.concat_eq_append] at hz
                  rcases List.mem_append.1 hz with hz | hz
                  · have h1 := PW.out
                    rw [List.concat_eq_append, List.append_assoc, List.pairwise_append] at h1
                    exact lt_trans (h1.2.2 z hz y (by simp)) LX.out
                  · simp at hz
                    subst hz
                    exact LX.out
                · rw [hl, HV.out.1]
                  refine List.Perm.trans List.perm_middle ?_
                  rw [H12.out]
                  exact ((HS.out.2.cons x).trans (List.perm_append_singleton x _).symm)
                · rw [hl, HV.out.2]
                · have := RW.out
                  simpa using this
              clear hW FC CC
              go_wp2
              go_round
              case rel =>
                obtain ⟨S', V2, q1, q2, q3, q4, q5, q6, q7, q8⟩ := NEXT.out
                exact ⟨S', V2, q1, q2, q3, q4, q5, by rw [q6, ← Nat.add_assoc, hi]; go_num, q7, q8⟩
              case measure => simp [intOf]; omega
end Go.Proofs.Ytelbdcljdfadbaa

