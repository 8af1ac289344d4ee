/- What stays where one block turns. (Big2 has the same words for texts of its own; where both are wanted, let Big2 import this.) · What a walk is told of a slice of integers that came in. · Lists of integers: what a slice holds. · api.Order: records in memory. · lock.post as a map's key; a map of lists of orders by such keys. · Lists of integers that the call itself makes, by append. · A block of integers that may be written. · Lists of bools: what a slice holds; a block of them that may be written; make([]bool, n). · Slices of api.Order that the call itself makes, by append. · A lock: what it is, and how it lies in memory. · An error that is told. · lock: New, plays, hasSent, Waits, Ready, Drop, Now. · Lists of lists of orders that the call itself makes, by append. · The program's orders: which of two stands ahead. · A stable order: elements with the place that they had. Plain mathematics. · orders.unit as a map's key; a map of such keys that a call makes. · orders.Last as mathematics: each unit's last order, and those to train. · Texts: cut at a byte and joined again; whole numbers as digits. Plain mathematics. -/
import Derived.Test.YtbomnicnoanjlaaDoorRows
import Derived.WalkKit
import Derived.WalkSpells
import Derived.WalkLawsBesides
import Derived.ProofKit
import Derived.Deep.QuietTactic
import Derived.BigQuiet
import Derived.Maps.Own
import Derived.Maps.OwnOps
import Derived.Maps.OwnSet
import Derived.Maps.Views
import Derived.Carry
import Derived.DeepKeys4
import Derived.OwnWalk
import Derived.Deep.AppendLies
import Derived.Laws.MakeOwn
import Derived.LoopN
import Derived.Deep.DeepCutAuto
import Derived.Laws.Closers25
import Derived.IntWalk
namespace Go.Proofs.YtbomnicnoanjlaaDoor
open Go.RowKit

/-- nothing below has turned but block z. -/
structure Kp (z : Nat) (w w' : World) : Prop where
  os : w'.os = w.os
  tape : w'.tape = w.tape
  output : w'.output = w.output
  size : w.heap.size ≤ w'.heap.size
  block : ∀ k, k < w.heap.size → k ≠ z → w'.heap[k]? = w.heap[k]?

theorem Kp.of {z : Nat} {w w' : World} (h : Below w.heap.size w w') : Kp z w w' := ⟨h.os, h.tape, h.output, h.size, fun k hk _ => h.block k hk⟩
theorem Kp.refl (z : Nat) (w : World) : Kp z w w := Kp.of (Below.refl _ _)
theorem Kp.trans {z : Nat} {a b c : World} (h : Kp z a b) (k : Kp z b c) : Kp z a c :=
  ⟨k.os.trans h.os, k.tape.trans h.tape, k.output.trans h.output, Nat.le_trans h.size k.size, fun i hi hz => (k.block i (Nat.lt_of_lt_of_le hi h.size) hz).trans (h.block i hi hz)⟩
theorem Kp.set {z : Nat} (w : World) (i : Nat) (u : Value) : Kp z w (w.setCell ⟨z, i, none⟩ u) :=
  ⟨rfl, rfl, rfl, by simp [World.setCell], fun k _ hz => Below.heap_setCell _ _ _ _ hz⟩
theorem Kp.below {z B : Nat} {a w w' : World} (h : Below B a w) (k : Kp z w w') (hB : B ≤ w.heap.size) (hz : B ≤ z) : Below B a w' :=
  h.trans ⟨k.os, k.tape, k.output, k.size, fun i hi => k.block i (by omega) (by omega)⟩

theorem Kp.set_new {z b : Nat} {w W : World} (h : Kp z w W) (hb : w.heap.size ≤ b) (i : Nat) (u : Value) : Kp z w (W.setCell ⟨b, i, none⟩ u) :=
  ⟨h.os, h.tape, h.output, by simpa [World.setCell] using h.size, fun k hk hz => (Below.heap_setCell _ _ _ _ (by show k ≠ b; omega)).trans (h.block k hk hz)⟩
theorem Kp.drewN {z : Nat} {w W : World} (h : Kp z w W) (n : Nat) : Kp z w (W.drewN n) := ⟨h.os, h.tape, h.output, h.size, h.block⟩

theorem lt_of_block {w : World} {b : Nat} {o : Obj} (h : w.heap[b]? = some o) : b < w.heap.size := by
  rcases Nat.lt_or_ge b w.heap.size with h1 | h1
  · exact h1
  · rw [Array.getElem?_eq_none h1] at h; cases h

end Go.Proofs.YtbomnicnoanjlaaDoor

namespace Go.Proofs.YtbomnicnoanjlaaDoor

/-- nil, or a row of cells: the numbers zs, of which the first len are the elements. -/
def IsRow (k : IntKind) (w : World) (a : Option Addr) (len cap : Nat) (zs : List Int) : Prop :=
  (a = none ∧ len = 0 ∧ cap = 0 ∧ zs = []) ∨
  ∃ x, a = some x ∧ len ≤ cap ∧ cap ≤ maxLen ∧ zs.length = cap ∧ (∀ i, i < zs.length → w.cell? (x.add i) = some (.int k (zs.getD i 0))) ∧ ∀ n ∈ zs, (Lit.int k n).wf = true
end Go.Proofs.YtbomnicnoanjlaaDoor

namespace Go.Proofs.YtbomnicnoanjlaaDoor
open Go.RowKit

/-- the cells of a list, from an address on. -/
def Cells (w : World) (a : Option Addr) (xs : List Int) : Prop := xs ≠ [] → ∃ x, a = some x ∧ x.block < w.heap.size ∧ ∀ i d, xs[i]? = some d → w.cell? (x.add i) = some (.int .i64 d)
/-- v is a slice of the integers xs. -/
def Ro (w : World) (v : Value) (xs : List Int) : Prop := ∃ (a : Option Addr) (c : Nat), v = .slice a xs.length c ∧ xs.length ≤ c ∧ c ≤ 9223372036854775807 ∧ Cells w a xs

theorem cell_lt {w : World} {x : Addr} {v : Value} (h : w.cell? x = some v) : x.block < w.heap.size := by
  rcases Nat.lt_or_ge x.block w.heap.size with h1 | h1
  · exact h1
  · simp [World.cell?, Array.getElem?_eq_none h1] at h

theorem add_block (x : Addr) (i : Nat) : (x.add i).block = x.block := by unfold Addr.add; split <;> rfl

theorem Cells.below {w w' : World} {a : Option Addr} {xs : List Int} (h : Cells w a xs) (hb : Below w.heap.size w w') : Cells w' a xs := fun hx => by
  obtain ⟨x, ha, hl, hc⟩ := h hx
  refine ⟨x, ha, Nat.lt_of_lt_of_le hl hb.size, fun i d hd => ?_⟩
  rw [hb.cell (p := x.add i) (by rw [add_block]; exact hl)]
  exact hc i d hd
theorem Ro.below {w w' : World} {v : Value} {xs : List Int} (h : Ro w v xs) (hb : Below w.heap.size w w') : Ro w' v xs := by
  obtain ⟨a, c, h1, h2, h3, h4⟩ := h
  exact ⟨a, c, h1, h2, h3, h4.below hb⟩
theorem Ro.drewN {w : World} {v : Value} {xs : List Int} (h : Ro w v xs) (n : Nat) : Ro (w.drewN n) v xs := h.below (_root_.Go.below_drewN (Below.refl _ _) n)

/-- what came in. -/
theorem IsRow.ro {w : World} {a : Option Addr} {len cap : Nat} {zs : List Int} (h : IsRow .i64 w a len cap zs) : Ro w (.slice a len cap) (zs.take len) := by
  rcases h with ⟨rfl, rfl, rfl, rfl⟩ | ⟨x, rfl, h1, h2, h3, h4, h5⟩
  · exact ⟨none, 0, rfl, Nat.le_refl _, by omega, fun h => absurd rfl h⟩
  · have hl : (zs.take len).length = len := by rw [List.length_take]; omega
    refine ⟨some x, cap, by rw [hl], by omega, by unfold maxLen at h2; omega, fun hx => ⟨x, rfl, ?_, fun i d hd => ?_⟩⟩
    · have h0 : 0 < zs.length := by
        rcases Nat.eq_zero_or_pos zs.length with h | h
        · exact absurd (by rw [List.length_eq_zero_iff.1 h]; simp) hx
        · exact h
      have := cell_lt (x := x.add 0) (h4 0 h0)
      rwa [add_block] at this
    · rw [List.getElem?_take] at hd
      split at hd
      · obtain ⟨hi, he⟩ := List.getElem?_eq_some_iff.1 hd
        rw [h4 i hi, List.getD_eq_getElem?_getD, hd]
        rfl
      · cases hd
end Go.Proofs.YtbomnicnoanjlaaDoor

namespace Go.Proofs.YtbomnicnoanjlaaDoor
open Go.RowKit
set_option linter.unusedVariables false

structure OrV where
  player : Int
  unit : Int
  what : Int
  arg : Int
def OrV.val (k : OrV) : Value := .agg #[.int .i64 k.player, .int .i64 k.unit, .int .i64 k.what, .int .i64 k.arg]
/-- its cells, from an address on. -/
structure Orc (w : World) (y : Addr) (k : OrV) : Prop where
  c0 : w.cell? y = some (.int .i64 k.player)
  c1 : w.cell? ⟨y.block, y.off + 1, none⟩ = some (.int .i64 k.unit)
  c2 : w.cell? ⟨y.block, y.off + 2, none⟩ = some (.int .i64 k.what)
  c3 : w.cell? ⟨y.block, y.off + 3, none⟩ = some (.int .i64 k.arg)
theorem Orc.lt {w : World} {y : Addr} {k : OrV} (h : Orc w y k) : y.block < w.heap.size := cell_lt h.c0
theorem Orc.below {w w' : World} {y : Addr} {k : OrV} {B : Nat} (h : Orc w y k) (hb : Below B w w') (hy : y.block < B) : Orc w' y k :=
  ⟨by rw [hb.cell (p := y) hy]; exact h.c0, by rw [hb.cell (p := ⟨y.block, y.off + 1, none⟩) hy]; exact h.c1, by rw [hb.cell (p := ⟨y.block, y.off + 2, none⟩) hy]; exact h.c2, by rw [hb.cell (p := ⟨y.block, y.off + 3, none⟩) hy]; exact h.c3⟩
/-- v is a slice of them. -/
def Orl (w : World) (v : Value) (ks : List OrV) : Prop := ∃ a c, v = .slice a ks.length c ∧ ks.length ≤ c ∧ c ≤ 9223372036854775807 ∧ (ks ≠ [] → ∃ x, a = some x ∧ x.block < w.heap.size ∧ ∀ (i : Nat) k, ks[i]? = some k → Orc w (x.add (i * 4)) k)
theorem Orl.below {w w' : World} {v : Value} {ks : List OrV} (h : Orl w v ks) (hb : Below w.heap.size w w') : Orl w' v ks := by
  obtain ⟨a, c, h1, h2, h3, h4⟩ := h
  refine ⟨a, c, h1, h2, h3, fun hn => ?_⟩
  obtain ⟨x, e, hx, hk⟩ := h4 hn
  exact ⟨x, e, Nat.lt_of_lt_of_le hx hb.size, fun i k hi => (hk i k hi).below hb (by rw [add_block]; exact hx)⟩
theorem Orc.mk' {w : World} {z : Nat} (k : OrV) (hz : w.heap.size = z) : Orc (w.alloc (.cells #[.int .i64 k.player, .int .i64 k.unit, .int .i64 k.what, .int .i64 k.arg] 38)) ⟨z, 0, none⟩ k := by
  subst hz
  constructor <;> simp
end Go.Proofs.YtbomnicnoanjlaaDoor

namespace Go.Proofs.YtbomnicnoanjlaaDoor
open Go.RowKit
set_option linter.unusedVariables false
set_option maxRecDepth 100000

theorem pm_laid : laidOutB Tryd.prog = true := by kernel_rfl
theorem pm_row : (64 : TypeId) < Tryd.prog.types.size := of_decide_eq_true (by kernel_rfl)
theorem pm_wide : (match Tryd.prog.underlying 64 with | some (.array _ _) | some (.struct _) => true | _ => false) = true := by kernel_rfl
theorem pm_deep : Tryd.prog.keyTypeAt 3 64 = true := by kernel_rfl
theorem pm_law : Maps.Keyed Tryd.prog 64 := Maps.Keyed.of_law (deep_law_laid pm_laid (m := 3) (by omega) pm_row pm_deep pm_wide)
theorem pm_cells : Tryd.prog.cellsOf 64 = 2 := by kernel_rfl
theorem pm_int : Tryd.prog.cellsOf 3 = 1 := by kernel_rfl
theorem pm_type : Tryd.prog.keyType 64 = true := by kernel_rfl
theorem pm_size : ∃ m, Tryd.prog.types.size = m + 1 := ⟨Tryd.prog.types.size - 1, by have h : 0 < Tryd.prog.types.size := Nat.lt_of_le_of_lt (Nat.zero_le _) pm_row; omega⟩
theorem pm_key {p u : Int} (hp : (Lit.int .i64 p).wf = true) (hu : (Lit.int .i64 u).wf = true) : ∃ kl, keyOf Tryd.prog 64 (.agg #[.int .i64 p, .int .i64 u]) = some kl := by
  obtain ⟨m, hm⟩ := pm_size
  have ht := pm_type
  have hc := pm_cells
  have hi := pm_int
  unfold keyOf
  simp only [Tryd.underlying64]
  rw [if_pos (by simp [ht, Value.formed, Tryd.underlying64, hc]), hm]
  unfold Program.keyLits
  simp only [Tryd.underlying64, Value.cells]
  rw [if_pos ⟨by rw [hc]; rfl, by kernel_rfl⟩]
  simp [Program.keyLits, Tryd.underlying3, hp, hu, hi]
theorem pm_zero (w : World) : (zeroValue 23).run Tryd.prog w = .ok (.slice none 0 0) w := by kernel_rfl
theorem pmwf {n : Int} (h0 : -9223372036854775808 ≤ n) (h1 : n ≤ 9223372036854775807) : (Lit.int .i64 n).wf = true := WalkArith.wf_i64 (by omega)
/-- an element reads as itself. -/
def pmHold (v : Value) : Option (DataW Value × List MemPlace) := some (.held v, [])
/-- block b is a map: f tells what stands at each turn and player. -/
def Pm (w : World) (b n : Nat) (f : Int → Int → Option Value) : Prop := ∃ D : DataW Value, w.ownsMap Tryd.prog 64 pmHold b n D ∧ Maps.IsMap D ∧ ∀ t p kl, keyOf Tryd.prog 64 (.agg #[.int .i64 t, .int .i64 p]) = some kl → Maps.has D kl = (f t p).isSome ∧ D.atKey kl (.held (.slice none 0 0)) = .held ((f t p).getD (.slice none 0 0))
def pmSet (f : Int → Int → Option Value) (t p : Int) (v : Option Value) : Int → Int → Option Value := fun t' p' => if t' = t ∧ p' = p then v else f t' p'
theorem pm_made (w : World) : Pm (w.alloc (.map #[] 0)) w.heap.size 0 (fun _ _ => none) :=
  ⟨.map [], World.ownsMap_made _ _ _ _, Maps.isMap_empty, fun t p kl _ => ⟨rfl, Maps.atKey_of_not_has rfl _⟩⟩
theorem Pm.lt {w : World} {b n : Nat} {f : Int → Int → Option Value} (h : Pm w b n f) : b < w.heap.size := by
  obtain ⟨D, h1, -⟩ := h
  exact h1.lt
theorem Pm.is {w : World} {b n : Nat} {f : Int → Int → Option Value} (h : Pm w b n f) : ∃ es clock, w.heap[b]? = some (.map es clock) := by
  obtain ⟨D, ⟨es, clock, h1, -⟩, -⟩ := h
  exact ⟨es, clock, h1⟩
theorem Pm.blk {w w' : World} {b n : Nat} {f : Int → Int → Option Value} (h : Pm w b n f) (g : w'.heap[b]? = w.heap[b]?) : Pm w' b n f := by
  obtain ⟨D, ⟨es, clock, h1, h3⟩, h2⟩ := h
  exact ⟨D, ⟨es, clock, g.trans h1, h3⟩, h2⟩
theorem Pm.put {w : World} {b n : Nat} {f : Int → Int → Option Value} (h : Pm w b n f) (hn : n < maxLen) {t p : Int} (ht : (Lit.int .i64 t).wf = true) (hp : (Lit.int .i64 p).wf = true) (v : Value) :
    ∃ w', (Instr.mapUpdate 54 (.map (some b)) (.agg #[.int .i64 t, .int .i64 p]) v).run Tryd.prog w = .ok () w' ∧ Pm w' b (n + 1) (pmSet f t p (some v)) ∧ w.grownBy w' (some b) := by
  obtain ⟨D, h1, hD, h2⟩ := h
  obtain ⟨kl, hk⟩ := pm_key ht hp
  obtain ⟨w', r, o, g⟩ := World.ownsMap.update h1 pm_law Tryd.underlying54 hn hk (show pmHold v = some (.held v, []) from rfl)
  refine ⟨w', r, ⟨_, o, hD.put _ _, fun t' p' kl' hk' => ?_⟩, g⟩
  unfold pmSet
  by_cases e : kl' = kl
  · subst e
    have ei := pm_law.inj hk hk'
    simp only [Value.agg.injEq, Array.mk.injEq, List.cons.injEq, Value.int.injEq, true_and, and_true] at ei
    rw [if_pos ⟨ei.1.symm, ei.2.symm⟩]
    exact ⟨Maps.has_put_same hD (pm_law.key hk) _, Maps.atKey_put_same hD (pm_law.key hk) _ _⟩
  · rw [Maps.atKey_put_other e, Maps.has_put_other e, if_neg]
    · exact h2 t' p' kl' hk'
    · rintro ⟨rfl, rfl⟩
      exact e (Option.some.inj (hk'.symm.trans hk))
theorem Pm.del {w : World} {b n : Nat} {f : Int → Int → Option Value} (h : Pm w b n f) {t p : Int} (ht : (Lit.int .i64 t).wf = true) (hp : (Lit.int .i64 p).wf = true) (ty : TypeId) :
    ∃ w', (Builtin.delete_ #[54, 64] ty #[.map (some b), .agg #[.int .i64 t, .int .i64 p]]).run Tryd.prog w = .ok (.tuple #[]) w' ∧ Pm w' b n (pmSet f t p none) ∧ w.grownBy w' (some b) := by
  obtain ⟨D, h1, hD, h2⟩ := h
  obtain ⟨kl, hk⟩ := pm_key ht hp
  obtain ⟨w', r, o, g⟩ := World.ownsMap.drop h1 pm_law Tryd.underlying54 hk ty
  refine ⟨w', r, ⟨_, o, hD.del _, fun t' p' kl' hk' => ?_⟩, g.grown⟩
  unfold pmSet
  by_cases e : kl' = kl
  · subst e
    have ei := pm_law.inj hk hk'
    simp only [Value.agg.injEq, Array.mk.injEq, List.cons.injEq, Value.int.injEq, true_and, and_true] at ei
    rw [if_pos ⟨ei.1.symm, ei.2.symm⟩]
    exact ⟨Maps.has_del_same, Maps.atKey_del_same _⟩
  · rw [Maps.atKey_del_other e, Maps.has_del_other e, if_neg]
    · exact h2 t' p' kl' hk'
    · rintro ⟨rfl, rfl⟩
      exact e (Option.some.inj (hk'.symm.trans hk))
theorem Pm.look {w : World} {b n : Nat} {f : Int → Int → Option Value} (h : Pm w b n f) {t p : Int} (ht : (Lit.int .i64 t).wf = true) (hp : (Lit.int .i64 p).wf = true) :
    (Instr.lookup 54 (.map (some b)) (.agg #[.int .i64 t, .int .i64 p]) false).run Tryd.prog w = .ok ((f t p).getD (.slice none 0 0)) w := by
  obtain ⟨D, h1, hD, h2⟩ := h
  obtain ⟨kl, hk⟩ := pm_key ht hp
  obtain ⟨v, ps, hr, hv⟩ := h1.lookup pm_law Tryd.underlying54 (pm_zero w) (show pmHold (.slice none 0 0) = some (.held (.slice none 0 0), []) from rfl) hk
  rw [(h2 t p kl hk).2] at hv
  unfold pmHold at hv
  simp only [Option.some.injEq, Prod.mk.injEq, DataW.held.injEq] at hv
  rw [← hv.1]
  exact hr
theorem Pm.lookok {w : World} {b n : Nat} {f : Int → Int → Option Value} (h : Pm w b n f) {t p : Int} (ht : (Lit.int .i64 t).wf = true) (hp : (Lit.int .i64 p).wf = true) :
    (Instr.lookup 54 (.map (some b)) (.agg #[.int .i64 t, .int .i64 p]) true).run Tryd.prog w = .ok (.tuple #[(f t p).getD (.slice none 0 0), .bool (f t p).isSome]) w := by
  obtain ⟨D, h1, hD, h2⟩ := h
  obtain ⟨kl, hk⟩ := pm_key ht hp
  obtain ⟨v, ps, hr, hv⟩ := h1.look_ok pm_law Tryd.underlying54 (pm_zero w) (show pmHold (.slice none 0 0) = some (.held (.slice none 0 0), []) from rfl) hk
  rw [(h2 t p kl hk).2] at hv
  unfold pmHold at hv
  simp only [Option.some.injEq, Prod.mk.injEq, DataW.held.injEq] at hv
  rw [← hv.1, ← (h2 t p kl hk).1]
  exact hr
/-- delete, at the operation. -/
theorem del_pm {ops : Array Oper} {rest : List Oper} {o : Oper} {a : Act} {Q : Exit → Act → World → Prop} (w : World) (hg : o.guard = none) (m x : Operand)
    (hop : o.op = Op.call { callee := Callee.builtin Builtin.delete, args := #[m, x], argTypes := #[54, 64] }) (b n : Nat) (f : Int → Int → Option Value) (M : Pm w b n f) (t p : Int)
    (ht : (Lit.int .i64 t).wf = true) (hp : (Lit.int .i64 p).wf = true) (hm : a.eval m = .map (some b)) (hx : a.eval x = .agg #[.int .i64 t, .int .i64 p])
    (hK : ∀ w', Pm w' b n (pmSet f t p none) → w.grownBy w' (some b) → wpList Tryd.prog ops Q rest (a.put o.dst (.tuple #[])) w') :
    wpList Tryd.prog ops Q (o :: rest) a w := by
  refine wpList_plain hg fun K' hK' => ?_
  obtain ⟨w', hrun, r1, r2⟩ := M.del ht hp o.type
  unfold Oper.wp
  simp [execOp, hop, resolve, invoke, builtin, hm, hx, hrun, Result.andThen]
  exact hK' _ _ (hK w' r1 r2)
end Go.Proofs.YtbomnicnoanjlaaDoor

namespace Go.Proofs.YtbomnicnoanjlaaDoor
open Go.RowKit
set_option linter.unusedVariables false

theorem info_int : (Tryd.prog.info? 3).map (fun i => (i.zero, i.size, i.bytes)) = some (some (.int .i64 0), 1, 8) := by kernel_rfl

/-- v is a slice of the integers xs, in a block of its own from base on. -/
def Ow (w : World) (base : Nat) (v : Value) (xs : List Int) : Prop := w.ownsRow base 3 1 v xs.length (xs.map (Value.int .i64))
theorem Ow.nil (w : World) (base : Nat) : Ow w base (.slice none 0 0) [] := World.ownsRow_nil _ _ _ _
theorem Ow.ro {w : World} {base : Nat} {v : Value} {xs : List Int} (h : Ow w base v xs) : Ro w v xs := by
  rcases h.2 with ⟨hv, h0⟩ | ⟨g, cap, cur, hv, hb, hg, h1, h2, h3, h4⟩
  · obtain rfl := List.length_eq_zero_iff.1 h0
    exact ⟨none, 0, hv, Nat.le_refl _, by omega, fun h => absurd rfl h⟩
  · refine ⟨_, cap, hv, h1, by unfold maxLen at h2; omega, fun _ => ⟨_, rfl, lt_of_block hg, fun i d hd => ?_⟩⟩
    have hi : i < xs.length := (List.getElem?_eq_some_iff.1 hd).1
    rw [Addr.add_lit, Nat.zero_add]
    have h5 : w.ownsRow base 3 1 (.slice (some ⟨g, 0, none⟩) xs.length cap) xs.length (xs.map (Value.int .i64)) := by rw [← hv]; exact h
    rw [h5.cellAt i (by omega), List.getElem?_map, hd]
    rfl
theorem Ow.kept {w w' : World} {base : Nat} {v : Value} {xs : List Int} {row : Option Nat} (h : Ow w base v xs) (hg : w.grownBy w' row) (hne : v.ownBlock = none ∨ v.ownBlock ≠ row) : Ow w' base v xs := World.ownsRow.kept h hg hne
theorem Ow.alloc {w : World} {base : Nat} {v : Value} {xs : List Int} (h : Ow w base v xs) (o : Obj) : Ow (w.alloc o) base v xs := World.ownsRow.alloc h o
theorem Ow.drewN {w : World} {base : Nat} {v : Value} {xs : List Int} (h : Ow w base v xs) (n : Nat) : Ow (w.drewN n) base v xs := h
theorem Ow.block {w : World} {base : Nat} {v : Value} {xs : List Int} (h : Ow w base v xs) : ∀ k, v.ownBlock = some k → base ≤ k ∧ k < w.heap.size := World.ownsRow.lt h
theorem Ow.below {w w' : World} {base : Nat} {v : Value} {xs : List Int} (h : Ow w base v xs) (hb : Below w.heap.size w w') : Ow w' base v xs :=
  h.kept (row := none) ⟨hb.os, hb.tape, hb.output, hb.size, fun k hk _ => hb.block k hk⟩ (by cases v.ownBlock <;> simp)
theorem Ow.mono {w : World} {base base' : Nat} {v : Value} {xs : List Int} (h : Ow w base v xs) (hb : base' ≤ base) : Ow w base' v xs := by
  refine ⟨h.1, ?_⟩
  rcases h.2 with h1 | ⟨g, cap, cur, h1, h2, h3⟩
  · exact .inl h1
  · exact .inr ⟨g, cap, cur, h1, Nat.le_trans hb h2, h3⟩
theorem Ow.len {w : World} {base : Nat} {v : Value} {xs : List Int} (h : Ow w base v xs) : ∃ a c, v = .slice a xs.length c := by
  obtain ⟨a, c, h1, -⟩ := h.ro
  exact ⟨a, c, h1⟩

/-- one more. -/
theorem app_int {ops : Array Oper} {rest : List Oper} {o : Oper} {a : Act} {Q : Exit → Act → World → Prop} (w : World) (hgd : o.guard = none) (s x : Operand)
    (ho : o.op = .call { callee := .builtin .append, args := #[s, x], argTypes := #[36, 36] }) (base : Nat) (v : Value) (xs : List Int) (hs : a.eval s = v) (hown : Ow w base v xs)
    (ad : Addr) (d : Int) (hx : a.eval x = .slice (some ad) 1 1) (hd : w.cell? ad = some (.int .i64 d)) (hl : xs.length ≤ 1000000000) (hbase : base ≤ w.heap.size)
    (h : ∀ g cap w', Ow w' base (.slice (some ⟨g, 0, none⟩) (xs.length + 1) cap) (xs ++ [d]) → w.grownBy w' v.ownBlock → (v.ownBlock = some g ∨ g = w.heap.size) → g < w'.heap.size → wpList Tryd.prog ops Q rest (a.put o.dst (.slice (some ⟨g, 0, none⟩) (xs.length + 1) cap)) w') :
    wpList Tryd.prog ops Q (o :: rest) a w := by
  obtain ⟨i0, hi, hz0, hz1, hz2⟩ := info_parts info_int
  refine wpList_append_lies w hgd s x 36 ho base 3 i0 (.int .i64 0) 1 8 Tryd.underlying36 hi hz0 hz1 hz2 rfl (by decide) v xs.length _ hs hown ad 1 1 [.int .i64 d] hx rfl ?_ ?_ (by decide) (by unfold maxLen; omega) (by omega) hbase _ rfl ?_
  · intro j u hj
    match j, hj with
    | 0, hj => simp at hj; subst hj; exact hd
  · intro u hu
    simp at hu
    subst hu
    rfl
  · intro g cap w' h1 h2 h3 h4
    refine h g cap w' ?_ h2 h3 h4
    unfold Ow
    rw [List.length_append, List.map_append]
    exact h1

/-- a list of one. -/
theorem Ow.one {w : World} {base z : Nat} (d : Int) (hb : base ≤ w.heap.size) (hz : w.heap.size = z) : Ow (w.alloc (.cells #[.int .i64 d] 3)) base (.slice (some ⟨z, 0, none⟩) 1 1) [d] := by
  subst hz
  exact ⟨rfl, .inr ⟨_, _, _, rfl, hb, heap_alloc_new w _, Nat.le_refl _, by unfold maxLen; decide, rfl, rfl⟩⟩
end Go.Proofs.YtbomnicnoanjlaaDoor

namespace Go.Proofs.YtbomnicnoanjlaaDoor
open Go.RowKit

def intCells (ds : List Int) : List Value := ds.map fun d => .int .i64 d

/-- block b holds the integers ds, and some cells behind. -/
def Bk (w : World) (b : Nat) (ds : List Int) (r : Array Value) : Prop := w.heap[b]? = some (.cells ((intCells ds).toArray ++ r) 3 (0, 0))

theorem Bk.cell {w : World} {b : Nat} {ds : List Int} {r : Array Value} (h : Bk w b ds r) {i : Nat} {d : Int} (hd : ds[i]? = some d) : w.cell? ⟨b, i, none⟩ = some (.int .i64 d) := by
  have hi : i < ds.length := (List.getElem?_eq_some_iff.1 hd).1
  unfold Bk at h
  simp only [World.cell?, h]
  simp [intCells, Array.getElem?_append, hi]
  exact (List.getElem?_eq_some_iff.1 hd).2
theorem Bk.thaw {w : World} {b : Nat} {ds : List Int} {r : Array Value} (h : Bk w b ds r) (i : Nat) : w.frozen? ⟨b, i, none⟩ = false := by
  unfold Bk at h
  simp [World.frozen?, h]
theorem Bk.set {w : World} {b : Nat} {ds : List Int} {r : Array Value} (h : Bk w b ds r) (i : Nat) (d : Int) (hi : i < ds.length) : Bk (w.setCell ⟨b, i, none⟩ (.int .i64 d)) b (ds.set i d) r := by
  unfold Bk at *
  rw [heap_setCell_same w b i _ _ _ h]
  have e : (intCells (ds.set i d)).toArray = (intCells ds).toArray.setIfInBounds i (.int .i64 d) := by
    simp [intCells, List.map_set]
  rw [e]
  have hl : i < (intCells ds).toArray.size := by simpa [intCells] using hi
  rw [Array.setIfInBounds_append_left hl]
theorem Bk.drewN {w : World} {b : Nat} {ds : List Int} {r : Array Value} (h : Bk w b ds r) (n : Nat) : Bk (w.drewN n) b ds r := h
theorem Bk.kp {w w' : World} {b z : Nat} {ds : List Int} {r : Array Value} (h : Bk w b ds r) (hk : Kp z w w') (hne : b ≠ z) : Bk w' b ds r := by
  unfold Bk at *
  rw [hk.block b (lt_of_block h) hne]; exact h
theorem Bk.below {w w' : World} {b : Nat} {ds : List Int} {r : Array Value} (h : Bk w b ds r) (hb : Below w.heap.size w w') : Bk w' b ds r := by
  unfold Bk at *
  rw [hb.block b (lt_of_block h)]; exact h
theorem Bk.lt {w : World} {b : Nat} {ds : List Int} {r : Array Value} (h : Bk w b ds r) : b < w.heap.size := lt_of_block h
theorem Bk.ro {w : World} {b c : Nat} {ds : List Int} {r : Array Value} (h : Bk w b ds r) (h1 : ds.length ≤ c) (h2 : c ≤ 9223372036854775807) : Ro w (.slice (some ⟨b, 0, none⟩) ds.length c) ds :=
  ⟨_, c, rfl, h1, h2, fun _ => ⟨_, rfl, h.lt, fun i d hd => by rw [Addr.add_lit, Nat.zero_add]; exact h.cell hd⟩⟩
/-- another cell, another block. -/
theorem Bk.other {w : World} {b : Nat} {ds : List Int} {r : Array Value} (h : Bk w b ds r) {g : Nat} (hne : b ≠ g) (i : Nat) (u : Value) : Bk (w.setCell ⟨g, i, none⟩ u) b ds r := by
  unfold Bk at *
  rw [Below.heap_setCell _ _ _ _ hne]; exact h
theorem Bk.low {w w' : World} {b B : Nat} {ds : List Int} {r : Array Value} (h : Bk w b ds r) (hb : Below B w w') (hB : b < B) : Bk w' b ds r := by
  unfold Bk at *
  rw [hb.block b hB]; exact h
end Go.Proofs.YtbomnicnoanjlaaDoor

namespace Go.Proofs.YtbomnicnoanjlaaDoor
open Go.RowKit
set_option linter.unusedVariables false

/-- v is a slice of the bools xs. -/
def Bl (w : World) (v : Value) (xs : List Bool) : Prop := ∃ (a : Option Addr) (c : Nat), v = .slice a xs.length c ∧ xs.length ≤ c ∧ c ≤ 9223372036854775807 ∧ (xs ≠ [] → ∃ x, a = some x ∧ x.block < w.heap.size ∧ ∀ i d, xs[i]? = some d → w.cell? (x.add i) = some (.bool d))
theorem Bl.below {w w' : World} {v : Value} {xs : List Bool} (h : Bl w v xs) (hb : Below w.heap.size w w') : Bl w' v xs := by
  obtain ⟨a, c, h1, h2, h3, h4⟩ := h
  refine ⟨a, c, h1, h2, h3, fun hx => ?_⟩
  obtain ⟨x, ha, hl, hc⟩ := h4 hx
  refine ⟨x, ha, Nat.lt_of_lt_of_le hl hb.size, fun i d hd => ?_⟩
  rw [hb.cell (p := x.add i) (by rw [add_block]; exact hl)]
  exact hc i d hd
theorem Bl.nil (w : World) : Bl w (.slice none 0 0) [] := ⟨none, 0, rfl, Nat.le_refl _, by omega, fun h => absurd rfl h⟩
theorem Bl.len {w : World} {v : Value} {xs : List Bool} (h : Bl w v xs) : ∃ a c, v = .slice a xs.length c := by
  obtain ⟨a, c, h, -⟩ := h
  exact ⟨a, c, h⟩
def boolCells (ds : List Bool) : List Value := ds.map fun d => .bool d
/-- block b holds the bools ds. -/
def Bb (w : World) (b : Nat) (ds : List Bool) : Prop := w.heap[b]? = some (.cells (boolCells ds).toArray 4 (0, 0))
theorem Bb.cell {w : World} {b : Nat} {ds : List Bool} (h : Bb w b ds) {i : Nat} {d : Bool} (hd : ds[i]? = some d) : w.cell? ⟨b, i, none⟩ = some (.bool d) := by
  have hi : i < ds.length := (List.getElem?_eq_some_iff.1 hd).1
  unfold Bb at h
  simp only [World.cell?, h]
  simp [boolCells, hi]
  exact (List.getElem?_eq_some_iff.1 hd).2
theorem Bb.thaw {w : World} {b : Nat} {ds : List Bool} (h : Bb w b ds) (i : Nat) : w.frozen? ⟨b, i, none⟩ = false := by
  unfold Bb at h
  simp [World.frozen?, h]
theorem Bb.set {w : World} {b : Nat} {ds : List Bool} (h : Bb w b ds) (i : Nat) (d : Bool) : Bb (w.setCell ⟨b, i, none⟩ (.bool d)) b (ds.set i d) := by
  unfold Bb at *
  rw [heap_setCell_same w b i _ _ _ h]
  have e : (boolCells (ds.set i d)).toArray = (boolCells ds).toArray.setIfInBounds i (.bool d) := by
    simp [boolCells, List.map_set]
  rw [e]
theorem Bb.lt {w : World} {b : Nat} {ds : List Bool} (h : Bb w b ds) : b < w.heap.size := lt_of_block h
theorem Bb.low {w w' : World} {b B : Nat} {ds : List Bool} (h : Bb w b ds) (hb : Below B w w') (hB : b < B) : Bb w' b ds := by
  unfold Bb at *
  rw [hb.block b hB]; exact h
theorem Bb.bl {w : World} {b c : Nat} {ds : List Bool} (h : Bb w b ds) (h1 : ds.length ≤ c) (h2 : c ≤ 9223372036854775807) : Bl w (.slice (some ⟨b, 0, none⟩) ds.length c) ds :=
  ⟨_, c, rfl, h1, h2, fun _ => ⟨_, rfl, h.lt, fun i d hd => by rw [Addr.add_lit, Nat.zero_add]; exact h.cell hd⟩⟩
theorem info_bool : (Tryd.prog.info? 4).map (fun i => (i.zero, i.size, i.bytes)) = some (some (.bool false), 1, 1) := by kernel_rfl
theorem made_bools (n : Nat) : madeCells #[Value.bool false] n = (boolCells (List.replicate n false)).toArray := by
  apply Array.ext_getElem?
  intro i
  unfold madeCells boolCells
  by_cases h : i < n
  · simp [h, Nat.mod_one]
  · simp [h]
theorem makeB (n : Nat) (w : World) (h : n ≤ 1000000) : ∃ w', (Instr.makeSlice 53 (.int .i64 (n : Nat)) (.int .i64 (n : Nat))).run Tryd.prog w = .ok (.slice (some ⟨w.heap.size, 0, none⟩) n n) w' ∧ Bb w' w.heap.size (List.replicate n false) ∧ Below w.heap.size w w' ∧ w'.heap.size = w.heap.size + 1 := by
  obtain ⟨i0, hi, hz0, hz1, hz2⟩ := info_parts info_bool
  have hr := run_make (P := Tryd.prog) w 53 4 i0 (.bool false) Tryd.underlying53 hi hz0 .i64 .i64 (n : Nat) (n : Nat) (by omega) (Int.le_refl _) (by rw [hz2]; omega) (by omega)
  refine ⟨_, hr, ?_, (Below.refl _ _).alloc (Nat.le_refl _) _, by simp⟩
  unfold Bb
  rw [hz1, Int.toNat_natCast, Nat.mul_one, heap_alloc_new]
  have e : (Value.bool false).cells = #[Value.bool false] := rfl
  rw [e, made_bools]
end Go.Proofs.YtbomnicnoanjlaaDoor

namespace Go.Proofs.YtbomnicnoanjlaaDoor
open Go.RowKit
set_option linter.unusedVariables false

theorem info_or : (Tryd.prog.info? 38).map (fun i => (i.zero, i.size, i.bytes)) = some (some (.agg #[.int .i64 0, .int .i64 0, .int .i64 0, .int .i64 0]), 4, 32) := by kernel_rfl
def OrV.cs (k : OrV) : List Value := [.int .i64 k.player, .int .i64 k.unit, .int .i64 k.what, .int .i64 k.arg]
theorem flat_or : ∀ (ks : List OrV) (i j : Nat) (k : OrV), ks[i]? = some k → j < 4 → (ks.flatMap OrV.cs)[i * 4 + j]? = k.cs[j]?
  | [], i, j, k, h, _ => by simp at h
  | x :: ks, 0, j, k, h, hj => by
    simp at h
    subst h
    rw [List.flatMap_cons, List.getElem?_append_left (by simp [OrV.cs]; omega)]
    simp
  | x :: ks, i + 1, j, k, h, hj => by
    rw [List.flatMap_cons, List.getElem?_append_right (by simp [OrV.cs]; omega)]
    have : (i + 1) * 4 + j - (OrV.cs x).length = i * 4 + j := by simp [OrV.cs]; omega
    rw [this]
    exact flat_or ks i j k (by simpa using h) hj
/-- v is a slice of them, in a block of its own from base on. -/
def Oro (w : World) (base : Nat) (v : Value) (ks : List OrV) : Prop := w.ownsRow base 38 4 v ks.length (ks.flatMap OrV.cs)
theorem Oro.nil (w : World) (base : Nat) : Oro w base (.slice none 0 0) [] := World.ownsRow_nil _ _ _ _
theorem Oro.below {w w' : World} {base : Nat} {v : Value} {ks : List OrV} (h : Oro w base v ks) (hb : Below w.heap.size w w') : Oro w' base v ks :=
  World.ownsRow.kept h (row := none) ⟨hb.os, hb.tape, hb.output, hb.size, fun k hk _ => hb.block k hk⟩ (by cases v.ownBlock <;> simp)
theorem Oro.kept {w w' : World} {base : Nat} {v : Value} {ks : List OrV} {row : Option Nat} (h : Oro w base v ks) (hg : w.grownBy w' row) (hne : v.ownBlock = none ∨ v.ownBlock ≠ row) : Oro w' base v ks := World.ownsRow.kept h hg hne
theorem Oro.alloc {w : World} {base : Nat} {v : Value} {ks : List OrV} (h : Oro w base v ks) (o : Obj) : Oro (w.alloc o) base v ks := World.ownsRow.alloc h o
theorem Oro.block {w : World} {base : Nat} {v : Value} {ks : List OrV} (h : Oro w base v ks) : ∀ k, v.ownBlock = some k → base ≤ k ∧ k < w.heap.size := World.ownsRow.lt h
theorem Oro.mono {w : World} {base base' : Nat} {v : Value} {ks : List OrV} (h : Oro w base v ks) (hb : base' ≤ base) : Oro w base' v ks := by
  refine ⟨h.1, ?_⟩
  rcases h.2 with h1 | ⟨g, cap, cur, h1, h2, h3⟩
  · exact .inl h1
  · exact .inr ⟨g, cap, cur, h1, Nat.le_trans hb h2, h3⟩
theorem Oro.l {w : World} {base : Nat} {v : Value} {ks : List OrV} (h : Oro w base v ks) : Orl w v ks := by
  rcases h.2 with ⟨hv, h0⟩ | ⟨g, cap, cur, hv, hb, hg, h1, h2, h3, h4⟩
  · exact ⟨none, 0, by rw [hv, h0], by omega, by omega, fun hn => absurd (List.length_eq_zero_iff.1 h0) hn⟩
  · refine ⟨_, cap, hv, h1, by unfold maxLen at h2; omega, fun _ => ⟨_, rfl, lt_of_block hg, fun i k hi => ?_⟩⟩
    have hil : i < ks.length := (List.getElem?_eq_some_iff.1 hi).1
    have h5 : w.ownsRow base 38 4 (.slice (some ⟨g, 0, none⟩) ks.length cap) ks.length (ks.flatMap OrV.cs) := by rw [← hv]; exact h
    have hc : ∀ j u, j < 4 → k.cs[j]? = some u → w.cell? ⟨g, i * 4 + j, none⟩ = some u := fun j u hj hu => by
      rw [h5.cellAt (i * 4 + j) (by omega), flat_or ks i j k hi hj, hu]
    rw [Addr.add_lit, Nat.zero_add]
    exact ⟨hc 0 _ (by decide) rfl, hc 1 _ (by decide) rfl, hc 2 _ (by decide) rfl, hc 3 _ (by decide) rfl⟩
theorem Oro.len {w : World} {base : Nat} {v : Value} {ks : List OrV} (h : Oro w base v ks) : ∃ a c, v = .slice a ks.length c := by
  obtain ⟨a, c, h1, -⟩ := h.l
  exact ⟨a, c, h1⟩

/-- one more. -/
theorem app_or {ops : Array Oper} {rest : List Oper} {o : Oper} {a : Act} {Q : Exit → Act → World → Prop} (w : World) (hgd : o.guard = none) (s x : Operand)
    (ho : o.op = .call { callee := .builtin .append, args := #[s, x], argTypes := #[23, 23] }) (base : Nat) (v : Value) (ks : List OrV) (hs : a.eval s = v) (hown : Oro w base v ks)
    (b : Nat) (d : OrV) (hx : a.eval x = .slice (some ⟨b, 0, none⟩) 1 1) (hd : Orc w ⟨b, 0, none⟩ d) (hl : ks.length ≤ 1000000) (hbase : base ≤ w.heap.size)
    (h : ∀ g cap w', Oro w' base (.slice (some ⟨g, 0, none⟩) (ks.length + 1) cap) (ks ++ [d]) → w.grownBy w' v.ownBlock → (v.ownBlock = some g ∨ g = w.heap.size) → g < w'.heap.size → wpList Tryd.prog ops Q rest (a.put o.dst (.slice (some ⟨g, 0, none⟩) (ks.length + 1) cap)) w') :
    wpList Tryd.prog ops Q (o :: rest) a w := by
  obtain ⟨i0, hi, hz0, hz1, hz2⟩ := info_parts info_or
  refine wpList_append_lies w hgd s x 23 ho base 38 i0 (.agg #[.int .i64 0, .int .i64 0, .int .i64 0, .int .i64 0]) 4 32 Tryd.underlying23 hi hz0 hz1 hz2 rfl (by decide) v ks.length _ hs hown ⟨b, 0, none⟩ 1 1 d.cs hx rfl ?_ ?_ (by decide) (by unfold maxLen; omega) (by omega) hbase _ rfl ?_
  · intro j u hj
    have hjn : j < 4 := (List.getElem?_eq_some_iff.1 hj).1
    rw [Addr.add_lit, Nat.zero_add]
    match j, hjn, hj with
    | 0, _, hj => simp [OrV.cs] at hj; subst hj; exact hd.c0
    | 1, _, hj => simp [OrV.cs] at hj; subst hj; exact hd.c1
    | 2, _, hj => simp [OrV.cs] at hj; subst hj; exact hd.c2
    | 3, _, hj => simp [OrV.cs] at hj; subst hj; exact hd.c3
  · intro u hu
    simp [OrV.cs] at hu
    rcases hu with rfl | rfl | rfl | rfl <;> rfl
  · intro g cap w' h1 h2 h3 h4
    refine h g cap w' ?_ h2 h3 h4
    unfold Oro
    rw [List.length_append, List.flatMap_append]
    simpa using h1
end Go.Proofs.YtbomnicnoanjlaaDoor

namespace Go.Proofs.YtbomnicnoanjlaaDoor
open Go.RowKit
set_option linter.unusedVariables false

/-- a lock. many: how often something was sent. -/
structure LoV where
  delay : Int
  now : Int
  out : List Bool
  sent : Int → Int → Option (List OrV)
  many : Nat
/-- nothing but three blocks has turned. -/
structure Lf (z bo bm : Nat) (w w' : World) : Prop where
  os : w'.os = w.os
  tape : w'.tape = w.tape
  output : w'.output = w.output
  size : w.heap.size ≤ w'.heap.size
  block : ∀ k, k < w.heap.size → k ≠ z → k ≠ bo → k ≠ bm → w'.heap[k]? = w.heap[k]?
theorem Lf.of {z bo bm : Nat} {w w' : World} (h : Below w.heap.size w w') : Lf z bo bm w w' := ⟨h.os, h.tape, h.output, h.size, fun k hk _ _ _ => h.block k hk⟩
theorem Lf.gb {z bo bm : Nat} {w w' : World} {r : Option Nat} (h : w.grownBy w' r) (hr : ∀ k, r = some k → k = z ∨ k = bo ∨ k = bm) : Lf z bo bm w w' :=
  ⟨h.os, h.tape, h.output, h.size, fun k hk h1 h2 h3 => h.block k hk (fun e => by rcases hr k e.symm with h | h | h <;> contradiction)⟩
theorem Lf.kp {z bo bm y : Nat} {w w' : World} (h : Kp y w w') (hy : y = z ∨ y = bo ∨ y = bm) : Lf z bo bm w w' :=
  ⟨h.os, h.tape, h.output, h.size, fun k hk h1 h2 h3 => h.block k hk (fun e => by subst e; rcases hy with h | h | h <;> contradiction)⟩
theorem Lf.trans {z bo bm : Nat} {a b c : World} (h : Lf z bo bm a b) (k : Lf z bo bm b c) : Lf z bo bm a c :=
  ⟨k.os.trans h.os, k.tape.trans h.tape, k.output.trans h.output, Nat.le_trans h.size k.size, fun i hi h1 h2 h3 => (k.block i (Nat.lt_of_lt_of_le hi h.size) h1 h2 h3).trans (h.block i hi h1 h2 h3)⟩
theorem Lf.low {z bo bm n : Nat} {w w' : World} (h : Lf z bo bm w w') (hn : n ≤ w.heap.size) (h1 : n ≤ z) (h2 : n ≤ bo) (h3 : n ≤ bm) : Below n w w' :=
  ⟨h.os, h.tape, h.output, h.size, fun k hk => h.block k (by omega) (by omega) (by omega) (by omega)⟩
/-- orders lie where they lay, where another block turns. -/
theorem Orl.but {w w' : World} {v : Value} {l : List OrV} (h : Orl w v l) (S : Nat → Prop) (hs : w.heap.size ≤ w'.heap.size) (g : ∀ k, k < w.heap.size → ¬ S k → w'.heap[k]? = w.heap[k]?) (hb : ∀ (y : Addr) k, S y.block → ¬ Orc w y k) : Orl w' v l := by
  obtain ⟨a, c, h1, h2, h3, h4⟩ := h
  refine ⟨a, c, h1, h2, h3, fun hn => ?_⟩
  obtain ⟨x, e, hx, hk⟩ := h4 hn
  have hne : ¬ S x.block := fun e => by
    obtain ⟨k, hk0⟩ : ∃ k, l[0]? = some k := by
      cases l with
      | nil => exact absurd rfl hn
      | cons a l => exact ⟨a, rfl⟩
    exact hb (x.add (0 * 4)) k (by rw [add_block]; exact e) (hk 0 k hk0)
  have hbl : w'.heap[x.block]? = w.heap[x.block]? := g _ hx hne
  have hc : ∀ p : Addr, p.block = x.block → w'.cell? p = w.cell? p := fun p hp => World.cell?_of_block (by rw [hp]; exact hbl)
  refine ⟨x, e, Nat.lt_of_lt_of_le hx hs, fun i k hi => ?_⟩
  have h := hk i k hi
  have hb0 : (x.add (i * 4)).block = x.block := add_block ..
  exact ⟨(hc _ hb0).trans h.c0, (hc ⟨(x.add (i * 4)).block, _, none⟩ hb0).trans h.c1, (hc ⟨(x.add (i * 4)).block, _, none⟩ hb0).trans h.c2, (hc ⟨(x.add (i * 4)).block, _, none⟩ hb0).trans h.c3⟩
/-- orders of one's own lie where they lay, where blocks of another kind turn. -/
theorem Oro.but {w w' : World} {base : Nat} {v : Value} {l : List OrV} (h : Oro w base v l) (S : Nat → Prop) (g : ∀ k, k < w.heap.size → ¬ S k → w'.heap[k]? = w.heap[k]?) (hb : ∀ b cur, S b → w.heap[b]? ≠ some (.cells cur 38 (0, 0))) : Oro w' base v l := by
  refine ⟨h.1, ?_⟩
  rcases h.2 with h1 | ⟨k, cap, cur, h1, h2, h3, h4⟩
  · exact .inl h1
  · exact .inr ⟨k, cap, cur, h1, h2, (g k (lt_of_block h3) (fun e => hb k cur e h3)).trans h3, h4⟩
/-- block z is a lock's, bo holds who is out, bm what was sent. -/
structure Lk (w : World) (z bo bm : Nat) (L : LoV) : Prop where
  x : w.heap[z]? = some (.cells #[.int .i64 L.delay, .int .i64 L.now, .slice (some ⟨bo, 0, none⟩) L.out.length L.out.length, .map (some bm)] 56)
  b : Bb w bo L.out
  m : ∃ f, Pm w bm L.many f ∧ ∀ t p, (f t p = none ∧ L.sent t p = none) ∨ ∃ v l, f t p = some v ∧ L.sent t p = some l ∧ Oro w 0 v l
theorem Lk.lz {w : World} {z bo bm : Nat} {L : LoV} (h : Lk w z bo bm L) : z < w.heap.size := lt_of_block h.x
theorem Lk.lb {w : World} {z bo bm : Nat} {L : LoV} (h : Lk w z bo bm L) : bo < w.heap.size := h.b.lt
theorem Lk.lm {w : World} {z bo bm : Nat} {L : LoV} (h : Lk w z bo bm L) : bm < w.heap.size := by
  obtain ⟨f, h1, -⟩ := h.m
  exact h1.lt
theorem Lk.zb {w : World} {z bo bm : Nat} {L : LoV} (h : Lk w z bo bm L) : z ≠ bo := fun e => by
  have h1 := h.x
  have h2 := h.b
  unfold Bb at h2
  rw [e, h2] at h1
  injection h1 with h1
  injection h1 with _ h1
  exact absurd h1 (by decide)
theorem Lk.zm {w : World} {z bo bm : Nat} {L : LoV} (h : Lk w z bo bm L) : z ≠ bm := fun e => by
  obtain ⟨f, h1, -⟩ := h.m
  obtain ⟨es, c, h2⟩ := h1.is
  have h3 := h.x
  rw [e, h2] at h3
  injection h3 with h3
  cases h3
theorem Lk.bm {w : World} {z bo bm : Nat} {L : LoV} (h : Lk w z bo bm L) : bo ≠ bm := fun e => by
  obtain ⟨f, h1, -⟩ := h.m
  obtain ⟨es, c, h2⟩ := h1.is
  have h3 := h.b
  unfold Bb at h3
  rw [e, h2] at h3
  injection h3 with h3
  cases h3
/-- no order lies in a lock's blocks. -/
theorem Lk.no {w : World} {z bo bm : Nat} {L : LoV} (h : Lk w z bo bm L) (y : Addr) (k : OrV) (hy : y.block = z ∨ y.block = bo ∨ y.block = bm) : ¬ Orc w y k := by
  intro o
  rcases hy with e | e | e
  · have hx := h.x
    have h3 := o.c3
    rw [e] at h3
    simp only [World.cell?, hx] at h3
    match y.off, h3 with
    | 0, h3 => simp at h3
    | n + 1, h3 => simp at h3
  · have hx := h.b
    unfold Bb at hx
    have h3 := o.c3
    rw [e] at h3
    simp only [World.cell?, hx] at h3
    simp [boolCells] at h3
  · obtain ⟨f, h1, -⟩ := h.m
    obtain ⟨es, c, h2⟩ := h1.is
    have h3 := o.c3
    rw [e] at h3
    simp [World.cell?, h2] at h3
theorem Lk.orl {w w' : World} {z bo bm : Nat} {L : LoV} (h : Lk w z bo bm L) (g : Lf z bo bm w w') {v : Value} {l : List OrV} (o : Orl w v l) : Orl w' v l :=
  o.but (fun k => k = z ∨ k = bo ∨ k = bm) g.size (fun k hk hn => g.block k hk (fun e => hn (.inl e)) (fun e => hn (.inr (.inl e))) (fun e => hn (.inr (.inr e)))) (fun y k hy => h.no y k hy)
/-- its blocks hold no orders. -/
theorem Lk.nt {w : World} {z bo bm : Nat} {L : LoV} (h : Lk w z bo bm L) (b : Nat) (cur : Array Value) (hy : b = z ∨ b = bo ∨ b = bm) : w.heap[b]? ≠ some (.cells cur 38 (0, 0)) := by
  intro o
  rcases hy with e | e | e
  · rw [e, h.x] at o
    injection o with o
    injection o with _ o
    exact absurd o (by decide)
  · have hx := h.b
    unfold Bb at hx
    rw [e, hx] at o
    injection o with o
    injection o with _ o
    exact absurd o (by decide)
  · obtain ⟨f, h1, -⟩ := h.m
    obtain ⟨es, c, h2⟩ := h1.is
    rw [e, h2] at o
    injection o with o
    cases o
theorem Lk.oro {w w' : World} {z bo bm : Nat} {L : LoV} (h : Lk w z bo bm L) (g : Lf z bo bm w w') {base : Nat} {v : Value} {l : List OrV} (o : Oro w base v l) : Oro w' base v l :=
  o.but (fun k => k = z ∨ k = bo ∨ k = bm) (fun k hk hn => g.block k hk (fun e => hn (.inl e)) (fun e => hn (.inr (.inl e))) (fun e => hn (.inr (.inr e)))) (fun b cur hb => h.nt b cur hb)
/-- a lock stays where other blocks turn. -/
theorem Lk.keep {w w' : World} {z bo bm : Nat} {L : LoV} (h : Lk w z bo bm L) (S : Nat → Prop) (g : ∀ k, k < w.heap.size → ¬ S k → w'.heap[k]? = w.heap[k]?) (hb : ∀ b cur, S b → w.heap[b]? ≠ some (.cells cur 38 (0, 0))) (n1 : ¬ S z) (n2 : ¬ S bo) (n3 : ¬ S bm) : Lk w' z bo bm L := by
  obtain ⟨f, h1, h2⟩ := h.m
  refine ⟨(g z h.lz n1).trans h.x, ?_, f, h1.blk (g bm h.lm n3), fun t p => ?_⟩
  · have := h.b
    unfold Bb at *
    exact (g bo h.lb n2).trans this
  · rcases h2 t p with h | ⟨v, l, a1, a2, a3⟩
    · exact .inl h
    · exact .inr ⟨v, l, a1, a2, a3.but S g hb⟩
theorem Lk.below {w w' : World} {z bo bm : Nat} {L : LoV} (h : Lk w z bo bm L) (g : Below w.heap.size w w') : Lk w' z bo bm L :=
  h.keep (fun _ => False) (fun k hk _ => g.block k hk) (fun _ _ h => h.elim) id id id
/-- one lock stays where another one turns. -/
theorem Lk.other {w w' : World} {z bo bm z' bo' bm' : Nat} {L M : LoV} (h : Lk w z bo bm L) (k : Lk w z' bo' bm' M) (g : Lf z' bo' bm' w w') (n : ∀ i ∈ [z, bo, bm], ∀ j ∈ [z', bo', bm'], i ≠ j) : Lk w' z bo bm L := by
  refine h.keep (fun i => i = z' ∨ i = bo' ∨ i = bm') (fun i hi hn => g.block i hi (fun e => hn (.inl e)) (fun e => hn (.inr (.inl e))) (fun e => hn (.inr (.inr e)))) (fun b cur hb => k.nt b cur hb) ?_ ?_ ?_
  · rintro (e | e | e)
    · exact n z (by simp) z' (by simp) e
    · exact n z (by simp) bo' (by simp) e
    · exact n z (by simp) bm' (by simp) e
  · rintro (e | e | e)
    · exact n bo (by simp) z' (by simp) e
    · exact n bo (by simp) bo' (by simp) e
    · exact n bo (by simp) bm' (by simp) e
  · rintro (e | e | e)
    · exact n bm (by simp) z' (by simp) e
    · exact n bm (by simp) bo' (by simp) e
    · exact n bm (by simp) bm' (by simp) e
theorem Lk.cells {w : World} {z bo bm : Nat} {L : LoV} (h : Lk w z bo bm L) : w.cell? ⟨z, 0, none⟩ = some (.int .i64 L.delay) ∧ w.cell? ⟨z, 1, none⟩ = some (.int .i64 L.now) ∧ w.cell? ⟨z, 2, none⟩ = some (.slice (some ⟨bo, 0, none⟩) L.out.length L.out.length) ∧ w.cell? ⟨z, 3, none⟩ = some (.map (some bm)) := by
  have hx := h.x
  refine ⟨?_, ?_, ?_, ?_⟩ <;> simp [World.cell?, hx]
/-- is somebody waited for? -/
def LoV.waitB (L : LoV) (p : Nat) : Bool := !(L.out.getD p true) && !(L.sent L.now p).isSome
/-- for whom it waits, of the first players. -/
def LoV.waitN (L : LoV) : Nat → List Int
  | 0 => []
  | n + 1 => if L.waitB n then L.waitN n ++ [(n : Int)] else L.waitN n
theorem LoV.waitN_len (L : LoV) : ∀ n, (L.waitN n).length ≤ n
  | 0 => Nat.le_refl _
  | n + 1 => by have := L.waitN_len n; unfold LoV.waitN; split <;> simp <;> omega
def LoV.waits (L : LoV) : List Int := L.waitN L.out.length
/-- a player is out from now on. -/
def LoV.drop (L : LoV) (p : Nat) : LoV := { L with out := L.out.set p true }
def lkNew (P : Nat) (delay : Int) : LoV := ⟨delay, 0, List.replicate P false, fun _ _ => none, 0⟩
end Go.Proofs.YtbomnicnoanjlaaDoor

namespace Go.Proofs.YtbomnicnoanjlaaDoor

/-- v tells the fault n. -/
def Er (v : Value) (n : Int) : Prop := (n = 0 ∧ v = .nilIface) ∨ (n ≠ 0 ∧ v = .iface 52 (.int .i64 n))
theorem Er.nil : Er .nilIface 0 := .inl ⟨rfl, rfl⟩
theorem Er.no {n : Int} (h : n ≠ 0) : Er (.iface 52 (.int .i64 n)) n := .inr ⟨h, rfl⟩
end Go.Proofs.YtbomnicnoanjlaaDoor

namespace Go.Proofs.YtbomnicnoanjlaaDoor
open Go.RowKit
set_option linter.unusedVariables false

set_option maxRecDepth 100000 in
set_option maxHeartbeats 4000000 in
theorem lplays_any (z bo bm : Nat) (L : LoV) (p : Int) (w : World) (h : Lk w z bo bm L) (hl : L.out.length ≤ 4) :
    Calls Tryd.prog 25 #[.pointer (some ⟨z, 0, none⟩), .int .i64 p] w fun e w' => e = .returned (.bool (decide (0 ≤ p ∧ p < (L.out.length : Int)))) ∧ Below w.heap.size w w' := by
  obtain ⟨c0, c1, c2, c3⟩ := h.cells
  by_cases h0 : 0 ≤ p
  · by_cases h1 : p < (L.out.length : Int)
    · have E : decide (0 ≤ p ∧ p < (L.out.length : Int)) = true := decide_eq_true ⟨h0, h1⟩
      rw [E]
      clear E
      go_enter Tryd.func25, Tryd.ntmps25
      go_wp2
      go_ret
      exact ⟨rfl, Below.refl _ _⟩
    · have E : decide (0 ≤ p ∧ p < (L.out.length : Int)) = false := decide_eq_false (by omega)
      rw [E]
      clear E
      go_enter Tryd.func25, Tryd.ntmps25
      go_wp2
      go_ret
      exact ⟨rfl, Below.refl _ _⟩
  · have E : decide (0 ≤ p ∧ p < (L.out.length : Int)) = false := decide_eq_false (by omega)
    rw [E]
    clear E
    go_enter Tryd.func25, Tryd.ntmps25
    go_wp2
    go_ret
    exact ⟨rfl, Below.refl _ _⟩
set_option maxRecDepth 100000 in
set_option maxHeartbeats 4000000 in
theorem lhas_any (z bo bm : Nat) (L : LoV) (p t : Int) (w : World) (h : Lk w z bo bm L) (hp : (Lit.int .i64 p).wf = true) (ht : (Lit.int .i64 t).wf = true) :
    Calls Tryd.prog 29 #[.pointer (some ⟨z, 0, none⟩), .int .i64 p, .int .i64 t] w fun e w' => e = .returned (.bool (L.sent t p).isSome) ∧ Below w.heap.size w w' := by
  obtain ⟨c0, c1, c2, c3⟩ := h.cells
  obtain ⟨f, M, S⟩ := h.m
  have LK := M.lookok ht hp
  have E : (f t p).isSome = (L.sent t p).isSome := by
    rcases S t p with ⟨a, b⟩ | ⟨v, l, a, b, -⟩ <;> rw [a, b] <;> rfl
  rw [E] at LK
  obtain ⟨s, hs⟩ : ∃ s, (L.sent t p).isSome = s := ⟨_, rfl⟩
  obtain ⟨v, hv⟩ : ∃ v, (f t p).getD (.slice none 0 0) = v := ⟨_, rfl⟩
  rw [hs, hv] at LK
  rw [hs]
  clear E hs hv M S
  go_enter Tryd.func29, Tryd.ntmps29
  go_wp2
  go_ret
  exact ⟨rfl, Below.refl _ _⟩
set_option maxRecDepth 100000 in
set_option maxHeartbeats 4000000 in
theorem lnow_any (z bo bm : Nat) (L : LoV) (w : World) (h : Lk w z bo bm L) :
    Calls Tryd.prog 15 #[.pointer (some ⟨z, 0, none⟩)] w fun e w' => e = .returned (.int .i64 L.now) ∧ Below w.heap.size w w' := by
  obtain ⟨c0, c1, c2, c3⟩ := h.cells
  go_enter Tryd.func15, Tryd.ntmps15
  go_wp2
  go_ret
  exact ⟨rfl, Below.refl _ _⟩
def LwI (z bo bm : Nat) (L : LoV) (w : World) (j v : Value) (W : World) : Prop := ∃ q : Nat, q ≤ L.out.length ∧ j = .int .i64 (q : Nat) ∧ Ow W w.heap.size v (L.waitN q) ∧ Below w.heap.size w W
set_option maxRecDepth 100000 in
set_option maxHeartbeats 8000000 in
theorem lwaits_any (z bo bm : Nat) (L : LoV) (w : World) (h : Lk w z bo bm L) (hl : L.out.length ≤ 4) (hn : (Lit.int .i64 L.now).wf = true) :
    Calls Tryd.prog 14 #[.pointer (some ⟨z, 0, none⟩)] w fun e w' => ∃ u, e = .returned u ∧ Ow w' w.heap.size u L.waits ∧ Below w.heap.size w w' := by
  have H : Hid (Lk w z bo bm L) := h
  have LZ : Hid (z < w.heap.size ∧ bo < w.heap.size) := ⟨h.lz, h.lb⟩
  obtain ⟨c0, c1, c2, c3⟩ := h.cells
  clear c0 c3
  clear h
  go_enter Tryd.func14, Tryd.ntmps14
  go_wp2_with fail
  go_loopw [9, 2] (fun j v W => LwI z bo bm L w j v W) (fun j _ _ => L.out.length - (intOf j).toNat)
  case atStart => exact ⟨0, Nat.zero_le _, rfl, Ow.nil _ _, Below.refl _ _⟩
  case round =>
    clear c1 c2
    obtain ⟨q, hq, rfl, hg, hb⟩ := hrel
    have O : Hid (Ow wr w.heap.size u2 (L.waitN q)) := hg
    have B : Hid (Below w.heap.size w wr) := hb
    have H1 : Hid (Lk wr z bo bm L) := H.out.below hb
    clear hg hb
    by_cases hql : q = L.out.length
    · subst hql
      go_wp2
      go_ret
      exact ⟨_, rfl, O.out, B.out⟩
    · have hqk : q < L.out.length := by omega
      have hqi : (q : Int) < (L.out.length : Nat) := by omega
      obtain ⟨d, hd⟩ : ∃ d, L.out[q]? = some d := ⟨_, List.getElem?_eq_getElem hqk⟩
      have HD : Hid (L.out.getD q true = d) := by unfold Hid; rw [List.getD_eq_getElem?_getD, hd]; rfl
      have qc := H1.out.b.cell hd
      obtain ⟨c0, c1, c2, c3⟩ := H1.out.cells
      clear c0 c3 hd
      cases d
      case true =>
        have NK : Hid (L.waitN (q + 1) = L.waitN q) := by unfold Hid; rw [LoV.waitN]; unfold LoV.waitB; rw [HD.out]; rfl
        go_wp2
        go_round
        case rel => exact ⟨q + 1, by omega, by go_num, by rw [NK.out]; exact O.out, B.out⟩
        case measure => simp [intOf]; omega
      case false =>
        have WQ : Hid ((Lit.int .i64 ((q : Nat) : Int)).wf = true ∧ (Lit.int .i64 L.now).wf = true) := ⟨pmwf (by omega) (by omega), hn⟩
        go_wp2_with fail
        refine Calls.mono (lhas_any z bo bm L _ _ wr H1.out WQ.out.1 WQ.out.2) ?_
        rintro e w1 ⟨rfl, b1⟩
        have B1 : Hid (Below w.heap.size w w1) := B.out.trans (b1.mono B.out.size)
        have O1 : Hid (Ow w1 w.heap.size u2 (L.waitN q)) := O.out.below b1
        clear b1 qc c1 c2
        obtain ⟨s, hs⟩ : ∃ s, (L.sent L.now q).isSome = s := ⟨_, rfl⟩
        have HS : Hid ((L.sent L.now q).isSome = s) := hs
        rw [hs]
        clear hs
        cases s
        case true =>
          have NK : Hid (L.waitN (q + 1) = L.waitN q) := by unfold Hid; rw [LoV.waitN]; unfold LoV.waitB; rw [HD.out, HS.out]; rfl
          go_wp2
          go_round
          case rel => exact ⟨q + 1, by omega, by go_num, by rw [NK.out]; exact O1.out, B1.out⟩
          case measure => simp [intOf]; omega
        case false =>
          have NK : Hid (L.waitN (q + 1) = L.waitN q ++ [(q : Int)]) := by unfold Hid; rw [LoV.waitN]; unfold LoV.waitB; rw [HD.out, HS.out]; rfl
          have KL : Hid ((L.waitN q).length ≤ 4) := by have := L.waitN_len q; unfold Hid; omega
          have OA : Hid (Ow (w1.alloc (Obj.cells #[.int .i64 (q : Nat)] 3)) w.heap.size u2 (L.waitN q)) := O1.out.alloc _
          have RC : Hid ((w1.alloc (Obj.cells #[.int .i64 (q : Nat)] 3)).cell? ⟨w1.heap.size, 0, none⟩ = some (.int .i64 (q : Nat))) := by unfold Hid; simp
          have BB : Hid (Below w.heap.size w (w1.alloc (Obj.cells #[.int .i64 (q : Nat)] 3))) := B1.out.alloc B1.out.size _
          go_wp2_with (at_builtin; refine app_int _ rfl _ _ rfl w.heap.size _ (L.waitN q) rfl OA.out ⟨w1.heap.size, 0, none⟩ (q : Nat) rfl RC.out (by have := KL.out; omega) BB.out.size ?_)
          intro g cap w5 o5 g5 a5 l5
          have B5 : Hid (Below w.heap.size w w5) := BB.out.grown g5 BB.out.size (fun k hk => (O1.out.block k hk).1)
          have O5 : Hid (Ow w5 w.heap.size (.slice (some ⟨g, 0, none⟩) ((L.waitN q).length + 1) cap) (L.waitN (q + 1))) := by unfold Hid; rw [NK.out]; exact o5
          clear o5 g5 a5 l5
          go_wp2
          go_round
          case rel => exact ⟨q + 1, by omega, by go_num, O5.out, B5.out⟩
          case measure => simp [intOf]; omega
set_option maxRecDepth 100000 in
set_option maxHeartbeats 4000000 in
theorem lready_any (z bo bm : Nat) (L : LoV) (w : World) (h : Lk w z bo bm L) (hl : L.out.length ≤ 4) (hn : (Lit.int .i64 L.now).wf = true) :
    Calls Tryd.prog 16 #[.pointer (some ⟨z, 0, none⟩)] w fun e w' => e = .returned (.bool (decide (L.waits = []))) ∧ Below w.heap.size w w' := by
  go_enter Tryd.func16, Tryd.ntmps16
  go_wp2_with fail
  refine Calls.mono (lwaits_any z bo bm L w h hl hn) ?_
  rintro e w1 ⟨u, rfl, ho, hb⟩
  obtain ⟨a, c, rfl⟩ := ho.len
  have B : Hid (Below w.heap.size w w1) := hb
  clear ho hb h hn
  by_cases he : L.waits = []
  · have E : Hid (decide (L.waits = []) = true) := decide_eq_true he
    have hz : ((L.waits.length : Nat) : Int) = 0 := by rw [he]; rfl
    clear he
    go_wp2
    go_ret
    exact ⟨by rw [E.out]; rfl, B.out⟩
  · have E : Hid (decide (L.waits = []) = false) := decide_eq_false he
    have hz : ((L.waits.length : Nat) : Int) ≠ 0 := fun e => he (List.length_eq_zero_iff.1 (by omega))
    have hzb : (((L.waits.length : Nat) : Int) == 0) = false := beq_eq_false_iff_ne.2 hz
    clear he
    go_wp2
    go_ret
    exact ⟨by rw [E.out]; rfl, B.out⟩
/-- what Drop says. -/
def dropF (L : LoV) (p : Int) : Int := if 0 ≤ p ∧ p < (L.out.length : Int) then (if L.out.getD p.toNat true then 7 else 0) else 1
/-- what comes of it. -/
def DropSays (z bo bm : Nat) (L : LoV) (p : Int) (w : World) (e : Ending) (w' : World) : Prop := ∃ r, e = .returned r ∧ Er r (dropF L p) ∧ ((dropF L p = 0 ∧ Lk w' z bo bm (L.drop p.toNat)) ∨ (dropF L p ≠ 0 ∧ Lk w' z bo bm L)) ∧ Lf z bo bm w w'
theorem Lk.dropped {w : World} {z bo bm : Nat} {L : LoV} (h : Lk w z bo bm L) (q : Nat) : Lk (w.setCell ⟨bo, q, none⟩ (.bool true)) z bo bm (L.drop q) ∧ Lf z bo bm w (w.setCell ⟨bo, q, none⟩ (.bool true)) := by
  have KK : Kp bo w (w.setCell ⟨bo, q, none⟩ (.bool true)) := Kp.set w q _
  have G : Lf z bo bm w (w.setCell ⟨bo, q, none⟩ (.bool true)) := Lf.kp KK (.inr (.inl rfl))
  obtain ⟨f, M, S⟩ := h.m
  refine ⟨⟨?_, h.b.set q true, f, M.blk (KK.block bm h.lm (fun e => h.bm e.symm)), fun t p => ?_⟩, G⟩
  · rw [KK.block z h.lz h.zb, h.x]
    simp [LoV.drop]
  · rcases S t p with h1 | ⟨v, l, a1, a2, a3⟩
    · exact .inl h1
    · exact .inr ⟨v, l, a1, a2, h.oro G a3⟩
set_option maxRecDepth 100000 in
set_option maxHeartbeats 8000000 in
theorem ldrop_any (z bo bm : Nat) (L : LoV) (p : Int) (w : World) (h : Lk w z bo bm L) (hl : L.out.length ≤ 4) :
    Calls Tryd.prog 8 #[.pointer (some ⟨z, 0, none⟩), .int .i64 p] w (DropSays z bo bm L p w) := by
  have H : Hid (Lk w z bo bm L) := h
  clear h
  go_enter Tryd.func8, Tryd.ntmps8
  go_wp2_with fail
  refine Calls.mono (lplays_any z bo bm L p w H.out hl) ?_
  rintro e w1 ⟨rfl, hb⟩
  have B : Hid (Below w.heap.size w w1) := hb
  have H1 : Hid (Lk w1 z bo bm L) := H.out.below hb
  clear hb H
  by_cases hp : 0 ≤ p ∧ p < (L.out.length : Int)
  case neg =>
    have E : decide (0 ≤ p ∧ p < (L.out.length : Int)) = false := decide_eq_false hp
    have F : Hid (dropF L p = 1) := by unfold Hid dropF; rw [if_neg hp]
    rw [E]
    clear E hp
    go_wp2
    go_ret
    exact ⟨_, rfl, by rw [F.out]; exact Er.no (by decide), .inr ⟨by rw [F.out]; decide, H1.out⟩, Lf.of B.out⟩
  have E : decide (0 ≤ p ∧ p < (L.out.length : Int)) = true := decide_eq_true hp
  rw [E]
  clear E
  obtain ⟨q, rfl⟩ : ∃ q : Nat, p = (q : Nat) := ⟨p.toNat, by omega⟩
  have hqk : q < L.out.length := by omega
  have hqi : (q : Int) < (L.out.length : Nat) := by omega
  obtain ⟨d, hd⟩ : ∃ d, L.out[q]? = some d := ⟨_, List.getElem?_eq_getElem hqk⟩
  have HD : Hid (dropF L (q : Nat) = if d then 7 else 0) := by unfold Hid dropF; rw [if_pos hp, List.getD_eq_getElem?_getD, Int.toNat_natCast, hd]; rfl
  have qc := H1.out.b.cell hd
  obtain ⟨c0, c1, c2, c3⟩ := H1.out.cells
  clear hd hp c0 c1 c3
  cases d
  case true =>
    have F : Hid (dropF L (q : Nat) = 7) := HD.out
    clear HD
    go_wp2
    go_ret
    exact ⟨_, rfl, by rw [F.out]; exact Er.no (by decide), .inr ⟨by rw [F.out]; decide, H1.out⟩, Lf.of B.out⟩
  case false =>
    have F : Hid (dropF L (q : Nat) = 0) := HD.out
    clear HD
    have ft := H1.out.b.thaw q
    have D1 : Hid (Lk (w1.setCell ⟨bo, q, none⟩ (.bool true)) z bo bm (L.drop q) ∧ Lf z bo bm w1 (w1.setCell ⟨bo, q, none⟩ (.bool true))) := H1.out.dropped q
    go_wp2
    go_ret
    exact ⟨_, rfl, by rw [F.out]; exact Er.nil, .inl ⟨F.out, D1.out.1⟩, (Lf.of B.out).trans D1.out.2⟩
/-- what New says. -/
def NewSays (p d : Int) (w : World) (e : Ending) (w' : World) : Prop := ∃ u r, e = .returned (.tuple #[u, r]) ∧ Below w.heap.size w w' ∧
  ((1 ≤ p ∧ p ≤ 4 ∧ 0 ≤ d ∧ d ≤ 20 ∧ r = .nilIface ∧ ∃ z bo bm, u = .pointer (some ⟨z, 0, none⟩) ∧ w.heap.size ≤ z ∧ w.heap.size ≤ bo ∧ w.heap.size ≤ bm ∧ Lk w' z bo bm (lkNew p.toNat d)) ∨ (¬ (1 ≤ p ∧ p ≤ 4 ∧ 0 ≤ d ∧ d ≤ 20) ∧ Er r 1 ∧ u = .pointer none))
set_option maxRecDepth 100000 in
set_option maxHeartbeats 8000000 in
theorem lnew_any (p d : Int) (w : World) :
    Calls Tryd.prog 4 #[.int .i64 p, .int .i64 d] w (NewSays p d w) := by
  by_cases h1 : p < 1
  · go_enter Tryd.func4, Tryd.ntmps4
    go_wp2
    go_ret2
    exact ⟨_, _, rfl, Below.refl _ _, .inr ⟨by omega, Er.no (by decide), rfl⟩⟩
  by_cases h2 : 4 < p
  · go_enter Tryd.func4, Tryd.ntmps4
    go_wp2
    go_ret2
    exact ⟨_, _, rfl, Below.refl _ _, .inr ⟨by omega, Er.no (by decide), rfl⟩⟩
  by_cases h3 : d < 0
  · go_enter Tryd.func4, Tryd.ntmps4
    go_wp2
    go_ret2
    exact ⟨_, _, rfl, Below.refl _ _, .inr ⟨by omega, Er.no (by decide), rfl⟩⟩
  by_cases h4 : 20 < d
  · go_enter Tryd.func4, Tryd.ntmps4
    go_wp2
    go_ret2
    exact ⟨_, _, rfl, Below.refl _ _, .inr ⟨by omega, Er.no (by decide), rfl⟩⟩
  obtain ⟨n, rfl⟩ : ∃ n : Nat, p = (n : Nat) := ⟨p.toNat, by omega⟩
  obtain ⟨w1, mk, b1, lb1, sz1⟩ := makeB n w (by omega)
  have hmm := @run_makeMap Tryd.prog
  have B1 : Hid (Bb w1 w.heap.size (List.replicate n false) ∧ Below w.heap.size w w1 ∧ w1.heap.size = w.heap.size + 1) := ⟨b1, lb1, sz1⟩
  clear b1 lb1 sz1
  go_enter Tryd.func4, Tryd.ntmps4
  go_wp2
  go_ret2
  obtain ⟨b1, lb1, sz1⟩ := B1.out
  have s2 : (w1.alloc (.map #[] 0)).heap.size = w1.heap.size + 1 := by simp
  have B2 : Below w1.heap.size w1 (w1.alloc (.map #[] 0)) := (Below.refl _ _).alloc (Nat.le_refl _) _
  have B3 : Below (w1.alloc (.map #[] 0)).heap.size (w1.alloc (.map #[] 0)) ((w1.alloc (.map #[] 0)).alloc (Obj.cells #[.int .i64 d, .int .i64 0, .slice (some ⟨w.heap.size, 0, none⟩) n n, .map (some w1.heap.size)] 56)) := (Below.refl _ _).alloc (Nat.le_refl _) _
  refine ⟨_, _, rfl, (lb1.trans (B2.mono lb1.size)).trans (B3.mono (by omega)), .inl ⟨h1, h2, h3, h4, rfl, w1.heap.size + 1, w.heap.size, w1.heap.size, rfl, by omega, Nat.le_refl _, by omega, ?_⟩⟩
  refine ⟨?_, ?_, fun _ _ => none, ?_, fun _ _ => .inl ⟨rfl, rfl⟩⟩
  · have h := heap_alloc_new (w1.alloc (.map #[] 0)) (Obj.cells #[.int .i64 d, .int .i64 0, .slice (some ⟨w.heap.size, 0, none⟩) n n, .map (some w1.heap.size)] 56)
    rw [s2] at h
    refine h.trans ?_
    have e : ((n : Nat) : Int).toNat = n := Int.toNat_natCast n
    simp only [lkNew, e, List.length_replicate]
  · have h := (b1.low B2 b1.lt).low B3 (by have := b1.lt; omega)
    exact h
  · exact (pm_made w1).blk (B3.block _ (by omega))
end Go.Proofs.YtbomnicnoanjlaaDoor

namespace Go.Proofs.YtbomnicnoanjlaaDoor
open Go.RowKit
set_option linter.unusedVariables false

theorem info_ll : (Tryd.prog.info? 23).map (fun i => (i.zero, i.size, i.bytes)) = some (some (.slice none 0 0), 1, 24) := by kernel_rfl
/-- v is a slice of the values vs, in a block of its own from base on. -/
def Lo (w : World) (base : Nat) (v : Value) (vs : List Value) : Prop := w.ownsRow base 23 1 v vs.length vs
theorem Lo.nil (w : World) (base : Nat) : Lo w base (.slice none 0 0) [] := World.ownsRow_nil _ _ _ _
theorem Lo.below {w w' : World} {base : Nat} {v : Value} {vs : List Value} (h : Lo w base v vs) (hb : Below w.heap.size w w') : Lo w' base v vs :=
  World.ownsRow.kept h (row := none) ⟨hb.os, hb.tape, hb.output, hb.size, fun k hk _ => hb.block k hk⟩ (by cases v.ownBlock <;> simp)
theorem Lo.alloc {w : World} {base : Nat} {v : Value} {vs : List Value} (h : Lo w base v vs) (o : Obj) : Lo (w.alloc o) base v vs := World.ownsRow.alloc h o
theorem Lo.block {w : World} {base : Nat} {v : Value} {vs : List Value} (h : Lo w base v vs) : ∀ k, v.ownBlock = some k → base ≤ k ∧ k < w.heap.size := World.ownsRow.lt h
/-- its cells. -/
theorem Lo.cells {w : World} {base : Nat} {v : Value} {vs : List Value} (h : Lo w base v vs) : ∃ a c, v = .slice a vs.length c ∧ vs.length ≤ c ∧ c ≤ 9223372036854775807 ∧ (vs ≠ [] → ∃ g, a = some ⟨g, 0, none⟩ ∧ base ≤ g ∧ g < w.heap.size ∧ ∀ (i : Nat) b, vs[i]? = some b → w.cell? ⟨g, i, none⟩ = some b) := by
  rcases h.2 with ⟨hv, h0⟩ | ⟨g, cap, cur, hv, hb, hg, h1, h2, h3, h4⟩
  · exact ⟨none, 0, by rw [hv, h0], by omega, by omega, fun hn => absurd (List.length_eq_zero_iff.1 h0) hn⟩
  · refine ⟨_, cap, hv, h1, by unfold maxLen at h2; omega, fun _ => ⟨g, rfl, hb, lt_of_block hg, fun i b hbi => ?_⟩⟩
    have hi : i < vs.length := (List.getElem?_eq_some_iff.1 hbi).1
    have h5 : w.ownsRow base 23 1 (.slice (some ⟨g, 0, none⟩) vs.length cap) vs.length vs := by rw [← hv]; exact h
    rw [h5.cellAt i (by omega), hbi]
/-- one more. -/
theorem app_ll {ops : Array Oper} {rest : List Oper} {o : Oper} {a : Act} {Q : Exit → Act → World → Prop} (w : World) (hgd : o.guard = none) (s x : Operand)
    (ho : o.op = .call { callee := .builtin .append, args := #[s, x], argTypes := #[72, 72] }) (base : Nat) (v : Value) (vs : List Value) (hs : a.eval s = v) (hown : Lo w base v vs)
    (ad : Addr) (p : Option Addr) (n c : Nat) (hx : a.eval x = .slice (some ad) 1 1) (hd : w.cell? ad = some (.slice p n c)) (hl : vs.length ≤ 2000000) (hbase : base ≤ w.heap.size)
    (h : ∀ g cap w', Lo w' base (.slice (some ⟨g, 0, none⟩) (vs.length + 1) cap) (vs ++ [.slice p n c]) → w.grownBy w' v.ownBlock → (v.ownBlock = some g ∨ g = w.heap.size) → g < w'.heap.size → wpList Tryd.prog ops Q rest (a.put o.dst (.slice (some ⟨g, 0, none⟩) (vs.length + 1) cap)) w') :
    wpList Tryd.prog ops Q (o :: rest) a w := by
  obtain ⟨i0, hi, hz0, hz1, hz2⟩ := info_parts info_ll
  refine wpList_append_lies w hgd s x 72 ho base 23 i0 (.slice none 0 0) 1 24 Tryd.underlying72 hi hz0 hz1 hz2 rfl (by decide) v vs.length _ hs hown ad 1 1 [.slice p n c] hx rfl ?_ ?_ (by decide) (by unfold maxLen; omega) (by omega) hbase _ rfl ?_
  · intro j u hj
    match j, hj with
    | 0, hj => simp at hj; subst hj; exact hd
  · intro u hu
    simp at hu
    subst hu
    rfl
  · intro g cap w' h1 h2 h3 h4
    refine h g cap w' ?_ h2 h3 h4
    unfold Lo
    rw [List.length_append]
    exact h1
/-- the same, in a region that draws. -/
theorem step_ll {ops : Array Oper} {o : Oper} {a : Act} {K : Act → World → Prop} {Q : Exit → Act → World → Prop} {E : Prop} (w : World) (hgd : o.guard = none) (s x : Operand)
    (ho : o.op = .call { callee := .builtin .append, args := #[s, x], argTypes := #[72, 72] }) (base : Nat) (v : Value) (vs : List Value) (hs : a.eval s = v) (hown : Lo w base v vs)
    (ad : Addr) (p : Option Addr) (n c : Nat) (hx : a.eval x = .slice (some ad) 1 1) (hd : w.cell? ad = some (.slice p n c)) (hl : vs.length ≤ 2000000) (hbase : base ≤ w.heap.size)
    (h : ∀ g cap w', Lo w' base (.slice (some ⟨g, 0, none⟩) (vs.length + 1) cap) (vs ++ [.slice p n c]) → w.grownBy w' v.ownBlock → (v.ownBlock = some g ∨ g = w.heap.size) → g < w'.heap.size → K (a.put o.dst (.slice (some ⟨g, 0, none⟩) (vs.length + 1) cap)) w') :
    if Region.wanted o (yielded ops a.tmps) = true then Oper.wp Tryd.prog o a w K Q else E := by
  obtain ⟨i0, hi, hz0, hz1, hz2⟩ := info_parts info_ll
  refine step_append_lies w hgd s x 72 ho base 23 i0 (.slice none 0 0) 1 24 Tryd.underlying72 hi hz0 hz1 hz2 rfl (by decide) v vs.length _ hs hown ad 1 1 [.slice p n c] hx rfl ?_ ?_ (by decide) (by unfold maxLen; omega) (by omega) hbase _ rfl ?_
  · intro j u hj
    match j, hj with
    | 0, hj => simp at hj; subst hj; exact hd
  · intro u hu
    simp at hu
    subst hu
    rfl
  · intro g cap w' h1 h2 h3 h4
    refine h g cap w' ?_ h2 h3 h4
    unfold Lo
    rw [List.length_append]
    exact h1
end Go.Proofs.YtbomnicnoanjlaaDoor

namespace Go.Proofs.YtbomnicnoanjlaaDoor
open Go.RowKit
set_option linter.unusedVariables false

def sgn (x y : Int) : Int := if x < y then -1 else if y < x then 1 else 0
def or3 (x y z : Int) : Int := if x ≠ 0 then x else if y ≠ 0 then y else z
def rnk (o : OrV) : Int := if o.what = 3 then 0 else 1
/-- how two orders compare. -/
def cmpo (a b : OrV) : Int := or3 (sgn a.player b.player) (sgn a.unit b.unit) (sgn (rnk a) (rnk b))

theorem isnan_any (x : Int) (w : World) : Calls Tryd.prog 54 #[.int .i64 x] w fun e w' => e = .returned (.bool false) ∧ w' = w := by
  go_enter Tryd.func54, Tryd.ntmps54
  go_wp2
  go_ret
  exact ⟨by simp, rfl⟩
theorem cmpint_any (x y : Int) (w : World) : Calls Tryd.prog 50 #[.int .i64 x, .int .i64 y] w fun e w' => e = .returned (.int .i64 (sgn x y)) ∧ w' = w := by
  have NA : Hid (∀ x w, Calls Tryd.prog 54 #[.int .i64 x] w fun e w' => e = .returned (.bool false) ∧ w' = w) := isnan_any
  by_cases h1 : x < y
  · go_enter Tryd.func50, Tryd.ntmps50
    go_wp2_with fail
    refine (NA.out _ _).mono ?_
    rintro e w' ⟨rfl, rfl⟩
    go_wp2_with fail
    refine (NA.out _ _).mono ?_
    rintro e w' ⟨rfl, rfl⟩
    go_wp2
    go_ret
    exact ⟨by simp [sgn, h1], rfl⟩
  · by_cases h2 : y < x
    · go_enter Tryd.func50, Tryd.ntmps50
      go_wp2_with fail
      refine (NA.out _ _).mono ?_
      rintro e w' ⟨rfl, rfl⟩
      go_wp2_with fail
      refine (NA.out _ _).mono ?_
      rintro e w' ⟨rfl, rfl⟩
      go_wp2
      go_ret
      exact ⟨by simp [sgn, h1, h2], rfl⟩
    · go_enter Tryd.func50, Tryd.ntmps50
      go_wp2_with fail
      refine (NA.out _ _).mono ?_
      rintro e w' ⟨rfl, rfl⟩
      go_wp2_with fail
      refine (NA.out _ _).mono ?_
      rintro e w' ⟨rfl, rfl⟩
      go_wp2
      go_ret
      exact ⟨by unfold sgn; rw [if_neg (by omega), if_neg (by omega)]; rfl, rfl⟩
theorem rank_any (o : OrV) (w : World) : Calls Tryd.prog 51 #[o.val] w fun e w' => e = .returned (.int .i64 (rnk o)) ∧ Below w.heap.size w w' := by
  obtain ⟨p, u, n, a⟩ := o
  have BB : Hid (Below w.heap.size w (w.alloc (Obj.cells #[.int .i64 p, .int .i64 u, .int .i64 n, .int .i64 a] 38))) := (Below.refl _ _).alloc (Nat.le_refl _) _
  unfold OrV.val rnk
  simp only
  by_cases h : n = 3
  · subst h
    go_enter Tryd.func51, Tryd.ntmps51
    go_wp2
    go_ret
    exact ⟨rfl, BB⟩
  · have hb : (n == 3) = false := beq_eq_false_iff_ne.2 h
    rw [if_neg h]
    go_enter Tryd.func51, Tryd.ntmps51
    go_wp2
    go_ret
    exact ⟨rfl, BB⟩
theorem or_any (x y z : Int) (b : Nat) (w : World) (h0 : w.cell? ⟨b, 0, none⟩ = some (.int .i64 x)) (h1 : w.cell? ⟨b, 1, none⟩ = some (.int .i64 y)) (h2 : w.cell? ⟨b, 2, none⟩ = some (.int .i64 z)) :
    Calls Tryd.prog 49 #[.slice (some ⟨b, 0, none⟩) 3 3] w fun e w' => e = .returned (.int .i64 (or3 x y z)) ∧ w' = w := by
  by_cases hx : x = 0
  · subst hx
    by_cases hy : y = 0
    · subst hy
      by_cases hz : z = 0
      · subst hz
        go_enter Tryd.func49, Tryd.ntmps49
        go_wp2
        refine wp_loop_rounds 4 ?_
        rw [rounds_succ]
        go_wp2
        rw [rounds_succ]
        go_wp2
        rw [rounds_succ]
        go_wp2
        rw [rounds_succ]
        go_wp2
        go_ret
        exact ⟨rfl, rfl⟩
      · have hzb : (z == 0) = false := beq_eq_false_iff_ne.2 hz
        go_enter Tryd.func49, Tryd.ntmps49
        go_wp2
        refine wp_loop_rounds 3 ?_
        rw [rounds_succ]
        go_wp2
        rw [rounds_succ]
        go_wp2
        rw [rounds_succ]
        go_wp2
        go_ret
        exact ⟨by simp [or3], rfl⟩
    · have hyb : (y == 0) = false := beq_eq_false_iff_ne.2 hy
      go_enter Tryd.func49, Tryd.ntmps49
      go_wp2
      refine wp_loop_rounds 2 ?_
      rw [rounds_succ]
      go_wp2
      rw [rounds_succ]
      go_wp2
      go_ret
      exact ⟨by simp [or3, hy], rfl⟩
  · have hxb : (x == 0) = false := beq_eq_false_iff_ne.2 hx
    go_enter Tryd.func49, Tryd.ntmps49
    go_wp2
    refine wp_loop_rounds 1 ?_
    rw [rounds_succ]
    go_wp2
    go_ret
    exact ⟨by simp [or3, hx], rfl⟩
end Go.Proofs.YtbomnicnoanjlaaDoor

namespace Go.Proofs.YtbomnicnoanjlaaDoor.So
set_option linter.unusedVariables false

abbrev T := OrV × Nat
/-- the key of an order stands ahead of another one's. -/
def klt (a b : OrV) : Prop := a.player < b.player ∨ (a.player = b.player ∧ (a.unit < b.unit ∨ (a.unit = b.unit ∧ rnk a < rnk b)))
theorem sgn_neg {x y : Int} : sgn x y < 0 ↔ x < y := by
  unfold sgn
  split
  · omega
  · split <;> omega
theorem sgn_zero {x y : Int} : sgn x y = 0 ↔ x = y := by
  unfold sgn
  split
  · omega
  · split <;> omega
theorem klt_iff (a b : OrV) : cmpo a b < 0 ↔ klt a b := by
  unfold cmpo or3 klt
  by_cases h1 : sgn a.player b.player = 0
  · rw [if_neg (fun h => h h1)]
    have e1 := sgn_zero.1 h1
    by_cases h2 : sgn a.unit b.unit = 0
    · rw [if_neg (fun h => h h2), sgn_neg]
      have e2 := sgn_zero.1 h2
      omega
    · rw [if_pos h2, sgn_neg]
      have e2 : ¬ a.unit = b.unit := fun e => h2 (sgn_zero.2 e)
      omega
  · rw [if_pos h1, sgn_neg]
    have e2 : ¬ a.player = b.player := fun e => h1 (sgn_zero.2 e)
    omega
instance (a b : OrV) : Decidable (klt a b) := by unfold klt; infer_instance
theorem klt_irr (a : OrV) : ¬ klt a a := by unfold klt; omega
theorem klt_trans {a b c : OrV} (h : klt a b) (k : klt b c) : klt a c := by unfold klt at *; omega
theorem klt_asym {a b : OrV} (h : klt a b) : ¬ klt b a := by unfold klt at *; omega
theorem klt_neg {a b c : OrV} (h : ¬ klt b a) (k : ¬ klt c b) : ¬ klt c a := by unfold klt at *; omega
/-- x stands ahead of y: by the key, then by the place that it had. -/
def lt (x y : T) : Prop := klt x.1 y.1 ∨ (¬ klt y.1 x.1 ∧ x.2 < y.2)
theorem lt_trans {x y z : T} (h : lt x y) (k : lt y z) : lt x z := by
  unfold lt klt at *
  omega
theorem lt_irr (x : T) : ¬ lt x x := by
  unfold lt klt
  omega
/-- where x had its place ahead of y: what the program asks tells which stands ahead. -/
theorem ask_lt {x y : T} (h : x.2 < y.2) : klt y.1 x.1 ↔ lt y x := by
  unfold lt klt
  omega
theorem ask_ge {x y : T} (h : x.2 < y.2) : ¬ klt y.1 x.1 ↔ lt x y := by
  unfold lt klt
  omega
/-- a list that rises has one order alone. -/
theorem rise_unique : ∀ {l l' : List T}, l.Perm l' → l.Pairwise lt → l'.Pairwise lt → l = l'
  | [], l', p, _, _ => by
    have := p.length_eq
    cases l' with
    | nil => rfl
    | cons x l' => simp at this
  | x :: l, [], p, _, _ => by
    have := p.length_eq
    simp at this
  | x :: l, y :: l', p, h, h' => by
    rw [List.pairwise_cons] at h h'
    have exy : x = y := by
      have hx : x ∈ y :: l' := p.mem_iff.1 (List.mem_cons_self ..)
      have hy : y ∈ x :: l := p.mem_iff.2 (List.mem_cons_self ..)
      rcases List.mem_cons.1 hx with e | hx
      · exact e
      · rcases List.mem_cons.1 hy with e | hy
        · exact e.symm
        · exact absurd (lt_trans (h.1 y hy) (h'.1 x hx)) (lt_irr x)
    subst exy
    rw [rise_unique (List.Perm.cons_inv p) h.2 h'.2]
/-- x is put among those that rise. -/
theorem put_rise {S1 S2 : List T} {x : T} (h : (S1 ++ S2).Pairwise lt) (h1 : ∀ y ∈ S1, lt y x) (h2 : ∀ y ∈ S2, lt x y) : (S1 ++ x :: S2).Pairwise lt := by
  rw [List.pairwise_append] at h ⊢
  refine ⟨h.1, List.pairwise_cons.2 ⟨h2, h.2.1⟩, fun a ha b hb => ?_⟩
  rcases List.mem_cons.1 hb with rfl | hb
  · exact h1 a ha
  · exact h.2.2 a ha b hb
/-- two that rise, one behind the other. -/
theorem cat_rise {S1 S2 : List T} (h1 : S1.Pairwise lt) (h2 : S2.Pairwise lt) (h : ∀ x ∈ S1, ∀ y ∈ S2, lt x y) : (S1 ++ S2).Pairwise lt := List.pairwise_append.2 ⟨h1, h2, h⟩
end Go.Proofs.YtbomnicnoanjlaaDoor.So

namespace Go.Proofs.YtbomnicnoanjlaaDoor
open Go.RowKit
set_option linter.unusedVariables false
set_option maxRecDepth 100000

theorem um_laid : laidOutB Tryd.prog = true := by kernel_rfl
theorem um_row : (97 : TypeId) < Tryd.prog.types.size := of_decide_eq_true (by kernel_rfl)
theorem um_wide : (match Tryd.prog.underlying 97 with | some (.array _ _) | some (.struct _) => true | _ => false) = true := by kernel_rfl
theorem um_deep : Tryd.prog.keyTypeAt 3 97 = true := by kernel_rfl
theorem um_law : Maps.Keyed Tryd.prog 97 := Maps.Keyed.of_law (deep_law_laid um_laid (m := 3) (by omega) um_row um_deep um_wide)
theorem um_cells : Tryd.prog.cellsOf 97 = 2 := by kernel_rfl
theorem um_int : Tryd.prog.cellsOf 3 = 1 := by kernel_rfl
theorem um_type : Tryd.prog.keyType 97 = true := by kernel_rfl
theorem um_size : ∃ m, Tryd.prog.types.size = m + 1 := ⟨Tryd.prog.types.size - 1, by have h : 0 < Tryd.prog.types.size := Nat.lt_of_le_of_lt (Nat.zero_le _) um_row; omega⟩
theorem um_key {p u : Int} (hp : (Lit.int .i64 p).wf = true) (hu : (Lit.int .i64 u).wf = true) : ∃ kl, keyOf Tryd.prog 97 (.agg #[.int .i64 p, .int .i64 u]) = some kl := by
  obtain ⟨m, hm⟩ := um_size
  have ht := um_type
  have hc := um_cells
  have hi := um_int
  unfold keyOf
  simp only [Tryd.underlying97]
  rw [if_pos (by simp [ht, Value.formed, Tryd.underlying97, hc]), hm]
  unfold Program.keyLits
  simp only [Tryd.underlying97, Value.cells]
  rw [if_pos ⟨by rw [hc]; rfl, by kernel_rfl⟩]
  simp [Program.keyLits, Tryd.underlying3, hp, hu, hi]
theorem um_zero (w : World) : (zeroValue 3).run Tryd.prog w = .ok (.int .i64 0) w := by kernel_rfl
theorem wf64 {n : Int} (h0 : -9223372036854775808 ≤ n) (h1 : n ≤ 9223372036854775807) : (Lit.int .i64 n).wf = true := WalkArith.wf_i64 (by omega)
/-- block b is a map: f tells what stands at each player and unit. -/
def Um (w : World) (b n : Nat) (f : Int → Int → Int) : Prop := ∃ D : DataW Unit, w.ownsMap Tryd.prog 97 (plainElem Tryd.prog 3) b n D ∧ Maps.IsMap D ∧ ∀ p u kl, keyOf Tryd.prog 97 (.agg #[.int .i64 p, .int .i64 u]) = some kl → D.atKey kl (.lit (.int .i64 0)) = .lit (.int .i64 (f p u))
def updAt (f : Int → Int → Int) (p u v : Int) : Int → Int → Int := fun p' u' => if p' = p ∧ u' = u then v else f p' u'
theorem um_made (w : World) : Um (w.alloc (.map #[] 0)) w.heap.size 0 (fun _ _ => 0) :=
  ⟨.map [], World.ownsMap_made _ _ _ _, Maps.isMap_empty, fun p u kl _ => Maps.atKey_of_not_has rfl _⟩
theorem Um.lt {w : World} {b n : Nat} {f : Int → Int → Int} (h : Um w b n f) : b < w.heap.size := by
  obtain ⟨D, h1, -⟩ := h
  exact h1.lt
theorem Um.gb {w w' : World} {b n : Nat} {f : Int → Int → Int} {r : Option Nat} (h : Um w b n f) (g : w.grownBy w' r) (hr : some b ≠ r) : Um w' b n f := by
  obtain ⟨D, h1, h2⟩ := h
  exact ⟨D, h1.kept g hr, h2⟩
theorem Um.below {w w' : World} {b n : Nat} {f : Int → Int → Int} (h : Um w b n f) (g : Below w.heap.size w w') : Um w' b n f :=
  h.gb (r := none) ⟨g.os, g.tape, g.output, g.size, fun k hk _ => g.block k hk⟩ (by simp)
theorem Um.put {w : World} {b n : Nat} {f : Int → Int → Int} (h : Um w b n f) (hn : n < maxLen) {p u v : Int} (hp : (Lit.int .i64 p).wf = true) (hu : (Lit.int .i64 u).wf = true) (hv : (Lit.int .i64 v).wf = true) :
    ∃ w', (Instr.mapUpdate 94 (.map (some b)) (.agg #[.int .i64 p, .int .i64 u]) (.int .i64 v)).run Tryd.prog w = .ok () w' ∧ Um w' b (n + 1) (updAt f p u v) ∧ w.grownBy w' (some b) := by
  obtain ⟨D, h1, hD, h2⟩ := h
  obtain ⟨kl, hk⟩ := um_key hp hu
  obtain ⟨w', r, o, g⟩ := World.ownsMap.update h1 um_law Tryd.underlying94 hn hk (plainElem_int Tryd.underlying3 hv)
  refine ⟨w', r, ⟨_, o, hD.put _ _, fun p' u' kl' hk' => ?_⟩, g⟩
  unfold updAt
  by_cases e : kl' = kl
  · subst e
    have ei := um_law.inj hk hk'
    simp only [Value.agg.injEq, Array.mk.injEq, List.cons.injEq, Value.int.injEq, true_and, and_true] at ei
    rw [if_pos ⟨ei.1.symm, ei.2.symm⟩]
    exact Maps.atKey_put_same hD (um_law.key hk) _ _
  · rw [Maps.atKey_put_other e, if_neg, h2 p' u' kl' hk']
    rintro ⟨rfl, rfl⟩
    exact e (Option.some.inj (hk'.symm.trans hk))
theorem Um.look {w : World} {b n : Nat} {f : Int → Int → Int} (h : Um w b n f) {p u : Int} (hp : (Lit.int .i64 p).wf = true) (hu : (Lit.int .i64 u).wf = true) :
    (Instr.lookup 94 (.map (some b)) (.agg #[.int .i64 p, .int .i64 u]) false).run Tryd.prog w = .ok (.int .i64 (f p u)) w := by
  obtain ⟨D, h1, hD, h2⟩ := h
  obtain ⟨kl, hk⟩ := um_key hp hu
  obtain ⟨c, hr, hat, -⟩ := h1.lookup_int um_law Tryd.underlying94 Tryd.underlying3 (um_zero w) hk
  rw [h2 p u kl hk] at hat
  injection hat with e
  injection e with _ e
  rw [e]
  exact hr
end Go.Proofs.YtbomnicnoanjlaaDoor

namespace Go.Proofs.YtbomnicnoanjlaaDoor
namespace So
set_option linter.unusedVariables false
/-- where each unit's last order stands, among the first q. -/
def lf (l : List OrV) : Nat → Int → Int → Int
  | 0 => fun _ _ => 0
  | q + 1 => match l[q]? with
    | some o => if o.what = 3 then lf l q else updAt (lf l q) o.player o.unit (q : Nat)
    | none => lf l q
/-- those that count, of the first q, with their places. -/
def kp (l : List OrV) : Nat → List T
  | 0 => []
  | q + 1 => match l[q]? with
    | some o => if o.what = 3 ∨ lf l l.length o.player o.unit = (q : Nat) then kp l q ++ [(o, q)] else kp l q
    | none => kp l q
theorem lf_train {l : List OrV} {q : Nat} {o : OrV} (h : l[q]? = some o) (h3 : o.what = 3) : lf l (q + 1) = lf l q := by rw [lf]; simp only [h]; rw [if_pos h3]
theorem lf_other {l : List OrV} {q : Nat} {o : OrV} (h : l[q]? = some o) (h3 : ¬ o.what = 3) : lf l (q + 1) = updAt (lf l q) o.player o.unit (q : Nat) := by rw [lf]; simp only [h]; rw [if_neg h3]
theorem kp_yes {l : List OrV} {q : Nat} {o : OrV} (h : l[q]? = some o) (h3 : o.what = 3 ∨ lf l l.length o.player o.unit = (q : Nat)) : kp l (q + 1) = kp l q ++ [(o, q)] := by rw [kp]; simp only [h]; rw [if_pos h3]
theorem kp_no {l : List OrV} {q : Nat} {o : OrV} (h : l[q]? = some o) (h3 : ¬ (o.what = 3 ∨ lf l l.length o.player o.unit = (q : Nat))) : kp l (q + 1) = kp l q := by rw [kp]; simp only [h]; rw [if_neg h3]
theorem kp_mem {l : List OrV} : ∀ {q : Nat} {x : T}, x ∈ kp l q → x.2 < q ∧ l[x.2]? = some x.1 ∧ (x.1.what = 3 ∨ lf l l.length x.1.player x.1.unit = (x.2 : Nat))
  | 0, x, h => by simp [kp] at h
  | q + 1, x, h => by
    rw [kp] at h
    cases ho : l[q]? with
    | none =>
      simp only [ho] at h
      obtain ⟨h1, h2⟩ := kp_mem h
      exact ⟨by omega, h2⟩
    | some o =>
      simp only [ho] at h
      split at h
      · rename_i hc
        rcases List.mem_append.1 h with h | h
        · obtain ⟨h1, h2⟩ := kp_mem h
          exact ⟨by omega, h2⟩
        · simp at h
          subst h
          exact ⟨by simp, ho, hc⟩
      · obtain ⟨h1, h2⟩ := kp_mem h
        exact ⟨by omega, h2⟩
theorem kp_in {l : List OrV} {i : Nat} {o : OrV} (ho : l[i]? = some o) (hc : o.what = 3 ∨ lf l l.length o.player o.unit = (i : Nat)) : ∀ {q : Nat}, i < q → (o, i) ∈ kp l q
  | 0, h => by omega
  | q + 1, h => by
    by_cases e : i = q
    · subst e
      rw [kp_yes ho hc]
      simp
    · have ih := kp_in ho hc (q := q) (by omega)
      rw [kp]
      cases hq : l[q]? with
      | none => exact ih
      | some o' =>
        simp only
        split
        · exact List.mem_append_left _ ih
        · exact ih
theorem kp_tags {l : List OrV} : ∀ (q : Nat), (kp l q).Pairwise (fun x y => x.2 < y.2)
  | 0 => List.Pairwise.nil
  | q + 1 => by
    rw [kp]
    cases hq : l[q]? with
    | none => exact kp_tags q
    | some o =>
      simp only
      split
      · refine List.pairwise_append.2 ⟨kp_tags q, by simp, fun x hx y hy => ?_⟩
        simp at hy
        subst hy
        exact (kp_mem hx).1
      · exact kp_tags q
theorem kp_len {l : List OrV} : ∀ (q : Nat), (kp l q).length ≤ q
  | 0 => Nat.le_refl _
  | q + 1 => by
    rw [kp]
    have := kp_len (l := l) q
    cases hq : l[q]? with
    | none => simp only; omega
    | some o =>
      simp only
      split
      · simp; omega
      · omega
/-- the last order of a unit is told. -/
theorem lf_last {l : List OrV} {i : Nat} {o : OrV} (ho : l[i]? = some o) (h3 : ¬ o.what = 3) : ∀ {q : Nat}, i < q → (∀ k x, i < k → k < q → l[k]? = some x → x.what = 3 ∨ x.player ≠ o.player ∨ x.unit ≠ o.unit) → lf l q o.player o.unit = (i : Nat)
  | 0, h, _ => by omega
  | q + 1, h, hn => by
    by_cases e : i = q
    · subst e
      rw [lf_other ho h3]
      unfold updAt
      rw [if_pos ⟨rfl, rfl⟩]
    · have ih := lf_last ho h3 (q := q) (by omega) (fun k x h1 h2 hx => hn k x h1 (by omega) hx)
      rw [lf]
      cases hq : l[q]? with
      | none => exact ih
      | some x =>
        simp only
        split
        · exact ih
        · rename_i hx3
          unfold updAt
          rw [if_neg]
          · exact ih
          · rintro ⟨h1, h2⟩
            rcases hn q x (by omega) (by omega) hq with h | h | h
            · exact hx3 h
            · exact h h1.symm
            · exact h h2.symm
/-- of orders l, those that count. -/
def LastSays (l out : List OrV) : Prop := ∃ S : List T, S.Perm (kp l l.length) ∧ S.Pairwise lt ∧ out = S.map Prod.fst
theorem LastSays.one {l out out' : List OrV} (h : LastSays l out) (h' : LastSays l out') : out = out' := by
  obtain ⟨S, p, r, rfl⟩ := h
  obtain ⟨S', p', r', rfl⟩ := h'
  rw [rise_unique (p.trans p'.symm) r r']
theorem LastSays.len {l out : List OrV} (h : LastSays l out) : out.length ≤ l.length := by
  obtain ⟨S, p, r, rfl⟩ := h
  have := kp_len (l := l) l.length
  rw [List.length_map, p.length_eq]
  exact this
theorem LastSays.mem {l out : List OrV} (h : LastSays l out) {o : OrV} (ho : o ∈ out) : o ∈ l := by
  obtain ⟨S, p, r, rfl⟩ := h
  obtain ⟨x, hx, rfl⟩ := List.mem_map.1 ho
  exact List.mem_of_getElem? (kp_mem (p.mem_iff.1 hx)).2.1
end So
end Go.Proofs.YtbomnicnoanjlaaDoor

namespace Go.Proofs.YtbomnicnoanjlaaDoor.Tx

/-- a text at each byte c. -/
def cut (c : UInt8) : List UInt8 → List (List UInt8)
  | [] => [[]]
  | b :: r => if b = c then [] :: cut c r else match cut c r with
    | [] => [[b]]
    | w :: ws => (b :: w) :: ws
/-- and back. -/
def join (c : UInt8) : List (List UInt8) → List UInt8
  | [] => []
  | [w] => w
  | w :: v :: ws => w ++ c :: join c (v :: ws)

theorem cut_ne (c : UInt8) (l : List UInt8) : cut c l ≠ [] := by
  cases l with
  | nil => simp [cut]
  | cons b r =>
    unfold cut
    split
    · simp
    · split <;> simp
theorem join_cons {c : UInt8} {w : List UInt8} {ws : List (List UInt8)} (h : ws ≠ []) : join c (w :: ws) = w ++ c :: join c ws := by
  cases ws with
  | nil => exact absurd rfl h
  | cons v ws => rfl
theorem join_cut (c : UInt8) (l : List UInt8) : join c (cut c l) = l := by
  induction l with
  | nil => rfl
  | cons b r ih =>
    unfold cut
    split
    · rename_i h
      rw [join_cons (cut_ne c r), ih, h]
      rfl
    · cases hw : cut c r with
      | nil => exact absurd hw (cut_ne c r)
      | cons w ws =>
        rw [hw] at ih
        cases ws with
        | nil => rw [← ih]; rfl
        | cons v ws => rw [← ih]; rfl
/-- no word has the byte. -/
theorem cut_free (c : UInt8) (l : List UInt8) : ∀ w ∈ cut c l, c ∉ w := by
  induction l with
  | nil => intro w hw; simp [cut] at hw; subst hw; simp
  | cons b r ih =>
    intro w hw
    unfold cut at hw
    split at hw
    · rcases List.mem_cons.1 hw with rfl | hw
      · simp
      · exact ih w hw
    · rename_i hb
      cases hc : cut c r with
      | nil => exact absurd hc (cut_ne c r)
      | cons v vs =>
        rw [hc] at hw ih
        rcases List.mem_cons.1 hw with rfl | hw
        · intro h
          rcases List.mem_cons.1 h with h | h
          · exact hb h.symm
          · exact ih v (List.mem_cons_self ..) h
        · exact ih w (List.mem_cons_of_mem _ hw)
theorem cut_cons {c b : UInt8} {r w : List UInt8} {ws : List (List UInt8)} (h : b ≠ c) (hr : cut c r = w :: ws) : cut c (b :: r) = (b :: w) :: ws := by
  rw [cut, if_neg h, hr]
theorem cut_word {c : UInt8} {w : List UInt8} (h : c ∉ w) : cut c w = [w] := by
  induction w with
  | nil => rfl
  | cons b w ih =>
    rw [List.mem_cons, not_or] at h
    unfold cut
    rw [if_neg (fun e => h.1 e.symm), ih h.2]
theorem cut_app {c : UInt8} {w : List UInt8} (h : c ∉ w) (r : List UInt8) : cut c (w ++ c :: r) = w :: cut c r := by
  induction w with
  | nil => simp [cut]
  | cons b w ih =>
    rw [List.mem_cons, not_or] at h
    rw [List.cons_append, cut_cons (fun e => h.1 e.symm) (ih h.2)]
theorem cut_join {c : UInt8} : ∀ {ws : List (List UInt8)}, ws ≠ [] → (∀ w ∈ ws, c ∉ w) → cut c (join c ws) = ws
  | [], h, _ => absurd rfl h
  | [w], _, h => cut_word (h w (List.mem_cons_self ..))
  | w :: v :: ws, _, h => by
    rw [join_cons (by simp), cut_app (h w (List.mem_cons_self ..)), cut_join (by simp) (fun x hx => h x (List.mem_cons_of_mem _ hx))]

/-- a digit. -/
def isDig (b : UInt8) : Bool := decide (48 ≤ b.toNat) && decide (b.toNat ≤ 57)
/-- the digits of a number. -/
def dig (n : Nat) : List UInt8 := if n < 10 then [(48 + n).toUInt8] else dig (n / 10) ++ [(48 + n % 10).toUInt8]
termination_by n
/-- the number of some digits. -/
def val (l : List UInt8) : Nat := l.foldl (fun n b => n * 10 + (b.toNat - 48)) 0
/-- a whole number of at most so many digits, without a needless 0. -/
def whole (most : Nat) (l : List UInt8) : Option Nat := if l = [] ∨ most < l.length ∨ (l.head? = some 48 ∧ 1 < l.length) then none else if l.all isDig then some (val l) else none

theorem dig_small {n : Nat} (h : n < 10) : dig n = [(48 + n).toUInt8] := by rw [dig, if_pos h]
theorem dig_big {n : Nat} (h : ¬ n < 10) : dig n = dig (n / 10) ++ [(48 + n % 10).toUInt8] := by rw [dig, if_neg h]
theorem sign_nat {d : Nat} (h : d < 10) : ((48 + d).toUInt8).toNat = 48 + d := by
  show (48 + d) % 256 = 48 + d
  omega
theorem val_snoc (l : List UInt8) (b : UInt8) : val (l ++ [b]) = val l * 10 + (b.toNat - 48) := by
  unfold val
  rw [List.foldl_append]
  rfl
theorem dig_ne (n : Nat) : dig n ≠ [] := by
  rw [dig]
  split <;> simp
theorem dig_all (n : Nat) : (dig n).all isDig = true := by
  induction n using Nat.strongRecOn with
  | ind n ih =>
    by_cases h : n < 10
    · rw [dig_small h]
      simp [isDig]
      omega
    · rw [dig_big h, List.all_append, ih (n / 10) (by omega)]
      simp [isDig]
      omega
theorem val_dig (n : Nat) : val (dig n) = n := by
  induction n using Nat.strongRecOn with
  | ind n ih =>
    by_cases h : n < 10
    · rw [dig_small h]
      show 0 * 10 + (((48 + n).toUInt8).toNat - 48) = n
      rw [sign_nat h]
      omega
    · rw [dig_big h, val_snoc, ih (n / 10) (by omega), sign_nat (show n % 10 < 10 by omega)]
      omega
theorem dig_head (n : Nat) : (dig n).head? = some 48 → n = 0 := by
  induction n using Nat.strongRecOn with
  | ind n ih =>
    intro h
    by_cases hn : n < 10
    · rw [dig_small hn] at h
      simp only [List.head?_cons, Option.some.injEq] at h
      have h2 : ((48 + n).toUInt8).toNat = 48 := by rw [h]; rfl
      rw [sign_nat hn] at h2
      omega
    · rw [dig_big hn] at h
      cases hd : dig (n / 10) with
      | nil => exact absurd hd (dig_ne _)
      | cons b r =>
        rw [hd] at h
        have := ih (n / 10) (by omega) (by rw [hd]; simpa using h)
        omega
theorem dig_len {n : Nat} : ∀ {k : Nat}, 0 < k → n < 10 ^ k → (dig n).length ≤ k := by
  induction n using Nat.strongRecOn with
  | ind n ih =>
    intro k hk h
    by_cases hn : n < 10
    · rw [dig_small hn]
      simp
      omega
    · rw [dig_big hn, List.length_append]
      cases k with
      | zero => omega
      | succ k =>
        have hk0 : 0 < k := by
          rcases Nat.eq_zero_or_pos k with rfl | hp
          · simp at h; omega
          · exact hp
        have h2 : n / 10 < 10 ^ k := by
          rw [Nat.pow_succ] at h
          omega
        have := ih (n / 10) (by omega) hk0 h2
        simp
        omega
theorem whole_dig {n most : Nat} (h0 : 0 < most) (h : n < 10 ^ most) : whole most (dig n) = some n := by
  unfold whole
  rw [if_neg, if_pos (dig_all n), val_dig]
  rintro (h1 | h1 | ⟨h1, h2⟩)
  · exact dig_ne n h1
  · have := dig_len h0 h
    omega
  · have := dig_head n h1
    subst this
    rw [dig_small (by decide)] at h2
    simp at h2
theorem dig_val : ∀ (k : Nat) (l : List UInt8), l.length = k → l ≠ [] → ¬ (l.head? = some 48 ∧ 1 < l.length) → l.all isDig = true → dig (val l) = l := by
  intro k
  induction k with
  | zero => intro l h1 h2; exact absurd (List.length_eq_zero_iff.1 h1) h2
  | succ k ih =>
    intro l hl hne hz hd
    obtain ⟨r, b, rfl⟩ : ∃ r b, l = r ++ [b] := ⟨l.dropLast, l.getLast hne, (List.dropLast_concat_getLast hne).symm⟩
    have hb : isDig b = true := by
      rw [List.all_append] at hd
      simp at hd
      exact hd.2
    have hbn : 48 ≤ b.toNat ∧ b.toNat ≤ 57 := by
      unfold isDig at hb
      simpa using hb
    have back : ((48 + (b.toNat - 48)).toUInt8) = b := by
      rw [show 48 + (b.toNat - 48) = b.toNat by omega]
      simp
    rw [val_snoc]
    by_cases hr : r = []
    · subst hr
      rw [show val [] = 0 from rfl, Nat.zero_mul, Nat.zero_add, dig_small (by omega), back]
      rfl
    · have hrd : r.all isDig = true := by
        rw [List.all_append] at hd
        simp at hd
        rw [List.all_eq_true]
        exact hd.1
      have hrl : r.length = k := by simpa using hl
      have hhead : (r ++ [b]).head? = r.head? := by
        cases r with
        | nil => exact absurd rfl hr
        | cons a r => rfl
      have hr0 : 0 < r.length := List.length_pos_iff.2 hr
      have hz' : ¬ r.head? = some 48 := fun h => hz ⟨by rw [hhead]; exact h, by simp; omega⟩
      have hi := ih r hrl hr (fun h => hz' h.1) hrd
      have hv : val r ≠ 0 := by
        intro h
        rw [h, dig_small (by decide)] at hi
        rw [← hi] at hz'
        exact hz' rfl
      have e : (val r * 10 + (b.toNat - 48)) / 10 = val r := by omega
      have e2 : (val r * 10 + (b.toNat - 48)) % 10 = b.toNat - 48 := by omega
      rw [dig_big (by omega), e, e2, hi, back]
theorem dig_whole {most n : Nat} {l : List UInt8} (h : whole most l = some n) : dig n = l := by
  unfold whole at h
  split at h
  · cases h
  · rename_i hc
    rw [not_or, not_or] at hc
    split at h
    · rename_i hd
      injection h with h
      rw [← h]
      exact dig_val l.length l rfl hc.1 hc.2.2 hd
    · cases h
theorem whole_lt {most n : Nat} {l : List UInt8} (h : whole most l = some n) : l.length ≤ most := by
  unfold whole at h
  split at h
  · cases h
  · rename_i hc
    rw [not_or, not_or] at hc
    omega
theorem whole_ne {most n : Nat} {l : List UInt8} (h : whole most l = some n) : l ≠ [] := by
  rintro rfl
  simp [whole] at h
/-- digits are no blank and no end of a line. -/
theorem dig_free (n : Nat) (c : UInt8) (h : c.toNat < 48) : c ∉ dig n := by
  intro hm
  have := List.all_eq_true.1 (dig_all n) c hm
  unfold isDig at this
  simp at this
  omega
end Go.Proofs.YtbomnicnoanjlaaDoor.Tx

