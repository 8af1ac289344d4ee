/- What stays where some blocks turn; two blocks of two types. · What stays where one block turns, or a list of one's own grows. · What stays where some blocks turn: a world in a block. · A block of integers that may be written. · A list of integers of its own, as a block. · Slices of api.Event that the call itself makes, by append. · A region that draws its order, in which calls that change memory stand in one order, and what else there is reads what they leave: it may be walked in an order of one's own. · A region that draws its order: what reads, and calls in one order, first, in an order of one's own; then what turns what was read, each the only one that may come. · works.take. · works.take. · slices.Index and Contains, of integers. · slices.IndexFunc of units, the function only of what is in the list. · slices.ContainsFunc of units, the function only of what is in the list, and it may make memory. · works.isHome: its function. · Lines of cells: plain mathematics. · Fields: the place of a cell. · field.Step where no cell is asked for. -/
import Derived.Test.YteieikgkmfglaaaGreatDoorZWorksDo1
import Derived.OwnWalk
import Derived.Test.YteieikgkmfglaaaGreatDoorZWorksDo3
import Derived.Deep.AppendLies
import Derived.StillTail
import Derived.Below
import Derived.Test.YteieikgkmfglaaaGreatDoorZWorksDo2
import Derived.Deep.DeepCutAuto
namespace Go.Proofs.YteieikgkmfglaaaGreatDoor
open Go.RowKit
set_option linter.unusedVariables false
/-- nothing below has turned but the blocks of S. -/
structure Fr (S : Nat → Prop) (w w' : World) : Prop where
 os : w'.os = w.os
 tape : w'.tape = w.tape
 output : w'.output = w.output
 size : w.heap.size ≤ w'.heap.size
 block : ∀ k, k < w.heap.size → ¬ S k → w'.heap[k]? = w.heap[k]?
theorem Fr.below {S : Nat → Prop} {w w' : World} (h : Below w.heap.size w w') : Fr S w w' := ⟨h.os, h.tape, h.output, h.size, fun k hk _ => h.block k hk⟩
theorem Fr.kp {S : Nat → Prop} {w w' : World} {z : Nat} (h : Kp z w w') (hz : S z) : Fr S w w' := ⟨h.os, h.tape, h.output, h.size, fun k hk hn => h.block k hk (fun e => hn (e ▸ hz))⟩
theorem Fr.gb {S : Nat → Prop} {w w' : World} {r : Option Nat} (h : w.grownBy w' r) (hr : ∀ k, r = some k → S k) : Fr S w w' := ⟨h.os, h.tape, h.output, h.size, fun k hk hn => h.block k hk (fun e => hn (hr k e.symm))⟩
theorem Fr.trans {S : Nat → Prop} {a b c : World} (h : Fr S a b) (k : Fr S b c) : Fr S a c :=
 ⟨k.os.trans h.os, k.tape.trans h.tape, k.output.trans h.output, Nat.le_trans h.size k.size, fun i hi hn => (k.block i (Nat.lt_of_lt_of_le hi h.size) hn).trans (h.block i hi hn)⟩
theorem Fr.mono {S T : Nat → Prop} {a b : World} (h : Fr S a b) (hs : ∀ k, S k → T k) : Fr T a b := ⟨h.os, h.tape, h.output, h.size, fun k hk hn => h.block k hk (fun e => hn (hs k e))⟩
theorem Fr.low {S : Nat → Prop} {w w' : World} {n : Nat} (h : Fr S w w') (hn : n ≤ w.heap.size) (hs : ∀ k, S k → n ≤ k) : Below n w w' := ⟨h.os, h.tape, h.output, h.size, fun k hk => h.block k (by omega) (fun e => by have := hs k e; omega)⟩
theorem Fr.own {S : Nat → Prop} {w w' : World} {base : Nat} {T : TypeId} {size : Nat} {u : Value} {n : Nat} {cs : List Value} (f : Fr S w w') (h : w.ownsRow base T size u n cs) (hn : ∀ b, u.ownBlock = some b → ¬ S b) : w'.ownsRow base T size u n cs := by
 refine ⟨h.1, ?_⟩
 rcases h.2 with h1 | ⟨g, cap, cur, h1, h2, h3, h4⟩
 ·exact .inl h1
 ·exact .inr ⟨g, cap, cur, h1, h2, (f.block g (lt_of_block h3) (hn g (by rw [h1]; rfl))).trans h3, h4⟩
theorem Fr.cell {S : Nat → Prop} {w w' : World} {p : Addr} {u : Value} (f : Fr S w w') (h : w.cell? p = some u) (hn : ¬ S p.block) : w'.cell? p = some u := by
 have hl := cell_lt h
 have e := f.block p.block hl hn
 unfold World.cell? at h ⊢
 rw [e]
 exact h
theorem own_two {w : World} {b1 b2 : Nat} {T S : TypeId} {s1 s2 : Nat} {u v : Value} {n m : Nat} {cs ds : List Value} (h : w.ownsRow b1 T s1 u n cs) (k : w.ownsRow b2 S s2 v m ds) (hT : T ≠ S) : ∀ b, u.ownBlock = some b → ¬ v.ownBlock = some b := by
 intro b hb hv
 rcases h.2 with ⟨h1, -⟩ | ⟨g, cap, cur, h1, -, h3, -⟩
 ·rw [h1] at hb; cases hb
 ·rcases k.2 with ⟨k1, -⟩ | ⟨g', cap', cur', k1, -, k3, -⟩
  ·rw [k1] at hv; cases hv
  ·rw [h1] at hb
   rw [k1] at hv
   simp [Value.ownBlock] at hb hv
   subst hb
   subst hv
   rw [h3] at k3
   injection k3 with k3
   injection k3 with _ k4
   exact hT k4
end Go.Proofs.YteieikgkmfglaaaGreatDoor
namespace Go.Proofs.YteieikgkmfglaaaGreatDoor
open Go.RowKit
set_option linter.unusedVariables false
theorem gb_kp {a b : World} {z : Nat} (h : Kp z a b) : a.grownBy b (some z) := ⟨h.os, h.tape, h.output, h.size, fun k hk hn => h.block k hk (fun e => hn (by rw [e]))⟩
theorem cell_kp9 {w w' : World} {z : Nat} {p : Addr} {u : Value} (h : w.cell? p = some u) (k : Kp z w w') (hz : p.block ≠ z) : w'.cell? p = some u := by
 rw [World.cell?_of_block (k.block p.block (cell_lt h) hz)]; exact h
theorem Bw.kp9 {w w' : World} {z y : Nat} {W : WV} {u1 u2 u3 u4 u5 : Value} (h : Bw w z W u1 u2 u3 u4 u5) (k : Kp y w w') (hn : z ≠ y) : Bw w' z W u1 u2 u3 u4 u5 :=
 ⟨cell_kp9 h.c0 k hn, cell_kp9 h.c1 k hn, cell_kp9 h.c2 k hn, cell_kp9 h.c3 k hn, cell_kp9 h.c4 k hn, cell_kp9 h.c5 k hn, cell_kp9 h.c6 k hn, cell_kp9 h.c7 k hn, cell_kp9 h.c8 k hn⟩
theorem Unc.kp9 {w w' : World} {z : Nat} {y : Addr} {u : UnV} (h : Unc w y u) (k : Kp z w w') (hn : y.block ≠ z) : Unc w' y u :=
 ⟨cell_kp9 h.c0 k hn, cell_kp9 h.c1 k hn, cell_kp9 h.c2 k hn, cell_kp9 h.c3 k hn, cell_kp9 h.c4 k hn, cell_kp9 h.c5 k hn, cell_kp9 h.c6 k hn, cell_kp9 h.c7 k hn⟩
theorem own_gb {w w' : World} {base : Nat} {T : TypeId} {size : Nat} {u : Value} {n : Nat} {cs : List Value} {r : Option Nat} (h : w.ownsRow base T size u n cs) (k : w.grownBy w' r) (hz : ∀ b, u.ownBlock = some b → r ≠ some b) : w'.ownsRow base T size u n cs := by
 refine ⟨h.1, ?_⟩
 rcases h.2 with h1 | ⟨g, cap, cur, h1, h2, h3, h4⟩
 ·exact .inl h1
 ·exact .inr ⟨g, cap, cur, h1, h2, (k.block g (lt_of_block h3) (fun e => hz g (by rw [h1]; rfl) e.symm)).trans h3, h4⟩
end Go.Proofs.YteieikgkmfglaaaGreatDoor
namespace Go.Proofs.YteieikgkmfglaaaGreatDoor
open Go.RowKit
set_option linter.unusedVariables false
theorem Fr.wx {S : Nat → Prop} {w w' : World} {z : Nat} {c0 c1 c2 c3 c4 c5 c6 c7 c8 : Value} (f : Fr S w w') (h : Wx w z c0 c1 c2 c3 c4 c5 c6 c7 c8) (hn : ¬ S z) : Wx w' z c0 c1 c2 c3 c4 c5 c6 c7 c8 := (f.block z h.lt hn).trans h
end Go.Proofs.YteieikgkmfglaaaGreatDoor
namespace Go.Proofs.YteieikgkmfglaaaGreatDoor
open Go.RowKit
def intCells (ds : List Int) : List Value := ds.map fun d => .int .i64 d
/-- block b holds the integers ds, and some cells behind. -/
def Bk (w : World) (b : Nat) (ds : List Int) (r : Array Value) : Prop := w.heap[b]? = some (.cells ((intCells ds).toArray ++ r) 3 (0, 0))
theorem Bk.cell {w : World} {b : Nat} {ds : List Int} {r : Array Value} (h : Bk w b ds r) {i : Nat} {d : Int} (hd : ds[i]? = some d) : w.cell? ⟨b, i, none⟩ = some (.int .i64 d) := by
 have hi : i < ds.length := (List.getElem?_eq_some_iff.1 hd).1
 unfold Bk at h
 simp only [World.cell?, h]
 simp [intCells, Array.getElem?_append, hi]
 exact (List.getElem?_eq_some_iff.1 hd).2
theorem Bk.thaw {w : World} {b : Nat} {ds : List Int} {r : Array Value} (h : Bk w b ds r) (i : Nat) : w.frozen? ⟨b, i, none⟩ = false := by
 unfold Bk at h
 simp [World.frozen?, h]
theorem Bk.set {w : World} {b : Nat} {ds : List Int} {r : Array Value} (h : Bk w b ds r) (i : Nat) (d : Int) (hi : i < ds.length) : Bk (w.setCell ⟨b, i, none⟩ (.int .i64 d)) b (ds.set i d) r := by
 unfold Bk at *
 rw [heap_setCell_same w b i _ _ _ h]
 have e : (intCells (ds.set i d)).toArray = (intCells ds).toArray.setIfInBounds i (.int .i64 d) := by
  simp [intCells, List.map_set]
 rw [e]
 have hl : i < (intCells ds).toArray.size := by simpa [intCells] using hi
 rw [Array.setIfInBounds_append_left hl]
theorem Bk.below {w w' : World} {b : Nat} {ds : List Int} {r : Array Value} (h : Bk w b ds r) (hb : Below w.heap.size w w') : Bk w' b ds r := by
 unfold Bk at *
 rw [hb.block b (lt_of_block h)]; exact h
theorem Bk.lt {w : World} {b : Nat} {ds : List Int} {r : Array Value} (h : Bk w b ds r) : b < w.heap.size := lt_of_block h
/-- another cell, another block. -/
theorem Bk.other {w : World} {b : Nat} {ds : List Int} {r : Array Value} (h : Bk w b ds r) {g : Nat} (hne : b ≠ g) (i : Nat) (u : Value) : Bk (w.setCell ⟨g, i, none⟩ u) b ds r := by
 unfold Bk at *
 rw [Below.heap_setCell _ _ _ _ hne]; exact h
theorem Bk.low {w w' : World} {b B : Nat} {ds : List Int} {r : Array Value} (h : Bk w b ds r) (hb : Below B w w') (hB : b < B) : Bk w' b ds r := by
 unfold Bk at *
 rw [hb.block b hB]; exact h
end Go.Proofs.YteieikgkmfglaaaGreatDoor
namespace Go.Proofs.YteieikgkmfglaaaGreatDoor
open Go.RowKit
set_option linter.unusedVariables false
theorem Ow.bk {w : World} {base : Nat} {v : Value} {xs : List Int} (h : Ow w base v xs) : (v = .slice none 0 0 ∧ xs = []) ∨ ∃ g cap rest, v = .slice (some ⟨g, 0, none⟩) xs.length cap ∧ base ≤ g ∧ xs.length ≤ cap ∧ cap ≤ maxLen ∧ xs.length + rest.size = cap ∧ Bk w g xs rest := by
 rcases h.2 with ⟨h1, h2⟩ | ⟨g, cap, cur, h1, h2, h3, h4, h5, h6, h7⟩
 ·exact .inl ⟨h1, List.length_eq_zero_iff.1 h2⟩
 ·have e6 : cur.toList.length = cap := by simpa using h6
  refine .inr ⟨g, cap, (cur.toList.drop xs.length).toArray, h1, h2, h4, h5, ?_, ?_⟩
  ·simp only [List.size_toArray, List.length_drop, e6]; omega
  ·have e : cur = (intCells xs).toArray ++ (cur.toList.drop xs.length).toArray := by
    apply Array.ext'
    rw [Nat.mul_one] at h7
    have h8 : cur.toList.take xs.length = intCells xs := h7
    rw [Array.toList_append]
    show cur.toList = intCells xs ++ cur.toList.drop xs.length
    rw [← h8, List.take_append_drop]
   unfold Bk
   rw [h3, ← e]
theorem Bk.ow {w : World} {base g cap : Nat} {xs : List Int} {rest : Array Value} (h : Bk w g xs rest) (hb : base ≤ g) (h1 : xs.length ≤ cap) (h2 : cap ≤ maxLen) (h3 : xs.length + rest.size = cap) : Ow w base (.slice (some ⟨g, 0, none⟩) xs.length cap) xs := by
 refine ⟨by simp, .inr ⟨g, cap, _, rfl, hb, h, h1, h2, ?_, ?_⟩⟩
 ·simp [intCells]; omega
 ·simp [intCells]
end Go.Proofs.YteieikgkmfglaaaGreatDoor
namespace Go.Proofs.YteieikgkmfglaaaGreatDoor
open Go.RowKit
set_option linter.unusedVariables false
theorem info_ev : (Tryz.prog.info? 73).map (fun i => (i.zero, i.size, i.bytes)) = some (some (.agg #[.int .i64 0, .int .i64 0, .int .i64 0]), 3, 24) := by kernel_rfl
def EvV.cs (k : EvV) : List Value := [.int .i64 k.what, .int .i64 k.unit, .int .i64 k.arg]
theorem flat_ev : ∀ (ks : List EvV) (i j : Nat) (k : EvV), ks[i]? = some k → j < 3 → (ks.flatMap EvV.cs)[i * 3 + j]? = k.cs[j]?
 | [], i, j, k, h, _ => by simp at h
 | x :: ks, 0, j, k, h, hj => by
  simp at h
  subst h
  rw [List.flatMap_cons, List.getElem?_append_left (by simp [EvV.cs]; omega)]
  simp
 | x :: ks, i + 1, j, k, h, hj => by
  rw [List.flatMap_cons, List.getElem?_append_right (by simp [EvV.cs]; omega)]
  have : (i + 1) * 3 + j - (EvV.cs x).length = i * 3 + j := by simp [EvV.cs]; omega
  rw [this]
  exact flat_ev ks i j k (by simpa using h) hj
/-- v is a slice of them, in a block of its own from base on. -/
def Evo (w : World) (base : Nat) (v : Value) (ks : List EvV) : Prop := w.ownsRow base 73 3 v ks.length (ks.flatMap EvV.cs)
theorem Evo.nil (w : World) (base : Nat) : Evo w base (.slice none 0 0) [] := World.ownsRow_nil _ _ _ _
theorem Evo.below {w w' : World} {base : Nat} {v : Value} {ks : List EvV} (h : Evo w base v ks) (hb : Below w.heap.size w w') : Evo w' base v ks :=
 World.ownsRow.kept h (row := none) ⟨hb.os, hb.tape, hb.output, hb.size, fun k hk _ => hb.block k hk⟩ (by cases v.ownBlock <;> simp)
theorem Evo.alloc {w : World} {base : Nat} {v : Value} {ks : List EvV} (h : Evo w base v ks) (o : Obj) : Evo (w.alloc o) base v ks := World.ownsRow.alloc h o
theorem Evo.block {w : World} {base : Nat} {v : Value} {ks : List EvV} (h : Evo w base v ks) : ∀ k, v.ownBlock = some k → base ≤ k ∧ k < w.heap.size := World.ownsRow.lt h
theorem Evo.mono {w : World} {base base' : Nat} {v : Value} {ks : List EvV} (h : Evo w base v ks) (hb : base' ≤ base) : Evo w base' v ks := by
 refine ⟨h.1, ?_⟩
 rcases h.2 with h1 | ⟨g, cap, cur, h1, h2, h3⟩
 ·exact .inl h1
 ·exact .inr ⟨g, cap, cur, h1, Nat.le_trans hb h2, h3⟩
theorem Evo.l {w : World} {base : Nat} {v : Value} {ks : List EvV} (h : Evo w base v ks) : Evl w v ks := by
 rcases h.2 with ⟨hv, h0⟩ | ⟨g, cap, cur, hv, hb, hg, h1, h2, h3, h4⟩
 ·exact ⟨none, 0, by rw [hv, h0], by omega, by omega, fun hn => absurd (List.length_eq_zero_iff.1 h0) hn⟩
 ·refine ⟨_, cap, hv, h1, by unfold maxLen at h2; omega, fun _ => ⟨_, rfl, lt_of_block hg, fun i k hi => ?_⟩⟩
  have hil : i < ks.length := (List.getElem?_eq_some_iff.1 hi).1
  have h5 : w.ownsRow base 73 3 (.slice (some ⟨g, 0, none⟩) ks.length cap) ks.length (ks.flatMap EvV.cs) := by rw [← hv]; exact h
  have hc : ∀ j u, j < 3 → k.cs[j]? = some u → w.cell? ⟨g, i * 3 + j, none⟩ = some u := fun j u hj hu => by
   rw [h5.cellAt (i * 3 + j) (by omega), flat_ev ks i j k hi hj, hu]
  rw [Addr.add_lit, Nat.zero_add]
  exact ⟨hc 0 _ (by decide) rfl, hc 1 _ (by decide) rfl, hc 2 _ (by decide) rfl⟩
theorem Evo.len {w : World} {base : Nat} {v : Value} {ks : List EvV} (h : Evo w base v ks) : ∃ a c, v = .slice a ks.length c := by
 obtain ⟨a, c, h1, -⟩ := h.l
 exact ⟨a, c, h1⟩
/-- one more. -/
theorem app_ev {ops : Array Oper} {rest : List Oper} {o : Oper} {a : Act} {Q : Exit → Act → World → Prop} (w : World) (hgd : o.guard = none) (s x : Operand)
  (ho : o.op = .call { callee := .builtin .append, args := #[s, x], argTypes := #[31, 31] }) (base : Nat) (v : Value) (ks : List EvV) (hs : a.eval s = v) (hown : Evo w base v ks)
  (b : Nat) (d : EvV) (hx : a.eval x = .slice (some ⟨b, 0, none⟩) 1 1) (hd : Evc w ⟨b, 0, none⟩ d) (hl : ks.length ≤ 1000000) (hbase : base ≤ w.heap.size)
  (h : ∀ g cap w', Evo w' base (.slice (some ⟨g, 0, none⟩) (ks.length + 1) cap) (ks ++ [d]) → w.grownBy w' v.ownBlock → (v.ownBlock = some g ∨ g = w.heap.size) → g < w'.heap.size → wpList Tryz.prog ops Q rest (a.put o.dst (.slice (some ⟨g, 0, none⟩) (ks.length + 1) cap)) w') :
  wpList Tryz.prog ops Q (o :: rest) a w := by
 obtain ⟨i0, hi, hz0, hz1, hz2⟩ := info_parts info_ev
 refine wpList_append_lies w hgd s x 31 ho base 73 i0 (.agg #[.int .i64 0, .int .i64 0, .int .i64 0]) 3 24 Tryz.underlying31 hi hz0 hz1 hz2 rfl (by decide) v ks.length _ hs hown ⟨b, 0, none⟩ 1 1 d.cs hx rfl ?_ ?_ (by decide) (by unfold maxLen; omega) (by omega) hbase _ rfl ?_
 ·intro j u hj
  have hjn : j < 3 := (List.getElem?_eq_some_iff.1 hj).1
  rw [Addr.add_lit, Nat.zero_add]
  match j, hjn, hj with
  | 0, _, hj => simp [EvV.cs] at hj; subst hj; exact hd.c0
  | 1, _, hj => simp [EvV.cs] at hj; subst hj; exact hd.c1
  | 2, _, hj => simp [EvV.cs] at hj; subst hj; exact hd.c2
 ·intro u hu
  simp [EvV.cs] at hu
  rcases hu with rfl | rfl | rfl <;> rfl
 ·intro g cap w' h1 h2 h3 h4
  refine h g cap w' ?_ h2 h3 h4
  unfold Evo
  rw [List.length_append, List.flatMap_append]
  simpa using h1
end Go.Proofs.YteieikgkmfglaaaGreatDoor
namespace Go.Proofs.YteieikgkmfglaaaGreatDoor
open Go Go.RowKit
set_option linter.unusedVariables false
section
variable {P : Program} {ops : Array Oper} {md : Region.Mode} {C : World → Prop} {Q : Exit → Act → World → Prop}
/-- the operation gives v in each of the worlds C, and turns nothing. -/
def YieldsS (P : Program) (ops : Array Oper) (C : World → Prop) (o : Oper) (v : Value) (a : Act) : Prop :=
 Region.wanted o (yielded ops a.tmps) = true ∧ ∀ W, C W → (execOp a.eval o).run P W = .ok (.value v) W
/-- the operation goes on, to a world of C. -/
def StepS (P : Program) (ops : Array Oper) (C : World → Prop) (o : Oper) (K : Act → World → Prop) (a : Act) (W : World) : Prop :=
  Region.wanted o (yielded ops a.tmps) = true ∧
   ((∃ v W', (execOp a.eval o).run P W = .ok (.value v) W' ∧ C W' ∧ K (a.put o.dst v) W') ∨ (∃ W', (execOp a.eval o).run P W = .ok .skip W' ∧ C W' ∧ K (a.put o.dst undef) W') ∨
    ∃ f args, (execOp a.eval o).run P W = .ok (.enter f args) W ∧ Calls P f args W (fun e w' => ∃ v, e = .returned v ∧ C w' ∧ K (a.put o.dst v) w'))
theorem StepS.mono {o : Oper} {K K' : Act → World → Prop} {a : Act} {W : World} (h : ∀ a W, C W → K a W → K' a W) (hh : StepS P ops C o K a W) : StepS P ops C o K' a W := by
 obtain ⟨h1, h2⟩ := hh
 refine ⟨h1, ?_⟩
 rcases h2 with ⟨v, W', e, hc, hk⟩ | ⟨W', e, hc, hk⟩ | ⟨f, args, e, hc⟩
 ·exact .inl ⟨v, W', e, hc, h _ _ hc hk⟩
 ·exact .inr (.inl ⟨W', e, hc, h _ _ hc hk⟩)
 ·exact .inr (.inr ⟨f, args, e, hc.mono fun e w' ⟨v, he, hw, hk⟩ => ⟨v, he, hw, h _ _ hw hk⟩⟩)
theorem YieldsS.step {o : Oper} {v : Value} {K : Act → World → Prop} {a : Act} {W : World} (hy : YieldsS P ops C o v a) (hC : C W) (h : K (a.put o.dst v) W) : StepS P ops C o K a W :=
 ⟨hy.1, .inl ⟨v, W, hy.2 W hC, hC, h⟩⟩
theorem StepS.put {oi oj : Oper} {v : Value} (hap : oi.apart ops oj = true)
  (hsi : ∀ cs b, oi.op ≠ .select cs b) (hsj : ∀ cs b, oj.op ≠ .select cs b) {K : Act → World → Prop} {a : Act} {W : World}
  (hy : YieldsS P ops C oi v a) (h : StepS P ops C oj K (a.put oi.dst v) W) :
  StepS P ops C oj (fun a' w' => YieldsS P ops C oi v a' ∧ K (a'.put oi.dst v) w') a W := by
 obtain ⟨h1, h2, h3⟩ := Oper.apart_spec hap
 have keep : ∀ u, YieldsS P ops C oi v (a.put oj.dst u) := fun u => by
  unfold YieldsS at *
  rw [execOp_put oi hsi a oj.dst u h3, wanted_put oi a oj.dst u h3]
  exact hy
 unfold StepS at *
 rw [wanted_put oj a oi.dst v h1, execOp_put oj hsj a oi.dst v h1] at h
 obtain ⟨hw, h⟩ := h
 refine ⟨hw, ?_⟩
 rcases h with ⟨u, W', e, hc, hk⟩ | ⟨W', e, hc, hk⟩ | ⟨f, args, e, hc⟩
 ·exact .inl ⟨u, W', e, hc, keep u, by rw [← Act.put_comm a v u h2]; exact hk⟩
 ·exact .inr (.inl ⟨W', e, hc, keep _, by rw [← Act.put_comm a v _ h2]; exact hk⟩)
 ·exact .inr (.inr ⟨f, args, e, hc.mono fun e w' ⟨u, he, hw, hk⟩ => ⟨u, he, hw, keep u, by rw [← Act.put_comm a v u h2]; exact hk⟩⟩)
def wpAnyS (P : Program) (md : Region.Mode) (ops : Array Oper) (C : World → Prop) (Q : Exit → Act → World → Prop) : Nat → Array Bool → Act → World → Prop
 | 0, listed, a, W => Region.ready md ops listed = [] ∧ Q .normal a W
 | f + 1, listed, a, W => Region.ready md ops listed ≠ [] ∧ ∀ i ∈ Region.ready md ops listed, ∃ o, ops[i]? = some o ∧ StepS P ops C o (wpAnyS P md ops C Q f (listed.setIfInBounds i true)) a W
theorem wpAny_of_S : ∀ (f : Nat) (listed : Array Bool) (a : Act) (W : World), wpAnyS P md ops C Q f listed a W → wpAny P md ops Q f listed a W
 | 0, listed, a, W, h => h
 | f + 1, listed, a, W, h => by
  refine ⟨fun h0 => absurd h0 h.1, fun i hi => ?_⟩
  obtain ⟨o, ho, hs⟩ := h.2 i hi
  unfold wpOp
  simp only [ho]
  obtain ⟨hw, hs⟩ := hs
  rw [if_pos hw]
  refine .inl ?_
  unfold Oper.wp
  rcases hs with ⟨v, W', e, -, hk⟩ | ⟨W', e, -, hk⟩ | ⟨g, args, e, hc⟩
  ·rw [e]; exact wpAny_of_S f _ _ _ hk
  ·rw [e]; exact wpAny_of_S f _ _ _ hk
  ·rw [e]
   exact hc.mono fun e w' ⟨v, he, _, hk⟩ => by subst he; exact wpAny_of_S f _ _ _ hk
theorem wpAnyS_first {i : Nat} {oi : Oper} {v : Value} (hi : ops[i]? = some oi) (hsel : ∀ (j : Nat) (o : Oper) cs b, ops[j]? = some o → o.op ≠ .select cs b) :
  ∀ (f : Nat) (listed : Array Bool) (a : Act) (W : World),
   (∀ j oj, ops[j]? = some oj → j ≠ i → listed.getD j true = false → (∀ e ∈ oj.after, Region.binds md e = true → e.on ≠ i) → oi.apart ops oj = true) →
   i ∈ Region.ready md ops listed → YieldsS P ops C oi v a → C W →
   wpAnyS P md ops C Q f (listed.setIfInBounds i true) (a.put oi.dst v) W → wpAnyS P md ops C Q (f + 1) listed a W := by
 intro f
 induction f with
 | zero =>
  intro listed a W _ hr hy hC H
  refine ⟨fun h => (by rw [h] at hr; cases hr), fun j hj => ?_⟩
  by_cases hji : j = i
  ·subst hji; exact ⟨oi, hi, hy.step hC H⟩
  ·have := ready_mono hj hji
   rw [H.1] at this
   cases this
 | succ f ih =>
  intro listed a W hfree hr hy hC H
  refine ⟨fun h => (by rw [h] at hr; cases hr), fun j hj => ?_⟩
  by_cases hji : j = i
  ·subst hji; exact ⟨oi, hi, hy.step hC H⟩
  ·obtain ⟨o', ho', h1⟩ := H.2 j (ready_mono hj hji)
   obtain ⟨hjun, oj, hoj, hall⟩ := mem_ready.1 hj
   obtain rfl : o' = oj := Option.some.inj (ho'.symm.trans hoj)
   have hnot : ∀ e ∈ o'.after, Region.binds md e = true → e.on ≠ i := fun e he hb heq => by
    have h1 := hall e he hb
    have h0 := (mem_ready.1 hr).1
    rw [heq, getD_both h0] at h1
    cases h1
   have h2 := StepS.put (hfree j o' hoj hji hjun hnot) (fun cs b => hsel i oi cs b hi) (fun cs b => hsel j o' cs b hoj) hy h1
   have hfree' : ∀ k ok, ops[k]? = some ok → k ≠ i → (listed.setIfInBounds j true).getD k true = false →
     (∀ e ∈ ok.after, Region.binds md e = true → e.on ≠ i) → oi.apart ops ok = true := fun k ok hk hki hun hno => by
    refine hfree k ok hk hki ?_ hno
    by_cases hjk : j = k
    ·subst hjk; exact hjun
    ·rw [getD_set_ne true hjk] at hun; exact hun
   refine ⟨o', hoj, h2.mono fun a' W' hC' h3 => ih (listed.setIfInBounds j true) a' W' hfree' (ready_mono hr (Ne.symm hji)) h3.1 hC' ?_⟩
   rw [Array.setIfInBounds_comm _ _ hji]
   exact h3.2
/-- an order of one's own: those marked true read, and may come at any time; of the others each is the only one that may come. -/
def wpSched (P : Program) (ops : Array Oper) (C : World → Prop) (Q : Exit → Act → World → Prop) : List (Bool × Nat) → Act → World → Prop
 | [], a, W => Q .normal a W
 | (true, i) :: r, a, W => ∃ o v, ops[i]? = some o ∧ YieldsS P ops C o v a ∧ wpSched P ops C Q r (a.put o.dst v) W
 | (false, i) :: r, a, W => ∃ o, ops[i]? = some o ∧ StepS P ops C o (wpSched P ops C Q r) a W
def schedB (md : Region.Mode) (ops : Array Oper) : List (Bool × Nat) → Array Bool → Bool
 | [], listed => (Region.ready md ops listed).isEmpty
 | (true, i) :: r, listed => (Region.ready md ops listed).contains i && (Region.free md ops listed i && schedB md ops r (listed.setIfInBounds i true))
 | (false, i) :: r, listed => decide (Region.ready md ops listed = [i]) && schedB md ops r (listed.setIfInBounds i true)
theorem wpAnyS_of_sched (hsel : Region.noSelect ops = true) : ∀ (s : List (Bool × Nat)) (listed : Array Bool) (a : Act) (W : World), schedB md ops s listed = true → C W → wpSched P ops C Q s a W → wpAnyS P md ops C Q s.length listed a W
 | [], listed, a, W, hB, hC, h => ⟨by simpa [schedB] using hB, h⟩
 | (true, i) :: r, listed, a, W, hB, hC, h => by
  simp only [schedB, Bool.and_eq_true] at hB
  obtain ⟨hr, hf, hB⟩ := hB
  obtain ⟨o, v, ho, hy, hk⟩ := h
  have hr' : i ∈ Region.ready md ops listed := by simpa using hr
  exact wpAnyS_first ho (Region.noSelect_spec hsel) r.length listed a W (Region.free_spec ho hf) hr' hy hC (wpAnyS_of_sched hsel r _ _ _ hB hC hk)
 | (false, i) :: r, listed, a, W, hB, hC, h => by
  simp only [schedB, Bool.and_eq_true, decide_eq_true_eq] at hB
  obtain ⟨hr, hB⟩ := hB
  obtain ⟨o, ho, hs⟩ := h
  refine ⟨fun h => (by rw [hr] at h; cases h), fun j hj => ?_⟩
  rw [hr] at hj
  obtain rfl : j = i := by simpa using hj
  exact ⟨o, ho, hs.mono fun a' W' hC' hk => wpAnyS_of_sched hsel r _ _ _ hB hC' hk⟩
theorem sched_read {i : Nat} {r : List (Bool × Nat)} {o : Oper} {a : Act} {W : World} (ho : ops[i]? = some o) (v : Value) (hw : Region.wanted o (yielded ops a.tmps) = true) (hr : ∀ W, C W → (execOp a.eval o).run P W = .ok (.value v) W) (h : wpSched P ops C Q r (a.put o.dst v) W) : wpSched P ops C Q ((true, i) :: r) a W :=
 ⟨o, v, ho, ⟨hw, hr⟩, h⟩
theorem sched_value {i : Nat} {r : List (Bool × Nat)} {o : Oper} {a : Act} {W : World} (ho : ops[i]? = some o) (v : Value) (W' : World) (hw : Region.wanted o (yielded ops a.tmps) = true) (hr : (execOp a.eval o).run P W = .ok (.value v) W') (hC : C W') (h : wpSched P ops C Q r (a.put o.dst v) W') : wpSched P ops C Q ((false, i) :: r) a W :=
 ⟨o, ho, hw, .inl ⟨v, W', hr, hC, h⟩⟩
theorem sched_skip {i : Nat} {r : List (Bool × Nat)} {o : Oper} {a : Act} {W : World} (ho : ops[i]? = some o) (W' : World) (hw : Region.wanted o (yielded ops a.tmps) = true) (hr : (execOp a.eval o).run P W = .ok .skip W') (hC : C W') (h : wpSched P ops C Q r (a.put o.dst undef) W') : wpSched P ops C Q ((false, i) :: r) a W :=
 ⟨o, ho, hw, .inr (.inl ⟨W', hr, hC, h⟩)⟩
end
end Go.Proofs.YteieikgkmfglaaaGreatDoor
namespace Go.Proofs.YteieikgkmfglaaaGreatDoor
open Go Go.RowKit
set_option linter.unusedVariables false
section
variable {P : Program} {ops : Array Oper} {md : Region.Mode} {C : World → Prop} {Q : Exit → Act → World → Prop} {L : Array Bool → Act → World → Prop}
def wpAnyT (P : Program) (md : Region.Mode) (ops : Array Oper) (C : World → Prop) (L : Array Bool → Act → World → Prop) : Nat → Array Bool → Act → World → Prop
 | 0, listed, a, W => L listed a W
 | f + 1, listed, a, W => Region.ready md ops listed ≠ [] ∧ ∀ i ∈ Region.ready md ops listed, ∃ o, ops[i]? = some o ∧ StepS P ops C o (wpAnyT P md ops C L f (listed.setIfInBounds i true)) a W
theorem wpAny_of_T {g : Nat} (hL : ∀ listed a W, L listed a W → wpAny P md ops Q g listed a W) : ∀ (f : Nat) (listed : Array Bool) (a : Act) (W : World), wpAnyT P md ops C L f listed a W → wpAny P md ops Q (f + g) listed a W
 | 0, listed, a, W, h => by rw [Nat.zero_add]; exact hL _ _ _ h
 | f + 1, listed, a, W, h => by
  rw [show f + 1 + g = (f + g) + 1 by omega]
  refine ⟨fun h0 => absurd h0 h.1, fun i hi => ?_⟩
  obtain ⟨o, ho, hs⟩ := h.2 i hi
  unfold wpOp
  simp only [ho]
  obtain ⟨hw, hs⟩ := hs
  rw [if_pos hw]
  refine .inl ?_
  unfold Oper.wp
  rcases hs with ⟨v, W', e, -, hk⟩ | ⟨W', e, -, hk⟩ | ⟨k, args, e, hc⟩
  ·rw [e]; exact wpAny_of_T hL f _ _ _ hk
  ·rw [e]; exact wpAny_of_T hL f _ _ _ hk
  ·rw [e]
   exact hc.mono fun e w' ⟨v, he, _, hk⟩ => by subst he; exact wpAny_of_T hL f _ _ _ hk
theorem unset_of {l H : Array Bool} {i : Nat} (h0 : l.getD i true = false) (e : l.setIfInBounds i true = H) : l = H.setIfInBounds i false := by
 subst e
 apply Array.ext_getElem?
 intro k
 by_cases hk : i = k
 ·subst hk
  rcases Nat.lt_or_ge i l.size with hl | hl
  ·simp [Array.getD, hl] at h0
   simp [hl, h0]
  ·simp [Array.getD, Nat.not_lt.2 hl] at h0
 ·simp [hk]
/-- what is listed has all that it waits for. -/
def Clos (md : Region.Mode) (ops : Array Oper) (listed : Array Bool) : Prop := ∀ (j : Nat) (oj : Oper), ops[j]? = some oj → listed.getD j false = true → ∀ e ∈ oj.after, Region.binds md e = true → listed.getD e.on false = true
theorem Clos.set {i : Nat} {listed : Array Bool} (inv : Clos md ops listed) (hi : i ∈ Region.ready md ops listed) : Clos md ops (listed.setIfInBounds i true) := by
 obtain ⟨_, oi, hoi, hall⟩ := mem_ready.1 hi
 intro j oj hj hl e he hb
 by_cases hij : i = j
 ·subst hij
  have : oj = oi := Option.some.inj (hj.symm.trans hoi)
  subst this
  exact getD_set_true (hall e he hb)
 ·rw [getD_set_ne false hij] at hl
  exact getD_set_true (inv j oj hj hl e he hb)
/-- one that is listed waits for i. -/
def waits (md : Region.Mode) (ops : Array Oper) (H0 : Array Bool) (i : Nat) : Bool := (List.range ops.size).any fun j => H0.getD j false && (decide (j ≠ i) && match ops[j]? with | some o => o.after.any fun e => Region.binds md e && decide (e.on = i) | none => false)
theorem waits_spec {H0 : Array Bool} {i : Nat} (h : waits md ops H0 i = true) : ∃ j o, ops[j]? = some o ∧ j ≠ i ∧ H0.getD j false = true ∧ ∃ e ∈ o.after, Region.binds md e = true ∧ e.on = i := by
 unfold waits at h
 obtain ⟨j, -, hj⟩ := List.any_eq_true.1 h
 simp only [Bool.and_eq_true, decide_eq_true_eq] at hj
 obtain ⟨h1, h2, h3⟩ := hj
 cases ho : ops[j]? with
 | none => rw [ho] at h3; cases h3
 | some o =>
  rw [ho] at h3
  obtain ⟨k, hk, he⟩ := Array.any_eq_true.1 h3
  simp only [Bool.and_eq_true, decide_eq_true_eq] at he
  exact ⟨j, o, ho, h2, h1, o.after[k], Array.getElem_mem hk, he.1, he.2⟩
theorem wpAnyT_first {i : Nat} {oi : Oper} {v : Value} {H0 : Array Bool} (hi : ops[i]? = some oi) (hsel : ∀ (j : Nat) (o : Oper) cs b, ops[j]? = some o → o.op ≠ .select cs b)
  (hH : waits md ops H0 i = true ∨ Region.ready md ops (H0.setIfInBounds i false) = [i]) (hLH : ∀ listed a W, L listed a W → listed = H0) :
  ∀ (f : Nat) (listed : Array Bool) (a : Act) (W : World), Clos md ops listed →
   (∀ j oj, ops[j]? = some oj → j ≠ i → listed.getD j true = false → (∀ e ∈ oj.after, Region.binds md e = true → e.on ≠ i) → oi.apart ops oj = true) →
   i ∈ Region.ready md ops listed → YieldsS P ops C oi v a → C W →
   wpAnyT P md ops C L f (listed.setIfInBounds i true) (a.put oi.dst v) W → wpAnyT P md ops C L (f + 1) listed a W := by
 intro f
 induction f with
 | zero =>
  intro listed a W inv _ hr hy hC H
  refine ⟨fun h => (by rw [h] at hr; cases hr), fun j hj => ?_⟩
  by_cases hji : j = i
  ·subst hji; exact ⟨oi, hi, hy.step hC H⟩
  ·rcases hH with hH | hH
   ·obtain ⟨k, ok, hk, hki, hkl, e, he, hb, heq⟩ := waits_spec hH
    rw [← hLH _ _ _ H, getD_set_ne false (Ne.symm hki)] at hkl
    have h1 := inv k ok hk hkl e he hb
    rw [heq, getD_both (mem_ready.1 hr).1] at h1
    cases h1
   ·have e := unset_of (mem_ready.1 hr).1 (hLH _ _ _ H)
    rw [e, hH] at hj
    exact absurd (by simpa using hj) hji
 | succ f ih =>
  intro listed a W inv hfree hr hy hC H
  refine ⟨fun h => (by rw [h] at hr; cases hr), fun j hj => ?_⟩
  by_cases hji : j = i
  ·subst hji; exact ⟨oi, hi, hy.step hC H⟩
  ·obtain ⟨o', ho', h1⟩ := H.2 j (ready_mono hj hji)
   obtain ⟨hjun, oj, hoj, hall⟩ := mem_ready.1 hj
   obtain rfl : o' = oj := Option.some.inj (ho'.symm.trans hoj)
   have hnot : ∀ e ∈ o'.after, Region.binds md e = true → e.on ≠ i := fun e he hb heq => by
    have h1 := hall e he hb
    have h0 := (mem_ready.1 hr).1
    rw [heq, getD_both h0] at h1
    cases h1
   have h2 := StepS.put (hfree j o' hoj hji hjun hnot) (fun cs b => hsel i oi cs b hi) (fun cs b => hsel j o' cs b hoj) hy h1
   have hfree' : ∀ k ok, ops[k]? = some ok → k ≠ i → (listed.setIfInBounds j true).getD k true = false →
     (∀ e ∈ ok.after, Region.binds md e = true → e.on ≠ i) → oi.apart ops ok = true := fun k ok hk hki hun hno => by
    refine hfree k ok hk hki ?_ hno
    by_cases hjk : j = k
    ·subst hjk; exact hjun
    ·rw [getD_set_ne true hjk] at hun; exact hun
   refine ⟨o', hoj, h2.mono fun a' W' hC' h3 => ih (listed.setIfInBounds j true) a' W' (inv.set hj) hfree' (ready_mono hr (Ne.symm hji)) h3.1 hC' ?_⟩
   rw [Array.setIfInBounds_comm _ _ hji]
   exact h3.2
/-- the head, in an order of one's own; K behind it. -/
def wpHeadT (P : Program) (ops : Array Oper) (C : World → Prop) (K : Act → World → Prop) : List (Bool × Nat) → Act → World → Prop
 | [], a, W => K a W
 | (true, i) :: r, a, W => ∃ o v, ops[i]? = some o ∧ YieldsS P ops C o v a ∧ wpHeadT P ops C K r (a.put o.dst v) W
 | (false, i) :: r, a, W => ∃ o, ops[i]? = some o ∧ StepS P ops C o (wpHeadT P ops C K r) a W
def headB (md : Region.Mode) (ops : Array Oper) (H0 : Array Bool) : List (Bool × Nat) → Array Bool → Bool
 | [], listed => decide (listed = H0)
 | (true, i) :: r, listed => (Region.ready md ops listed).contains i && (Region.free md ops listed i && ((waits md ops H0 i || decide (Region.ready md ops (H0.setIfInBounds i false) = [i])) && headB md ops H0 r (listed.setIfInBounds i true)))
 | (false, i) :: r, listed => decide (Region.ready md ops listed = [i]) && headB md ops H0 r (listed.setIfInBounds i true)
theorem wpAnyT_of_head {K : Act → World → Prop} {H0 : Array Bool} (hsel : Region.noSelect ops = true) : ∀ (s : List (Bool × Nat)) (listed : Array Bool) (a : Act) (W : World), Clos md ops listed → headB md ops H0 s listed = true → C W → wpHeadT P ops C K s a W → wpAnyT P md ops C (fun l a W => l = H0 ∧ K a W) s.length listed a W
 | [], listed, a, W, inv, hB, hC, h => ⟨of_decide_eq_true hB, h⟩
 | (true, i) :: r, listed, a, W, inv, hB, hC, h => by
  simp only [headB, Bool.and_eq_true, Bool.or_eq_true, decide_eq_true_eq] at hB
  obtain ⟨hr, hf, hH, hB⟩ := hB
  obtain ⟨o, v, ho, hy, hk⟩ := h
  have hr' : i ∈ Region.ready md ops listed := by simpa using hr
  exact wpAnyT_first ho (Region.noSelect_spec hsel) hH (fun _ _ _ h => h.1) r.length listed a W inv (Region.free_spec ho hf) hr' hy hC (wpAnyT_of_head hsel r _ _ _ (inv.set hr') hB hC hk)
 | (false, i) :: r, listed, a, W, inv, hB, hC, h => by
  simp only [headB, Bool.and_eq_true, decide_eq_true_eq] at hB
  obtain ⟨hr, hB⟩ := hB
  obtain ⟨o, ho, hs⟩ := h
  refine ⟨fun h => (by rw [hr] at h; cases h), fun j hj => ?_⟩
  have hr' : i ∈ Region.ready md ops listed := by rw [hr]; simp
  rw [hr] at hj
  obtain rfl : j = i := by simpa using hj
  exact ⟨o, ho, hs.mono fun a' W' hC' hk => wpAnyT_of_head hsel r _ _ _ (inv.set hr') hB hC' hk⟩
def listedBy (n : Nat) (s : List (Bool × Nat)) : Array Bool := s.foldl (fun l p => l.setIfInBounds p.2 true) (Array.replicate n false)
/-- the region: its head s, in the worlds C; its tail t. -/
theorem wp_region_two {id : Nat} {a : Act} {w : World} (s t : List (Bool × Nat)) (C : World → Prop) (hm : P.follows .mixedOrders = true) (hs : Region.noSelect ops = true) (hl : s.length + t.length = ops.size) (hB : headB .any ops (listedBy ops.size s) s (Array.replicate ops.size false) = true)
  (hT : schedB .any ops t (listedBy ops.size s) = true)
  (hC : C { w with drawn := w.drawn + 1 }) (h : wpHeadT P ops C (wpSched P ops (fun _ => True) Q t) s a { w with drawn := w.drawn + 1 }) : (Code.region id ops true).wp P Q a w := by
 refine wp_region_any hm ?_
 rw [← hl]
 refine wpAny_of_T (g := t.length) (fun listed a W hh => ?_) _ _ _ _ (wpAnyT_of_head (H0 := listedBy ops.size s) hs s _ a _ (fun j oj _ hj => by rw [getD_replicate_false] at hj; cases hj) (by rw [hl]; exact hB) hC h)
 obtain ⟨rfl, hk⟩ := hh
 exact wpAny_of_S _ _ _ _ (wpAnyS_of_sched hs t _ a W hT trivial hk)
theorem headT_read {K : Act → World → Prop} {i : Nat} {r : List (Bool × Nat)} {o : Oper} {a : Act} {W : World} (ho : ops[i]? = some o) (v : Value) (hw : Region.wanted o (yielded ops a.tmps) = true) (hr : ∀ W, C W → (execOp a.eval o).run P W = .ok (.value v) W) (h : wpHeadT P ops C K r (a.put o.dst v) W) : wpHeadT P ops C K ((true, i) :: r) a W :=
 ⟨o, v, ho, ⟨hw, hr⟩, h⟩
theorem headT_call {K : Act → World → Prop} {i : Nat} {r : List (Bool × Nat)} {o : Oper} {a : Act} {W : World} (ho : ops[i]? = some o) (f : FuncId) (args : Array Value) (hw : Region.wanted o (yielded ops a.tmps) = true) (hr : (execOp a.eval o).run P W = .ok (.enter f args) W)
  (hc : Calls P f args W (fun e w' => ∃ v, e = .returned v ∧ C w' ∧ wpHeadT P ops C K r (a.put o.dst v) w')) : wpHeadT P ops C K ((false, i) :: r) a W :=
 ⟨o, ho, hw, .inr (.inr ⟨f, args, hr, hc⟩)⟩
theorem exec_append {o : Oper} {a : Act} {w w' : World} {v' : Value} (s x : Operand) (t tx : TypeId) (ho : o.op = .call { callee := .builtin .append, args := #[s, x], argTypes := #[t, tx] }) (v xv : Value) (hs : a.eval s = v) (hx : a.eval x = xv)
  (hr : (Builtin.append_ #[t, tx] o.type #[v, xv]).run P w = .ok v' w') : (execOp a.eval o).run P w = .ok (.value v') w' := by
 unfold execOp
 simp only [ho, resolve, invoke, builtin, Sem.run_bind, Sem.run_pure, Result.andThen_ok, List.map_toArray, List.map_cons, List.map_nil, hs, hx, hr]
theorem headT_value {K : Act → World → Prop} {i : Nat} {r : List (Bool × Nat)} {o : Oper} {a : Act} {W : World} (ho : ops[i]? = some o) (v : Value) (W' : World) (hw : Region.wanted o (yielded ops a.tmps) = true) (hr : (execOp a.eval o).run P W = .ok (.value v) W') (hC : C W') (h : wpHeadT P ops C K r (a.put o.dst v) W') : wpHeadT P ops C K ((false, i) :: r) a W :=
 ⟨o, ho, hw, .inl ⟨v, W', hr, hC, h⟩⟩
end
end Go.Proofs.YteieikgkmfglaaaGreatDoor
namespace Go.Proofs.YteieikgkmfglaaaGreatDoor
open Go.RowKit
set_option linter.unusedVariables false
/-- what stays while units take. -/
structure TkS (ks : List KV) (Y Z : WV) (es : List EvV) (b1 b : Nat) (w : World) (u1 u2 u3 u4 u5 ev : Value) (V : World) : Prop where
 o1 : Ow V b1 u1 Z.gs
 o2 : Ow V b1 u2 Z.os
 o3 : Ow V b1 u3 Z.gold
 o4 : Uno V b1 u4 Z.us
 o5 : Jbo V b1 u5 Z.qs
 e : Evo V b ev es
 d : [u1, u2, u3, u4, u5].Pairwise Dif
 fr : Fr (fun q => u2.ownBlock = some q ∨ u4.ownBlock = some q) w V
 k : TkK Y Z
 f : DFit ks Z
section
variable {ks : List KV} {Y Z : WV} {es : List EvV} {b1 b : Nat} {w : World} {u1 u2 u3 u4 u5 ev : Value} {V V' : World}
theorem TkS.below (h : TkS ks Y Z es b1 b w u1 u2 u3 u4 u5 ev V) (hb : Below V.heap.size V V') : TkS ks Y Z es b1 b w u1 u2 u3 u4 u5 ev V' :=
 ⟨h.o1.below hb, h.o2.below hb, h.o3.below hb, h.o4.below hb, h.o5.below hb, h.e.below hb, h.d, h.fr.trans (Fr.below hb), h.k, h.f⟩
theorem TkS.wl (h : TkS ks Y Z es b1 b w u1 u2 u3 u4 u5 ev V) : Wl V (.agg #[.int .i64 Y.turn, .int .i64 Y.next, .int .i64 Y.wide, .int .i64 Y.high, u1, u2, u3, u4, u5]) Z := by
 obtain ⟨a1, a2, a3, a4, -⟩ := h.k
 exact ⟨u1, u2, u3, u4, u5, by rw [a1, a2, a3, a4], h.o1.ro, h.o2.ro, h.o3.ro, h.o4.l, h.o5.l⟩
theorem TkS.difs (h : TkS ks Y Z es b1 b w u1 u2 u3 u4 u5 ev V) : (Dif u1 u2 ∧ Dif u1 u3 ∧ Dif u1 u4 ∧ Dif u1 u5) ∧ (Dif u2 u3 ∧ Dif u2 u4 ∧ Dif u2 u5) ∧ (Dif u3 u4 ∧ Dif u3 u5) ∧ Dif u4 u5 := by
 have := h.d
 simp only [List.pairwise_cons, List.mem_cons, List.not_mem_nil, or_false, forall_eq_or_imp, forall_eq] at this
 obtain ⟨⟨a1, a2, a3, a4⟩, ⟨b1, b2, b3⟩, ⟨c1, c2⟩, d1, -⟩ := this
 exact ⟨⟨a1, a2, a3, a4⟩, ⟨b1, b2, b3⟩, ⟨c1, c2⟩, d1⟩
theorem TkS.take {gu gs cu co i : Nat} {ur : List Value} {sr : Array Value} {u : UnV} {ev' : Value} (h : TkS ks Y Z es b1 b w u1 (.slice (some ⟨gs, 0, none⟩) Y.os.length co) u3 (.slice (some ⟨gu, 0, none⟩) Y.us.length cu) u5 ev V) (hwb : w.heap.size = b)
  (hl : ∀ x ∈ [u1, u3, u5], ∀ k, x.ownBlock = some k → k < b) (hgu : b1 ≤ gu) (c1 : Y.us.length ≤ cu) (c2 : cu ≤ maxLen) (c3 : Y.us.length * 8 + ur.length = cu * 8) (hgs : b1 ≤ gs) (d1 : Y.os.length ≤ co) (d2 : co ≤ maxLen) (d3 : Y.os.length + sr.size = co)
  (hu : Z.us[i]? = some u) (hy : 0 < yieldN ks Z u) (hub : Ub V' gu (takeW Z i u (yieldN ks Z u)).us ur) (hbk : Bk V' gs (takeW Z i u (yieldN ks Z u)).os sr) (he : Evo V' b ev' (es ++ [⟨4, u.id, yieldN ks Z u⟩])) (hf : Fr (fun q => q = gu ∨ q = gs ∨ ev.ownBlock = some q) V V') :
  TkS ks Y (takeW Z i u (yieldN ks Z u)) (es ++ [⟨4, u.id, yieldN ks Z u⟩]) b1 b w u1 (.slice (some ⟨gs, 0, none⟩) Y.os.length co) u3 (.slice (some ⟨gu, 0, none⟩) Y.us.length cu) u5 ev' V' := by
 obtain ⟨⟨d12, d13, d14, d15⟩, ⟨d23, d24, d25⟩, ⟨d34, d35⟩, d45⟩ := h.difs
 have owu : (Value.slice (some ⟨gu, 0, none⟩) Y.us.length cu).ownBlock = some gu := rfl
 have ows : (Value.slice (some ⟨gs, 0, none⟩) Y.os.length co).ownBlock = some gs := rfl
 have no : ∀ x ∈ [u1, u3, u5], Dif x (.slice (some ⟨gs, 0, none⟩) Y.os.length co) → Dif x (.slice (some ⟨gu, 0, none⟩) Y.us.length cu) → ∀ q, x.ownBlock = some q → ¬ (q = gu ∨ q = gs ∨ ev.ownBlock = some q) := fun x hx e2 e4 q hq hs => by
  rcases hs with e | e | e
  ·exact e4 q hq (by rw [owu, e])
  ·exact e2 q hq (by rw [ows, e])
  ·have h8 := (h.e.block q e).1; have h9 := hl x hx q hq; omega
 have k' : TkK Y (takeW Z i u (yieldN ks Z u)) := by
  obtain ⟨a1, a2, a3, a4, a5, a6, a7, a8, a9⟩ := h.k
  exact ⟨a1, a2, a3, a4, a5, a6, a7, by simpa [takeW] using a8, by simpa [takeW] using a9⟩
 refine ⟨hf.own h.o1 (no u1 (by simp) d12 d14), ?_, hf.own h.o3 (no u3 (by simp) d23.symm d34), ?_, hf.own h.o5 (no u5 (by simp) d25.symm d45.symm), he, h.d, ?_, k', h.f.take hu hy⟩
 ·have := hbk.ow (base := b1) (cap := co) hgs (by rw [k'.2.2.2.2.2.2.2.2]; exact d1) d2 (by rw [k'.2.2.2.2.2.2.2.2]; exact d3)
  rw [k'.2.2.2.2.2.2.2.2] at this
  exact this
 ·have := hub.uno (base := b1) (cap := cu) hgu (by rw [k'.2.2.2.2.2.2.2.1]; exact c1) c2 (by rw [k'.2.2.2.2.2.2.2.1]; exact c3)
  rw [k'.2.2.2.2.2.2.2.1] at this
  exact this
 ·refine ⟨hf.os.trans h.fr.os, hf.tape.trans h.fr.tape, hf.output.trans h.fr.output, Nat.le_trans h.fr.size hf.size, fun q hq hn => (hf.block q (Nat.lt_of_lt_of_le hq h.fr.size) (fun e => ?_)).trans (h.fr.block q hq hn)⟩
  rcases e with e | e | e
  ·exact hn (.inr (by rw [owu, e]))
  ·exact hn (.inl (by rw [ows, e]))
  ·have := (h.e.block q e).1; omega
end
end Go.Proofs.YteieikgkmfglaaaGreatDoor
namespace Go.Proofs.YteieikgkmfglaaaGreatDoor
open Go.RowKit
set_option linter.unusedVariables false
def TkI (ks : List KV) (Y : WV) (z b1 : Nat) (w1 : World) (u1 u2 u3 u4 u5 ev j : Value) (V : World) : Prop := ∃ q : Nat, q ≤ Y.us.length ∧ j = .int .i64 (q : Nat) ∧ Wx V z (.int .i64 Y.turn) (.int .i64 Y.next) (.int .i64 Y.wide) (.int .i64 Y.high) u1 u2 u3 u4 u5 ∧ TkS ks Y (tk ks Y q).1 (tk ks Y q).2 b1 (z + 1) w1 u1 u2 u3 u4 u5 ev V
set_option maxRecDepth 100000 in
set_option maxHeartbeats 16000000 in
theorem take_any (vk : Value) (ks : List KV) (Y : WV) (u1 u2 u3 u4 u5 : Value) (b1 : Nat) (w0 w : World) (hk : Kl w0 vk ks) (hb0 : Below w0.heap.size w0 w) (h0b : w0.heap.size ≤ b1) (o1 : Ow w b1 u1 Y.gs) (o2 : Ow w b1 u2 Y.os) (o3 : Ow w b1 u3 Y.gold) (o4 : Uno w b1 u4 Y.us) (o5 : Jbo w b1 u5 Y.qs) (hd : [u1, u2, u3, u4, u5].Pairwise Dif) (hf : DFit ks Y) :
  Calls Tryz.prog 33 #[vk, .agg #[.int .i64 Y.turn, .int .i64 Y.next, .int .i64 Y.wide, .int .i64 Y.high, u1, u2, u3, u4, u5]] w fun e w' => ∃ ev, e = .returned ev ∧ TkS ks Y (tk ks Y Y.us.length).1 (tk ks Y Y.us.length).2 b1 w.heap.size w u1 u2 u3 u4 u5 ev w' := by
 have KB : Hid (Kl w0 vk ks ∧ Below w0.heap.size w0 w ∧ w0.heap.size ≤ b1) := ⟨hk, hb0, h0b⟩
 obtain ⟨pk, qk, rfl, ck1, ck2, kc⟩ := hk
 have T0 : Hid (TkS ks Y Y [] b1 w.heap.size w u1 u2 u3 u4 u5 (.slice none 0 0) w) := ⟨o1, o2, o3, o4, o5, Evo.nil _ _, hd, Fr.below (Below.refl _ _), ⟨rfl, rfl, rfl, rfl, rfl, rfl, rfl, rfl, rfl⟩, hf⟩
 have LW : Hid (∀ x ∈ [u1, u3, u5], ∀ k, x.ownBlock = some k → k < w.heap.size) := by
  intro x hx k hk
  simp only [List.mem_cons, List.not_mem_nil, or_false] at hx
  rcases hx with rfl | rfl | rfl
  ·exact (o1.block k hk).2
  ·exact (o3.block k hk).2
  ·exact (o5.block k hk).2
 have L24 : Hid ((∀ k, u2.ownBlock = some k → b1 ≤ k ∧ k < w.heap.size) ∧ ∀ k, u4.ownBlock = some k → b1 ≤ k ∧ k < w.heap.size) := ⟨o2.block, o4.block⟩
 have ul : Y.us.length ≤ 40 := hf.ul
 obtain ⟨a1, h1, rfl⟩ := o1.len
 obtain ⟨a2, h2, rfl⟩ := o2.len
 obtain ⟨a3, h3, rfl⟩ := o3.len
 obtain ⟨a4, h4, rfl⟩ := o4.len
 obtain ⟨a5, h5, rfl⟩ := o5.len
 clear hb0 h0b kc o1 o2 o3 o4 o5 hd hf
 go_enter Tryz.func33, Tryz.ntmps33
 go_upto_region 2 with fail
 have BA : Hid (Below w.heap.size w (w.alloc (Obj.cells #[.int .i64 Y.turn, .int .i64 Y.next, .int .i64 Y.wide, .int .i64 Y.high, .slice a1 Y.gs.length h1, .slice a2 Y.os.length h2, .slice a3 Y.gold.length h3, .slice a4 Y.us.length h4, .slice a5 Y.qs.length h5] 29))) := (Below.refl _ _).alloc (Nat.le_refl _) _
 obtain ⟨z, hz⟩ : ∃ z, w.heap.size = z := ⟨_, rfl⟩
 have HZ : Hid (w.heap.size = z) := hz
 have X1 : Hid (Wx (w.alloc (Obj.cells #[.int .i64 Y.turn, .int .i64 Y.next, .int .i64 Y.wide, .int .i64 Y.high, .slice a1 Y.gs.length h1, .slice a2 Y.os.length h2, .slice a3 Y.gold.length h3, .slice a4 Y.us.length h4, .slice a5 Y.qs.length h5] 29)) z (.int .i64 Y.turn) (.int .i64 Y.next) (.int .i64 Y.wide) (.int .i64 Y.high) (.slice a1 Y.gs.length h1) (.slice a2 Y.os.length h2) (.slice a3 Y.gold.length h3) (.slice a4 Y.us.length h4) (.slice a5 Y.qs.length h5)) := Wx.new (w := w) _ _ _ _ _ _ _ _ _ hz
 have S1 : Hid ((w.alloc (Obj.cells #[.int .i64 Y.turn, .int .i64 Y.next, .int .i64 Y.wide, .int .i64 Y.high, .slice a1 Y.gs.length h1, .slice a2 Y.os.length h2, .slice a3 Y.gold.length h3, .slice a4 Y.us.length h4, .slice a5 Y.qs.length h5] 29)).heap.size = z + 1) := by unfold Hid; rw [← hz]; simp
 rw [hz]
 clear hz
 generalize w.alloc (Obj.cells #[.int .i64 Y.turn, .int .i64 Y.next, .int .i64 Y.wide, .int .i64 Y.high, .slice a1 Y.gs.length h1, .slice a2 Y.os.length h2, .slice a3 Y.gold.length h3, .slice a4 Y.us.length h4, .slice a5 Y.qs.length h5] 29) = w1 at *
 have T1 : Hid (TkS ks Y Y [] b1 (z + 1) w1 (.slice a1 Y.gs.length h1) (.slice a2 Y.os.length h2) (.slice a3 Y.gold.length h3) (.slice a4 Y.us.length h4) (.slice a5 Y.qs.length h5) (.slice none 0 0) w1) := by
  have h := T0.out.below BA.out
  exact ⟨h.o1, h.o2, h.o3, h.o4, h.o5, Evo.nil _ _, h.d, Fr.below (Below.refl _ _), h.k, h.f⟩
 clear T0
 obtain ⟨x0, x1, x2, x3, x4, x5, x6, x7, x8⟩ := X1.out.cells
 go_wp2_with fail
 clear x0 x1 x2 x3 x4 x5 x6 x7 x8
 go_loopw [5, 12] (fun ev j V => TkI ks Y z b1 w1 (.slice a1 Y.gs.length h1) (.slice a2 Y.os.length h2) (.slice a3 Y.gold.length h3) (.slice a4 Y.us.length h4) (.slice a5 Y.qs.length h5) ev j V) (fun _ j _ => Y.us.length - (intOf j).toNat)
 case atStart => exact ⟨0, Nat.zero_le _, rfl, X1.out, T1.out⟩
 case round =>
  obtain ⟨q, hq, rfl, hx, ht⟩ := hrel
  obtain ⟨Z, hZ⟩ : ∃ Z, (tk ks Y q).1 = Z := ⟨_, rfl⟩
  obtain ⟨es, hE⟩ : ∃ es, (tk ks Y q).2 = es := ⟨_, rfl⟩
  have HQ : Hid ((tk ks Y q).1 = Z ∧ (tk ks Y q).2 = es) := ⟨hZ, hE⟩
  have EL : Hid (es.length ≤ 40) := by have h9 := tk_evs (ks := ks) (Y := Y) q; rw [hE] at h9; unfold Hid; omega
  rw [hZ, hE] at ht
  clear hZ hE
  obtain ⟨ea, ec, rfl⟩ := ht.e.len
  have TQ : Hid (TkS ks Y Z es b1 (z + 1) w1 (.slice a1 Y.gs.length h1) (.slice a2 Y.os.length h2) (.slice a3 Y.gold.length h3) (.slice a4 Y.us.length h4) (.slice a5 Y.qs.length h5) (.slice ea es.length ec) wr) := ht
  have XQ : Hid (Wx wr z (.int .i64 Y.turn) (.int .i64 Y.next) (.int .i64 Y.wide) (.int .i64 Y.high) (.slice a1 Y.gs.length h1) (.slice a2 Y.os.length h2) (.slice a3 Y.gold.length h3) (.slice a4 Y.us.length h4) (.slice a5 Y.qs.length h5)) := hx
  clear hx ht
  by_cases hqn : q = Y.us.length
  ·have FIN : Hid ((tk ks Y Y.us.length).1 = Z ∧ (tk ks Y Y.us.length).2 = es) := by rw [← hqn]; exact HQ.out
   subst hqn
   go_wp2
   go_ret
   refine ⟨_, rfl, ?_⟩
   rw [FIN.out.1, FIN.out.2]
   have h := TQ.out
   exact ⟨h.o1, h.o2, h.o3, h.o4, h.o5, h.e.mono (by have := HZ.out; omega), h.d, (Fr.below BA.out).trans h.fr, h.k, h.f⟩
  ·have hql : q < Y.us.length := by omega
   have hqi : ((q : Nat) : Int) < (Y.us.length : Nat) := by omega
   have hzl : q < Z.us.length := by rw [TQ.out.k.2.2.2.2.2.2.2.1]; exact hql
   obtain ⟨u, hu⟩ : ∃ u, Z.us[q]? = some u := ⟨_, List.getElem?_eq_getElem hzl⟩
   obtain ⟨⟨kn, k, hkn, hkk, l1, l2, l3⟩, ⟨an, han, hal⟩, -⟩ := TQ.out.f.units u (List.mem_of_getElem? hu)
   obtain ⟨x, hx⟩ : ∃ x, Z.os[an]? = some x := ⟨_, List.getElem?_eq_getElem hal⟩
   have UU : Hid (Z.us[q]? = some u ∧ u.kind = (kn : Nat) ∧ ks[kn]? = some k ∧ u.at_ = (an : Nat) ∧ Z.os[an]? = some x) := ⟨hu, hkn, hkk, han, hx⟩
   have OX := TQ.out.f.ore hx
   have hali : ((an : Nat) : Int) < (Y.os.length : Nat) := by rw [← TQ.out.k.2.2.2.2.2.2.2.2]; omega
   obtain ⟨gu, cu, ur, e4, hgu, c1, c2, c3, hub⟩ : ∃ g cap rest, Value.slice a4 Y.us.length h4 = .slice (some ⟨g, 0, none⟩) Y.us.length cap ∧ b1 ≤ g ∧ Y.us.length ≤ cap ∧ cap ≤ maxLen ∧ Y.us.length * 8 + rest.length = cap * 8 ∧ Ub wr g Z.us rest := by
    rcases TQ.out.o4.ub with ⟨-, h⟩ | ⟨g, cap, rest, h⟩
    ·rw [h] at hzl; simp at hzl
    ·rw [TQ.out.k.2.2.2.2.2.2.2.1] at h; exact ⟨g, cap, rest, h⟩
   injection e4 with e41 e42 e43
   subst e41 e43
   obtain ⟨gs, co, sr, e2, hgs, d1, d2, d3, hbk⟩ : ∃ g cap rest, Value.slice a2 Y.os.length h2 = .slice (some ⟨g, 0, none⟩) Y.os.length cap ∧ b1 ≤ g ∧ Y.os.length ≤ cap ∧ cap ≤ maxLen ∧ Y.os.length + rest.size = cap ∧ Bk wr g Z.os rest := by
    rcases TQ.out.o2.bk with ⟨-, h⟩ | ⟨g, cap, rest, h⟩
    ·rw [h] at hal; simp at hal
    ·rw [TQ.out.k.2.2.2.2.2.2.2.2] at h; exact ⟨g, cap, rest, h⟩
   injection e2 with e21 e22 e23
   subst e21 e23
   have GB : Hid (b1 ≤ gu ∧ Y.us.length ≤ h4 ∧ h4 ≤ maxLen ∧ Y.us.length * 8 + ur.length = h4 * 8 ∧ b1 ≤ gs ∧ Y.os.length ≤ h2 ∧ h2 ≤ maxLen ∧ Y.os.length + sr.size = h2) := ⟨hgu, c1, c2, c3, hgs, d1, d2, d3⟩
   have UB : Hid (∀ V, Below wr.heap.size wr V → Ub V gu Z.us ur) := fun V hV => hub.below hV hub.lt
   have BB : Hid (∀ V, Below wr.heap.size wr V → Bk V gs Z.os sr) := fun V hV => hbk.below hV
   have GL : Hid (gu < z ∧ gs < z ∧ gu ≠ gs) := by
    rw [← HZ.out]
    refine ⟨(L24.out.2 gu rfl).2, (L24.out.1 gs rfl).2, fun e => TQ.out.difs.2.1.2.1 gs rfl (by rw [← e]; rfl)⟩
   have KV' : Hid (∀ V, Below wr.heap.size wr V → Kl V (.slice pk ks.length qk) ks) := fun V hV => by
    have b01 : Below w0.heap.size w0 w1 := KB.out.2.1.trans (BA.out.mono KB.out.2.1.size)
    have b1r : Below w0.heap.size w1 wr := TQ.out.fr.low b01.size (fun k hk => by
     rcases hk with hk | hk
     ·have := (L24.out.1 k hk).1; have := KB.out.2.2; omega
     ·have := (L24.out.2 k hk).1; have := KB.out.2.2; omega)
    exact KB.out.1.below ((b01.trans b1r).trans (hV.mono (b01.trans b1r).size))
   have CV : Hid (∀ V, Below wr.heap.size wr V → Wx V z (.int .i64 Y.turn) (.int .i64 Y.next) (.int .i64 Y.wide) (.int .i64 Y.high) (.slice a1 Y.gs.length h1) (.slice (some ⟨gs, 0, none⟩) Y.os.length h2) (.slice a3 Y.gold.length h3) (.slice (some ⟨gu, 0, none⟩) Y.us.length h4) (.slice a5 Y.qs.length h5) ∧ Unc V ⟨gu, q * 8, none⟩ u) := fun V hV => ⟨XQ.out.below hV XQ.out.lt, (UB.out V hV).unc UU.out.1⟩
   have D5 : Hid (Below wr.heap.size wr { wr with drawn := wr.drawn + 1 }) := (Below.refl _ _).drew
   have xq := XQ.out
   obtain ⟨x0, x1, x2, x3, x4, x5, x6, x7, x8⟩ := xq.cells
   clear xq hu hkn hkk han hx hal hzl hgu c1 c2 c3 hgs d1 d2 d3 hub hbk e42 e22
   go_upto_region 6 with fail
   clear x0 x1 x2 x3 x4 x5 x6 x7 x8
   refine wp_region_two [(true, 0), (true, 1), (true, 2), (true, 3), (true, 4), (false, 5)] [(false, 6)] (fun V => Wx V z (.int .i64 Y.turn) (.int .i64 Y.next) (.int .i64 Y.wide) (.int .i64 Y.high) (.slice a1 Y.gs.length h1) (.slice (some ⟨gs, 0, none⟩) Y.os.length h2) (.slice a3 Y.gold.length h3) (.slice (some ⟨gu, 0, none⟩) Y.us.length h4) (.slice a5 Y.qs.length h5) ∧ Unc V ⟨gu, q * 8, none⟩ u) (by kernel_rfl) (by kernel_rfl) (by kernel_rfl) (by decide +kernel) (by decide +kernel) (CV.out _ D5.out) ?_
   generalize ({ wr with drawn := wr.drawn + 1 } : World) = w6 at *
   refine headT_read rfl (.slice pk ks.length qk) (by go_simp) (fun V hV => by go_simp) ?_
   go_simp
   refine headT_read rfl (.agg #[.int .i64 Y.turn, .int .i64 Y.next, .int .i64 Y.wide, .int .i64 Y.high, .slice a1 Y.gs.length h1, .slice (some ⟨gs, 0, none⟩) Y.os.length h2, .slice a3 Y.gold.length h3, .slice (some ⟨gu, 0, none⟩) Y.us.length h4, .slice a5 Y.qs.length h5]) (by go_simp) (fun V hV => by obtain ⟨hX, hU⟩ := hV; obtain ⟨x0, x1, x2, x3, x4, x5, x6, x7, x8⟩ := hX.cells; obtain ⟨y0, y1, y2, y3, y4, y5, y6, y7⟩ := hU; go_simp) ?_
   go_simp
   refine headT_read rfl (.pointer (some ⟨gu, q * 8, none⟩)) (by go_simp) (fun V hV => by go_simp) ?_
   go_simp
   refine headT_read rfl (.pointer (some ⟨gu, q * 8, none⟩)) (by go_simp) (fun V hV => by obtain ⟨hX, hU⟩ := hV; obtain ⟨x0, x1, x2, x3, x4, x5, x6, x7, x8⟩ := hX.cells; obtain ⟨y0, y1, y2, y3, y4, y5, y6, y7⟩ := hU; go_simp) ?_
   go_simp
   refine headT_read rfl (.agg #[.int .i64 u.id, .int .i64 u.player, .int .i64 u.kind, .int .i64 u.at_, .int .i64 u.life, .int .i64 u.load, .int .i64 u.task, .int .i64 u.goal]) (by go_simp) (fun V hV => by obtain ⟨hX, hU⟩ := hV; obtain ⟨x0, x1, x2, x3, x4, x5, x6, x7, x8⟩ := hX.cells; obtain ⟨y0, y1, y2, y3, y4, y5, y6, y7⟩ := hU; go_simp) ?_
   go_simp
   refine headT_call rfl 60 #[.slice pk ks.length qk, .agg #[.int .i64 Y.turn, .int .i64 Y.next, .int .i64 Y.wide, .int .i64 Y.high, .slice a1 Y.gs.length h1, .slice (some ⟨gs, 0, none⟩) Y.os.length h2, .slice a3 Y.gold.length h3, .slice (some ⟨gu, 0, none⟩) Y.us.length h4, .slice a5 Y.qs.length h5], .agg #[.int .i64 u.id, .int .i64 u.player, .int .i64 u.kind, .int .i64 u.at_, .int .i64 u.life, .int .i64 u.load, .int .i64 u.task, .int .i64 u.goal]] (by go_simp) (by go_simp) ?_
   have T6 : Hid (TkS ks Y Z es b1 (z + 1) w1 (.slice a1 Y.gs.length h1) (.slice (some ⟨gs, 0, none⟩) Y.os.length h2) (.slice a3 Y.gold.length h3) (.slice (some ⟨gu, 0, none⟩) Y.us.length h4) (.slice a5 Y.qs.length h5) (.slice ea es.length ec) w6) := TQ.out.below D5.out
   refine Calls.mono (yield_any _ _ ks Z u kn an k x w6 (KV'.out _ D5.out) T6.out.wl UU.out.2.1 UU.out.2.2.1 UU.out.2.2.2.1 UU.out.2.2.2.2 l1 (by omega) (by omega) l3 OX) ?_
   rintro e w7 ⟨rfl, b7⟩
   have D7 : Hid (Below wr.heap.size wr w7) := D5.out.trans (b7.mono D5.out.size)
   refine ⟨_, rfl, CV.out _ D7.out, ?_⟩
   have EY := yield_le (ks := ks) (Y := Z) UU.out.2.1 UU.out.2.2.1 UU.out.2.2.2.1 UU.out.2.2.2.2
   obtain ⟨n, hn⟩ : ∃ n, yieldN ks Z u = n := ⟨_, rfl⟩
   have HN : Hid (yieldN ks Z u = n) := hn
   have nb : n ≤ 10 ∧ (0 < n → n ≤ x ∧ u.load + n ≤ k.n7) := by
    rw [hn] at EY
    split at EY
    ·omega
    ·omega
   rw [hn]
   clear b7 hn EY T6
   go_simp
   refine sched_value rfl (.int .i64 n) w7 (by go_simp) (by go_simp) trivial ?_
   go_simp
   unfold wpSched
   have T7 : Hid (TkS ks Y Z es b1 (z + 1) w1 (.slice a1 Y.gs.length h1) (.slice (some ⟨gs, 0, none⟩) Y.os.length h2) (.slice a3 Y.gold.length h3) (.slice (some ⟨gu, 0, none⟩) Y.us.length h4) (.slice a5 Y.qs.length h5) (.slice ea es.length ec) w7) := TQ.out.below D7.out
   have X7 : Hid (Wx w7 z (.int .i64 Y.turn) (.int .i64 Y.next) (.int .i64 Y.wide) (.int .i64 Y.high) (.slice a1 Y.gs.length h1) (.slice (some ⟨gs, 0, none⟩) Y.os.length h2) (.slice a3 Y.gold.length h3) (.slice (some ⟨gu, 0, none⟩) Y.us.length h4) (.slice a5 Y.qs.length h5)) := XQ.out.below D7.out XQ.out.lt
   by_cases hp : 0 < n
   ·have NX : Hid (tk ks Y (q + 1) = (takeW Z q u n, es ++ [⟨4, u.id, n⟩])) := by
     have h9 := tk_yes (ks := ks) (Y := Y) (q := q) (u := u) (by rw [HQ.out.1]; exact UU.out.1) (by rw [HQ.out.1, HN.out]; exact hp)
     unfold Hid
     rw [h9, HQ.out.1, HQ.out.2, HN.out]
    have U7 := UB.out _ D7.out
    have B7 := BB.out _ D7.out
    obtain ⟨y0, y1, y2, y3, y4, y5, y6, y7⟩ := U7.unc UU.out.1
    have t5 := U7.thaw (q * 8 + 5)
    have wr1 : IntKind.i64.wrap (u.load + n) = u.load + n := by rw [IntKind.wrap_i64]; omega
    have U8 : Hid (Ub (w7.setCell ⟨gu, q * 8 + 5, none⟩ (.int .i64 (u.load + n))) gu (Z.us.set q (loadU u (u.load + n))) ur) := U7.set5 UU.out.1 _
    have K8 : Hid (Kp gu w7 (w7.setCell ⟨gu, q * 8 + 5, none⟩ (.int .i64 (u.load + n)))) := Kp.set _ _ _
    have B8 : Hid (Bk (w7.setCell ⟨gu, q * 8 + 5, none⟩ (.int .i64 (u.load + n))) gs Z.os sr) := B7.other (by have := GL.out.2.2; omega) _ _
    clear U7 B7
    go_upto_region 9 with fail
    clear y0 y1 y2 y3 y4 y5 y6 y7 t5 wr1
    generalize w7.setCell ⟨gu, q * 8 + 5, none⟩ (.int .i64 (u.load + n)) = w8 at *
    have F8 : Hid (Fr (fun q => q = gu) w7 w8) := Fr.kp K8.out rfl
    have X8 : Hid (Wx w8 z (.int .i64 Y.turn) (.int .i64 Y.next) (.int .i64 Y.wide) (.int .i64 Y.high) (.slice a1 Y.gs.length h1) (.slice (some ⟨gs, 0, none⟩) Y.os.length h2) (.slice a3 Y.gold.length h3) (.slice (some ⟨gu, 0, none⟩) Y.us.length h4) (.slice a5 Y.qs.length h5)) := F8.out.wx X7.out (by have := GL.out.1; omega)
    obtain ⟨y0, y1, y2, y3, y4, y5, y6, y7⟩ := U8.out.unc (i := q) (o := loadU u (u.load + n)) (by rw [List.getElem?_set_self (by have := (List.getElem?_eq_some_iff.1 UU.out.1).1; exact this)])
    have y3' : w8.cell? ⟨gu, q * 8 + 3, none⟩ = some (.int .i64 (an : Nat)) := by rw [← UU.out.2.2.2.1]; exact y3
    obtain ⟨x0, x1, x2, x3, x4, x5, x6, x7, x8⟩ := X8.out.cells
    have co := B8.out.cell UU.out.2.2.2.2
    have ts := B8.out.thaw an
    have wr2 : IntKind.i64.wrap (x - n) = x - n := by rw [IntKind.wrap_i64]; omega
    clear y0 y1 y2 y3 y4 y5 y6 y7
    go_region
    have K9 : Hid (Kp gs w8 (w8.setCell ⟨gs, an, none⟩ (.int .i64 (x - n))).drew) := (Kp.set _ _ _).trans (Kp.of (Below.refl _ _).drew)
    have B9 : Hid (Bk (w8.setCell ⟨gs, an, none⟩ (.int .i64 (x - n))).drew gs (Z.os.set an (x - n)) sr) := B8.out.set an _ (List.getElem?_eq_some_iff.1 UU.out.2.2.2.2).1
    clear x0 x1 x2 x3 x4 x5 x6 x7 x8 y3' co ts wr2
    generalize (w8.setCell ⟨gs, an, none⟩ (.int .i64 (x - n))).drew = w9 at *
    have F9 : Hid (Fr (fun q => q = gs) w8 w9) := Fr.kp K9.out rfl
    have X9 : Hid (Wx w9 z (.int .i64 Y.turn) (.int .i64 Y.next) (.int .i64 Y.wide) (.int .i64 Y.high) (.slice a1 Y.gs.length h1) (.slice (some ⟨gs, 0, none⟩) Y.os.length h2) (.slice a3 Y.gold.length h3) (.slice (some ⟨gu, 0, none⟩) Y.us.length h4) (.slice a5 Y.qs.length h5)) := F9.out.wx X8.out (by have := GL.out.2.1; omega)
    have U9 : Hid (Ub w9 gu (Z.us.set q (loadU u (u.load + n))) ur) := (F9.out.block gu U8.out.lt (by have := GL.out.2.2; omega)).trans U8.out
    have F79 : Hid (Fr (fun q => q = gu ∨ q = gs) w7 w9) := (F8.out.mono (fun k hk => .inl hk)).trans (F9.out.mono (fun k hk => .inr hk))
    have E9 : Hid (Evo w9 (z + 1) (.slice ea es.length ec) es) := F79.out.own T7.out.e (fun b hb e => by have h9 := (T7.out.e.block b hb).1; have h8 := GL.out; omega)
    obtain ⟨y0, y1, y2, y3, y4, y5, y6, y7⟩ := U9.out.unc (i := q) (o := loadU u (u.load + n)) (by rw [List.getElem?_set_self (by have := (List.getElem?_eq_some_iff.1 UU.out.1).1; exact this)])
    have y0' : w9.cell? ⟨gu, q * 8, none⟩ = some (.int .i64 u.id) := y0
    have OA : Hid (Evo (w9.alloc (Obj.cells #[.int .i64 4, .int .i64 u.id, .int .i64 n] 73)) (z + 1) (.slice ea es.length ec) es) := E9.out.alloc _
    have RC : Hid (Evc (w9.alloc (Obj.cells #[.int .i64 4, .int .i64 u.id, .int .i64 n] 73)) ⟨w9.heap.size, 0, none⟩ ⟨4, u.id, n⟩) := Evc.mk' (w := w9) ⟨4, u.id, n⟩ rfl
    have BE : Hid (Below w9.heap.size w9 (w9.alloc (Obj.cells #[.int .i64 4, .int .i64 u.id, .int .i64 n] 73))) := (Below.refl _ _).alloc (Nat.le_refl _) _
    have SB : Hid (z + 1 ≤ (w9.alloc (Obj.cells #[.int .i64 4, .int .i64 u.id, .int .i64 n] 73)).heap.size) := Nat.le_trans X9.out.lt BE.out.size
    clear y0 y1 y2 y3 y4 y5 y6 y7
    go_wp2_with (at_builtin; refine app_ev _ rfl _ _ rfl (z + 1) _ es rfl OA.out w9.heap.size ⟨4, u.id, n⟩ rfl RC.out (by have := EL.out; omega) SB.out ?_)
    intro g cap wE o8 g8 a8 l8
    have EO : Hid (Evo wE (z + 1) (.slice (some ⟨g, 0, none⟩) (es.length + 1) cap) (es ++ [⟨4, u.id, n⟩])) := o8
    have FE : Hid (Fr (fun q => (.slice ea es.length ec : Value).ownBlock = some q) w9 wE) := (Fr.below BE.out).trans (Fr.gb g8 (fun k hk => hk))
    have FA : Hid (Fr (fun q => q = gu ∨ q = gs ∨ (.slice ea es.length ec : Value).ownBlock = some q) w7 wE) := (F79.out.mono (fun k hk => by rcases hk with h | h; exact .inl h; exact .inr (.inl h))).trans (FE.out.mono (fun k hk => .inr (.inr hk)))
    have NE : Hid (∀ k, k ≤ z → ¬ (.slice ea es.length ec : Value).ownBlock = some k) := fun k hk e => by have := (E9.out.block k e).1; omega
    have UE : Hid (Ub wE gu (Z.us.set q (loadU u (u.load + n))) ur) := (FE.out.block gu U9.out.lt (NE.out gu (by have := GL.out.1; omega))).trans U9.out
    have BK : Hid (Bk wE gs (Z.os.set an (x - n)) sr) := (FE.out.block gs B9.out.lt (NE.out gs (by have := GL.out.2.1; omega))).trans B9.out
    have XE : Hid (Wx wE z (.int .i64 Y.turn) (.int .i64 Y.next) (.int .i64 Y.wide) (.int .i64 Y.high) (.slice a1 Y.gs.length h1) (.slice (some ⟨gs, 0, none⟩) Y.os.length h2) (.slice a3 Y.gold.length h3) (.slice (some ⟨gu, 0, none⟩) Y.us.length h4) (.slice a5 Y.qs.length h5)) := FE.out.wx X9.out (NE.out z (Nat.le_refl _))
    have EW : Hid ((takeW Z q u n).os = Z.os.set an (x - n)) := by
     unfold Hid takeW
     simp only [UU.out.2.2.2.1, Int.toNat_natCast, List.getD_eq_getElem?_getD, UU.out.2.2.2.2, Option.getD_some]
    have TE : Hid (TkS ks Y (takeW Z q u n) (es ++ [⟨4, u.id, n⟩]) b1 (z + 1) w1 (.slice a1 Y.gs.length h1) (.slice (some ⟨gs, 0, none⟩) Y.os.length h2) (.slice a3 Y.gold.length h3) (.slice (some ⟨gu, 0, none⟩) Y.us.length h4) (.slice a5 Y.qs.length h5) (.slice (some ⟨g, 0, none⟩) (es.length + 1) cap) wE) := by
     have h9 := T7.out.take (V' := wE) (i := q) (u := u) (ur := ur) (sr := sr) (ev' := .slice (some ⟨g, 0, none⟩) (es.length + 1) cap) S1.out (fun y hy k hk => by have := LW.out y hy k hk; have := HZ.out; omega) GB.out.1 GB.out.2.1 GB.out.2.2.1 GB.out.2.2.2.1 GB.out.2.2.2.2.1 GB.out.2.2.2.2.2.1 GB.out.2.2.2.2.2.2.1 GB.out.2.2.2.2.2.2.2 UU.out.1 (by rw [HN.out]; exact hp) (by rw [HN.out]; exact UE.out) (by rw [HN.out, EW.out]; exact BK.out) (by rw [HN.out]; exact EO.out) FA.out
     rw [HN.out] at h9
     exact h9
    clear o8 g8 a8 l8 y0'
    go_wp2
    go_round
    case rel => exact ⟨q + 1, by omega, by go_num, XE.out, by rw [NX.out]; exact TE.out⟩
    case measure => simp [intOf]; omega
   ·have NX : Hid (tk ks Y (q + 1) = (Z, es)) := by
     have h9 := tk_no (ks := ks) (Y := Y) (q := q) (u := u) (by rw [HQ.out.1]; exact UU.out.1) (by rw [HQ.out.1, HN.out]; exact hp)
     unfold Hid
     rw [h9, ← HQ.out.1, ← HQ.out.2]
    go_wp2
    go_round
    case rel => exact ⟨q + 1, by omega, by go_num, X7.out, by rw [NX.out]; exact T7.out⟩
    case measure => simp [intOf]; omega
end Go.Proofs.YteieikgkmfglaaaGreatDoor
namespace Go.Proofs.YteieikgkmfglaaaGreatDoor
open Go.RowKit
set_option linter.unusedVariables false
set_option maxHeartbeats 1000000 in
theorem idxi_any (u : Value) (v : Int) (xs : List Int) (w : World) (hu : Ro w u xs) :
  Calls Tryz.prog 121 #[u, .int .i64 v] w fun e w' => ∃ r : Int, e = .returned (.int .i64 r) ∧ Fst (fun x => decide (v = x)) xs r ∧ w' = w := by
 obtain ⟨a, c, rfl, c1, c2, ca⟩ := hu
 have Ca : Hid (Cells w a xs) := ca
 clear ca
 go_enter Tryz.func121, Tryz.ntmps121
 go_wp2
 go_loopw [8] (fun i W' => ∃ k : Nat, k ≤ xs.length ∧ i = .int .i64 (k : Nat) ∧ (xs.take k).any (fun x => decide (v = x)) = false ∧ W' = w) (fun i _ => xs.length - (intOf i).toNat)
 case atStart => exact ⟨0, Nat.zero_le _, rfl, by simp, rfl⟩
 case round =>
  obtain ⟨k, hk, rfl, ht, rfl⟩ := hrel
  have Ht : Hid ((xs.take k).any (fun x => decide (v = x)) = false) := ht
  clear ht
  by_cases h0 : k = xs.length
  ·subst h0
   go_wp2
   go_ret
   refine ⟨_, rfl, .inl ⟨rfl, ?_⟩, rfl⟩
   have := Ht.out
   rw [List.take_of_length_le (Nat.le_refl _)] at this
   exact this
  ·have hkx : k < xs.length := by omega
   obtain ⟨x, rfl, -, hx⟩ := Ca.out (by intro h; rw [h] at hkx; simp at hkx)
   have cx := hx k xs[k] (List.getElem?_eq_getElem hkx)
   have Hs : Hid _ := any_next (p := fun x => decide (v = x)) hkx
   have Hm : Hid (xs[k]? = some xs[k]) := List.getElem?_eq_getElem hkx
   generalize xs[k] = y at *
   clear hx
   by_cases hy : v = y
   ·have Hy : Hid (decide (v = y) = true) := decide_eq_true hy
    go_wp2
    go_ret
    exact ⟨_, rfl, .inr ⟨k, y, rfl, Hm, Hy, Ht⟩, rfl⟩
   ·have Hy : Hid (decide (v = y) = false) := decide_eq_false hy
    go_wp2
    go_round
    case rel => exact ⟨k + 1, by omega, by go_num, by have := Hs.out; rw [Ht.out, Hy.out] at this; exact this, trivial⟩
    case measure => simp [intOf]; omega
set_option maxHeartbeats 1000000 in
theorem hasi_any (u : Value) (v : Int) (xs : List Int) (w : World) (hu : Ro w u xs) :
  Calls Tryz.prog 93 #[u, .int .i64 v] w fun e w' => e = .returned (.bool (xs.any (fun x => decide (v = x)))) ∧ w' = w := by
 have H : Hid _ := idxi_any u v xs w hu
 obtain ⟨a, c, rfl, -⟩ := hu
 go_enter Tryz.func93, Tryz.ntmps93
 go_wp2_with fail
 refine Calls.mono H.out ?_
 rintro e w1 ⟨r, rfl, hr, rfl⟩
 have Hr : Hid (decide (0 ≤ r) = xs.any (fun x => decide (v = x))) := hr.has
 clear hr
 go_wp2
 go_ret
 exact ⟨by show Ending.returned (.bool (decide (0 ≤ r))) = _; rw [Hr.out], rfl⟩
end Go.Proofs.YteieikgkmfglaaaGreatDoor
namespace Go.Proofs.YteieikgkmfglaaaGreatDoor
open Go.RowKit
set_option linter.unusedVariables false
set_option maxHeartbeats 2000000 in
theorem idxm_any (K : Nat) (eK : ∀ args w, (callFunc K args).run Tryz.prog w = .ok (.enter K args) w) (u : Value) (cs : Array Value) (ks : List UnV) (p : UnV → Bool) (w : World) (hu : Unl w u ks)
  (hp : ∀ W, Below w.heap.size w W → ∀ k ∈ ks, Calls Tryz.prog K (#[k.val] ++ cs) W fun e w' => e = .returned (.bool (p k)) ∧ Below W.heap.size W w') :
  Calls Tryz.prog 64 #[u, .func (Fn.func K) #[] cs] w fun e w' => ∃ r : Int, e = .returned (.int .i64 r) ∧ FstU p ks r ∧ Below w.heap.size w w' := by
 obtain ⟨a, c, rfl, c1, c2, ca⟩ := hu
 have Ca : Hid (ks ≠ [] → ∃ x, a = some x ∧ x.block < w.heap.size ∧ ∀ (i : Nat) k, ks[i]? = some k → Unc w (x.add (i * 8)) k) := ca
 have Hp : Hid (∀ W, Below w.heap.size w W → ∀ k ∈ ks, Calls Tryz.prog K (#[k.val] ++ cs) W fun e w' => e = .returned (.bool (p k)) ∧ Below W.heap.size W w') := hp
 clear ca hp
 go_enter Tryz.func64, Tryz.ntmps64
 go_wp2
 go_loopw [8] (fun i W' => ∃ k : Nat, k ≤ ks.length ∧ i = .int .i64 (k : Nat) ∧ (ks.take k).any p = false ∧ Below w.heap.size w W') (fun i _ => ks.length - (intOf i).toNat)
 case atStart => exact ⟨0, Nat.zero_le _, rfl, by simp, Below.refl _ _⟩
 case round =>
  obtain ⟨k, hk, rfl, ht, hb⟩ := hrel
  have Ht : Hid ((ks.take k).any p = false) := ht
  have B : Hid (Below w.heap.size w wr) := hb
  clear ht hb
  by_cases h0 : k = ks.length
  ·subst h0
   go_wp2
   go_ret
   refine ⟨_, rfl, .inl ⟨rfl, ?_⟩, B⟩
   have := Ht.out
   rw [List.take_of_length_le (Nat.le_refl _)] at this
   exact this
  ·have hkx : k < ks.length := by omega
   obtain ⟨x, rfl, hx1, hx⟩ := Ca.out (by intro h; rw [h] at hkx; simp at hkx)
   obtain ⟨y, hy⟩ : ∃ y, ks[k]? = some y := ⟨_, List.getElem?_eq_getElem hkx⟩
   have Yc := (hx k y hy).below B.out (by rw [add_block]; exact hx1)
   obtain ⟨q0, q1, q2, q3, q4, q5, q6, q7⟩ := Yc
   have hc := Hp.out wr B.out y (List.mem_of_getElem? hy)
   have Hs : Hid _ := anyu_next (p := p) hy
   have Hm : Hid (ks[k]? = some y) := hy
   clear hx hx1 hy
   cases hy : p y with
   | true =>
    rw [hy] at hc
    have Hc : Hid (Calls Tryz.prog K (#[y.val] ++ cs) wr fun e w' => e = .returned (.bool true) ∧ Below wr.heap.size wr w') := hc
    have Hy : Hid (p y = true) := hy
    clear hc hy
    go_wp2_with fail
    refine Calls.mono Hc.out ?_
    rintro e w1 ⟨rfl, b1⟩
    have B1 : Hid (Below w.heap.size w w1) := B.out.trans (b1.mono B.out.size)
    clear b1
    go_wp2
    go_ret
    exact ⟨_, rfl, .inr ⟨k, y, rfl, Hm, Hy, Ht⟩, B1⟩
   | false =>
    rw [hy] at hc
    have Hc : Hid (Calls Tryz.prog K (#[y.val] ++ cs) wr fun e w' => e = .returned (.bool false) ∧ Below wr.heap.size wr w') := hc
    have Hy : Hid (p y = false) := hy
    clear hc hy
    go_wp2_with fail
    refine Calls.mono Hc.out ?_
    rintro e w1 ⟨rfl, b1⟩
    have B1 : Hid (Below w.heap.size w w1) := B.out.trans (b1.mono B.out.size)
    clear b1
    go_wp2
    go_round
    case rel => exact ⟨k + 1, by omega, by go_num, by have := Hs.out; rw [Ht.out, Hy.out] at this; exact this, B1⟩
    case measure => simp [intOf]; omega
end Go.Proofs.YteieikgkmfglaaaGreatDoor
namespace Go.Proofs.YteieikgkmfglaaaGreatDoor
open Go.RowKit
set_option linter.unusedVariables false
set_option maxHeartbeats 4000000 in
theorem hasq_any (K : Nat) (eK : ∀ args w, (callFunc K args).run Tryz.prog w = .ok (.enter K args) w) (u : Value) (cs : Array Value) (ks : List UnV) (p : UnV → Bool) (w : World) (hu : Unl w u ks)
  (hp : ∀ W, Below w.heap.size w W → ∀ k ∈ ks, Calls Tryz.prog K (#[k.val] ++ cs) W fun e w' => e = .returned (.bool (p k)) ∧ Below W.heap.size W w') :
  Calls Tryz.prog 42 #[u, .func (Fn.func K) #[] cs] w fun e w' => e = .returned (.bool (ks.any p)) ∧ Below w.heap.size w w' := by
 have H' : Hid (Calls Tryz.prog 64 #[u, .func (Fn.func K) #[] cs] w fun e w' => ∃ r : Int, e = .returned (.int .i64 r) ∧ FstU p ks r ∧ Below w.heap.size w w') := idxm_any K eK u cs ks p w hu hp
 clear hp
 go_enter Tryz.func42, Tryz.ntmps42
 go_wp2_with fail
 refine Calls.mono H'.out ?_
 rintro e w1 ⟨r, rfl, hr, q⟩
 have Hr : Hid (decide (0 ≤ r) = ks.any p) := hr.has
 have Q : Hid (Below w.heap.size w w1) := q
 clear hr q
 go_wp2
 go_ret
 exact ⟨by show Ending.returned (.bool (decide (0 ≤ r))) = _; rw [Hr.out], Q⟩
end Go.Proofs.YteieikgkmfglaaaGreatDoor
namespace Go.Proofs.YteieikgkmfglaaaGreatDoor
open Go.RowKit
set_option linter.unusedVariables false
def trainsOf (ks : List KV) (h : UnV) : Bool := match ks[h.kind.toNat]? with | some k => k.t | none => false
/-- does h take in what u brings? -/
def takesIn (ks : List KV) (near : List Int) (u h : UnV) : Bool := decide (h.player = u.player) && (trainsOf ks h && near.any (fun x => decide (h.at_ = x)))
set_option maxRecDepth 100000 in
set_option maxHeartbeats 8000000 in
theorem takesin_fn (ks : List KV) (near : List Int) (u h : UnV) (kn : Nat) (k : KV) (bu bk bn : Nat) (xk : Addr) (qk : Nat) (vn : Value) (W : World) (hkn : h.kind = kn) (hkk : ks[kn]? = some k)
  (c1 : W.cell? ⟨bu, 1, none⟩ = some (.int .i64 u.player)) (c2 : W.cell? ⟨bk, 0, none⟩ = some (.slice (some xk) ks.length qk)) (c3 : W.cell? ⟨bn, 0, none⟩ = some vn) (hK : Kc W (xk.add (kn * 11)) k) (hn : Ro W vn near) :
  Calls Tryz.prog 92 (#[h.val] ++ #[.pointer (some ⟨bu, 0, none⟩), .pointer (some ⟨bk, 0, none⟩), .pointer (some ⟨bn, 0, none⟩)]) W fun e w' => e = .returned (.bool (takesIn ks near u h)) ∧ Below W.heap.size W w' := by
 have TO : Hid (trainsOf ks h = k.t) := by unfold Hid trainsOf; rw [hkn, Int.toNat_natCast]; simp only [hkk]
 have hkl : kn < ks.length := (List.getElem?_eq_some_iff.1 hkk).1
 have hki : ((kn : Nat) : Int) < (ks.length : Nat) := by omega
 have HK : Hid (h.kind = (kn : Nat)) := hkn
 have RN : Hid (Ro W vn near) := hn
 have CC : Hid (W.cell? ⟨bu, 1, none⟩ = some (.int .i64 u.player) ∧ W.cell? ⟨bk, 0, none⟩ = some (.slice (some xk) ks.length qk) ∧ W.cell? ⟨bn, 0, none⟩ = some vn ∧ Kc W (xk.add (kn * 11)) k) := ⟨c1, c2, c3, hK⟩
 obtain ⟨na, nc, rfl, -⟩ := hn
 clear hkn hkk c1 c2 c3 hK
 unfold UnV.val
 go_enter Tryz.func92, Tryz.ntmps92
 go_upto_region 1 with fail
 have BA : Hid (Below W.heap.size W (W.alloc (Obj.cells #[.int .i64 h.id, .int .i64 h.player, .int .i64 h.kind, .int .i64 h.at_, .int .i64 h.life, .int .i64 h.load, .int .i64 h.task, .int .i64 h.goal] 44))) := (Below.refl _ _).alloc (Nat.le_refl _) _
 have U1 : Hid (Ub (W.alloc (Obj.cells #[.int .i64 h.id, .int .i64 h.player, .int .i64 h.kind, .int .i64 h.at_, .int .i64 h.life, .int .i64 h.load, .int .i64 h.task, .int .i64 h.goal] 44)) W.heap.size [h] []) := unit_one h rfl
 obtain ⟨y, hy⟩ : ∃ y, W.heap.size = y := ⟨_, rfl⟩
 rw [hy] at U1 ⊢
 have HY : Hid (W.heap.size = y) := hy
 clear hy
 generalize W.alloc (Obj.cells #[.int .i64 h.id, .int .i64 h.player, .int .i64 h.kind, .int .i64 h.at_, .int .i64 h.life, .int .i64 h.load, .int .i64 h.task, .int .i64 h.goal] 44) = w1 at *
 have e1 : w1.cell? ⟨bu, 1, none⟩ = some (.int .i64 u.player) := by rw [BA.out.cell (p := ⟨bu, 1, none⟩) (cell_lt CC.out.1)]; exact CC.out.1
 have e2 : w1.cell? ⟨bk, 0, none⟩ = some (.slice (some xk) ks.length qk) := by rw [BA.out.cell (p := ⟨bk, 0, none⟩) (cell_lt CC.out.2.1)]; exact CC.out.2.1
 have e3 : w1.cell? ⟨bn, 0, none⟩ = some (.slice na near.length nc) := by rw [BA.out.cell (p := ⟨bn, 0, none⟩) (cell_lt CC.out.2.2.1)]; exact CC.out.2.2.1
 have k10 := (CC.out.2.2.2.below BA.out CC.out.2.2.2.lt).c10
 obtain ⟨y0, y1, y2, y3, y4, y5, y6, y7⟩ := U1.out.unc (i := 0) (o := h) rfl
 simp only [Nat.zero_mul, Nat.zero_add] at y0 y1 y2 y3 y4 y5 y6 y7
 rw [HK.out] at y2
 by_cases hp : h.player = u.player
 ·have PD : Hid (decide (h.player = u.player) = true) := decide_eq_true hp
  rw [hp] at y1
  clear hp
  cases hkt : k.t with
  | false =>
   rw [hkt] at k10
   have E : Hid (takesIn ks near u h = false) := by unfold Hid takesIn; rw [TO.out, hkt]; simp
   clear hkt
   go_wp2
   go_ret
   exact ⟨by rw [E.out]; rfl, BA.out⟩
  | true =>
   rw [hkt] at k10
   have E : Hid (takesIn ks near u h = near.any (fun x => decide (h.at_ = x))) := by unfold Hid takesIn; rw [TO.out, hkt, PD.out]; simp
   clear hkt
   go_wp2_with fail
   refine (hasi_any _ h.at_ near w1 (RN.out.below BA.out)).mono ?_
   rintro e w2 ⟨rfl, rfl⟩
   go_wp2
   go_ret
   exact ⟨by rw [E.out]; rfl, BA.out⟩
 ·have E : Hid (takesIn ks near u h = false) := by unfold Hid takesIn; rw [decide_eq_false hp]; simp
  go_wp2
  go_ret
  exact ⟨by rw [E.out]; rfl, BA.out⟩
end Go.Proofs.YteieikgkmfglaaaGreatDoor
namespace Go.Proofs.YteieikgkmfglaaaGreatDoor.Fd
end Go.Proofs.YteieikgkmfglaaaGreatDoor.Fd
namespace Go.Proofs.YteieikgkmfglaaaGreatDoor
open Go.RowKit
set_option linter.unusedVariables false
set_option maxHeartbeats 400000 in
theorem fplace_any (W a c r : Nat) (w : World) (h1 : 0 < W) (h2 : W ≤ 12) (h3 : a ≤ 144) (hc : a % W = c) (hr : a / W = r) :
  Calls Tryz.prog 150 #[.int .i64 (W : Nat), .int .i64 (a : Nat)] w fun e w' => e = .returned (.tuple #[.int .i64 (c : Nat), .int .i64 (r : Nat)]) ∧ ∃ n, w' = w.drewN n := by
 have hw : ¬ (W : Int) = 0 := by omega
 have e1 : (a : Int) % (W : Int) = (c : Nat) := by rw [← hc]; rfl
 have e2 : (a : Int) / (W : Int) = (r : Nat) := by rw [← hr]; rfl
 have l1 : r ≤ 144 := by rw [← hr]; exact Nat.le_trans (Nat.div_le_self _ _) h3
 clear hc hr
 go_enter Tryz.func150, Tryz.ntmps150
 go_wp2
 go_quiet (fail)
 go_wp2
 go_ret2
 exact ⟨by show Ending.returned (.tuple #[.int .i64 ((a : Int) % W), .int .i64 r]) = _; rw [e1], _, rfl⟩
end Go.Proofs.YteieikgkmfglaaaGreatDoor
namespace Go.Proofs.YteieikgkmfglaaaGreatDoor
open Go.RowKit
set_option linter.unusedVariables false
end Go.Proofs.YteieikgkmfglaaaGreatDoor
