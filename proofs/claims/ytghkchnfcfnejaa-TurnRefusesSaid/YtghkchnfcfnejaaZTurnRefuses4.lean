/- A block of integers that may be written. · A list of integers of its own, as a block. · turn.give: what stays between two orders. · turn: the unit that is asked; isOne; send. · field.Step where no cell is asked for. · A world's value: its five slices; its field. · turn.mayBe. · One more unit, one more job: the run itself. · A region that draws its order, in which calls that change memory stand in one order, and what else there is reads what they leave: it may be walked in an order of one's own. · A region that draws its order: what reads, and calls in one order, first, in an order of one's own; then what turns what was read, each the only one that may come. · turn.hire. · The program's orders: which of two stands ahead. · A stable order: elements with the place that they had. Plain mathematics. · orders.unit as a map's key; a map of such keys that a call makes. · orders.Last as mathematics: each unit's last order, and those to train. · The program's orders: what is wrong with one. · Slices of api.Order that the call itself makes, by append. · orders.Check, unitOf, lastOnes. -/
import Derived.Test.YtghkchnfcfnejaaZTurnRefuses1
import Derived.OwnWalk
import Derived.Test.YtghkchnfcfnejaaZTurnRefuses3
import Derived.Deep.DeepCutAuto
import Derived.Test.YtghkchnfcfnejaaZTurnRefuses2
import Derived.Laws.Closers25
import Derived.IntWalk
import Derived.BigRegion
import Derived.Laws.MakeOwn
import Derived.StillTail
import Derived.Below
import Derived.LoopN
import Derived.Maps.Own
import Derived.Maps.OwnOps
import Derived.Maps.Views
import Derived.Carry
import Derived.DeepKeys4
import Derived.Deep.AppendLies
namespace Go.Proofs.Ytghkchnfcfnejaa
open Go.RowKit

def intCells (ds : List Int) : List Value := ds.map fun d => .int .i64 d

/-- block b holds the integers ds, and some cells behind. -/
def Bk (w : World) (b : Nat) (ds : List Int) (r : Array Value) : Prop := w.heap[b]? = some (.cells ((intCells ds).toArray ++ r) 3 (0, 0))

theorem Bk.cell {w : World} {b : Nat} {ds : List Int} {r : Array Value} (h : Bk w b ds r) {i : Nat} {d : Int} (hd : ds[i]? = some d) : w.cell? ⟨b, i, none⟩ = some (.int .i64 d) := by
  have hi : i < ds.length := (List.getElem?_eq_some_iff.1 hd).1
  unfold Bk at h
  simp only [World.cell?, h]
  simp [intCells, Array.getElem?_append, hi]
  exact (List.getElem?_eq_some_iff.1 hd).2
theorem Bk.thaw {w : World} {b : Nat} {ds : List Int} {r : Array Value} (h : Bk w b ds r) (i : Nat) : w.frozen? ⟨b, i, none⟩ = false := by
  unfold Bk at h
  simp [World.frozen?, h]
theorem Bk.set {w : World} {b : Nat} {ds : List Int} {r : Array Value} (h : Bk w b ds r) (i : Nat) (d : Int) (hi : i < ds.length) : Bk (w.setCell ⟨b, i, none⟩ (.int .i64 d)) b (ds.set i d) r := by
  unfold Bk at *
  rw [heap_setCell_same w b i _ _ _ h]
  have e : (intCells (ds.set i d)).toArray = (intCells ds).toArray.setIfInBounds i (.int .i64 d) := by
    simp [intCells, List.map_set]
  rw [e]
  have hl : i < (intCells ds).toArray.size := by simpa [intCells] using hi
  rw [Array.setIfInBounds_append_left hl]
theorem Bk.drewN {w : World} {b : Nat} {ds : List Int} {r : Array Value} (h : Bk w b ds r) (n : Nat) : Bk (w.drewN n) b ds r := h
theorem Bk.kp {w w' : World} {b z : Nat} {ds : List Int} {r : Array Value} (h : Bk w b ds r) (hk : Kp z w w') (hne : b ≠ z) : Bk w' b ds r := by
  unfold Bk at *
  rw [hk.block b (lt_of_block h) hne]; exact h
theorem Bk.below {w w' : World} {b : Nat} {ds : List Int} {r : Array Value} (h : Bk w b ds r) (hb : Below w.heap.size w w') : Bk w' b ds r := by
  unfold Bk at *
  rw [hb.block b (lt_of_block h)]; exact h
theorem Bk.lt {w : World} {b : Nat} {ds : List Int} {r : Array Value} (h : Bk w b ds r) : b < w.heap.size := lt_of_block h
theorem Bk.ro {w : World} {b c : Nat} {ds : List Int} {r : Array Value} (h : Bk w b ds r) (h1 : ds.length ≤ c) (h2 : c ≤ 9223372036854775807) : Ro w (.slice (some ⟨b, 0, none⟩) ds.length c) ds :=
  ⟨_, c, rfl, h1, h2, fun _ => ⟨_, rfl, h.lt, fun i d hd => by rw [Addr.add_lit, Nat.zero_add]; exact h.cell hd⟩⟩
/-- another cell, another block. -/
theorem Bk.other {w : World} {b : Nat} {ds : List Int} {r : Array Value} (h : Bk w b ds r) {g : Nat} (hne : b ≠ g) (i : Nat) (u : Value) : Bk (w.setCell ⟨g, i, none⟩ u) b ds r := by
  unfold Bk at *
  rw [Below.heap_setCell _ _ _ _ hne]; exact h
theorem Bk.low {w w' : World} {b B : Nat} {ds : List Int} {r : Array Value} (h : Bk w b ds r) (hb : Below B w w') (hB : b < B) : Bk w' b ds r := by
  unfold Bk at *
  rw [hb.block b hB]; exact h
end Go.Proofs.Ytghkchnfcfnejaa

namespace Go.Proofs.Ytghkchnfcfnejaa
open Go.RowKit
set_option linter.unusedVariables false

theorem Ow.bk {w : World} {base : Nat} {v : Value} {xs : List Int} (h : Ow w base v xs) : (v = .slice none 0 0 ∧ xs = []) ∨ ∃ g cap rest, v = .slice (some ⟨g, 0, none⟩) xs.length cap ∧ base ≤ g ∧ xs.length ≤ cap ∧ cap ≤ maxLen ∧ xs.length + rest.size = cap ∧ Bk w g xs rest := by
  rcases h.2 with ⟨h1, h2⟩ | ⟨g, cap, cur, h1, h2, h3, h4, h5, h6, h7⟩
  · exact .inl ⟨h1, List.length_eq_zero_iff.1 h2⟩
  · have e6 : cur.toList.length = cap := by simpa using h6
    refine .inr ⟨g, cap, (cur.toList.drop xs.length).toArray, h1, h2, h4, h5, ?_, ?_⟩
    · simp only [List.size_toArray, List.length_drop, e6]; omega
    · have e : cur = (intCells xs).toArray ++ (cur.toList.drop xs.length).toArray := by
        apply Array.ext'
        rw [Nat.mul_one] at h7
        have h8 : cur.toList.take xs.length = intCells xs := h7
        rw [Array.toList_append]
        show cur.toList = intCells xs ++ cur.toList.drop xs.length
        rw [← h8, List.take_append_drop]
      unfold Bk
      rw [h3, ← e]
theorem Bk.ow {w : World} {base g cap : Nat} {xs : List Int} {rest : Array Value} (h : Bk w g xs rest) (hb : base ≤ g) (h1 : xs.length ≤ cap) (h2 : cap ≤ maxLen) (h3 : xs.length + rest.size = cap) : Ow w base (.slice (some ⟨g, 0, none⟩) xs.length cap) xs := by
  refine ⟨by simp, .inr ⟨g, cap, _, rfl, hb, h, h1, h2, ?_, ?_⟩⟩
  · simp [intCells]; omega
  · simp [intCells]
end Go.Proofs.Ytghkchnfcfnejaa

namespace Go.Proofs.Ytghkchnfcfnejaa
open Go.RowKit
set_option linter.unusedVariables false

structure GvS (ks : List KV) (Y : WV) (ref : List Int) (b1 z : Nat) (w1 : World) (u1 u2 u3 u4 u5 ur : Value) (V : World) : Prop where
  x : Wx V z (.int .i64 Y.turn) (.int .i64 Y.next) (.int .i64 Y.wide) (.int .i64 Y.high) u1 u2 u3 u4 u5
  o1 : Ow V b1 u1 Y.gs
  o2 : Ow V b1 u2 Y.os
  o3 : Ow V b1 u3 Y.gold
  o4 : Uno V b1 u4 Y.us
  o5 : Jbo V b1 u5 Y.qs
  r : Ow V b1 ur ref
  d : [u1, u2, u3, u4, u5, ur].Pairwise Dif
  k : Kp z w1 V
  f : GFit ks Y
section
variable {ks : List KV} {Y : WV} {ref : List Int} {b1 z : Nat} {w1 : World} {u1 u2 u3 u4 u5 ur : Value} {V V' : World}
theorem GvS.below (h : GvS ks Y ref b1 z w1 u1 u2 u3 u4 u5 ur V) (hb : Below V.heap.size V V') : GvS ks Y ref b1 z w1 u1 u2 u3 u4 u5 ur V' :=
  ⟨h.x.below hb h.x.lt, h.o1.below hb, h.o2.below hb, h.o3.below hb, h.o4.below hb, h.o5.below hb, h.r.below hb, h.d, h.k.trans (Kp.of hb), h.f⟩
theorem GvS.wo (h : GvS ks Y ref b1 z w1 u1 u2 u3 u4 u5 ur V) : Wo V b1 (.agg #[.int .i64 Y.turn, .int .i64 Y.next, .int .i64 Y.wide, .int .i64 Y.high, u1, u2, u3, u4, u5]) Y := ⟨u1, u2, u3, u4, u5, rfl, h.o1, h.o2, h.o3, h.o4, h.o5⟩
theorem GvS.difs (h : GvS ks Y ref b1 z w1 u1 u2 u3 u4 u5 ur V) : (Dif u1 u2 ∧ Dif u1 u3 ∧ Dif u1 u4 ∧ Dif u1 u5 ∧ Dif u1 ur) ∧ (Dif u2 u3 ∧ Dif u2 u4 ∧ Dif u2 u5 ∧ Dif u2 ur) ∧ (Dif u3 u4 ∧ Dif u3 u5 ∧ Dif u3 ur) ∧ (Dif u4 u5 ∧ Dif u4 ur) ∧ Dif u5 ur := by
  have := h.d
  simp only [List.pairwise_cons, List.mem_cons, List.not_mem_nil, or_false, forall_eq_or_imp, forall_eq] at this
  obtain ⟨⟨a1, a2, a3, a4, a5⟩, ⟨b1, b2, b3, b4⟩, ⟨c1, c2, c3⟩, ⟨d1, d2⟩, e, -⟩ := this
  exact ⟨⟨a1, a2, a3, a4, a5⟩, ⟨b1, b2, b3, b4⟩, ⟨c1, c2, c3⟩, ⟨d1, d2⟩, e⟩
theorem dif_to {u v v' : Value} {n : Nat} (h : Dif u v) (hu : ∀ k, u.ownBlock = some k → k < n) (hv : v'.ownBlock = v.ownBlock ∨ ∃ q, v'.ownBlock = some q ∧ n ≤ q) : Dif u v' := fun k h1 h2 => by
  rcases hv with e | ⟨q, e, hq⟩
  · exact h k h1 (by rw [← e]; exact h2)
  · rw [e] at h2
    injection h2 with h2
    have := hu k h1
    omega
theorem GvS.refuse {ref' : List Int} {ur' : Value} (h : GvS ks Y ref b1 z w1 u1 u2 u3 u4 u5 ur V) (hz : z < b1) (hw : w1.heap.size = b1) (g : V.grownBy V' ur.ownBlock) (ho : Ow V' b1 ur' ref') (hn : ur'.ownBlock = ur.ownBlock ∨ ∃ q, ur'.ownBlock = some q ∧ V.heap.size ≤ q) : GvS ks Y ref' b1 z w1 u1 u2 u3 u4 u5 ur' V' := by
  obtain ⟨⟨d12, d13, d14, d15, d1r⟩, ⟨d23, d24, d25, d2r⟩, ⟨d34, d35, d3r⟩, ⟨d45, d4r⟩, d5r⟩ := h.difs
  have F : Fr (fun q => ur.ownBlock = some q) V V' := Fr.gb g (fun k hk => hk)
  refine ⟨F.wx h.x (fun e => by have := (h.r.block z e).1; omega), F.own h.o1 (fun b hb e => d1r b hb e), F.own h.o2 (fun b hb e => d2r b hb e), F.own h.o3 (fun b hb e => d3r b hb e), F.own h.o4 (fun b hb e => d4r b hb e), F.own h.o5 (fun b hb e => d5r b hb e), ho, ?_, kp_gb h.k g (fun k hk => by rw [hw]; exact (h.r.block k hk).1), h.f⟩
  simp only [List.pairwise_cons, List.mem_cons, List.not_mem_nil, or_false, forall_eq_or_imp, forall_eq]
  exact ⟨⟨d12, d13, d14, d15, dif_to d1r (fun k hk => (h.o1.block k hk).2) hn⟩, ⟨d23, d24, d25, dif_to d2r (fun k hk => (h.o2.block k hk).2) hn⟩, ⟨d34, d35, dif_to d3r (fun k hk => (h.o3.block k hk).2) hn⟩, ⟨d45, dif_to d4r (fun k hk => (h.o4.block k hk).2) hn⟩, dif_to d5r (fun k hk => (h.o5.block k hk).2) hn, by simp, by simp⟩
theorem GvS.send {gu cap i : Nat} {rest : List Value} {u : UnV} {o : OrV} (h : GvS ks Y ref b1 z w1 u1 u2 u3 (.slice (some ⟨gu, 0, none⟩) Y.us.length cap) u5 ur V) (hz : z < b1) (hw : w1.heap.size = b1) (hu : Y.us[i]? = some u) (hg : b1 ≤ gu) (h1 : Y.us.length ≤ cap) (h2 : cap ≤ maxLen) (h3 : Y.us.length * 8 + rest.length = cap * 8) (hb : Ub V' gu (Y.us.set i (sentU o u)) rest) (hk : Kp gu V V') :
    GvS ks (sentW Y i u o) ref b1 z w1 u1 u2 u3 (.slice (some ⟨gu, 0, none⟩) Y.us.length cap) u5 ur V' := by
  obtain ⟨⟨d12, d13, d14, d15, d1r⟩, ⟨d23, d24, d25, d2r⟩, ⟨d34, d35, d3r⟩, ⟨d45, d4r⟩, d5r⟩ := h.difs
  have F : Fr (fun q => q = gu) V V' := Fr.kp hk rfl
  have own : (Value.slice (some ⟨gu, 0, none⟩) Y.us.length cap).ownBlock = some gu := rfl
  refine ⟨F.wx h.x (by omega), F.own h.o1 (fun b hb e => d14 b hb (by rw [own, e])), F.own h.o2 (fun b hb e => d24 b hb (by rw [own, e])), F.own h.o3 (fun b hb e => d34 b hb (by rw [own, e])), ?_, F.own h.o5 (fun b hb e => d45 gu own (by rw [hb, e])), F.own h.r (fun b hb e => d4r gu own (by rw [hb, e])), h.d, ?_, h.f.sent hu o⟩
  · have := hb.uno (base := b1) (cap := cap) hg (by simpa using h1) h2 (by simpa using h3)
    simpa [sentW] using this
  · exact ⟨hk.os.trans h.k.os, hk.tape.trans h.k.tape, hk.output.trans h.k.output, Nat.le_trans h.k.size hk.size, fun q hq hn => (hk.block q (Nat.lt_of_lt_of_le hq h.k.size) (by omega)).trans (h.k.block q hq hn)⟩
theorem GvS.hire {gg cg pn : Nat} {rest : Array Value} {g : Int} {o : OrV} {u5' : Value} (h : GvS ks Y ref b1 z w1 u1 u2 (.slice (some ⟨gg, 0, none⟩) Y.gold.length cg) u4 u5 ur V) (hz : z < b1) (hw : w1.heap.size = b1) (hg : b1 ≤ gg) (h1 : Y.gold.length ≤ cg) (h2 : cg ≤ maxLen) (h3 : Y.gold.length + rest.size = cg)
    (hx : Wx V' z (.int .i64 Y.turn) (.int .i64 Y.next) (.int .i64 Y.wide) (.int .i64 Y.high) u1 u2 (.slice (some ⟨gg, 0, none⟩) Y.gold.length cg) u4 u5') (hb : Bk V' gg (hired ks Y o).gold rest) (hj : Jbo V' b1 u5' (hired ks Y o).qs) (hf : Fr (fun q => q = z ∨ q = gg ∨ u5.ownBlock = some q) V V') (hn : u5'.ownBlock = u5.ownBlock ∨ ∃ q, u5'.ownBlock = some q ∧ V.heap.size ≤ q) (hfit : GFit ks (hired ks Y o)) :
    GvS ks (hired ks Y o) ref b1 z w1 u1 u2 (.slice (some ⟨gg, 0, none⟩) Y.gold.length cg) u4 u5' ur V' := by
  obtain ⟨⟨d12, d13, d14, d15, d1r⟩, ⟨d23, d24, d25, d2r⟩, ⟨d34, d35, d3r⟩, ⟨d45, d4r⟩, d5r⟩ := h.difs
  have own : (Value.slice (some ⟨gg, 0, none⟩) Y.gold.length cg).ownBlock = some gg := rfl
  have no : ∀ {u : Value}, (∀ k, u.ownBlock = some k → b1 ≤ k ∧ k < V.heap.size) → Dif u (.slice (some ⟨gg, 0, none⟩) Y.gold.length cg) → Dif u u5 → ∀ b, u.ownBlock = some b → ¬ (b = z ∨ b = gg ∨ u5.ownBlock = some b) := fun hu e3 e5 b hb hs => by
    rcases hs with e | e | e
    · have := (hu b hb).1; omega
    · exact e3 b hb (by rw [own, e])
    · exact e5 b hb e
  have el : (hired ks Y o).gold.length = Y.gold.length := by simp [hired]
  refine ⟨hx, hf.own h.o1 (no h.o1.block d13 d15), hf.own h.o2 (no h.o2.block d23 d25), ?_, hf.own h.o4 (no h.o4.block d34.symm d45), hj, hf.own h.r (no h.r.block d3r.symm d5r.symm), ?_, ?_, hfit⟩
  · have := hb.ow (base := b1) (cap := cg) hg (by omega) h2 (by omega)
    rw [el] at this
    exact this
  · simp only [List.pairwise_cons, List.mem_cons, List.not_mem_nil, or_false, forall_eq_or_imp, forall_eq]
    exact ⟨⟨d12, d13, d14, dif_to d15 (fun k hk => (h.o1.block k hk).2) hn, d1r⟩, ⟨d23, d24, dif_to d25 (fun k hk => (h.o2.block k hk).2) hn, d2r⟩, ⟨d34, dif_to d35 (fun k hk => (h.o3.block k hk).2) hn, d3r⟩, ⟨dif_to d45 (fun k hk => (h.o4.block k hk).2) hn, d4r⟩, (dif_to d5r.symm (fun k hk => (h.r.block k hk).2) hn).symm, by simp, by simp⟩
  · exact ⟨hf.os.trans h.k.os, hf.tape.trans h.k.tape, hf.output.trans h.k.output, Nat.le_trans h.k.size hf.size, fun q hq hn => (hf.block q (Nat.lt_of_lt_of_le hq h.k.size) (fun e => by
      rcases e with e | e | e
      · exact hn e
      · omega
      · have := (h.o5.block q e).1; omega)).trans (h.k.block q hq hn)⟩
end
end Go.Proofs.Ytghkchnfcfnejaa

namespace Go.Proofs.Ytghkchnfcfnejaa
open Go.RowKit
set_option linter.unusedVariables false

set_option maxHeartbeats 2000000 in
theorem ask_fn (o : OrV) (u : UnV) (b : Nat) (w : World) (x0 : w.cell? ⟨b, 0, none⟩ = some (.int .i64 o.player)) (x1 : w.cell? ⟨b, 1, none⟩ = some (.int .i64 o.unit)) :
    Calls Try.prog 30 #[u.val, .pointer (some ⟨b, 0, none⟩)] w fun e w' => e = .returned (.bool (askU o u)) ∧ Below w.heap.size w w' := by
  have BB : Hid (∀ ob, Below w.heap.size w (w.alloc ob)) := fun ob => (Below.refl _ _).alloc (Nat.le_refl _) _
  have hb : b < w.heap.size := cell_lt x0
  have hne : b ≠ w.heap.size := by omega
  have y0 : ∀ ob, (w.alloc ob).cell? ⟨b, 0, none⟩ = some (.int .i64 o.player) := fun ob => by rw [(BB.out ob).cell (p := ⟨b, 0, none⟩) hb]; exact x0
  have y1 : ∀ ob, (w.alloc ob).cell? ⟨b, 1, none⟩ = some (.int .i64 o.unit) := fun ob => by rw [(BB.out ob).cell (p := ⟨b, 1, none⟩) hb]; exact x1
  unfold UnV.val
  by_cases h1 : u.id = o.unit
  · by_cases h2 : u.player = o.player
    · have E : Hid (askU o u = true) := decide_eq_true ⟨h1, h2⟩
      clear hne hb x0 x1
      go_enter Try.func30, Try.ntmps30
      go_wp2
      go_ret
      exact ⟨by rw [E.out]; rfl, BB.out _⟩
    · have E : Hid (askU o u = false) := decide_eq_false (fun h => h2 h.2)
      have h2b : (u.player == o.player) = false := beq_eq_false_iff_ne.2 h2
      clear hne hb x0 x1
      go_enter Try.func30, Try.ntmps30
      go_wp2
      go_ret
      exact ⟨by rw [E.out]; rfl, BB.out _⟩
  · have E : Hid (askU o u = false) := decide_eq_false (fun h => h1 h.1)
    have h1b : (u.id == o.unit) = false := beq_eq_false_iff_ne.2 h1
    clear hne hb x0 x1
    go_enter Try.func30, Try.ntmps30
    go_wp2
    go_ret
    exact ⟨by rw [E.out]; rfl, BB.out _⟩
set_option maxHeartbeats 2000000 in
theorem one_ints (a : Option Addr) (n c : Nat) (i : Nat) (w : World) (hn : n ≤ 9223372036854775807) : Calls Try.prog 55 #[.slice a n c, .int .i64 (i : Nat)] w fun e w' => e = .returned (.bool (decide (i < n))) ∧ w' = w := by
  by_cases h : i < n
  · have hi : ((i : Nat) : Int) < (n : Nat) := by omega
    have E : Hid (decide (i < n) = true) := decide_eq_true h
    have h0 : (0 : Int) ≤ ((i : Nat) : Int) := by omega
    go_enter Try.func55, Try.ntmps55
    go_wp2
    go_ret
    exact ⟨by first | (rw [E.out]; rfl) | rfl, rfl⟩
  · have hi : ¬ ((i : Nat) : Int) < (n : Nat) := by omega
    have E : Hid (decide (i < n) = false) := decide_eq_false h
    have h0 : (0 : Int) ≤ ((i : Nat) : Int) := by omega
    go_enter Try.func55, Try.ntmps55
    go_wp2
    go_ret
    exact ⟨by first | (rw [E.out]; rfl) | rfl, rfl⟩
set_option maxHeartbeats 2000000 in
theorem one_kinds (a : Option Addr) (n c : Nat) (i : Nat) (w : World) (hn : n ≤ 9223372036854775807) : Calls Try.prog 56 #[.slice a n c, .int .i64 (i : Nat)] w fun e w' => e = .returned (.bool (decide (i < n))) ∧ w' = w := by
  by_cases h : i < n
  · have hi : ((i : Nat) : Int) < (n : Nat) := by omega
    have E : Hid (decide (i < n) = true) := decide_eq_true h
    have h0 : (0 : Int) ≤ ((i : Nat) : Int) := by omega
    go_enter Try.func56, Try.ntmps56
    go_wp2
    go_ret
    exact ⟨by first | (rw [E.out]; rfl) | rfl, rfl⟩
  · have hi : ¬ ((i : Nat) : Int) < (n : Nat) := by omega
    have E : Hid (decide (i < n) = false) := decide_eq_false h
    have h0 : (0 : Int) ≤ ((i : Nat) : Int) := by omega
    go_enter Try.func56, Try.ntmps56
    go_wp2
    go_ret
    exact ⟨by first | (rw [E.out]; rfl) | rfl, rfl⟩
theorem ub_two {w : World} {g i : Nat} {us : List UnV} {rest : List Value} {u : UnV} (h : Ub w g us rest) (hu : us[i]? = some u) (o : OrV) : Ub ((w.setCell ⟨g, i * 8 + 6, none⟩ (.int .i64 o.what)).setCell ⟨g, i * 8 + 7, none⟩ (.int .i64 o.arg)) g (us.set i (sentU o u)) rest := by
  have hi : i < us.length := (List.getElem?_eq_some_iff.1 hu).1
  have h1 := h.set6 hu o.what
  have h2 := h1.set7 (i := i) (o := { u with task := o.what }) (by simp [hi]) o.arg
  simpa [sentU] using h2
set_option maxRecDepth 100000 in
set_option maxHeartbeats 4000000 in
theorem send_any (g i : Nat) (us : List UnV) (rest : List Value) (u : UnV) (o : OrV) (w : World) (h : Ub w g us rest) (hu : us[i]? = some u) (ho : o.what = 0 ∧ o.arg = 0 ∨ o.what = 1 ∨ o.what = 2) :
    Calls Try.prog 34 #[.pointer (some ⟨g, i * 8, none⟩), o.val] w fun e w' => e = .returned (.tuple #[]) ∧ Ub w' g (us.set i (sentU o u)) rest ∧ Kp g w w' := by
  have U0 : Hid (Ub w g us rest) := h
  have HU : Hid (us[i]? = some u) := hu
  have gl := h.lt
  clear h hu
  have W1 : Hid (Kp g w (w.alloc (Obj.cells #[.int .i64 o.player, .int .i64 o.unit, .int .i64 o.what, .int .i64 o.arg] 39))) := Kp.of ((Below.refl _ _).alloc (Nat.le_refl _) _)
  have U1 : Hid (Ub (w.alloc (Obj.cells #[.int .i64 o.player, .int .i64 o.unit, .int .i64 o.what, .int .i64 o.arg] 39)) g us rest) := U0.out.below ((Below.refl _ _).alloc (Nat.le_refl _) _) gl
  have X1 : Hid (Orc (w.alloc (Obj.cells #[.int .i64 o.player, .int .i64 o.unit, .int .i64 o.what, .int .i64 o.arg] 39)) ⟨w.heap.size, 0, none⟩ o) := Orc.mk' (w := w) o rfl
  unfold OrV.val
  go_enter Try.func34, Try.ntmps34
  go_upto_region 1 with fail
  obtain ⟨z, hz⟩ : ∃ z, w.heap.size = z := ⟨_, rfl⟩
  rw [hz] at X1 ⊢
  have zg : Hid (z ≠ g) := by unfold Hid; omega
  clear hz gl
  generalize w.alloc (Obj.cells #[.int .i64 o.player, .int .i64 o.unit, .int .i64 o.what, .int .i64 o.arg] 39) = w1 at *
  obtain ⟨x0, x1, x2, x3⟩ := X1.out
  simp only [Nat.zero_add] at x1 x2 x3
  have UC := U1.out.unc HU.out
  have c6 := UC.c6
  have c7 := UC.c7
  have t6 := U1.out.thaw (i * 8 + 6)
  have t7 := U1.out.thaw (i * 8 + 7)
  have FIN : Hid (Ub ((w1.setCell ⟨g, i * 8 + 6, none⟩ (.int .i64 o.what)).setCell ⟨g, i * 8 + 7, none⟩ (.int .i64 o.arg)) g (us.set i (sentU o u)) rest ∧ Kp g w ((w1.setCell ⟨g, i * 8 + 6, none⟩ (.int .i64 o.what)).setCell ⟨g, i * 8 + 7, none⟩ (.int .i64 o.arg))) := ⟨ub_two U1.out HU.out o, (W1.out.trans (Kp.set _ _ _)).trans (Kp.set _ _ _)⟩
  simp only at c6 c7
  have zg' : ¬ z = g := zg.out
  clear UC
  rcases ho with ⟨h0, ha⟩ | h0 | h0
  · rw [h0] at x2
    rw [ha] at x3
    rw [h0, ha] at FIN
    clear h0 ha
    go_wp2
    go_end0
    exact ⟨rfl, FIN.out.1, FIN.out.2⟩
  · rw [h0] at x2
    rw [h0] at FIN
    clear h0
    go_wp2_with fail
    go_region
    go_wp2
    go_end0
    exact ⟨rfl, FIN.out.1.below ((Below.refl _ _).drew) FIN.out.1.lt, FIN.out.2.trans (Kp.of (Below.refl _ _).drew)⟩
  · rw [h0] at x2
    rw [h0] at FIN
    clear h0
    go_wp2_with fail
    go_region
    go_wp2
    go_end0
    exact ⟨rfl, FIN.out.1.below ((Below.refl _ _).drew) FIN.out.1.lt, FIN.out.2.trans (Kp.of (Below.refl _ _).drew)⟩
end Go.Proofs.Ytghkchnfcfnejaa

namespace Go.Proofs.Ytghkchnfcfnejaa
open Go.RowKit
set_option linter.unusedVariables false

set_option maxHeartbeats 1000000 in
theorem Step_bad (v : Value) (W H : Int) (gs os : List Int) (a F : Int) (fl : Bool) (w : World) (h : Fl w v W H gs os) (hF : Fd.askFault (Fd.fault W H gs os) gs.length [a] = F) (h0 : F ≠ 0) :
    Calls Try.prog 54 #[v, .int .i64 a, .bool fl] w fun e w' => e = .returned (.tuple #[.int .i64 0, .iface 69 (.int .i64 F)]) ∧ Below w.heap.size w w' := by
  have F0 : Hid (Fl w v W H gs os) := h
  have HF : Hid (Fd.askFault (Fd.fault W H gs os) gs.length [a] = F) := hF
  have H0 : Hid (F ≠ 0) := h0
  obtain ⟨u1, u2, rfl, ⟨a1, c, rfl, c1, c2, ca⟩, ⟨b1, d, rfl, d1, d2, cb⟩⟩ := h
  clear hF h0 ca cb
  go_enter Try.func54, Try.ntmps54
  go_wp2_with fail
  refine (ask_any _ _ W H gs os [a] _ (F0.out.below (((Below.refl _ _).alloc (Nat.le_refl _) _).alloc (by simp) _)) (Ro.lit1 (w := w.alloc _) a (by simp))).mono ?_
  rintro e w1 ⟨v1, rfl, hv, hb⟩
  have B1 : Hid (Below w.heap.size w w1) := (((Below.refl _ _).alloc (Nat.le_refl _) _).alloc (by simp) _).trans (hb.mono (by simp; omega))
  rw [HF.out] at hv
  clear hb
  rcases hv with ⟨hz, rfl⟩ | ⟨hz, rfl⟩
  · exact absurd hz H0.out
  · clear hz
    go_wp2
    go_ret2
    exact ⟨rfl, B1⟩

end Go.Proofs.Ytghkchnfcfnejaa

namespace Go.Proofs.Ytghkchnfcfnejaa
open Go.RowKit
set_option linter.unusedVariables false

theorem wl_shape9 {w : World} {v : Value} {X : WV} (h : Wl w v X) : ∃ p1 q1 p2 q2 p3 q3 p4 q4 p5 q5, v = .agg #[.int .i64 X.turn, .int .i64 X.next, .int .i64 X.wide, .int .i64 X.high, .slice p1 X.gs.length q1, .slice p2 X.os.length q2, .slice p3 X.gold.length q3, .slice p4 X.us.length q4, .slice p5 X.qs.length q5] := by
  obtain ⟨u1, u2, u3, u4, u5, rfl, ⟨p1, q1, rfl, -⟩, ⟨p2, q2, rfl, -⟩, ⟨p3, q3, rfl, -⟩, ⟨p4, q4, rfl, -⟩, ⟨p5, q5, rfl, -⟩⟩ := h
  exact ⟨_, _, _, _, _, _, _, _, _, _, rfl⟩
theorem fl_of {w : World} {X : WV} {u1 u2 u3 u4 u5 : Value} (h : Wl w (.agg #[.int .i64 X.turn, .int .i64 X.next, .int .i64 X.wide, .int .i64 X.high, u1, u2, u3, u4, u5]) X) : Fl w (.agg #[.int .i64 X.wide, .int .i64 X.high, u1, u2]) X.wide X.high X.gs X.os :=
  ⟨u1, u2, rfl, h.slices.1, h.slices.2.1⟩
end Go.Proofs.Ytghkchnfcfnejaa

namespace Go.Proofs.Ytghkchnfcfnejaa
open Go.RowKit
set_option linter.unusedVariables false

set_option maxRecDepth 100000 in
set_option maxHeartbeats 8000000 in
theorem maybe_any (vk vw : Value) (ks : List KV) (Y : WV) (k : KV) (o : OrV) (w : World) (hk : Kl w vk ks) (hw : Wl w vw Y) (F : GFit ks Y) (ob : ¬ Od.bad o) (hp : o.player.toNat < Y.gold.length) :
    Calls Try.prog 32 #[vk, vw, k.val, o.val] w fun e w' => e = .returned (.bool (mayB ks Y k o)) ∧ Below w.heap.size w w' := by
  have K : Hid (Kl w vk ks) := hk
  have H : Hid (Wl w vw Y) := hw
  have FF : Hid (GFit ks Y) := F
  have OK := Od.ok_of ob
  obtain ⟨p1, q1, p2, q2, p3, q3, p4, q4, p5, q5, rfl⟩ := wl_shape9 hw
  obtain ⟨pk, qk, rfl, ck1, ck2, kc⟩ := hk
  obtain ⟨an, han⟩ : ∃ an : Nat, o.arg = an := ⟨o.arg.toNat, by omega⟩
  obtain ⟨pn, hpn⟩ : ∃ pn : Nat, o.player = pn := ⟨o.player.toNat, by omega⟩
  have HAN : Hid (o.arg = (an : Nat) ∧ o.player = (pn : Nat)) := ⟨han, hpn⟩
  have hpl : pn < Y.gold.length := by rw [hpn] at hp; simpa using hp
  have MB : Hid (∀ b, mayB ks Y k o = b → Value.bool (mayB ks Y k o) = .bool b) := fun b h => by rw [h]
  have WH : o.what = 0 ∨ o.what = 1 ∨ o.what = 2 ∨ o.what = 3 := by omega
  have MD : Hid (mayB ks Y k o = if o.what = 1 then decide (o.arg < (Y.gs.length : Int) ∧ 0 < Fd.onto (Y.gs.getD o.arg.toNat 0) k.f) else if o.what = 2 then decide (o.arg < (Y.os.length : Int) ∧ 0 < Y.os.getD o.arg.toNat 0 ∧ 0 < k.n7) else if o.what = 3 then decide (k.t = true ∧ o.arg < (ks.length : Int) ∧ priceOf ks o.arg ≤ Y.gold.getD o.player.toNat 0 ∧ Y.qs.length < 12) else true) := rfl
  generalize mayB ks Y k o = ans at *
  clear MB hw F ob hp kc OK han hpn
  unfold KV.val OrV.val
  go_enter Try.func32, Try.ntmps32
  go_upto_region 1 with fail
  have BA : Hid (Below w.heap.size w (w.alloc (Obj.cells #[.int .i64 Y.turn, .int .i64 Y.next, .int .i64 Y.wide, .int .i64 Y.high, .slice p1 Y.gs.length q1, .slice p2 Y.os.length q2, .slice p3 Y.gold.length q3, .slice p4 Y.us.length q4, .slice p5 Y.qs.length q5] 29))) := (Below.refl _ _).alloc (Nat.le_refl _) _
  have BB : Hid (Below (w.alloc (Obj.cells #[.int .i64 Y.turn, .int .i64 Y.next, .int .i64 Y.wide, .int .i64 Y.high, .slice p1 Y.gs.length q1, .slice p2 Y.os.length q2, .slice p3 Y.gold.length q3, .slice p4 Y.us.length q4, .slice p5 Y.qs.length q5] 29)).heap.size (w.alloc (Obj.cells #[.int .i64 Y.turn, .int .i64 Y.next, .int .i64 Y.wide, .int .i64 Y.high, .slice p1 Y.gs.length q1, .slice p2 Y.os.length q2, .slice p3 Y.gold.length q3, .slice p4 Y.us.length q4, .slice p5 Y.qs.length q5] 29)) ((w.alloc (Obj.cells #[.int .i64 Y.turn, .int .i64 Y.next, .int .i64 Y.wide, .int .i64 Y.high, .slice p1 Y.gs.length q1, .slice p2 Y.os.length q2, .slice p3 Y.gold.length q3, .slice p4 Y.us.length q4, .slice p5 Y.qs.length q5] 29)).alloc (Obj.cells #[.string k.b, .int .i64 k.n0, .int .i64 k.n1, .int .i64 k.n2, .int .i64 k.n3, .int .i64 k.n4, .int .i64 k.n5, .int .i64 k.n6, .int .i64 k.n7, .bool k.f, .bool k.t] 53))) := (Below.refl _ _).alloc (Nat.le_refl _) _
  have BC : Hid (Below ((w.alloc (Obj.cells #[.int .i64 Y.turn, .int .i64 Y.next, .int .i64 Y.wide, .int .i64 Y.high, .slice p1 Y.gs.length q1, .slice p2 Y.os.length q2, .slice p3 Y.gold.length q3, .slice p4 Y.us.length q4, .slice p5 Y.qs.length q5] 29)).alloc (Obj.cells #[.string k.b, .int .i64 k.n0, .int .i64 k.n1, .int .i64 k.n2, .int .i64 k.n3, .int .i64 k.n4, .int .i64 k.n5, .int .i64 k.n6, .int .i64 k.n7, .bool k.f, .bool k.t] 53)).heap.size ((w.alloc (Obj.cells #[.int .i64 Y.turn, .int .i64 Y.next, .int .i64 Y.wide, .int .i64 Y.high, .slice p1 Y.gs.length q1, .slice p2 Y.os.length q2, .slice p3 Y.gold.length q3, .slice p4 Y.us.length q4, .slice p5 Y.qs.length q5] 29)).alloc (Obj.cells #[.string k.b, .int .i64 k.n0, .int .i64 k.n1, .int .i64 k.n2, .int .i64 k.n3, .int .i64 k.n4, .int .i64 k.n5, .int .i64 k.n6, .int .i64 k.n7, .bool k.f, .bool k.t] 53)) (((w.alloc (Obj.cells #[.int .i64 Y.turn, .int .i64 Y.next, .int .i64 Y.wide, .int .i64 Y.high, .slice p1 Y.gs.length q1, .slice p2 Y.os.length q2, .slice p3 Y.gold.length q3, .slice p4 Y.us.length q4, .slice p5 Y.qs.length q5] 29)).alloc (Obj.cells #[.string k.b, .int .i64 k.n0, .int .i64 k.n1, .int .i64 k.n2, .int .i64 k.n3, .int .i64 k.n4, .int .i64 k.n5, .int .i64 k.n6, .int .i64 k.n7, .bool k.f, .bool k.t] 53)).alloc (Obj.cells #[.int .i64 o.player, .int .i64 o.unit, .int .i64 o.what, .int .i64 o.arg] 39))) := (Below.refl _ _).alloc (Nat.le_refl _) _
  have X1 : Hid (Wx (((w.alloc (Obj.cells #[.int .i64 Y.turn, .int .i64 Y.next, .int .i64 Y.wide, .int .i64 Y.high, .slice p1 Y.gs.length q1, .slice p2 Y.os.length q2, .slice p3 Y.gold.length q3, .slice p4 Y.us.length q4, .slice p5 Y.qs.length q5] 29)).alloc (Obj.cells #[.string k.b, .int .i64 k.n0, .int .i64 k.n1, .int .i64 k.n2, .int .i64 k.n3, .int .i64 k.n4, .int .i64 k.n5, .int .i64 k.n6, .int .i64 k.n7, .bool k.f, .bool k.t] 53)).alloc (Obj.cells #[.int .i64 o.player, .int .i64 o.unit, .int .i64 o.what, .int .i64 o.arg] 39)) w.heap.size (.int .i64 Y.turn) (.int .i64 Y.next) (.int .i64 Y.wide) (.int .i64 Y.high) (.slice p1 Y.gs.length q1) (.slice p2 Y.os.length q2) (.slice p3 Y.gold.length q3) (.slice p4 Y.us.length q4) (.slice p5 Y.qs.length q5)) := ((Wx.new (w := w) _ _ _ _ _ _ _ _ _ rfl).below BB.out (by simp)).below BC.out (by simp; omega)
  have KC1 : Hid (Kc (((w.alloc (Obj.cells #[.int .i64 Y.turn, .int .i64 Y.next, .int .i64 Y.wide, .int .i64 Y.high, .slice p1 Y.gs.length q1, .slice p2 Y.os.length q2, .slice p3 Y.gold.length q3, .slice p4 Y.us.length q4, .slice p5 Y.qs.length q5] 29)).alloc (Obj.cells #[.string k.b, .int .i64 k.n0, .int .i64 k.n1, .int .i64 k.n2, .int .i64 k.n3, .int .i64 k.n4, .int .i64 k.n5, .int .i64 k.n6, .int .i64 k.n7, .bool k.f, .bool k.t] 53)).alloc (Obj.cells #[.int .i64 o.player, .int .i64 o.unit, .int .i64 o.what, .int .i64 o.arg] 39)) ⟨w.heap.size + 1, 0, none⟩ k) := (kind_new (w := w.alloc (Obj.cells #[.int .i64 Y.turn, .int .i64 Y.next, .int .i64 Y.wide, .int .i64 Y.high, .slice p1 Y.gs.length q1, .slice p2 Y.os.length q2, .slice p3 Y.gold.length q3, .slice p4 Y.us.length q4, .slice p5 Y.qs.length q5] 29)) k (by simp)).below BC.out (by simp)
  have OC1 : Hid (Orc (((w.alloc (Obj.cells #[.int .i64 Y.turn, .int .i64 Y.next, .int .i64 Y.wide, .int .i64 Y.high, .slice p1 Y.gs.length q1, .slice p2 Y.os.length q2, .slice p3 Y.gold.length q3, .slice p4 Y.us.length q4, .slice p5 Y.qs.length q5] 29)).alloc (Obj.cells #[.string k.b, .int .i64 k.n0, .int .i64 k.n1, .int .i64 k.n2, .int .i64 k.n3, .int .i64 k.n4, .int .i64 k.n5, .int .i64 k.n6, .int .i64 k.n7, .bool k.f, .bool k.t] 53)).alloc (Obj.cells #[.int .i64 o.player, .int .i64 o.unit, .int .i64 o.what, .int .i64 o.arg] 39)) ⟨w.heap.size + 1 + 1, 0, none⟩ o) := Orc.mk' (w := (w.alloc (Obj.cells #[.int .i64 Y.turn, .int .i64 Y.next, .int .i64 Y.wide, .int .i64 Y.high, .slice p1 Y.gs.length q1, .slice p2 Y.os.length q2, .slice p3 Y.gold.length q3, .slice p4 Y.us.length q4, .slice p5 Y.qs.length q5] 29)).alloc (Obj.cells #[.string k.b, .int .i64 k.n0, .int .i64 k.n1, .int .i64 k.n2, .int .i64 k.n3, .int .i64 k.n4, .int .i64 k.n5, .int .i64 k.n6, .int .i64 k.n7, .bool k.f, .bool k.t] 53)) o (by simp)
  have B1 : Hid (Below w.heap.size w (((w.alloc (Obj.cells #[.int .i64 Y.turn, .int .i64 Y.next, .int .i64 Y.wide, .int .i64 Y.high, .slice p1 Y.gs.length q1, .slice p2 Y.os.length q2, .slice p3 Y.gold.length q3, .slice p4 Y.us.length q4, .slice p5 Y.qs.length q5] 29)).alloc (Obj.cells #[.string k.b, .int .i64 k.n0, .int .i64 k.n1, .int .i64 k.n2, .int .i64 k.n3, .int .i64 k.n4, .int .i64 k.n5, .int .i64 k.n6, .int .i64 k.n7, .bool k.f, .bool k.t] 53)).alloc (Obj.cells #[.int .i64 o.player, .int .i64 o.unit, .int .i64 o.what, .int .i64 o.arg] 39))) := BA.out.trans ((BB.out.trans (BC.out.mono BB.out.size)).mono BA.out.size)
  clear BA BB BC
  generalize (((w.alloc (Obj.cells #[.int .i64 Y.turn, .int .i64 Y.next, .int .i64 Y.wide, .int .i64 Y.high, .slice p1 Y.gs.length q1, .slice p2 Y.os.length q2, .slice p3 Y.gold.length q3, .slice p4 Y.us.length q4, .slice p5 Y.qs.length q5] 29)).alloc (Obj.cells #[.string k.b, .int .i64 k.n0, .int .i64 k.n1, .int .i64 k.n2, .int .i64 k.n3, .int .i64 k.n4, .int .i64 k.n5, .int .i64 k.n6, .int .i64 k.n7, .bool k.f, .bool k.t] 53)).alloc (Obj.cells #[.int .i64 o.player, .int .i64 o.unit, .int .i64 o.what, .int .i64 o.arg] 39)) = w1 at *
  have H1 : Hid (Wl w1 (.agg #[.int .i64 Y.turn, .int .i64 Y.next, .int .i64 Y.wide, .int .i64 Y.high, .slice p1 Y.gs.length q1, .slice p2 Y.os.length q2, .slice p3 Y.gold.length q3, .slice p4 Y.us.length q4, .slice p5 Y.qs.length q5]) Y) := H.out.below B1.out
  obtain ⟨x0, x1, x2, x3, x4, x5, x6, x7, x8⟩ := X1.out.cells
  obtain ⟨k0, k1, k2, k3, k4, k5, k6, k7, k8, k9, k10⟩ := KC1.out
  obtain ⟨o0, o1, o2, o3⟩ := OC1.out
  simp only [Nat.zero_add] at k1 k2 k3 k4 k5 k6 k7 k8 k9 k10 o1 o2 o3
  rw [HAN.out.1] at o3
  rw [HAN.out.2] at o0
  clear X1 KC1 OC1
  rcases WH with h | h | h | h
  · have E : Hid (ans = true) := by have h9 := MD.out; unfold Hid; rw [h9, h, if_neg (by decide), if_neg (by decide), if_neg (by decide)]
    rw [h] at o2
    clear MD h
    go_wp2
    go_ret
    exact ⟨by rw [E.out]; rfl, B1.out⟩
  · have E : Hid (ans = decide ((an : Int) < (Y.gs.length : Int) ∧ 0 < Fd.onto (Y.gs.getD an 0) k.f)) := by have h9 := MD.out; unfold Hid; rw [h9, h, if_pos rfl, HAN.out.1]; simp only [Int.toNat_natCast]
    rw [h] at o2
    obtain ⟨Wn, Hn, e1, e2, G⟩ := FF.out.good
    have GG : Hid (Fd.Good Wn Hn Y.gs Y.os) := G
    have FL := fl_of H1.out
    rw [e1, e2] at FL
    have FL' : Hid (Fl w1 (.agg #[.int .i64 (Wn : Nat), .int .i64 (Hn : Nat), .slice p1 Y.gs.length q1, .slice p2 Y.os.length q2]) Wn Hn Y.gs Y.os) := FL
    have gl := G.gl
    rw [e1] at x2
    rw [e2] at x3
    by_cases ha : an < Y.gs.length
    · obtain ⟨g, hg⟩ : ∃ g, Y.gs[an]? = some g := ⟨_, List.getElem?_eq_getElem ha⟩
      have ST : Hid (Calls Try.prog 54 #[.agg #[.int .i64 (Wn : Nat), .int .i64 (Hn : Nat), .slice p1 Y.gs.length q1, .slice p2 Y.os.length q2], .int .i64 (an : Nat), .bool k.f] w1 fun e w' => e = .returned (.tuple #[.int .i64 (Fd.onto g k.f), .nilIface]) ∧ Below w1.heap.size w1 w') := Step_ok _ Wn Hn Y.gs Y.os an g k.f w1 FL'.out GG.out (by omega) hg
      have E2 : Hid (ans = decide (0 < Fd.onto g k.f)) := by
        unfold Hid
        rw [E.out]
        congr 1
        rw [List.getD_eq_getElem?_getD, hg]
        exact propext ⟨fun h => h.2, fun h => ⟨by omega, h⟩⟩
      clear MD E h e1 e2 G FL FL' gl hg H1
      generalize Fd.onto g k.f = st at *
      go_wp2_with fail
      refine ST.out.mono ?_
      rintro e w2 ⟨rfl, b2⟩
      have B2 : Hid (Below w.heap.size w w2) := B1.out.trans (b2.mono B1.out.size)
      clear b2 ST x0 x1 x2 x3 x4 x5 x6 x7 x8 k0 k1 k2 k3 k4 k5 k6 k7 k8 k9 k10 o0 o1 o2 o3
      go_wp2
      go_ret
      exact ⟨by rw [E2.out]; rfl, B2.out⟩
    · have hF : Fd.askFault (Fd.fault (Wn : Nat) (Hn : Nat) Y.gs Y.os) Y.gs.length [((an : Nat) : Int)] ≠ 0 := fun h0 => by
        have := (ask1_zero h0).2.2
        omega
      obtain ⟨ff, hff⟩ : ∃ f, Fd.askFault (Fd.fault (Wn : Nat) (Hn : Nat) Y.gs Y.os) Y.gs.length [((an : Nat) : Int)] = f := ⟨_, rfl⟩
      have ST : Hid (Calls Try.prog 54 #[.agg #[.int .i64 (Wn : Nat), .int .i64 (Hn : Nat), .slice p1 Y.gs.length q1, .slice p2 Y.os.length q2], .int .i64 (an : Nat), .bool k.f] w1 fun e w' => e = .returned (.tuple #[.int .i64 0, .iface 69 (.int .i64 ff)]) ∧ Below w1.heap.size w1 w') := Step_bad _ _ _ _ _ _ ff k.f w1 FL'.out hff (by rw [← hff]; exact hF)
      have E2 : Hid (ans = false) := by
        unfold Hid
        rw [E.out]
        exact decide_eq_false (fun h => ha (by omega))
      clear MD E h e1 e2 G FL FL' gl H1 hF hff
      go_wp2_with fail
      refine ST.out.mono ?_
      rintro e w2 ⟨rfl, b2⟩
      have B2 : Hid (Below w.heap.size w w2) := B1.out.trans (b2.mono B1.out.size)
      clear b2 ST x0 x1 x2 x3 x4 x5 x6 x7 x8 k0 k1 k2 k3 k4 k5 k6 k7 k8 k9 k10 o0 o1 o2 o3
      go_wp2
      go_ret
      exact ⟨by rw [E2.out]; rfl, B2.out⟩
  · have E : Hid (ans = decide ((an : Int) < (Y.os.length : Int) ∧ 0 < Y.os.getD an 0 ∧ 0 < k.n7)) := by have h9 := MD.out; unfold Hid; rw [h9, h, if_neg (by decide), if_pos rfl, HAN.out.1]; simp only [Int.toNat_natCast]
    rw [h] at o2
    have RO := H1.out.slices.2.1
    obtain ⟨a2, c2, e2, r1, r2, r3⟩ := RO
    injection e2 with e21 e22 e23
    subst e21 e23
    have OI := one_ints p2 Y.os.length q2 an
    by_cases ha : an < Y.os.length
    · obtain ⟨g, hg⟩ : ∃ g, Y.os[an]? = some g := ⟨_, List.getElem?_eq_getElem ha⟩
      obtain ⟨xo, rfl, -, hxo⟩ := r3 (by rintro hn; rw [hn] at ha; simp at ha)
      have co := hxo an g hg
      have OC : Hid (Calls Try.prog 55 #[.slice (some xo) Y.os.length q2, .int .i64 (an : Nat)] w1 fun e w' => e = .returned (.bool true) ∧ w' = w1) := by have := OI w1 (by omega); rw [decide_eq_true ha] at this; exact this
      have E2 : Hid (ans = decide (0 < g ∧ 0 < k.n7)) := by
        unfold Hid
        rw [E.out]
        congr 1
        rw [List.getD_eq_getElem?_getD, hg]
        exact propext ⟨fun h => h.2, fun h => ⟨by omega, h⟩⟩
      have hai : ((an : Nat) : Int) < (Y.os.length : Nat) := by omega
      clear MD E h H1 OI hg hxo r3 e22
      by_cases h1 : 0 < g
      · by_cases h2 : 0 < k.n7
        · have E3 : Hid (ans = true) := by unfold Hid; rw [E2.out]; exact decide_eq_true ⟨h1, h2⟩
          go_wp2_with fail
          refine OC.out.mono ?_
          rintro e w' ⟨rfl, rfl⟩
          go_wp2
          go_ret
          exact ⟨by rw [E3.out]; rfl, B1.out⟩
        · have E3 : Hid (ans = false) := by unfold Hid; rw [E2.out]; exact decide_eq_false (fun h => h2 h.2)
          have H2 : Hid (decide (0 < k.n7) = false) := decide_eq_false h2
          go_wp2_with fail
          refine OC.out.mono ?_
          rintro e w' ⟨rfl, rfl⟩
          go_wp2
          go_ret
          exact ⟨by rw [E3.out]; first | rfl | (show Ending.returned (Value.bool (decide (0 < k.n7))) = _; rw [H2.out]), B1.out⟩
      · have E3 : Hid (ans = false) := by unfold Hid; rw [E2.out]; exact decide_eq_false (fun h => h1 h.1)
        have h1d : decide (0 < g) = false := decide_eq_false h1
        go_wp2_with fail
        refine OC.out.mono ?_
        rintro e w' ⟨rfl, rfl⟩
        go_wp2
        go_ret
        exact ⟨by rw [E3.out]; rfl, B1.out⟩
    · have OC : Hid (Calls Try.prog 55 #[.slice p2 Y.os.length q2, .int .i64 (an : Nat)] w1 fun e w' => e = .returned (.bool false) ∧ w' = w1) := by have := OI w1 (by omega); rw [decide_eq_false ha] at this; exact this
      have E3 : Hid (ans = false) := by unfold Hid; rw [E.out]; exact decide_eq_false (fun h => ha (by omega))
      clear MD E h H1 OI r3 e22
      go_wp2_with fail
      refine OC.out.mono ?_
      rintro e w' ⟨rfl, rfl⟩
      go_wp2
      go_ret
      exact ⟨by rw [E3.out]; rfl, B1.out⟩
  · have E : Hid (ans = decide (k.t = true ∧ (an : Int) < (ks.length : Int) ∧ priceOf ks an ≤ Y.gold.getD pn 0 ∧ Y.qs.length < 12)) := by have h9 := MD.out; unfold Hid; rw [h9, h, if_neg (by decide), if_neg (by decide), if_pos rfl, HAN.out.1, HAN.out.2]; simp only [Int.toNat_natCast]
    rw [h] at o2
    have kl := FF.out.kinds.1
    have OI := one_kinds pk ks.length qk an
    have BD : Hid (∀ n, Below w.heap.size w (w1.drewN n)) := fun n => ⟨B1.out.os, B1.out.tape, B1.out.output, B1.out.size, B1.out.block⟩
    cases hkt : k.t with
    | false =>
      have E3 : Hid (ans = false) := by unfold Hid; rw [E.out]; exact decide_eq_false (fun h => by rw [hkt] at h; simp at h)
      rw [hkt] at k10
      clear MD E h H1 OI hkt
      go_upto_region 8 with fail
      go_quiet (fail)
      go_wp2
      go_ret
      exact ⟨by rw [E3.out]; rfl, BD.out _⟩
    | true =>
      rw [hkt] at k10
      by_cases ha : an < ks.length
      · obtain ⟨kk, hkk⟩ : ∃ kk, ks[an]? = some kk := ⟨_, List.getElem?_eq_getElem ha⟩
        obtain ⟨g, hg⟩ : ∃ g, Y.gold[pn]? = some g := ⟨_, List.getElem?_eq_getElem hpl⟩
        have OC : Hid (∀ W, Calls Try.prog 56 #[.slice pk ks.length qk, .int .i64 (an : Nat)] W fun e w' => e = .returned (.bool true) ∧ w' = W) := fun W => by have := OI W (by omega); rw [decide_eq_true ha] at this; exact this
        have K1 := K.out.below B1.out
        obtain ⟨a', c', e', -, -, hx⟩ := K1
        injection e' with e1' e2' e3'
        subst e1' e3'
        obtain ⟨xk, rfl, -, hxk⟩ := hx (by rintro hn; rw [hn] at ha; simp at ha)
        have c6 := (hxk an kk hkk).c6
        obtain ⟨a3, c3, e3, r1, r2, r3⟩ := H1.out.slices.2.2.1
        injection e3 with e31 e32 e33
        subst e31 e33
        obtain ⟨xg, rfl, -, hxg⟩ := r3 (by rintro hn; rw [hn] at hpl; simp at hpl)
        have cg := hxg pn g hg
        have hai : ((an : Nat) : Int) < (ks.length : Nat) := by omega
        have hpi : ((pn : Nat) : Int) < (Y.gold.length : Nat) := by omega
        have E2 : Hid (ans = decide (kk.n5 ≤ g ∧ Y.qs.length < 12)) := by
          unfold Hid
          rw [E.out]
          congr 1
          rw [List.getD_eq_getElem?_getD, hg]
          have e9 : priceOf ks an = kk.n5 := by unfold priceOf; rw [Int.toNat_natCast, hkk]
          rw [e9]
          exact propext ⟨fun h => h.2.2, fun h => ⟨hkt, by omega, h.1, h.2⟩⟩
        clear MD E h H1 OI hkt hkk hg hxk hxg hx r3 e2' e32
        by_cases h1 : kk.n5 ≤ g
        · have h1d : decide (kk.n5 ≤ g) = true := decide_eq_true h1
          by_cases h2 : Y.qs.length < 12
          · have E3 : Hid (ans = true) := by unfold Hid; rw [E2.out]; exact decide_eq_true ⟨h1, h2⟩
            have h2i : ((Y.qs.length : Nat) : Int) < 12 := by omega
            go_upto_region 8 with fail
            go_quiet ((go_at_call 56; exact Calls.quiet_of_same (OC.out _)))
            go_wp2
            go_ret
            exact ⟨by rw [E3.out]; rfl, BD.out _⟩
          · have E3 : Hid (ans = false) := by unfold Hid; rw [E2.out]; exact decide_eq_false (fun h => h2 h.2)
            have h2i : ¬ ((Y.qs.length : Nat) : Int) < 12 := by omega
            have h2d : decide (((Y.qs.length : Nat) : Int) < 12) = false := decide_eq_false h2i
            go_upto_region 8 with fail
            go_quiet ((go_at_call 56; exact Calls.quiet_of_same (OC.out _)))
            go_wp2
            go_ret
            exact ⟨by rw [E3.out]; rfl, BD.out _⟩
        · have h1d : decide (kk.n5 ≤ g) = false := decide_eq_false h1
          have E3 : Hid (ans = false) := by unfold Hid; rw [E2.out]; exact decide_eq_false (fun h => h1 h.1)
          go_upto_region 8 with fail
          go_quiet ((go_at_call 56; exact Calls.quiet_of_same (OC.out _)))
          go_wp2
          go_ret
          exact ⟨by rw [E3.out]; rfl, BD.out _⟩
      · have OC : Hid (∀ W, Calls Try.prog 56 #[.slice pk ks.length qk, .int .i64 (an : Nat)] W fun e w' => e = .returned (.bool false) ∧ w' = W) := fun W => by have := OI W (by omega); rw [decide_eq_false ha] at this; exact this
        have E3 : Hid (ans = false) := by unfold Hid; rw [E.out]; exact decide_eq_false (fun h => ha (by omega))
        clear MD E h H1 OI hkt
        go_upto_region 8 with fail
        go_quiet ((go_at_call 56; exact Calls.quiet_of_same (OC.out _)))
        go_wp2
        go_ret
        exact ⟨by rw [E3.out]; rfl, BD.out _⟩
end Go.Proofs.Ytghkchnfcfnejaa

namespace Go.Proofs.Ytghkchnfcfnejaa
open Go.RowKit
set_option linter.unusedVariables false

theorem run_un (w : World) (ty : TypeId) (base : Nat) (v : Value) (ks : List UnV) (hown : Uno w base v ks) (b : Nat) (d : UnV) (hd : Unc w ⟨b, 0, none⟩ d) (hl : ks.length ≤ 1000000) (hbase : base ≤ w.heap.size) :
    ∃ g cap w', (Builtin.append_ #[26, 26] ty #[v, .slice (some ⟨b, 0, none⟩) 1 1]).run Try.prog w = .ok (.slice (some ⟨g, 0, none⟩) (ks.length + 1) cap) w' ∧ Uno w' base (.slice (some ⟨g, 0, none⟩) (ks.length + 1) cap) (ks ++ [d]) ∧ w.grownBy w' v.ownBlock ∧ (v.ownBlock = some g ∨ g = w.heap.size) ∧ g < w'.heap.size := by
  obtain ⟨i0, hi, hz0, hz1, hz2⟩ := info_parts info_un
  obtain ⟨g, cap, w6, hr, ho6, hg6, ha6, hl6⟩ := run_append_lies (P := Try.prog) w 26 26 base 44 i0 _ 8 64 Try.underlying26 hi hz0 hz1 hz2 rfl (by decide) v ks.length _ hown ⟨b, 0, none⟩ 1 1 (UnV.cs d) rfl (fun j u hj => by
    have hjn : j < 8 := (List.getElem?_eq_some_iff.1 hj).1
    rw [Addr.add_lit, Nat.zero_add]
    match j, hjn, hj with
    | 0, _, hj => simp [UnV.cs] at hj; subst hj; exact hd.c0
    | 1, _, hj => simp [UnV.cs] at hj; subst hj; exact hd.c1
    | 2, _, hj => simp [UnV.cs] at hj; subst hj; exact hd.c2
    | 3, _, hj => simp [UnV.cs] at hj; subst hj; exact hd.c3
    | 4, _, hj => simp [UnV.cs] at hj; subst hj; exact hd.c4
    | 5, _, hj => simp [UnV.cs] at hj; subst hj; exact hd.c5
    | 6, _, hj => simp [UnV.cs] at hj; subst hj; exact hd.c6
    | 7, _, hj => simp [UnV.cs] at hj; subst hj; exact hd.c7) (fun u hu => by
    simp [UnV.cs] at hu
    rcases hu with rfl | rfl | rfl | rfl | rfl | rfl | rfl | rfl <;> rfl) (by decide) (by unfold maxLen; omega) (by omega) hbase _ rfl
  refine ⟨g, cap, w6, hr, ?_, hg6, ha6, hl6⟩
  unfold Uno
  rw [List.length_append, List.flatMap_append]
  simpa using ho6
theorem run_jb (w : World) (ty : TypeId) (base : Nat) (v : Value) (ks : List JbV) (hown : Jbo w base v ks) (b : Nat) (d : JbV) (hd : Jbc w ⟨b, 0, none⟩ d) (hl : ks.length ≤ 1000000) (hbase : base ≤ w.heap.size) :
    ∃ g cap w', (Builtin.append_ #[27, 27] ty #[v, .slice (some ⟨b, 0, none⟩) 1 1]).run Try.prog w = .ok (.slice (some ⟨g, 0, none⟩) (ks.length + 1) cap) w' ∧ Jbo w' base (.slice (some ⟨g, 0, none⟩) (ks.length + 1) cap) (ks ++ [d]) ∧ w.grownBy w' v.ownBlock ∧ (v.ownBlock = some g ∨ g = w.heap.size) ∧ g < w'.heap.size := by
  obtain ⟨i0, hi, hz0, hz1, hz2⟩ := info_parts info_jb
  obtain ⟨g, cap, w6, hr, ho6, hg6, ha6, hl6⟩ := run_append_lies (P := Try.prog) w 27 27 base 65 i0 _ 4 32 Try.underlying27 hi hz0 hz1 hz2 rfl (by decide) v ks.length _ hown ⟨b, 0, none⟩ 1 1 (JbV.cs d) rfl (fun j u hj => by
    have hjn : j < 4 := (List.getElem?_eq_some_iff.1 hj).1
    rw [Addr.add_lit, Nat.zero_add]
    match j, hjn, hj with
    | 0, _, hj => simp [JbV.cs] at hj; subst hj; exact hd.c0
    | 1, _, hj => simp [JbV.cs] at hj; subst hj; exact hd.c1
    | 2, _, hj => simp [JbV.cs] at hj; subst hj; exact hd.c2
    | 3, _, hj => simp [JbV.cs] at hj; subst hj; exact hd.c3) (fun u hu => by
    simp [JbV.cs] at hu
    rcases hu with rfl | rfl | rfl | rfl <;> rfl) (by decide) (by unfold maxLen; omega) (by omega) hbase _ rfl
  refine ⟨g, cap, w6, hr, ?_, hg6, ha6, hl6⟩
  unfold Jbo
  rw [List.length_append, List.flatMap_append]
  simpa using ho6
end Go.Proofs.Ytghkchnfcfnejaa

namespace Go.Proofs.Ytghkchnfcfnejaa
open Go Go.RowKit
set_option linter.unusedVariables false

section
variable {P : Program} {ops : Array Oper} {md : Region.Mode} {C : World → Prop} {Q : Exit → Act → World → Prop}

/-- the operation gives v in each of the worlds C, and turns nothing. -/
def YieldsS (P : Program) (ops : Array Oper) (C : World → Prop) (o : Oper) (v : Value) (a : Act) : Prop :=
  Region.wanted o (yielded ops a.tmps) = true ∧ ∀ W, C W → (execOp a.eval o).run P W = .ok (.value v) W
/-- the operation goes on, to a world of C. -/
def StepS (P : Program) (ops : Array Oper) (C : World → Prop) (o : Oper) (K : Act → World → Prop) (a : Act) (W : World) : Prop :=
  Region.wanted o (yielded ops a.tmps) = true ∧
   ((∃ v W', (execOp a.eval o).run P W = .ok (.value v) W' ∧ C W' ∧ K (a.put o.dst v) W') ∨ (∃ W', (execOp a.eval o).run P W = .ok .skip W' ∧ C W' ∧ K (a.put o.dst undef) W') ∨
    ∃ f args, (execOp a.eval o).run P W = .ok (.enter f args) W ∧ Calls P f args W (fun e w' => ∃ v, e = .returned v ∧ C w' ∧ K (a.put o.dst v) w'))
theorem StepS.mono {o : Oper} {K K' : Act → World → Prop} {a : Act} {W : World} (h : ∀ a W, C W → K a W → K' a W) (hh : StepS P ops C o K a W) : StepS P ops C o K' a W := by
  obtain ⟨h1, h2⟩ := hh
  refine ⟨h1, ?_⟩
  rcases h2 with ⟨v, W', e, hc, hk⟩ | ⟨W', e, hc, hk⟩ | ⟨f, args, e, hc⟩
  · exact .inl ⟨v, W', e, hc, h _ _ hc hk⟩
  · exact .inr (.inl ⟨W', e, hc, h _ _ hc hk⟩)
  · exact .inr (.inr ⟨f, args, e, hc.mono fun e w' ⟨v, he, hw, hk⟩ => ⟨v, he, hw, h _ _ hw hk⟩⟩)
theorem YieldsS.step {o : Oper} {v : Value} {K : Act → World → Prop} {a : Act} {W : World} (hy : YieldsS P ops C o v a) (hC : C W) (h : K (a.put o.dst v) W) : StepS P ops C o K a W :=
  ⟨hy.1, .inl ⟨v, W, hy.2 W hC, hC, h⟩⟩
theorem StepS.put {oi oj : Oper} {v : Value} (hap : oi.apart ops oj = true)
    (hsi : ∀ cs b, oi.op ≠ .select cs b) (hsj : ∀ cs b, oj.op ≠ .select cs b) {K : Act → World → Prop} {a : Act} {W : World}
    (hy : YieldsS P ops C oi v a) (h : StepS P ops C oj K (a.put oi.dst v) W) :
    StepS P ops C oj (fun a' w' => YieldsS P ops C oi v a' ∧ K (a'.put oi.dst v) w') a W := by
  obtain ⟨h1, h2, h3⟩ := Oper.apart_spec hap
  have keep : ∀ u, YieldsS P ops C oi v (a.put oj.dst u) := fun u => by
    unfold YieldsS at *
    rw [execOp_put oi hsi a oj.dst u h3, wanted_put oi a oj.dst u h3]
    exact hy
  unfold StepS at *
  rw [wanted_put oj a oi.dst v h1, execOp_put oj hsj a oi.dst v h1] at h
  obtain ⟨hw, h⟩ := h
  refine ⟨hw, ?_⟩
  rcases h with ⟨u, W', e, hc, hk⟩ | ⟨W', e, hc, hk⟩ | ⟨f, args, e, hc⟩
  · exact .inl ⟨u, W', e, hc, keep u, by rw [← Act.put_comm a v u h2]; exact hk⟩
  · exact .inr (.inl ⟨W', e, hc, keep _, by rw [← Act.put_comm a v _ h2]; exact hk⟩)
  · exact .inr (.inr ⟨f, args, e, hc.mono fun e w' ⟨u, he, hw, hk⟩ => ⟨u, he, hw, keep u, by rw [← Act.put_comm a v u h2]; exact hk⟩⟩)
def wpAnyS (P : Program) (md : Region.Mode) (ops : Array Oper) (C : World → Prop) (Q : Exit → Act → World → Prop) : Nat → Array Bool → Act → World → Prop
  | 0, listed, a, W => Region.ready md ops listed = [] ∧ Q .normal a W
  | f + 1, listed, a, W => Region.ready md ops listed ≠ [] ∧ ∀ i ∈ Region.ready md ops listed, ∃ o, ops[i]? = some o ∧ StepS P ops C o (wpAnyS P md ops C Q f (listed.setIfInBounds i true)) a W
theorem wpAny_of_S : ∀ (f : Nat) (listed : Array Bool) (a : Act) (W : World), wpAnyS P md ops C Q f listed a W → wpAny P md ops Q f listed a W
  | 0, listed, a, W, h => h
  | f + 1, listed, a, W, h => by
    refine ⟨fun h0 => absurd h0 h.1, fun i hi => ?_⟩
    obtain ⟨o, ho, hs⟩ := h.2 i hi
    unfold wpOp
    simp only [ho]
    obtain ⟨hw, hs⟩ := hs
    rw [if_pos hw]
    refine .inl ?_
    unfold Oper.wp
    rcases hs with ⟨v, W', e, -, hk⟩ | ⟨W', e, -, hk⟩ | ⟨g, args, e, hc⟩
    · rw [e]; exact wpAny_of_S f _ _ _ hk
    · rw [e]; exact wpAny_of_S f _ _ _ hk
    · rw [e]
      exact hc.mono fun e w' ⟨v, he, _, hk⟩ => by subst he; exact wpAny_of_S f _ _ _ hk
theorem wpAnyS_first {i : Nat} {oi : Oper} {v : Value} (hi : ops[i]? = some oi) (hsel : ∀ (j : Nat) (o : Oper) cs b, ops[j]? = some o → o.op ≠ .select cs b) :
    ∀ (f : Nat) (listed : Array Bool) (a : Act) (W : World),
      (∀ j oj, ops[j]? = some oj → j ≠ i → listed.getD j true = false → (∀ e ∈ oj.after, Region.binds md e = true → e.on ≠ i) → oi.apart ops oj = true) →
      i ∈ Region.ready md ops listed → YieldsS P ops C oi v a → C W →
      wpAnyS P md ops C Q f (listed.setIfInBounds i true) (a.put oi.dst v) W → wpAnyS P md ops C Q (f + 1) listed a W := by
  intro f
  induction f with
  | zero =>
    intro listed a W _ hr hy hC H
    refine ⟨fun h => (by rw [h] at hr; cases hr), fun j hj => ?_⟩
    by_cases hji : j = i
    · subst hji; exact ⟨oi, hi, hy.step hC H⟩
    · have := ready_mono hj hji
      rw [H.1] at this
      cases this
  | succ f ih =>
    intro listed a W hfree hr hy hC H
    refine ⟨fun h => (by rw [h] at hr; cases hr), fun j hj => ?_⟩
    by_cases hji : j = i
    · subst hji; exact ⟨oi, hi, hy.step hC H⟩
    · obtain ⟨o', ho', h1⟩ := H.2 j (ready_mono hj hji)
      obtain ⟨hjun, oj, hoj, hall⟩ := mem_ready.1 hj
      obtain rfl : o' = oj := Option.some.inj (ho'.symm.trans hoj)
      have hnot : ∀ e ∈ o'.after, Region.binds md e = true → e.on ≠ i := fun e he hb heq => by
        have h1 := hall e he hb
        have h0 := (mem_ready.1 hr).1
        rw [heq, getD_both h0] at h1
        cases h1
      have h2 := StepS.put (hfree j o' hoj hji hjun hnot) (fun cs b => hsel i oi cs b hi) (fun cs b => hsel j o' cs b hoj) hy h1
      have hfree' : ∀ k ok, ops[k]? = some ok → k ≠ i → (listed.setIfInBounds j true).getD k true = false →
          (∀ e ∈ ok.after, Region.binds md e = true → e.on ≠ i) → oi.apart ops ok = true := fun k ok hk hki hun hno => by
        refine hfree k ok hk hki ?_ hno
        by_cases hjk : j = k
        · subst hjk; exact hjun
        · rw [getD_set_ne true hjk] at hun; exact hun
      refine ⟨o', hoj, h2.mono fun a' W' hC' h3 => ih (listed.setIfInBounds j true) a' W' hfree' (ready_mono hr (Ne.symm hji)) h3.1 hC' ?_⟩
      rw [Array.setIfInBounds_comm _ _ hji]
      exact h3.2
/-- an order of one's own: those marked true read, and may come at any time; of the others each is the only one that may come. -/
def wpSched (P : Program) (ops : Array Oper) (C : World → Prop) (Q : Exit → Act → World → Prop) : List (Bool × Nat) → Act → World → Prop
  | [], a, W => Q .normal a W
  | (true, i) :: r, a, W => ∃ o v, ops[i]? = some o ∧ YieldsS P ops C o v a ∧ wpSched P ops C Q r (a.put o.dst v) W
  | (false, i) :: r, a, W => ∃ o, ops[i]? = some o ∧ StepS P ops C o (wpSched P ops C Q r) a W
def schedB (md : Region.Mode) (ops : Array Oper) : List (Bool × Nat) → Array Bool → Bool
  | [], listed => (Region.ready md ops listed).isEmpty
  | (true, i) :: r, listed => (Region.ready md ops listed).contains i && (Region.free md ops listed i && schedB md ops r (listed.setIfInBounds i true))
  | (false, i) :: r, listed => decide (Region.ready md ops listed = [i]) && schedB md ops r (listed.setIfInBounds i true)
theorem wpAnyS_of_sched (hsel : Region.noSelect ops = true) : ∀ (s : List (Bool × Nat)) (listed : Array Bool) (a : Act) (W : World), schedB md ops s listed = true → C W → wpSched P ops C Q s a W → wpAnyS P md ops C Q s.length listed a W
  | [], listed, a, W, hB, hC, h => ⟨by simpa [schedB] using hB, h⟩
  | (true, i) :: r, listed, a, W, hB, hC, h => by
    simp only [schedB, Bool.and_eq_true] at hB
    obtain ⟨hr, hf, hB⟩ := hB
    obtain ⟨o, v, ho, hy, hk⟩ := h
    have hr' : i ∈ Region.ready md ops listed := by simpa using hr
    exact wpAnyS_first ho (Region.noSelect_spec hsel) r.length listed a W (Region.free_spec ho hf) hr' hy hC (wpAnyS_of_sched hsel r _ _ _ hB hC hk)
  | (false, i) :: r, listed, a, W, hB, hC, h => by
    simp only [schedB, Bool.and_eq_true, decide_eq_true_eq] at hB
    obtain ⟨hr, hB⟩ := hB
    obtain ⟨o, ho, hs⟩ := h
    refine ⟨fun h => (by rw [hr] at h; cases h), fun j hj => ?_⟩
    rw [hr] at hj
    obtain rfl : j = i := by simpa using hj
    exact ⟨o, ho, hs.mono fun a' W' hC' hk => wpAnyS_of_sched hsel r _ _ _ hB hC' hk⟩
theorem wp_region_sched {id : Nat} {a : Act} {w : World} (s : List (Bool × Nat)) (C : World → Prop) (hm : P.follows .mixedOrders = true) (hs : Region.noSelect ops = true) (hl : s.length = ops.size) (hB : schedB .any ops s (Array.replicate ops.size false) = true)
    (hC : C { w with drawn := w.drawn + 1 }) (h : wpSched P ops C Q s a { w with drawn := w.drawn + 1 }) : (Code.region id ops true).wp P Q a w := by
  refine wp_region_any hm ?_
  rw [← hl]
  exact wpAny_of_S _ _ _ _ (wpAnyS_of_sched hs s _ a _ (by rw [hl]; exact hB) hC h)
theorem sched_read {i : Nat} {r : List (Bool × Nat)} {o : Oper} {a : Act} {W : World} (ho : ops[i]? = some o) (v : Value) (hw : Region.wanted o (yielded ops a.tmps) = true) (hr : ∀ W, C W → (execOp a.eval o).run P W = .ok (.value v) W) (h : wpSched P ops C Q r (a.put o.dst v) W) : wpSched P ops C Q ((true, i) :: r) a W :=
  ⟨o, v, ho, ⟨hw, hr⟩, h⟩
theorem sched_call {i : Nat} {r : List (Bool × Nat)} {o : Oper} {a : Act} {W : World} (ho : ops[i]? = some o) (f : FuncId) (args : Array Value) (hw : Region.wanted o (yielded ops a.tmps) = true) (hr : (execOp a.eval o).run P W = .ok (.enter f args) W)
    (hc : Calls P f args W (fun e w' => ∃ v, e = .returned v ∧ C w' ∧ wpSched P ops C Q r (a.put o.dst v) w')) : wpSched P ops C Q ((false, i) :: r) a W :=
  ⟨o, ho, hw, .inr (.inr ⟨f, args, hr, hc⟩)⟩
theorem sched_value {i : Nat} {r : List (Bool × Nat)} {o : Oper} {a : Act} {W : World} (ho : ops[i]? = some o) (v : Value) (W' : World) (hw : Region.wanted o (yielded ops a.tmps) = true) (hr : (execOp a.eval o).run P W = .ok (.value v) W') (hC : C W') (h : wpSched P ops C Q r (a.put o.dst v) W') : wpSched P ops C Q ((false, i) :: r) a W :=
  ⟨o, ho, hw, .inl ⟨v, W', hr, hC, h⟩⟩
theorem sched_skip {i : Nat} {r : List (Bool × Nat)} {o : Oper} {a : Act} {W : World} (ho : ops[i]? = some o) (W' : World) (hw : Region.wanted o (yielded ops a.tmps) = true) (hr : (execOp a.eval o).run P W = .ok .skip W') (hC : C W') (h : wpSched P ops C Q r (a.put o.dst undef) W') : wpSched P ops C Q ((false, i) :: r) a W :=
  ⟨o, ho, hw, .inr (.inl ⟨W', hr, hC, h⟩)⟩
end
end Go.Proofs.Ytghkchnfcfnejaa

namespace Go.Proofs.Ytghkchnfcfnejaa
open Go Go.RowKit
set_option linter.unusedVariables false

section
variable {P : Program} {ops : Array Oper} {md : Region.Mode} {C : World → Prop} {Q : Exit → Act → World → Prop} {L : Array Bool → Act → World → Prop}

def wpAnyT (P : Program) (md : Region.Mode) (ops : Array Oper) (C : World → Prop) (L : Array Bool → Act → World → Prop) : Nat → Array Bool → Act → World → Prop
  | 0, listed, a, W => L listed a W
  | f + 1, listed, a, W => Region.ready md ops listed ≠ [] ∧ ∀ i ∈ Region.ready md ops listed, ∃ o, ops[i]? = some o ∧ StepS P ops C o (wpAnyT P md ops C L f (listed.setIfInBounds i true)) a W
theorem wpAny_of_T {g : Nat} (hL : ∀ listed a W, L listed a W → wpAny P md ops Q g listed a W) : ∀ (f : Nat) (listed : Array Bool) (a : Act) (W : World), wpAnyT P md ops C L f listed a W → wpAny P md ops Q (f + g) listed a W
  | 0, listed, a, W, h => by rw [Nat.zero_add]; exact hL _ _ _ h
  | f + 1, listed, a, W, h => by
    rw [show f + 1 + g = (f + g) + 1 by omega]
    refine ⟨fun h0 => absurd h0 h.1, fun i hi => ?_⟩
    obtain ⟨o, ho, hs⟩ := h.2 i hi
    unfold wpOp
    simp only [ho]
    obtain ⟨hw, hs⟩ := hs
    rw [if_pos hw]
    refine .inl ?_
    unfold Oper.wp
    rcases hs with ⟨v, W', e, -, hk⟩ | ⟨W', e, -, hk⟩ | ⟨k, args, e, hc⟩
    · rw [e]; exact wpAny_of_T hL f _ _ _ hk
    · rw [e]; exact wpAny_of_T hL f _ _ _ hk
    · rw [e]
      exact hc.mono fun e w' ⟨v, he, _, hk⟩ => by subst he; exact wpAny_of_T hL f _ _ _ hk
theorem unset_of {l H : Array Bool} {i : Nat} (h0 : l.getD i true = false) (e : l.setIfInBounds i true = H) : l = H.setIfInBounds i false := by
  subst e
  apply Array.ext_getElem?
  intro k
  by_cases hk : i = k
  · subst hk
    rcases Nat.lt_or_ge i l.size with hl | hl
    · simp [Array.getD, hl] at h0
      simp [hl, h0]
    · simp [Array.getD, Nat.not_lt.2 hl] at h0
  · simp [hk]
/-- what is listed has all that it waits for. -/
def Clos (md : Region.Mode) (ops : Array Oper) (listed : Array Bool) : Prop := ∀ (j : Nat) (oj : Oper), ops[j]? = some oj → listed.getD j false = true → ∀ e ∈ oj.after, Region.binds md e = true → listed.getD e.on false = true
theorem Clos.set {i : Nat} {listed : Array Bool} (inv : Clos md ops listed) (hi : i ∈ Region.ready md ops listed) : Clos md ops (listed.setIfInBounds i true) := by
  obtain ⟨_, oi, hoi, hall⟩ := mem_ready.1 hi
  intro j oj hj hl e he hb
  by_cases hij : i = j
  · subst hij
    have : oj = oi := Option.some.inj (hj.symm.trans hoi)
    subst this
    exact getD_set_true (hall e he hb)
  · rw [getD_set_ne false hij] at hl
    exact getD_set_true (inv j oj hj hl e he hb)
/-- one that is listed waits for i. -/
def waits (md : Region.Mode) (ops : Array Oper) (H0 : Array Bool) (i : Nat) : Bool := (List.range ops.size).any fun j => H0.getD j false && (decide (j ≠ i) && match ops[j]? with | some o => o.after.any fun e => Region.binds md e && decide (e.on = i) | none => false)
theorem waits_spec {H0 : Array Bool} {i : Nat} (h : waits md ops H0 i = true) : ∃ j o, ops[j]? = some o ∧ j ≠ i ∧ H0.getD j false = true ∧ ∃ e ∈ o.after, Region.binds md e = true ∧ e.on = i := by
  unfold waits at h
  obtain ⟨j, -, hj⟩ := List.any_eq_true.1 h
  simp only [Bool.and_eq_true, decide_eq_true_eq] at hj
  obtain ⟨h1, h2, h3⟩ := hj
  cases ho : ops[j]? with
  | none => rw [ho] at h3; cases h3
  | some o =>
    rw [ho] at h3
    obtain ⟨k, hk, he⟩ := Array.any_eq_true.1 h3
    simp only [Bool.and_eq_true, decide_eq_true_eq] at he
    exact ⟨j, o, ho, h2, h1, o.after[k], Array.getElem_mem hk, he.1, he.2⟩
theorem wpAnyT_first {i : Nat} {oi : Oper} {v : Value} {H0 : Array Bool} (hi : ops[i]? = some oi) (hsel : ∀ (j : Nat) (o : Oper) cs b, ops[j]? = some o → o.op ≠ .select cs b)
    (hH : waits md ops H0 i = true ∨ Region.ready md ops (H0.setIfInBounds i false) = [i]) (hLH : ∀ listed a W, L listed a W → listed = H0) :
    ∀ (f : Nat) (listed : Array Bool) (a : Act) (W : World), Clos md ops listed →
      (∀ j oj, ops[j]? = some oj → j ≠ i → listed.getD j true = false → (∀ e ∈ oj.after, Region.binds md e = true → e.on ≠ i) → oi.apart ops oj = true) →
      i ∈ Region.ready md ops listed → YieldsS P ops C oi v a → C W →
      wpAnyT P md ops C L f (listed.setIfInBounds i true) (a.put oi.dst v) W → wpAnyT P md ops C L (f + 1) listed a W := by
  intro f
  induction f with
  | zero =>
    intro listed a W inv _ hr hy hC H
    refine ⟨fun h => (by rw [h] at hr; cases hr), fun j hj => ?_⟩
    by_cases hji : j = i
    · subst hji; exact ⟨oi, hi, hy.step hC H⟩
    · rcases hH with hH | hH
      · obtain ⟨k, ok, hk, hki, hkl, e, he, hb, heq⟩ := waits_spec hH
        rw [← hLH _ _ _ H, getD_set_ne false (Ne.symm hki)] at hkl
        have h1 := inv k ok hk hkl e he hb
        rw [heq, getD_both (mem_ready.1 hr).1] at h1
        cases h1
      · have e := unset_of (mem_ready.1 hr).1 (hLH _ _ _ H)
        rw [e, hH] at hj
        exact absurd (by simpa using hj) hji
  | succ f ih =>
    intro listed a W inv hfree hr hy hC H
    refine ⟨fun h => (by rw [h] at hr; cases hr), fun j hj => ?_⟩
    by_cases hji : j = i
    · subst hji; exact ⟨oi, hi, hy.step hC H⟩
    · obtain ⟨o', ho', h1⟩ := H.2 j (ready_mono hj hji)
      obtain ⟨hjun, oj, hoj, hall⟩ := mem_ready.1 hj
      obtain rfl : o' = oj := Option.some.inj (ho'.symm.trans hoj)
      have hnot : ∀ e ∈ o'.after, Region.binds md e = true → e.on ≠ i := fun e he hb heq => by
        have h1 := hall e he hb
        have h0 := (mem_ready.1 hr).1
        rw [heq, getD_both h0] at h1
        cases h1
      have h2 := StepS.put (hfree j o' hoj hji hjun hnot) (fun cs b => hsel i oi cs b hi) (fun cs b => hsel j o' cs b hoj) hy h1
      have hfree' : ∀ k ok, ops[k]? = some ok → k ≠ i → (listed.setIfInBounds j true).getD k true = false →
          (∀ e ∈ ok.after, Region.binds md e = true → e.on ≠ i) → oi.apart ops ok = true := fun k ok hk hki hun hno => by
        refine hfree k ok hk hki ?_ hno
        by_cases hjk : j = k
        · subst hjk; exact hjun
        · rw [getD_set_ne true hjk] at hun; exact hun
      refine ⟨o', hoj, h2.mono fun a' W' hC' h3 => ih (listed.setIfInBounds j true) a' W' (inv.set hj) hfree' (ready_mono hr (Ne.symm hji)) h3.1 hC' ?_⟩
      rw [Array.setIfInBounds_comm _ _ hji]
      exact h3.2
/-- the head, in an order of one's own; K behind it. -/
def wpHeadT (P : Program) (ops : Array Oper) (C : World → Prop) (K : Act → World → Prop) : List (Bool × Nat) → Act → World → Prop
  | [], a, W => K a W
  | (true, i) :: r, a, W => ∃ o v, ops[i]? = some o ∧ YieldsS P ops C o v a ∧ wpHeadT P ops C K r (a.put o.dst v) W
  | (false, i) :: r, a, W => ∃ o, ops[i]? = some o ∧ StepS P ops C o (wpHeadT P ops C K r) a W
def headB (md : Region.Mode) (ops : Array Oper) (H0 : Array Bool) : List (Bool × Nat) → Array Bool → Bool
  | [], listed => decide (listed = H0)
  | (true, i) :: r, listed => (Region.ready md ops listed).contains i && (Region.free md ops listed i && ((waits md ops H0 i || decide (Region.ready md ops (H0.setIfInBounds i false) = [i])) && headB md ops H0 r (listed.setIfInBounds i true)))
  | (false, i) :: r, listed => decide (Region.ready md ops listed = [i]) && headB md ops H0 r (listed.setIfInBounds i true)
theorem wpAnyT_of_head {K : Act → World → Prop} {H0 : Array Bool} (hsel : Region.noSelect ops = true) : ∀ (s : List (Bool × Nat)) (listed : Array Bool) (a : Act) (W : World), Clos md ops listed → headB md ops H0 s listed = true → C W → wpHeadT P ops C K s a W → wpAnyT P md ops C (fun l a W => l = H0 ∧ K a W) s.length listed a W
  | [], listed, a, W, inv, hB, hC, h => ⟨of_decide_eq_true hB, h⟩
  | (true, i) :: r, listed, a, W, inv, hB, hC, h => by
    simp only [headB, Bool.and_eq_true, Bool.or_eq_true, decide_eq_true_eq] at hB
    obtain ⟨hr, hf, hH, hB⟩ := hB
    obtain ⟨o, v, ho, hy, hk⟩ := h
    have hr' : i ∈ Region.ready md ops listed := by simpa using hr
    exact wpAnyT_first ho (Region.noSelect_spec hsel) hH (fun _ _ _ h => h.1) r.length listed a W inv (Region.free_spec ho hf) hr' hy hC (wpAnyT_of_head hsel r _ _ _ (inv.set hr') hB hC hk)
  | (false, i) :: r, listed, a, W, inv, hB, hC, h => by
    simp only [headB, Bool.and_eq_true, decide_eq_true_eq] at hB
    obtain ⟨hr, hB⟩ := hB
    obtain ⟨o, ho, hs⟩ := h
    refine ⟨fun h => (by rw [hr] at h; cases h), fun j hj => ?_⟩
    have hr' : i ∈ Region.ready md ops listed := by rw [hr]; simp
    rw [hr] at hj
    obtain rfl : j = i := by simpa using hj
    exact ⟨o, ho, hs.mono fun a' W' hC' hk => wpAnyT_of_head hsel r _ _ _ (inv.set hr') hB hC' hk⟩
def listedBy (n : Nat) (s : List (Bool × Nat)) : Array Bool := s.foldl (fun l p => l.setIfInBounds p.2 true) (Array.replicate n false)
/-- the region: its head s, in the worlds C; its tail t. -/
theorem wp_region_two {id : Nat} {a : Act} {w : World} (s t : List (Bool × Nat)) (C : World → Prop) (hm : P.follows .mixedOrders = true) (hs : Region.noSelect ops = true) (hl : s.length + t.length = ops.size) (hB : headB .any ops (listedBy ops.size s) s (Array.replicate ops.size false) = true)
    (hT : schedB .any ops t (listedBy ops.size s) = true)
    (hC : C { w with drawn := w.drawn + 1 }) (h : wpHeadT P ops C (wpSched P ops (fun _ => True) Q t) s a { w with drawn := w.drawn + 1 }) : (Code.region id ops true).wp P Q a w := by
  refine wp_region_any hm ?_
  rw [← hl]
  refine wpAny_of_T (g := t.length) (fun listed a W hh => ?_) _ _ _ _ (wpAnyT_of_head (H0 := listedBy ops.size s) hs s _ a _ (fun j oj _ hj => by rw [getD_replicate_false] at hj; cases hj) (by rw [hl]; exact hB) hC h)
  obtain ⟨rfl, hk⟩ := hh
  exact wpAny_of_S _ _ _ _ (wpAnyS_of_sched hs t _ a W hT trivial hk)
theorem headT_read {K : Act → World → Prop} {i : Nat} {r : List (Bool × Nat)} {o : Oper} {a : Act} {W : World} (ho : ops[i]? = some o) (v : Value) (hw : Region.wanted o (yielded ops a.tmps) = true) (hr : ∀ W, C W → (execOp a.eval o).run P W = .ok (.value v) W) (h : wpHeadT P ops C K r (a.put o.dst v) W) : wpHeadT P ops C K ((true, i) :: r) a W :=
  ⟨o, v, ho, ⟨hw, hr⟩, h⟩
theorem headT_call {K : Act → World → Prop} {i : Nat} {r : List (Bool × Nat)} {o : Oper} {a : Act} {W : World} (ho : ops[i]? = some o) (f : FuncId) (args : Array Value) (hw : Region.wanted o (yielded ops a.tmps) = true) (hr : (execOp a.eval o).run P W = .ok (.enter f args) W)
    (hc : Calls P f args W (fun e w' => ∃ v, e = .returned v ∧ C w' ∧ wpHeadT P ops C K r (a.put o.dst v) w')) : wpHeadT P ops C K ((false, i) :: r) a W :=
  ⟨o, ho, hw, .inr (.inr ⟨f, args, hr, hc⟩)⟩
theorem exec_append {o : Oper} {a : Act} {w w' : World} {v' : Value} (s x : Operand) (t tx : TypeId) (ho : o.op = .call { callee := .builtin .append, args := #[s, x], argTypes := #[t, tx] }) (v xv : Value) (hs : a.eval s = v) (hx : a.eval x = xv)
    (hr : (Builtin.append_ #[t, tx] o.type #[v, xv]).run P w = .ok v' w') : (execOp a.eval o).run P w = .ok (.value v') w' := by
  unfold execOp
  simp only [ho, resolve, invoke, builtin, Sem.run_bind, Sem.run_pure, Result.andThen_ok, List.map_toArray, List.map_cons, List.map_nil, hs, hx, hr]
theorem headT_value {K : Act → World → Prop} {i : Nat} {r : List (Bool × Nat)} {o : Oper} {a : Act} {W : World} (ho : ops[i]? = some o) (v : Value) (W' : World) (hw : Region.wanted o (yielded ops a.tmps) = true) (hr : (execOp a.eval o).run P W = .ok (.value v) W') (hC : C W') (h : wpHeadT P ops C K r (a.put o.dst v) W') : wpHeadT P ops C K ((false, i) :: r) a W :=
  ⟨o, ho, hw, .inl ⟨v, W', hr, hC, h⟩⟩
end
end Go.Proofs.Ytghkchnfcfnejaa

namespace Go.Proofs.Ytghkchnfcfnejaa
open Go.RowKit
set_option linter.unusedVariables false

set_option maxRecDepth 100000 in
set_option maxHeartbeats 8000000 in
theorem hire_any (z gg n cg b1 : Nat) (c0 c1 c2 c3 c4 c5 c7 : Value) (gold : List Int) (rest : Array Value) (a8 : Option Addr) (h8 : Nat) (qs : List JbV) (k : KV) (o : OrV) (pn : Nat) (g : Int) (w : World)
    (X : Wx w z c0 c1 c2 c3 c4 c5 (.slice (some ⟨gg, 0, none⟩) n cg) c7 (.slice a8 qs.length h8)) (B : Bk w gg gold rest) (J : Jbo w b1 (.slice a8 qs.length h8) qs) (hp : o.player = (pn : Nat)) (hpn : pn < n) (hg : gold[pn]? = some g) (g0 : 0 ≤ g ∧ g ≤ 1000000) (k5 : 0 ≤ k.n5 ∧ k.n5 ≤ 1000) (k6 : 0 ≤ k.n6 ∧ k.n6 ≤ 1000) (hq : qs.length ≤ 12)
    (hz : z < b1) (hgb : b1 ≤ gg) (hb : b1 ≤ w.heap.size) (hd : (Value.slice a8 qs.length h8).ownBlock ≠ some gg) :
    Calls Try.prog 33 #[.pointer (some ⟨z, 0, none⟩), k.val, o.val] w fun e w' => e = .returned (.tuple #[]) ∧ ∃ a8' h8', Wx w' z c0 c1 c2 c3 c4 c5 (.slice (some ⟨gg, 0, none⟩) n cg) c7 (.slice a8' (qs.length + 1) h8') ∧ Bk w' gg (gold.set pn (g - k.n5)) rest ∧ Jbo w' b1 (.slice a8' (qs.length + 1) h8') (qs ++ [⟨o.player, o.unit, o.arg, max k.n6 1⟩]) ∧ Fr (fun q => q = z ∨ q = gg ∨ (Value.slice a8 qs.length h8).ownBlock = some q) w w' ∧ ((Value.slice a8' (qs.length + 1) h8').ownBlock = (Value.slice a8 qs.length h8).ownBlock ∨ ∃ q, (Value.slice a8' (qs.length + 1) h8').ownBlock = some q ∧ w.heap.size ≤ q) := by
  have X0 : Hid (Wx w z c0 c1 c2 c3 c4 c5 (.slice (some ⟨gg, 0, none⟩) n cg) c7 (.slice a8 qs.length h8)) := X
  have B0 : Hid (Bk w gg gold rest) := B
  have J0 : Hid (Jbo w b1 (.slice a8 qs.length h8) qs) := J
  have NN : Hid (o.player = (pn : Nat) ∧ gold[pn]? = some g ∧ z < b1 ∧ b1 ≤ gg ∧ b1 ≤ w.heap.size ∧ (Value.slice a8 qs.length h8).ownBlock ≠ some gg ∧ pn < n) := ⟨hp, hg, hz, hgb, hb, hd, hpn⟩
  have ggl := B.lt
  have JL : Hid (∀ q, (Value.slice a8 qs.length h8).ownBlock = some q → q < w.heap.size) := fun q hq => (J.block q hq).2
  have zl := X.lt
  have TT : ∃ tt, max k.n6 1 = tt ∧ 1 ≤ tt ∧ tt ≤ 1000 := ⟨_, rfl, by omega, by omega⟩
  obtain ⟨tt, htt, tt1, tt2⟩ := TT
  have HT : Hid (max k.n6 1 = tt) := htt
  have zg : ¬ z = gg := by omega
  have zs : ¬ z = w.heap.size := by omega
  have zs1 : ¬ z = w.heap.size + 1 := by omega
  have gs' : ¬ gg = w.heap.size := by omega
  have gs1 : ¬ gg = w.heap.size + 1 := by omega
  have pni : ((pn : Nat) : Int) < (n : Nat) := by omega
  rw [htt]
  clear X B J hp hg hd htt hz hgb hb
  unfold KV.val OrV.val
  go_enter Try.func33, Try.ntmps33
  go_upto_region 1 with fail
  have BA : Hid (Below w.heap.size w (w.alloc (Obj.cells #[.string k.b, .int .i64 k.n0, .int .i64 k.n1, .int .i64 k.n2, .int .i64 k.n3, .int .i64 k.n4, .int .i64 k.n5, .int .i64 k.n6, .int .i64 k.n7, .bool k.f, .bool k.t] 53))) := (Below.refl _ _).alloc (Nat.le_refl _) _
  have BB : Hid (Below (w.alloc (Obj.cells #[.string k.b, .int .i64 k.n0, .int .i64 k.n1, .int .i64 k.n2, .int .i64 k.n3, .int .i64 k.n4, .int .i64 k.n5, .int .i64 k.n6, .int .i64 k.n7, .bool k.f, .bool k.t] 53)).heap.size (w.alloc (Obj.cells #[.string k.b, .int .i64 k.n0, .int .i64 k.n1, .int .i64 k.n2, .int .i64 k.n3, .int .i64 k.n4, .int .i64 k.n5, .int .i64 k.n6, .int .i64 k.n7, .bool k.f, .bool k.t] 53)) ((w.alloc (Obj.cells #[.string k.b, .int .i64 k.n0, .int .i64 k.n1, .int .i64 k.n2, .int .i64 k.n3, .int .i64 k.n4, .int .i64 k.n5, .int .i64 k.n6, .int .i64 k.n7, .bool k.f, .bool k.t] 53)).alloc (Obj.cells #[.int .i64 o.player, .int .i64 o.unit, .int .i64 o.what, .int .i64 o.arg] 39))) := (Below.refl _ _).alloc (Nat.le_refl _) _
  have B1 : Hid (Below w.heap.size w ((w.alloc (Obj.cells #[.string k.b, .int .i64 k.n0, .int .i64 k.n1, .int .i64 k.n2, .int .i64 k.n3, .int .i64 k.n4, .int .i64 k.n5, .int .i64 k.n6, .int .i64 k.n7, .bool k.f, .bool k.t] 53)).alloc (Obj.cells #[.int .i64 o.player, .int .i64 o.unit, .int .i64 o.what, .int .i64 o.arg] 39))) := BA.out.trans (BB.out.mono BA.out.size)
  have KC1 : Hid (Kc ((w.alloc (Obj.cells #[.string k.b, .int .i64 k.n0, .int .i64 k.n1, .int .i64 k.n2, .int .i64 k.n3, .int .i64 k.n4, .int .i64 k.n5, .int .i64 k.n6, .int .i64 k.n7, .bool k.f, .bool k.t] 53)).alloc (Obj.cells #[.int .i64 o.player, .int .i64 o.unit, .int .i64 o.what, .int .i64 o.arg] 39)) ⟨w.heap.size, 0, none⟩ k) := (kind_new (w := w) k rfl).below BB.out (by simp)
  have OC1 : Hid (Orc ((w.alloc (Obj.cells #[.string k.b, .int .i64 k.n0, .int .i64 k.n1, .int .i64 k.n2, .int .i64 k.n3, .int .i64 k.n4, .int .i64 k.n5, .int .i64 k.n6, .int .i64 k.n7, .bool k.f, .bool k.t] 53)).alloc (Obj.cells #[.int .i64 o.player, .int .i64 o.unit, .int .i64 o.what, .int .i64 o.arg] 39)) ⟨w.heap.size + 1, 0, none⟩ o) := Orc.mk' (w := w.alloc (Obj.cells #[.string k.b, .int .i64 k.n0, .int .i64 k.n1, .int .i64 k.n2, .int .i64 k.n3, .int .i64 k.n4, .int .i64 k.n5, .int .i64 k.n6, .int .i64 k.n7, .bool k.f, .bool k.t] 53)) o (by simp)
  clear BA BB
  obtain ⟨y, hy⟩ : ∃ y, w.heap.size = y := ⟨_, rfl⟩
  have HY : Hid (w.heap.size = y) := hy
  rw [hy] at KC1 OC1 zs zs1 gs' gs1 ⊢
  clear hy
  generalize ((w.alloc (Obj.cells #[.string k.b, .int .i64 k.n0, .int .i64 k.n1, .int .i64 k.n2, .int .i64 k.n3, .int .i64 k.n4, .int .i64 k.n5, .int .i64 k.n6, .int .i64 k.n7, .bool k.f, .bool k.t] 53)).alloc (Obj.cells #[.int .i64 o.player, .int .i64 o.unit, .int .i64 o.what, .int .i64 o.arg] 39)) = w1 at *
  have X1 : Hid (Wx w1 z c0 c1 c2 c3 c4 c5 (.slice (some ⟨gg, 0, none⟩) n cg) c7 (.slice a8 qs.length h8)) := X0.out.below B1.out zl
  have G1 : Hid (Bk w1 gg gold rest) := B0.out.below B1.out
  have J1 : Hid (Jbo w1 b1 (.slice a8 qs.length h8) qs) := J0.out.below B1.out
  obtain ⟨x0, x1, x2, x3, x4, x5, x6, x7, x8⟩ := X1.out.cells
  obtain ⟨k0, k1, k2, k3, k4, k5', k6', k7', k8, k9, k10⟩ := KC1.out
  obtain ⟨o0, o1, o2, o3⟩ := OC1.out
  simp only [Nat.zero_add] at k1 k2 k3 k4 k5' k6' k7' k8 k9 k10 o1 o2 o3
  rw [NN.out.1] at o0
  have cg' := G1.out.cell NN.out.2.1
  have tg := G1.out.thaw pn
  have wr : IntKind.i64.wrap (g - k.n5) = g - k.n5 := by rw [IntKind.wrap_i64]; omega
  clear X0 B0 J0
  go_region
  have KZ : Hid (Kp gg w1 (w1.setCell ⟨gg, pn, none⟩ (.int .i64 (g - k.n5))).drew) := (Kp.set _ _ _).trans (Kp.of (Below.refl _ _).drew)
  have G2 : Hid (Bk (w1.setCell ⟨gg, pn, none⟩ (.int .i64 (g - k.n5))).drew gg (gold.set pn (g - k.n5)) rest) := G1.out.set pn _ (List.getElem?_eq_some_iff.1 NN.out.2.1).1
  clear x0 x1 x2 x3 x4 x5 x6 x7 x8 k0 k1 k2 k3 k4 k5' k6' k7' k8 k9 k10 o0 o1 o2 o3 cg' tg wr
  generalize (w1.setCell ⟨gg, pn, none⟩ (.int .i64 (g - k.n5))).drew = w2 at *
  have F2 : Hid (Fr (fun q => q = gg) w1 w2) := Fr.kp KZ.out rfl
  have X2 : Hid (Wx w2 z c0 c1 c2 c3 c4 c5 (.slice (some ⟨gg, 0, none⟩) n cg) c7 (.slice a8 qs.length h8)) := F2.out.wx X1.out zg
  have J2 : Hid (Jbo w2 b1 (.slice a8 qs.length h8) qs) := F2.out.own J1.out (fun q hq e => NN.out.2.2.2.2.2.1 (by rw [hq, e]))
  have KC2 : Hid (Kc w2 ⟨y, 0, none⟩ k) := KC1.out.kp9 KZ.out (fun e => gs' e.symm)
  have OC2 : Hid (w2.cell? ⟨y + 1, 0, none⟩ = some (.int .i64 (pn : Nat)) ∧ w2.cell? ⟨y + 1, 1, none⟩ = some (.int .i64 o.unit) ∧ w2.cell? ⟨y + 1, 3, none⟩ = some (.int .i64 o.arg)) := by
    obtain ⟨q0, q1, q2, q3⟩ := OC1.out
    simp only [Nat.zero_add] at q1 q2 q3
    rw [NN.out.1] at q0
    exact ⟨F2.out.cell q0 (fun e => gs1 e.symm), F2.out.cell q1 (fun e => gs1 e.symm), F2.out.cell q3 (fun e => gs1 e.symm)⟩
  have QB : Hid (∀ q, (Value.slice a8 qs.length h8).ownBlock = some q → b1 ≤ q ∧ q < y) := fun q hq => by
    refine ⟨(J2.out.block q hq).1, ?_⟩
    rw [← HY.out]
    exact JL.out q hq
  have CB : Hid (∀ V, Fr (fun q => (Value.slice a8 qs.length h8).ownBlock = some q) w2 V → (V.cell? ⟨z, 8, none⟩ = some (.slice a8 qs.length h8) ∧ V.cell? ⟨y + 1, 0, none⟩ = some (.int .i64 (pn : Nat)) ∧ V.cell? ⟨y + 1, 1, none⟩ = some (.int .i64 o.unit) ∧ V.cell? ⟨y + 1, 3, none⟩ = some (.int .i64 o.arg) ∧ V.cell? ⟨y, 7, none⟩ = some (.int .i64 k.n6))) := fun V hV => by
    have hy1 : ¬ (Value.slice a8 qs.length h8).ownBlock = some (y + 1) := fun e => by have := (QB.out _ e).2; omega
    have hy0 : ¬ (Value.slice a8 qs.length h8).ownBlock = some y := fun e => by have := (QB.out _ e).2; omega
    have hzq : ¬ (Value.slice a8 qs.length h8).ownBlock = some z := fun e => by have := (QB.out _ e).1; have := NN.out.2.2.1; omega
    obtain ⟨-, -, -, -, -, -, -, -, x8⟩ := X2.out.cells
    have c7 := KC2.out.c7
    simp only [Nat.zero_add] at c7
    exact ⟨hV.cell x8 hzq, hV.cell OC2.out.1 hy1, hV.cell OC2.out.2.1 hy1, hV.cell OC2.out.2.2 hy1, hV.cell c7 hy0⟩
  go_upto_region 2 with fail
  refine wp_region_two [(true, 0), (true, 1), (true, 2), (true, 3), (true, 4), (true, 5), (true, 6), (true, 7), (true, 8), (true, 9), (true, 10), (true, 11), (true, 12), (true, 13), (true, 14), (false, 15), (false, 16), (true, 17), (true, 18)] [(false, 19)] (fun V => V.cell? ⟨z, 8, none⟩ = some (.slice a8 qs.length h8) ∧ V.cell? ⟨y + 1, 0, none⟩ = some (.int .i64 (pn : Nat)) ∧ V.cell? ⟨y + 1, 1, none⟩ = some (.int .i64 o.unit) ∧ V.cell? ⟨y + 1, 3, none⟩ = some (.int .i64 o.arg) ∧ V.cell? ⟨y, 7, none⟩ = some (.int .i64 k.n6)) (by kernel_rfl) (by kernel_rfl) (by kernel_rfl) (by decide +kernel) (by decide +kernel) (CB.out _ (Fr.below (Below.refl _ _).drew)) ?_
  have D3 : Hid (Below w2.heap.size w2 { w2 with drawn := w2.drawn + 1 }) := (Below.refl _ _).drew
  generalize ({ w2 with drawn := w2.drawn + 1 } : World) = w3 at *
  refine headT_read rfl (.pointer (some ⟨z, 0, none⟩)) (by go_simp) (fun V hV => by go_simp) ?_
  go_simp
  refine headT_read rfl (.pointer (some ⟨z, 0, none⟩)) (by go_simp) (fun V hV => by go_simp) ?_
  go_simp
  refine headT_read rfl (.pointer (some ⟨z, 0, none⟩)) (by go_simp) (fun V hV => by go_simp) ?_
  go_simp
  refine headT_read rfl (.pointer (some ⟨z, 8, none⟩)) (by go_simp) (fun V hV => by go_simp) ?_
  go_simp
  refine headT_read rfl (.slice a8 qs.length h8) (by go_simp) (fun V hV => by obtain ⟨d1, d2, d3, d4, d5⟩ := hV; go_simp) ?_
  go_simp
  refine headT_read rfl (.pointer (some ⟨y + 1, 0, none⟩)) (by go_simp) (fun V hV => by go_simp) ?_
  go_simp
  refine headT_read rfl (.int .i64 (pn : Nat)) (by go_simp) (fun V hV => by obtain ⟨d1, d2, d3, d4, d5⟩ := hV; go_simp) ?_
  go_simp
  refine headT_read rfl (.pointer (some ⟨y + 1, 1, none⟩)) (by go_simp) (fun V hV => by go_simp) ?_
  go_simp
  refine headT_read rfl (.int .i64 o.unit) (by go_simp) (fun V hV => by obtain ⟨d1, d2, d3, d4, d5⟩ := hV; go_simp) ?_
  go_simp
  refine headT_read rfl (.pointer (some ⟨y + 1, 3, none⟩)) (by go_simp) (fun V hV => by go_simp) ?_
  go_simp
  refine headT_read rfl (.int .i64 o.arg) (by go_simp) (fun V hV => by obtain ⟨d1, d2, d3, d4, d5⟩ := hV; go_simp) ?_
  go_simp
  refine headT_read rfl (.pointer (some ⟨y, 7, none⟩)) (by go_simp) (fun V hV => by go_simp) ?_
  go_simp
  refine headT_read rfl (.int .i64 k.n6) (by go_simp) (fun V hV => by obtain ⟨d1, d2, d3, d4, d5⟩ := hV; go_simp) ?_
  go_simp
  refine headT_read rfl (.int .i64 tt) (by go_simp) (fun V hV => by have h9 := HT.out; first | (go_simp; done) | (go_simp; rw [h9]) | (simp [h9]; go_simp)) ?_
  go_simp
  refine headT_read rfl (.agg #[.int .i64 (pn : Nat), .int .i64 o.unit, .int .i64 o.arg, .int .i64 tt]) (by go_simp) (fun V hV => by go_simp) ?_
  go_simp
  have BA : Hid (Below w3.heap.size w3 (w3.alloc (Obj.cells #[.int .i64 (pn : Nat), .int .i64 o.unit, .int .i64 o.arg, .int .i64 tt] 65))) := (Below.refl _ _).alloc (Nat.le_refl _) _
  have EC : Hid (Jbc (w3.alloc (Obj.cells #[.int .i64 (pn : Nat), .int .i64 o.unit, .int .i64 o.arg, .int .i64 tt] 65)) ⟨w3.heap.size, 0, none⟩ ⟨(pn : Nat), o.unit, o.arg, tt⟩) := Jbc.mk' (w := w3) ⟨(pn : Nat), o.unit, o.arg, tt⟩ rfl
  refine headT_value rfl (.slice (some ⟨w3.heap.size, 0, none⟩) 1 1) (w3.alloc (Obj.cells #[.int .i64 (pn : Nat), .int .i64 o.unit, .int .i64 o.arg, .int .i64 tt] 65)) (by go_simp) (by go_simp) (CB.out _ (Fr.below (D3.out.trans (BA.out.mono D3.out.size)))) ?_
  go_simp
  generalize (w3.alloc (Obj.cells #[.int .i64 (pn : Nat), .int .i64 o.unit, .int .i64 o.arg, .int .i64 tt] 65)) = w4 at *
  have D4 : Hid (Below w2.heap.size w2 w4) := D3.out.trans (BA.out.mono D3.out.size)
  have J4 : Hid (Jbo w4 b1 (.slice a8 qs.length h8) qs) := J2.out.below D4.out
  have S4 : Hid (b1 ≤ w4.heap.size ∧ w.heap.size ≤ w4.heap.size) := by have h1 := D4.out.size; have h2 := F2.out.size; have h3 := B1.out.size; have h4 := NN.out.2.2.2.2.1; exact ⟨by omega, by omega⟩
  obtain ⟨gq, gc, w5, hr, ho5, hg5, hw5, -⟩ := run_jb w4 27 b1 _ qs J4.out _ _ EC.out (by omega) S4.out.1
  have FQ : Hid (Fr (fun q => (Value.slice a8 qs.length h8).ownBlock = some q) w2 w5) := (Fr.below D4.out).trans (Fr.gb hg5 (fun q hq => hq))
  refine headT_value rfl (.slice (some ⟨gq, 0, none⟩) (qs.length + 1) gc) w5 (by go_simp) (exec_append _ _ _ _ rfl _ _ (by go_simp) (by go_simp) hr) (CB.out _ FQ.out) ?_
  go_simp
  refine headT_read rfl (.pointer (some ⟨z, 0, none⟩)) (by go_simp) (fun V hV => by go_simp) ?_
  go_simp
  refine headT_read rfl (.pointer (some ⟨z, 8, none⟩)) (by go_simp) (fun V hV => by go_simp) ?_
  go_simp
  unfold wpHeadT
  have X5 : Hid (Wx w5 z c0 c1 c2 c3 c4 c5 (.slice (some ⟨gg, 0, none⟩) n cg) c7 (.slice a8 qs.length h8)) := FQ.out.wx X2.out (fun e => by have := (QB.out _ e).1; have := NN.out.2.2.1; omega)
  have t8 := X5.out.thaw 8
  obtain ⟨-, -, -, -, -, -, -, -, x8⟩ := X5.out.cells
  have KX : Hid (Kp z w5 (w5.setCell ⟨z, 8, none⟩ (.slice (some ⟨gq, 0, none⟩) (qs.length + 1) gc))) := Kp.set _ _ _
  have X6 : Hid (Wx (w5.setCell ⟨z, 8, none⟩ (.slice (some ⟨gq, 0, none⟩) (qs.length + 1) gc)) z c0 c1 c2 c3 c4 c5 (.slice (some ⟨gg, 0, none⟩) n cg) c7 (.slice (some ⟨gq, 0, none⟩) (qs.length + 1) gc)) := X5.out.set8 _
  have J5 : Hid (Jbo w5 b1 (.slice (some ⟨gq, 0, none⟩) (qs.length + 1) gc) (qs ++ [⟨(pn : Nat), o.unit, o.arg, tt⟩])) := ho5
  have GQ : Hid ((Value.slice (some ⟨gq, 0, none⟩) (qs.length + 1) gc).ownBlock = (Value.slice a8 qs.length h8).ownBlock ∨ ∃ q, (Value.slice (some ⟨gq, 0, none⟩) (qs.length + 1) gc).ownBlock = some q ∧ w.heap.size ≤ q) := by
    rcases hw5 with h | h
    · exact .inl h.symm
    · exact .inr ⟨gq, rfl, by rw [h]; exact S4.out.2⟩
  clear hr ho5 hg5 hw5
  refine sched_skip rfl (w5.setCell ⟨z, 8, none⟩ (.slice (some ⟨gq, 0, none⟩) (qs.length + 1) gc)) (by go_simp) (by go_simp) trivial ?_
  go_simp
  clear t8 x8
  generalize (w5.setCell ⟨z, 8, none⟩ (.slice (some ⟨gq, 0, none⟩) (qs.length + 1) gc)) = w6 at *
  unfold wpSched
  have FA : Hid (Fr (fun q => q = z ∨ q = gg ∨ (Value.slice a8 qs.length h8).ownBlock = some q) w w6) := (((Fr.below B1.out).trans (F2.out.mono (fun q h => .inr (.inl h)))).trans (FQ.out.mono (fun q h => .inr (.inr h)))).trans (Fr.kp KX.out (.inl rfl))
  have G6 : Hid (Bk w6 gg (gold.set pn (g - k.n5)) rest) := by
    have h5 : Bk w5 gg (gold.set pn (g - k.n5)) rest := (FQ.out.block gg G2.out.lt NN.out.2.2.2.2.2.1).trans G2.out
    exact (KX.out.block gg (lt_of_block h5) (fun e => zg e.symm)).trans h5
  have J6 : Hid (Jbo w6 b1 (.slice (some ⟨gq, 0, none⟩) (qs.length + 1) gc) (qs ++ [⟨o.player, o.unit, o.arg, tt⟩])) := by
    have h5 := J5.out
    rw [← NN.out.1] at h5
    exact h5.kp KX.out NN.out.2.2.1
  go_wp2
  go_end0
  exact ⟨rfl, _, _, X6.out, G6.out, J6.out, FA.out, GQ.out⟩
end Go.Proofs.Ytghkchnfcfnejaa

namespace Go.Proofs.Ytghkchnfcfnejaa
open Go.RowKit
set_option linter.unusedVariables false

def sgn (x y : Int) : Int := if x < y then -1 else if y < x then 1 else 0
def or3 (x y z : Int) : Int := if x ≠ 0 then x else if y ≠ 0 then y else z
def rnk (o : OrV) : Int := if o.what = 3 then 0 else 1
/-- how two orders compare. -/
def cmpo (a b : OrV) : Int := or3 (sgn a.player b.player) (sgn a.unit b.unit) (sgn (rnk a) (rnk b))

theorem isnan_any (x : Int) (w : World) : Calls Try.prog 60 #[.int .i64 x] w fun e w' => e = .returned (.bool false) ∧ w' = w := by
  go_enter Try.func60, Try.ntmps60
  go_wp2
  go_ret
  exact ⟨by simp, rfl⟩
theorem cmpint_any (x y : Int) (w : World) : Calls Try.prog 38 #[.int .i64 x, .int .i64 y] w fun e w' => e = .returned (.int .i64 (sgn x y)) ∧ w' = w := by
  have NA : Hid (∀ x w, Calls Try.prog 60 #[.int .i64 x] w fun e w' => e = .returned (.bool false) ∧ w' = w) := isnan_any
  by_cases h1 : x < y
  · go_enter Try.func38, Try.ntmps38
    go_wp2_with fail
    refine (NA.out _ _).mono ?_
    rintro e w' ⟨rfl, rfl⟩
    go_wp2_with fail
    refine (NA.out _ _).mono ?_
    rintro e w' ⟨rfl, rfl⟩
    go_wp2
    go_ret
    exact ⟨by simp [sgn, h1], rfl⟩
  · by_cases h2 : y < x
    · go_enter Try.func38, Try.ntmps38
      go_wp2_with fail
      refine (NA.out _ _).mono ?_
      rintro e w' ⟨rfl, rfl⟩
      go_wp2_with fail
      refine (NA.out _ _).mono ?_
      rintro e w' ⟨rfl, rfl⟩
      go_wp2
      go_ret
      exact ⟨by simp [sgn, h1, h2], rfl⟩
    · go_enter Try.func38, Try.ntmps38
      go_wp2_with fail
      refine (NA.out _ _).mono ?_
      rintro e w' ⟨rfl, rfl⟩
      go_wp2_with fail
      refine (NA.out _ _).mono ?_
      rintro e w' ⟨rfl, rfl⟩
      go_wp2
      go_ret
      exact ⟨by unfold sgn; rw [if_neg (by omega), if_neg (by omega)]; rfl, rfl⟩
theorem rank_any (o : OrV) (w : World) : Calls Try.prog 39 #[o.val] w fun e w' => e = .returned (.int .i64 (rnk o)) ∧ Below w.heap.size w w' := by
  obtain ⟨p, u, n, a⟩ := o
  have BB : Hid (Below w.heap.size w (w.alloc (Obj.cells #[.int .i64 p, .int .i64 u, .int .i64 n, .int .i64 a] 39))) := (Below.refl _ _).alloc (Nat.le_refl _) _
  unfold OrV.val rnk
  simp only
  by_cases h : n = 3
  · subst h
    go_enter Try.func39, Try.ntmps39
    go_wp2
    go_ret
    exact ⟨rfl, BB⟩
  · have hb : (n == 3) = false := beq_eq_false_iff_ne.2 h
    rw [if_neg h]
    go_enter Try.func39, Try.ntmps39
    go_wp2
    go_ret
    exact ⟨rfl, BB⟩
theorem or_any (x y z : Int) (b : Nat) (w : World) (h0 : w.cell? ⟨b, 0, none⟩ = some (.int .i64 x)) (h1 : w.cell? ⟨b, 1, none⟩ = some (.int .i64 y)) (h2 : w.cell? ⟨b, 2, none⟩ = some (.int .i64 z)) :
    Calls Try.prog 37 #[.slice (some ⟨b, 0, none⟩) 3 3] w fun e w' => e = .returned (.int .i64 (or3 x y z)) ∧ w' = w := by
  by_cases hx : x = 0
  · subst hx
    by_cases hy : y = 0
    · subst hy
      by_cases hz : z = 0
      · subst hz
        go_enter Try.func37, Try.ntmps37
        go_wp2
        refine wp_loop_rounds 4 ?_
        rw [rounds_succ]
        go_wp2
        rw [rounds_succ]
        go_wp2
        rw [rounds_succ]
        go_wp2
        rw [rounds_succ]
        go_wp2
        go_ret
        exact ⟨rfl, rfl⟩
      · have hzb : (z == 0) = false := beq_eq_false_iff_ne.2 hz
        go_enter Try.func37, Try.ntmps37
        go_wp2
        refine wp_loop_rounds 3 ?_
        rw [rounds_succ]
        go_wp2
        rw [rounds_succ]
        go_wp2
        rw [rounds_succ]
        go_wp2
        go_ret
        exact ⟨by simp [or3], rfl⟩
    · have hyb : (y == 0) = false := beq_eq_false_iff_ne.2 hy
      go_enter Try.func37, Try.ntmps37
      go_wp2
      refine wp_loop_rounds 2 ?_
      rw [rounds_succ]
      go_wp2
      rw [rounds_succ]
      go_wp2
      go_ret
      exact ⟨by simp [or3, hy], rfl⟩
  · have hxb : (x == 0) = false := beq_eq_false_iff_ne.2 hx
    go_enter Try.func37, Try.ntmps37
    go_wp2
    refine wp_loop_rounds 1 ?_
    rw [rounds_succ]
    go_wp2
    go_ret
    exact ⟨by simp [or3, hx], rfl⟩
end Go.Proofs.Ytghkchnfcfnejaa

namespace Go.Proofs.Ytghkchnfcfnejaa.So
set_option linter.unusedVariables false

abbrev T := OrV × Nat
/-- the key of an order stands ahead of another one's. -/
def klt (a b : OrV) : Prop := a.player < b.player ∨ (a.player = b.player ∧ (a.unit < b.unit ∨ (a.unit = b.unit ∧ rnk a < rnk b)))
theorem sgn_neg {x y : Int} : sgn x y < 0 ↔ x < y := by
  unfold sgn
  split
  · omega
  · split <;> omega
theorem sgn_zero {x y : Int} : sgn x y = 0 ↔ x = y := by
  unfold sgn
  split
  · omega
  · split <;> omega
theorem klt_iff (a b : OrV) : cmpo a b < 0 ↔ klt a b := by
  unfold cmpo or3 klt
  by_cases h1 : sgn a.player b.player = 0
  · rw [if_neg (fun h => h h1)]
    have e1 := sgn_zero.1 h1
    by_cases h2 : sgn a.unit b.unit = 0
    · rw [if_neg (fun h => h h2), sgn_neg]
      have e2 := sgn_zero.1 h2
      omega
    · rw [if_pos h2, sgn_neg]
      have e2 : ¬ a.unit = b.unit := fun e => h2 (sgn_zero.2 e)
      omega
  · rw [if_pos h1, sgn_neg]
    have e2 : ¬ a.player = b.player := fun e => h1 (sgn_zero.2 e)
    omega
instance (a b : OrV) : Decidable (klt a b) := by unfold klt; infer_instance
theorem klt_irr (a : OrV) : ¬ klt a a := by unfold klt; omega
theorem klt_trans {a b c : OrV} (h : klt a b) (k : klt b c) : klt a c := by unfold klt at *; omega
theorem klt_asym {a b : OrV} (h : klt a b) : ¬ klt b a := by unfold klt at *; omega
theorem klt_neg {a b c : OrV} (h : ¬ klt b a) (k : ¬ klt c b) : ¬ klt c a := by unfold klt at *; omega
/-- x stands ahead of y: by the key, then by the place that it had. -/
def lt (x y : T) : Prop := klt x.1 y.1 ∨ (¬ klt y.1 x.1 ∧ x.2 < y.2)
theorem lt_trans {x y z : T} (h : lt x y) (k : lt y z) : lt x z := by
  unfold lt klt at *
  omega
theorem lt_irr (x : T) : ¬ lt x x := by
  unfold lt klt
  omega
/-- where x had its place ahead of y: what the program asks tells which stands ahead. -/
theorem ask_lt {x y : T} (h : x.2 < y.2) : klt y.1 x.1 ↔ lt y x := by
  unfold lt klt
  omega
theorem ask_ge {x y : T} (h : x.2 < y.2) : ¬ klt y.1 x.1 ↔ lt x y := by
  unfold lt klt
  omega
/-- a list that rises has one order alone. -/
theorem rise_unique : ∀ {l l' : List T}, l.Perm l' → l.Pairwise lt → l'.Pairwise lt → l = l'
  | [], l', p, _, _ => by
    have := p.length_eq
    cases l' with
    | nil => rfl
    | cons x l' => simp at this
  | x :: l, [], p, _, _ => by
    have := p.length_eq
    simp at this
  | x :: l, y :: l', p, h, h' => by
    rw [List.pairwise_cons] at h h'
    have exy : x = y := by
      have hx : x ∈ y :: l' := p.mem_iff.1 (List.mem_cons_self ..)
      have hy : y ∈ x :: l := p.mem_iff.2 (List.mem_cons_self ..)
      rcases List.mem_cons.1 hx with e | hx
      · exact e
      · rcases List.mem_cons.1 hy with e | hy
        · exact e.symm
        · exact absurd (lt_trans (h.1 y hy) (h'.1 x hx)) (lt_irr x)
    subst exy
    rw [rise_unique (List.Perm.cons_inv p) h.2 h'.2]
/-- x is put among those that rise. -/
theorem put_rise {S1 S2 : List T} {x : T} (h : (S1 ++ S2).Pairwise lt) (h1 : ∀ y ∈ S1, lt y x) (h2 : ∀ y ∈ S2, lt x y) : (S1 ++ x :: S2).Pairwise lt := by
  rw [List.pairwise_append] at h ⊢
  refine ⟨h.1, List.pairwise_cons.2 ⟨h2, h.2.1⟩, fun a ha b hb => ?_⟩
  rcases List.mem_cons.1 hb with rfl | hb
  · exact h1 a ha
  · exact h.2.2 a ha b hb
/-- two that rise, one behind the other. -/
theorem cat_rise {S1 S2 : List T} (h1 : S1.Pairwise lt) (h2 : S2.Pairwise lt) (h : ∀ x ∈ S1, ∀ y ∈ S2, lt x y) : (S1 ++ S2).Pairwise lt := List.pairwise_append.2 ⟨h1, h2, h⟩
end Go.Proofs.Ytghkchnfcfnejaa.So

namespace Go.Proofs.Ytghkchnfcfnejaa
open Go.RowKit
set_option linter.unusedVariables false
set_option maxRecDepth 100000

theorem um_laid : laidOutB Try.prog = true := by kernel_rfl
theorem um_row : (58 : TypeId) < Try.prog.types.size := of_decide_eq_true (by kernel_rfl)
theorem um_wide : (match Try.prog.underlying 58 with | some (.array _ _) | some (.struct _) => true | _ => false) = true := by kernel_rfl
theorem um_deep : Try.prog.keyTypeAt 3 58 = true := by kernel_rfl
theorem um_law : Maps.Keyed Try.prog 58 := Maps.Keyed.of_law (deep_law_laid um_laid (m := 3) (by omega) um_row um_deep um_wide)
theorem um_cells : Try.prog.cellsOf 58 = 2 := by kernel_rfl
theorem um_int : Try.prog.cellsOf 3 = 1 := by kernel_rfl
theorem um_type : Try.prog.keyType 58 = true := by kernel_rfl
theorem um_size : ∃ m, Try.prog.types.size = m + 1 := ⟨Try.prog.types.size - 1, by have h : 0 < Try.prog.types.size := Nat.lt_of_le_of_lt (Nat.zero_le _) um_row; omega⟩
theorem um_key {p u : Int} (hp : (Lit.int .i64 p).wf = true) (hu : (Lit.int .i64 u).wf = true) : ∃ kl, keyOf Try.prog 58 (.agg #[.int .i64 p, .int .i64 u]) = some kl := by
  obtain ⟨m, hm⟩ := um_size
  have ht := um_type
  have hc := um_cells
  have hi := um_int
  unfold keyOf
  simp only [Try.underlying58]
  rw [if_pos (by simp [ht, Value.formed, Try.underlying58, hc]), hm]
  unfold Program.keyLits
  simp only [Try.underlying58, Value.cells]
  rw [if_pos ⟨by rw [hc]; rfl, by kernel_rfl⟩]
  simp [Program.keyLits, Try.underlying3, hp, hu, hi]
theorem um_zero (w : World) : (zeroValue 3).run Try.prog w = .ok (.int .i64 0) w := by kernel_rfl
theorem wf64 {n : Int} (h0 : -9223372036854775808 ≤ n) (h1 : n ≤ 9223372036854775807) : (Lit.int .i64 n).wf = true := WalkArith.wf_i64 (by omega)
/-- block b is a map: f tells what stands at each player and unit. -/
def Um (w : World) (b n : Nat) (f : Int → Int → Int) : Prop := ∃ D : DataW Unit, w.ownsMap Try.prog 58 (plainElem Try.prog 3) b n D ∧ Maps.IsMap D ∧ ∀ p u kl, keyOf Try.prog 58 (.agg #[.int .i64 p, .int .i64 u]) = some kl → D.atKey kl (.lit (.int .i64 0)) = .lit (.int .i64 (f p u))
def updAt (f : Int → Int → Int) (p u v : Int) : Int → Int → Int := fun p' u' => if p' = p ∧ u' = u then v else f p' u'
theorem um_made (w : World) : Um (w.alloc (.map #[] 0)) w.heap.size 0 (fun _ _ => 0) :=
  ⟨.map [], World.ownsMap_made _ _ _ _, Maps.isMap_empty, fun p u kl _ => Maps.atKey_of_not_has rfl _⟩
theorem Um.lt {w : World} {b n : Nat} {f : Int → Int → Int} (h : Um w b n f) : b < w.heap.size := by
  obtain ⟨D, h1, -⟩ := h
  exact h1.lt
theorem Um.gb {w w' : World} {b n : Nat} {f : Int → Int → Int} {r : Option Nat} (h : Um w b n f) (g : w.grownBy w' r) (hr : some b ≠ r) : Um w' b n f := by
  obtain ⟨D, h1, h2⟩ := h
  exact ⟨D, h1.kept g hr, h2⟩
theorem Um.below {w w' : World} {b n : Nat} {f : Int → Int → Int} (h : Um w b n f) (g : Below w.heap.size w w') : Um w' b n f :=
  h.gb (r := none) ⟨g.os, g.tape, g.output, g.size, fun k hk _ => g.block k hk⟩ (by simp)
theorem Um.put {w : World} {b n : Nat} {f : Int → Int → Int} (h : Um w b n f) (hn : n < maxLen) {p u v : Int} (hp : (Lit.int .i64 p).wf = true) (hu : (Lit.int .i64 u).wf = true) (hv : (Lit.int .i64 v).wf = true) :
    ∃ w', (Instr.mapUpdate 55 (.map (some b)) (.agg #[.int .i64 p, .int .i64 u]) (.int .i64 v)).run Try.prog w = .ok () w' ∧ Um w' b (n + 1) (updAt f p u v) ∧ w.grownBy w' (some b) := by
  obtain ⟨D, h1, hD, h2⟩ := h
  obtain ⟨kl, hk⟩ := um_key hp hu
  obtain ⟨w', r, o, g⟩ := World.ownsMap.update h1 um_law Try.underlying55 hn hk (plainElem_int Try.underlying3 hv)
  refine ⟨w', r, ⟨_, o, hD.put _ _, fun p' u' kl' hk' => ?_⟩, g⟩
  unfold updAt
  by_cases e : kl' = kl
  · subst e
    have ei := um_law.inj hk hk'
    simp only [Value.agg.injEq, Array.mk.injEq, List.cons.injEq, Value.int.injEq, true_and, and_true] at ei
    rw [if_pos ⟨ei.1.symm, ei.2.symm⟩]
    exact Maps.atKey_put_same hD (um_law.key hk) _ _
  · rw [Maps.atKey_put_other e, if_neg, h2 p' u' kl' hk']
    rintro ⟨rfl, rfl⟩
    exact e (Option.some.inj (hk'.symm.trans hk))
theorem Um.look {w : World} {b n : Nat} {f : Int → Int → Int} (h : Um w b n f) {p u : Int} (hp : (Lit.int .i64 p).wf = true) (hu : (Lit.int .i64 u).wf = true) :
    (Instr.lookup 55 (.map (some b)) (.agg #[.int .i64 p, .int .i64 u]) false).run Try.prog w = .ok (.int .i64 (f p u)) w := by
  obtain ⟨D, h1, hD, h2⟩ := h
  obtain ⟨kl, hk⟩ := um_key hp hu
  obtain ⟨c, hr, hat, -⟩ := h1.lookup_int um_law Try.underlying55 Try.underlying3 (um_zero w) hk
  rw [h2 p u kl hk] at hat
  injection hat with e
  injection e with _ e
  rw [e]
  exact hr
end Go.Proofs.Ytghkchnfcfnejaa

namespace Go.Proofs.Ytghkchnfcfnejaa
namespace So
set_option linter.unusedVariables false
/-- where each unit's last order stands, among the first q. -/
def lf (l : List OrV) : Nat → Int → Int → Int
  | 0 => fun _ _ => 0
  | q + 1 => match l[q]? with
    | some o => if o.what = 3 then lf l q else updAt (lf l q) o.player o.unit (q : Nat)
    | none => lf l q
/-- those that count, of the first q, with their places. -/
def kp (l : List OrV) : Nat → List T
  | 0 => []
  | q + 1 => match l[q]? with
    | some o => if o.what = 3 ∨ lf l l.length o.player o.unit = (q : Nat) then kp l q ++ [(o, q)] else kp l q
    | none => kp l q
theorem lf_train {l : List OrV} {q : Nat} {o : OrV} (h : l[q]? = some o) (h3 : o.what = 3) : lf l (q + 1) = lf l q := by rw [lf]; simp only [h]; rw [if_pos h3]
theorem lf_other {l : List OrV} {q : Nat} {o : OrV} (h : l[q]? = some o) (h3 : ¬ o.what = 3) : lf l (q + 1) = updAt (lf l q) o.player o.unit (q : Nat) := by rw [lf]; simp only [h]; rw [if_neg h3]
theorem kp_yes {l : List OrV} {q : Nat} {o : OrV} (h : l[q]? = some o) (h3 : o.what = 3 ∨ lf l l.length o.player o.unit = (q : Nat)) : kp l (q + 1) = kp l q ++ [(o, q)] := by rw [kp]; simp only [h]; rw [if_pos h3]
theorem kp_no {l : List OrV} {q : Nat} {o : OrV} (h : l[q]? = some o) (h3 : ¬ (o.what = 3 ∨ lf l l.length o.player o.unit = (q : Nat))) : kp l (q + 1) = kp l q := by rw [kp]; simp only [h]; rw [if_neg h3]
theorem kp_mem {l : List OrV} : ∀ {q : Nat} {x : T}, x ∈ kp l q → x.2 < q ∧ l[x.2]? = some x.1 ∧ (x.1.what = 3 ∨ lf l l.length x.1.player x.1.unit = (x.2 : Nat))
  | 0, x, h => by simp [kp] at h
  | q + 1, x, h => by
    rw [kp] at h
    cases ho : l[q]? with
    | none =>
      simp only [ho] at h
      obtain ⟨h1, h2⟩ := kp_mem h
      exact ⟨by omega, h2⟩
    | some o =>
      simp only [ho] at h
      split at h
      · rename_i hc
        rcases List.mem_append.1 h with h | h
        · obtain ⟨h1, h2⟩ := kp_mem h
          exact ⟨by omega, h2⟩
        · simp at h
          subst h
          exact ⟨by simp, ho, hc⟩
      · obtain ⟨h1, h2⟩ := kp_mem h
        exact ⟨by omega, h2⟩
theorem kp_in {l : List OrV} {i : Nat} {o : OrV} (ho : l[i]? = some o) (hc : o.what = 3 ∨ lf l l.length o.player o.unit = (i : Nat)) : ∀ {q : Nat}, i < q → (o, i) ∈ kp l q
  | 0, h => by omega
  | q + 1, h => by
    by_cases e : i = q
    · subst e
      rw [kp_yes ho hc]
      simp
    · have ih := kp_in ho hc (q := q) (by omega)
      rw [kp]
      cases hq : l[q]? with
      | none => exact ih
      | some o' =>
        simp only
        split
        · exact List.mem_append_left _ ih
        · exact ih
theorem kp_tags {l : List OrV} : ∀ (q : Nat), (kp l q).Pairwise (fun x y => x.2 < y.2)
  | 0 => List.Pairwise.nil
  | q + 1 => by
    rw [kp]
    cases hq : l[q]? with
    | none => exact kp_tags q
    | some o =>
      simp only
      split
      · refine List.pairwise_append.2 ⟨kp_tags q, by simp, fun x hx y hy => ?_⟩
        simp at hy
        subst hy
        exact (kp_mem hx).1
      · exact kp_tags q
theorem kp_len {l : List OrV} : ∀ (q : Nat), (kp l q).length ≤ q
  | 0 => Nat.le_refl _
  | q + 1 => by
    rw [kp]
    have := kp_len (l := l) q
    cases hq : l[q]? with
    | none => simp only; omega
    | some o =>
      simp only
      split
      · simp; omega
      · omega
/-- the last order of a unit is told. -/
theorem lf_last {l : List OrV} {i : Nat} {o : OrV} (ho : l[i]? = some o) (h3 : ¬ o.what = 3) : ∀ {q : Nat}, i < q → (∀ k x, i < k → k < q → l[k]? = some x → x.what = 3 ∨ x.player ≠ o.player ∨ x.unit ≠ o.unit) → lf l q o.player o.unit = (i : Nat)
  | 0, h, _ => by omega
  | q + 1, h, hn => by
    by_cases e : i = q
    · subst e
      rw [lf_other ho h3]
      unfold updAt
      rw [if_pos ⟨rfl, rfl⟩]
    · have ih := lf_last ho h3 (q := q) (by omega) (fun k x h1 h2 hx => hn k x h1 (by omega) hx)
      rw [lf]
      cases hq : l[q]? with
      | none => exact ih
      | some x =>
        simp only
        split
        · exact ih
        · rename_i hx3
          unfold updAt
          rw [if_neg]
          · exact ih
          · rintro ⟨h1, h2⟩
            rcases hn q x (by omega) (by omega) hq with h | h | h
            · exact hx3 h
            · exact h h1.symm
            · exact h h2.symm
/-- of orders l, those that count. -/
def LastSays (l out : List OrV) : Prop := ∃ S : List T, S.Perm (kp l l.length) ∧ S.Pairwise lt ∧ out = S.map Prod.fst
theorem LastSays.one {l out out' : List OrV} (h : LastSays l out) (h' : LastSays l out') : out = out' := by
  obtain ⟨S, p, r, rfl⟩ := h
  obtain ⟨S', p', r', rfl⟩ := h'
  rw [rise_unique (p.trans p'.symm) r r']
theorem LastSays.len {l out : List OrV} (h : LastSays l out) : out.length ≤ l.length := by
  obtain ⟨S, p, r, rfl⟩ := h
  have := kp_len (l := l) l.length
  rw [List.length_map, p.length_eq]
  exact this
theorem LastSays.mem {l out : List OrV} (h : LastSays l out) {o : OrV} (ho : o ∈ out) : o ∈ l := by
  obtain ⟨S, p, r, rfl⟩ := h
  obtain ⟨x, hx, rfl⟩ := List.mem_map.1 ho
  exact List.mem_of_getElem? (kp_mem (p.mem_iff.1 hx)).2.1
end So
end Go.Proofs.Ytghkchnfcfnejaa

namespace Go.Proofs.Ytghkchnfcfnejaa
open Go.RowKit
set_option linter.unusedVariables false

set_option maxHeartbeats 400000 in
theorem owin_any (x b : Int) (w : World) :
    Calls Try.prog 57 #[.int .i64 x, .int .i64 b] w fun e w' => e = .returned (.bool (decide (0 ≤ x ∧ x ≤ b))) ∧ w' = w := by
  by_cases h1 : 0 ≤ x
  · by_cases h2 : x ≤ b
    · go_enter Try.func57, Try.ntmps57
      go_wp2
      go_ret
      exact ⟨by simp [h1, h2], rfl⟩
    · go_enter Try.func57, Try.ntmps57
      go_wp2
      go_ret
      exact ⟨by simp; omega, rfl⟩
  · go_enter Try.func57, Try.ntmps57
    go_wp2
    go_ret
    exact ⟨by simp; omega, rfl⟩
theorem owin_is (x b : Int) (r : Bool) (h : decide (0 ≤ x ∧ x ≤ b) = r) : Hid (∀ w, Calls Try.prog 57 #[.int .i64 x, .int .i64 b] w fun e w' => e = .returned (.bool r) ∧ w' = w) :=
  fun w => (owin_any x b w).mono fun e w' ⟨h', hw⟩ => ⟨by rw [h', h], hw⟩

def OrdSays (o : OrV) (w : World) (e : Ending) (w' : World) : Prop := ∃ v, e = .returned v ∧ Er v (Od.fault o) ∧ Below w.heap.size w w'
set_option maxRecDepth 100000 in
set_option maxHeartbeats 4000000 in
theorem checkOrder_any (o : OrV) (w : World) : Calls Try.prog 35 #[o.val] w (OrdSays o w) := by
  obtain ⟨p, u, n, a⟩ := o
  have BB : Hid (Below w.heap.size w (w.alloc (Obj.cells #[.int .i64 p, .int .i64 u, .int .i64 n, .int .i64 a] 39))) := (Below.refl _ _).alloc (Nat.le_refl _) _
  have bad1 : Od.bad ⟨p, u, n, a⟩ → ∀ w', Hid (Below w.heap.size w w') → OrdSays ⟨p, u, n, a⟩ w (.returned (.iface 69 (.int .i64 1))) w' := fun hb w' hB => ⟨_, rfl, by rw [Od.fault_bad hb]; exact Er.no (by decide), hB⟩
  have B1 : Hid (Od.bad ⟨p, u, n, a⟩ → ∀ w', Hid (Below w.heap.size w w') → OrdSays ⟨p, u, n, a⟩ w (.returned (.iface 69 (.int .i64 1))) w') := bad1
  clear bad1
  unfold OrV.val
  simp only
  by_cases h1 : 0 ≤ p ∧ p ≤ 3
  · have W1 := owin_is p 3 true (decide_eq_true h1)
    by_cases h2 : 0 ≤ u ∧ u ≤ 1000000
    · have W2 := owin_is u 1000000 true (decide_eq_true h2)
      by_cases h3 : 0 ≤ a ∧ a ≤ 1000000
      · have W3 := owin_is a 1000000 true (decide_eq_true h3)
        by_cases h4 : 0 ≤ n ∧ n ≤ 3
        · have W4 := owin_is n 3 true (decide_eq_true h4)
          by_cases h5 : n = 0
          · subst h5
            by_cases h6 : a = 0
            · subst h6
              go_enter Try.func35, Try.ntmps35
              go_wp2_with fail
              refine (W1.out _).mono ?_
              rintro e w' ⟨rfl, rfl⟩
              go_wp2_with fail
              refine (W2.out _).mono ?_
              rintro e w' ⟨rfl, rfl⟩
              go_wp2_with fail
              refine (W3.out _).mono ?_
              rintro e w' ⟨rfl, rfl⟩
              go_wp2_with fail
              refine (W4.out _).mono ?_
              rintro e w' ⟨rfl, rfl⟩
              go_wp2
              go_ret
              exact ⟨_, rfl, by rw [Od.fault_ok (by unfold Od.bad; simp only; omega)]; exact Er.nil, BB⟩
            · have h6b : (a == 0) = false := beq_eq_false_iff_ne.2 h6
              go_enter Try.func35, Try.ntmps35
              go_wp2_with fail
              refine (W1.out _).mono ?_
              rintro e w' ⟨rfl, rfl⟩
              go_wp2_with fail
              refine (W2.out _).mono ?_
              rintro e w' ⟨rfl, rfl⟩
              go_wp2_with fail
              refine (W3.out _).mono ?_
              rintro e w' ⟨rfl, rfl⟩
              go_wp2_with fail
              refine (W4.out _).mono ?_
              rintro e w' ⟨rfl, rfl⟩
              go_wp2
              go_ret
              exact B1.out (.inr (.inr (.inr (.inr (.inr (.inr (.inr (.inr ⟨rfl, h6⟩)))))))) _ BB
          · have h5b : (n == 0) = false := beq_eq_false_iff_ne.2 h5
            go_enter Try.func35, Try.ntmps35
            go_wp2_with fail
            refine (W1.out _).mono ?_
            rintro e w' ⟨rfl, rfl⟩
            go_wp2_with fail
            refine (W2.out _).mono ?_
            rintro e w' ⟨rfl, rfl⟩
            go_wp2_with fail
            refine (W3.out _).mono ?_
            rintro e w' ⟨rfl, rfl⟩
            go_wp2_with fail
            refine (W4.out _).mono ?_
            rintro e w' ⟨rfl, rfl⟩
            go_wp2
            go_ret
            exact ⟨_, rfl, by rw [Od.fault_ok (by unfold Od.bad; simp only; omega)]; exact Er.nil, BB⟩
        · have W4 := owin_is n 3 false (decide_eq_false h4)
          go_enter Try.func35, Try.ntmps35
          go_wp2_with fail
          refine (W1.out _).mono ?_
          rintro e w' ⟨rfl, rfl⟩
          go_wp2_with fail
          refine (W2.out _).mono ?_
          rintro e w' ⟨rfl, rfl⟩
          go_wp2_with fail
          refine (W3.out _).mono ?_
          rintro e w' ⟨rfl, rfl⟩
          go_wp2_with fail
          refine (W4.out _).mono ?_
          rintro e w' ⟨rfl, rfl⟩
          go_wp2
          go_ret
          exact B1.out (by unfold Od.bad; simp only; omega) _ BB
      · have W3 := owin_is a 1000000 false (decide_eq_false h3)
        go_enter Try.func35, Try.ntmps35
        go_wp2_with fail
        refine (W1.out _).mono ?_
        rintro e w' ⟨rfl, rfl⟩
        go_wp2_with fail
        refine (W2.out _).mono ?_
        rintro e w' ⟨rfl, rfl⟩
        go_wp2_with fail
        refine (W3.out _).mono ?_
        rintro e w' ⟨rfl, rfl⟩
        go_wp2
        go_ret
        exact B1.out (by unfold Od.bad; simp only; omega) _ BB
    · have W2 := owin_is u 1000000 false (decide_eq_false h2)
      go_enter Try.func35, Try.ntmps35
      go_wp2_with fail
      refine (W1.out _).mono ?_
      rintro e w' ⟨rfl, rfl⟩
      go_wp2_with fail
      refine (W2.out _).mono ?_
      rintro e w' ⟨rfl, rfl⟩
      go_wp2
      go_ret
      exact B1.out (by unfold Od.bad; simp only; omega) _ BB
  · have W1 := owin_is p 3 false (decide_eq_false h1)
    go_enter Try.func35, Try.ntmps35
    go_wp2_with fail
    refine (W1.out _).mono ?_
    rintro e w' ⟨rfl, rfl⟩
    go_wp2
    go_ret
    exact B1.out (by unfold Od.bad; simp only; omega) _ BB
end Go.Proofs.Ytghkchnfcfnejaa

namespace Go.Proofs.Ytghkchnfcfnejaa
open Go.RowKit
set_option linter.unusedVariables false

theorem info_or : (Try.prog.info? 39).map (fun i => (i.zero, i.size, i.bytes)) = some (some (.agg #[.int .i64 0, .int .i64 0, .int .i64 0, .int .i64 0]), 4, 32) := by kernel_rfl
def OrV.cs (k : OrV) : List Value := [.int .i64 k.player, .int .i64 k.unit, .int .i64 k.what, .int .i64 k.arg]
theorem flat_or : ∀ (ks : List OrV) (i j : Nat) (k : OrV), ks[i]? = some k → j < 4 → (ks.flatMap OrV.cs)[i * 4 + j]? = k.cs[j]?
  | [], i, j, k, h, _ => by simp at h
  | x :: ks, 0, j, k, h, hj => by
    simp at h
    subst h
    rw [List.flatMap_cons, List.getElem?_append_left (by simp [OrV.cs]; omega)]
    simp
  | x :: ks, i + 1, j, k, h, hj => by
    rw [List.flatMap_cons, List.getElem?_append_right (by simp [OrV.cs]; omega)]
    have : (i + 1) * 4 + j - (OrV.cs x).length = i * 4 + j := by simp [OrV.cs]; omega
    rw [this]
    exact flat_or ks i j k (by simpa using h) hj
/-- v is a slice of them, in a block of its own from base on. -/
def Oro (w : World) (base : Nat) (v : Value) (ks : List OrV) : Prop := w.ownsRow base 39 4 v ks.length (ks.flatMap OrV.cs)
theorem Oro.nil (w : World) (base : Nat) : Oro w base (.slice none 0 0) [] := World.ownsRow_nil _ _ _ _
theorem Oro.below {w w' : World} {base : Nat} {v : Value} {ks : List OrV} (h : Oro w base v ks) (hb : Below w.heap.size w w') : Oro w' base v ks :=
  World.ownsRow.kept h (row := none) ⟨hb.os, hb.tape, hb.output, hb.size, fun k hk _ => hb.block k hk⟩ (by cases v.ownBlock <;> simp)
theorem Oro.kept {w w' : World} {base : Nat} {v : Value} {ks : List OrV} {row : Option Nat} (h : Oro w base v ks) (hg : w.grownBy w' row) (hne : v.ownBlock = none ∨ v.ownBlock ≠ row) : Oro w' base v ks := World.ownsRow.kept h hg hne
theorem Oro.alloc {w : World} {base : Nat} {v : Value} {ks : List OrV} (h : Oro w base v ks) (o : Obj) : Oro (w.alloc o) base v ks := World.ownsRow.alloc h o
theorem Oro.block {w : World} {base : Nat} {v : Value} {ks : List OrV} (h : Oro w base v ks) : ∀ k, v.ownBlock = some k → base ≤ k ∧ k < w.heap.size := World.ownsRow.lt h
theorem Oro.mono {w : World} {base base' : Nat} {v : Value} {ks : List OrV} (h : Oro w base v ks) (hb : base' ≤ base) : Oro w base' v ks := by
  refine ⟨h.1, ?_⟩
  rcases h.2 with h1 | ⟨g, cap, cur, h1, h2, h3⟩
  · exact .inl h1
  · exact .inr ⟨g, cap, cur, h1, Nat.le_trans hb h2, h3⟩
theorem Oro.l {w : World} {base : Nat} {v : Value} {ks : List OrV} (h : Oro w base v ks) : Orl w v ks := by
  rcases h.2 with ⟨hv, h0⟩ | ⟨g, cap, cur, hv, hb, hg, h1, h2, h3, h4⟩
  · exact ⟨none, 0, by rw [hv, h0], by omega, by omega, fun hn => absurd (List.length_eq_zero_iff.1 h0) hn⟩
  · refine ⟨_, cap, hv, h1, by unfold maxLen at h2; omega, fun _ => ⟨_, rfl, lt_of_block hg, fun i k hi => ?_⟩⟩
    have hil : i < ks.length := (List.getElem?_eq_some_iff.1 hi).1
    have h5 : w.ownsRow base 39 4 (.slice (some ⟨g, 0, none⟩) ks.length cap) ks.length (ks.flatMap OrV.cs) := by rw [← hv]; exact h
    have hc : ∀ j u, j < 4 → k.cs[j]? = some u → w.cell? ⟨g, i * 4 + j, none⟩ = some u := fun j u hj hu => by
      rw [h5.cellAt (i * 4 + j) (by omega), flat_or ks i j k hi hj, hu]
    rw [Addr.add_lit, Nat.zero_add]
    exact ⟨hc 0 _ (by decide) rfl, hc 1 _ (by decide) rfl, hc 2 _ (by decide) rfl, hc 3 _ (by decide) rfl⟩
theorem Oro.len {w : World} {base : Nat} {v : Value} {ks : List OrV} (h : Oro w base v ks) : ∃ a c, v = .slice a ks.length c := by
  obtain ⟨a, c, h1, -⟩ := h.l
  exact ⟨a, c, h1⟩

/-- one more. -/
theorem app_or {ops : Array Oper} {rest : List Oper} {o : Oper} {a : Act} {Q : Exit → Act → World → Prop} (w : World) (hgd : o.guard = none) (s x : Operand)
    (ho : o.op = .call { callee := .builtin .append, args := #[s, x], argTypes := #[30, 30] }) (base : Nat) (v : Value) (ks : List OrV) (hs : a.eval s = v) (hown : Oro w base v ks)
    (b : Nat) (d : OrV) (hx : a.eval x = .slice (some ⟨b, 0, none⟩) 1 1) (hd : Orc w ⟨b, 0, none⟩ d) (hl : ks.length ≤ 1000000) (hbase : base ≤ w.heap.size)
    (h : ∀ g cap w', Oro w' base (.slice (some ⟨g, 0, none⟩) (ks.length + 1) cap) (ks ++ [d]) → w.grownBy w' v.ownBlock → (v.ownBlock = some g ∨ g = w.heap.size) → g < w'.heap.size → wpList Try.prog ops Q rest (a.put o.dst (.slice (some ⟨g, 0, none⟩) (ks.length + 1) cap)) w') :
    wpList Try.prog ops Q (o :: rest) a w := by
  obtain ⟨i0, hi, hz0, hz1, hz2⟩ := info_parts info_or
  refine wpList_append_lies w hgd s x 30 ho base 39 i0 (.agg #[.int .i64 0, .int .i64 0, .int .i64 0, .int .i64 0]) 4 32 Try.underlying30 hi hz0 hz1 hz2 rfl (by decide) v ks.length _ hs hown ⟨b, 0, none⟩ 1 1 d.cs hx rfl ?_ ?_ (by decide) (by unfold maxLen; omega) (by omega) hbase _ rfl ?_
  · intro j u hj
    have hjn : j < 4 := (List.getElem?_eq_some_iff.1 hj).1
    rw [Addr.add_lit, Nat.zero_add]
    match j, hjn, hj with
    | 0, _, hj => simp [OrV.cs] at hj; subst hj; exact hd.c0
    | 1, _, hj => simp [OrV.cs] at hj; subst hj; exact hd.c1
    | 2, _, hj => simp [OrV.cs] at hj; subst hj; exact hd.c2
    | 3, _, hj => simp [OrV.cs] at hj; subst hj; exact hd.c3
  · intro u hu
    simp [OrV.cs] at hu
    rcases hu with rfl | rfl | rfl | rfl <;> rfl
  · intro g cap w' h1 h2 h3 h4
    refine h g cap w' ?_ h2 h3 h4
    unfold Oro
    rw [List.length_append, List.flatMap_append]
    simpa using h1
end Go.Proofs.Ytghkchnfcfnejaa

namespace Go.Proofs.Ytghkchnfcfnejaa
open Go.RowKit Go.Proofs.Ytghkchnfcfnejaa.So
set_option linter.unusedVariables false

theorem Um.mono {w : World} {b n n' : Nat} {f : Int → Int → Int} (h : Um w b n f) (hn : n ≤ n') : Um w b n' f := by
  obtain ⟨D, h1, h2⟩ := h
  exact ⟨D, h1.mono hn, h2⟩
def OcI (ks : List OrV) (w : World) (j : Value) (W' : World) : Prop := ∃ q : Nat, q ≤ ks.length ∧ j = .int .i64 (q : Nat) ∧ (∀ (i : Nat) o, i < q → ks[i]? = some o → ¬ Od.bad o) ∧ Below w.heap.size w W'
set_option maxRecDepth 100000 in
set_option maxHeartbeats 4000000 in
theorem ocheck_any (v : Value) (ks : List OrV) (w : World) (h : Orl w v ks) :
    Calls Try.prog 14 #[v] w fun e w' => ∃ u, e = .returned u ∧ Er u (Od.faults ks) ∧ Below w.heap.size w w' := by
  have K0 : Hid (Orl w v ks) := h
  obtain ⟨R, hR⟩ : ∃ R, Od.faults ks = R := ⟨_, rfl⟩
  have HR : Hid (Od.faults ks = R) := hR
  rw [hR]
  clear hR
  obtain ⟨a, c, rfl, c1, c2, -⟩ := h
  by_cases h8 : 60 < ks.length
  · have E : Hid (R = 4) := by unfold Hid; rw [← HR.out]; unfold Od.faults; rw [if_pos h8]
    have h8' : (60 : Int) < (ks.length : Int) := by omega
    go_enter Try.func14, Try.ntmps14
    go_wp2
    go_ret
    exact ⟨_, rfl, by rw [E.out]; exact Er.no (by decide), Below.refl _ _⟩
  · have h8' : ¬ (60 : Int) < (ks.length : Int) := by omega
    have LE : Hid (ks.length ≤ 60) := by unfold Hid; omega
    go_enter Try.func14, Try.ntmps14
    go_wp2_with fail
    go_loopw [12] (fun j W' => OcI ks w j W') (fun j _ => ks.length - (intOf j).toNat)
    case atStart => exact ⟨0, Nat.zero_le _, rfl, fun i o hi => by omega, Below.refl _ _⟩
    case round =>
      obtain ⟨q, hq, rfl, hg, hb⟩ := hrel
      have Gq : Hid (∀ (i : Nat) o, i < q → ks[i]? = some o → ¬ Od.bad o) := hg
      have B : Hid (Below w.heap.size w wr) := hb
      clear hg hb
      by_cases hql : q = ks.length
      · have E : Hid (R = 0) := by
          unfold Hid
          rw [← HR.out]
          refine Od.faults_of LE.out fun o ho => ?_
          obtain ⟨i, hi⟩ := List.mem_iff_getElem?.1 ho
          exact Gq.out i o (by rw [hql]; exact (List.getElem?_eq_some_iff.1 hi).1) hi
        subst hql
        go_wp2
        go_ret
        exact ⟨_, rfl, by rw [E.out]; exact Er.nil, B⟩
      · have hqk : q < ks.length := by omega
        obtain ⟨k, hk⟩ : ∃ k, ks[q]? = some k := ⟨_, List.getElem?_eq_getElem hqk⟩
        have HK : Hid (ks[q]? = some k) := hk
        have K1 := K0.out.below B.out
        have CK : Hid (∀ W : World, Calls Try.prog 35 #[k.val] W (OrdSays k W)) := fun W => checkOrder_any k W
        obtain ⟨F, hF⟩ : ∃ F, Od.fault k = F := ⟨_, rfl⟩
        have HF : Hid (Od.fault k = F) := hF
        clear hF
        obtain ⟨a', c', e, -, -, h3⟩ := K1
        injection e with e1 e2 e3
        subst e1 e3
        obtain ⟨x, rfl, hx1, hx⟩ := h3 (by rintro rfl; simp at hqk)
        have Yc := hx q k hk
        clear hx h3 e2 hk
        obtain ⟨q0, q1, q2, q3⟩ := Yc
        unfold OrV.val at CK
        go_upto_region 6 with fail
        have B1 : Hid (Below wr.heap.size wr (wr.alloc (Obj.cells #[.int .i64 k.player, .int .i64 k.unit, .int .i64 k.what, .int .i64 k.arg] 39))) := (Below.refl _ _).alloc (Nat.le_refl _) _
        have X1 := Orc.mk' (w := wr) k rfl
        clear q0 q1 q2 q3
        generalize wr.alloc (Obj.cells #[.int .i64 k.player, .int .i64 k.unit, .int .i64 k.what, .int .i64 k.arg] 39) = w1 at *
        obtain ⟨x0, x1, x2, x3⟩ := X1
        simp only [Nat.zero_add] at x1 x2 x3
        go_wp2_with fail
        refine Calls.mono (CK.out w1) ?_
        rintro e w2 ⟨u, rfl, hu, b2⟩
        rw [HF.out] at hu
        have B3 : Hid (Below w.heap.size w w2) := B.out.trans ((B1.out.trans (b2.mono B1.out.size)).mono B.out.size)
        clear b2 CK x0 x1 x2 x3 B1
        rcases hu with ⟨hF, rfl⟩ | ⟨hF, rfl⟩
        · have G2 : Hid (∀ (i : Nat) o, i < q + 1 → ks[i]? = some o → ¬ Od.bad o) := fun i o hi ho => by
            by_cases e : i = q
            · subst e
              rw [HK.out] at ho
              obtain rfl := Option.some.inj ho
              intro hbad
              have := HF.out
              rw [Od.fault_bad hbad] at this
              omega
            · exact Gq.out i o (by omega) ho
          go_wp2
          go_round
          case rel => exact ⟨q + 1, by omega, by go_num, G2, B3⟩
          case measure => simp [intOf]; omega
        · have E : Hid (R = F ∧ F ≠ 0) := by
            have hbad : Od.bad k := by
              rcases Classical.em (Od.bad k) with h | h
              · exact h
              · exact absurd (HF.out.symm.trans (Od.fault_ok h)) hF
            refine ⟨?_, hF⟩
            rw [← HR.out, ← HF.out, Od.fault_bad hbad]
            unfold Od.faults
            rw [if_neg (by have := LE.out; omega), if_pos (List.any_eq_true.2 ⟨k, List.mem_of_getElem? HK.out, decide_eq_true hbad⟩)]
          clear hF
          go_wp2
          go_ret
          exact ⟨_, rfl, by rw [E.out.1]; exact Er.no E.out.2, B3⟩
set_option maxHeartbeats 1000000 in
theorem unitOf_any (o : OrV) (w : World) : Calls Try.prog 16 #[o.val] w fun e w' => e = .returned (.agg #[.int .i64 o.player, .int .i64 o.unit]) ∧ Below w.heap.size w w' := by
  unfold OrV.val
  go_enter Try.func16, Try.ntmps16
  go_wp2
  refine bodyPost_ret (v := .agg #[.int .i64 o.player, .int .i64 o.unit]) (by simp [results, Try.results16, go_sem]) rfl ⟨rfl, ?_⟩
  exact ((Below.refl _ _).alloc (Nat.le_refl _) _).alloc (by simp) _
def LoI (ks : List OrV) (w : World) (j : Value) (W' : World) : Prop := ∃ q : Nat, q ≤ ks.length ∧ j = .int .i64 (q : Nat) ∧ Um W' w.heap.size q (lf ks q) ∧ Below w.heap.size w W'
set_option maxRecDepth 100000 in
set_option maxHeartbeats 4000000 in
theorem lastOnes_any (v : Value) (ks : List OrV) (w : World) (h : Orl w v ks) (hl : ks.length ≤ 60) (hb : ∀ o ∈ ks, ¬ Od.bad o) :
    Calls Try.prog 15 #[v] w fun e w' => ∃ b n, e = .returned (.map (some b)) ∧ Um w' b n (lf ks ks.length) ∧ w.heap.size ≤ b ∧ Below w.heap.size w w' := by
  have K0 : Hid (Orl w v ks) := h
  have HB : Hid (∀ o ∈ ks, ¬ Od.bad o) := hb
  have LE : Hid (ks.length ≤ 60) := hl
  obtain ⟨a, c, rfl, c1, c2, -⟩ := h
  have hmm := @run_makeMap Try.prog
  clear hb
  go_enter Try.func15, Try.ntmps15
  go_wp2_with fail
  go_loopw [9] (fun j W' => LoI ks w j W') (fun j _ => ks.length - (intOf j).toNat)
  case atStart => exact ⟨0, Nat.zero_le _, rfl, um_made w, (Below.refl _ _).alloc (Nat.le_refl _) _⟩
  case round =>
    obtain ⟨q, hq, rfl, hg, hb⟩ := hrel
    have Gq : Hid (Um wr w.heap.size q (lf ks q)) := hg
    have B : Hid (Below w.heap.size w wr) := hb
    clear hg hb
    by_cases hql : q = ks.length
    · subst hql
      go_wp2
      go_ret
      exact ⟨_, _, rfl, Gq, Nat.le_refl _, B⟩
    · have hqk : q < ks.length := by omega
      obtain ⟨k, hk⟩ : ∃ k, ks[q]? = some k := ⟨_, List.getElem?_eq_getElem hqk⟩
      have HK : Hid (ks[q]? = some k) := hk
      have OK := Od.ok_of (HB.out k (List.mem_of_getElem? hk))
      have WF : Hid ((Lit.int .i64 k.player).wf = true ∧ (Lit.int .i64 k.unit).wf = true ∧ (Lit.int .i64 ((q : Nat) : Int)).wf = true) := ⟨wf64 (by omega) (by omega), wf64 (by omega) (by omega), wf64 (by omega) (by omega)⟩
      have K1 := K0.out.below B.out
      obtain ⟨a', c', e, -, -, h3⟩ := K1
      injection e with e1 e2 e3
      subst e1 e3
      obtain ⟨x, rfl, hx1, hx⟩ := h3 (by rintro rfl; simp at hqk)
      have Yc := hx q k hk
      clear hx h3 e2 hk OK
      obtain ⟨q0, q1, q2, q3⟩ := Yc
      go_upto_region 5 with fail
      have B1 : Hid (Below wr.heap.size wr (wr.alloc (Obj.cells #[.int .i64 k.player, .int .i64 k.unit, .int .i64 k.what, .int .i64 k.arg] 39))) := (Below.refl _ _).alloc (Nat.le_refl _) _
      have X1 := Orc.mk' (w := wr) k rfl
      clear q0 q1 q2 q3
      generalize wr.alloc (Obj.cells #[.int .i64 k.player, .int .i64 k.unit, .int .i64 k.what, .int .i64 k.arg] 39) = w1 at *
      have G1 : Hid (Um w1 w.heap.size q (lf ks q)) := Gq.out.below B1.out
      have B2 : Hid (Below w.heap.size w w1) := B.out.trans (B1.out.mono B.out.size)
      obtain ⟨x0, x1, x2, x3⟩ := X1
      simp only [Nat.zero_add] at x1 x2 x3
      by_cases h3 : k.what = 3
      · have NX : Hid (Um w1 w.heap.size (q + 1) (lf ks (q + 1))) := by unfold Hid; rw [lf_train HK.out h3]; exact G1.out.mono (by omega)
        go_wp2
        go_round
        case rel => exact ⟨q + 1, by omega, by go_num, NX, B2⟩
        case measure => simp [intOf]; omega
      · have h3b : (k.what == 3) = false := beq_eq_false_iff_ne.2 h3
        go_wp2_with fail
        refine Calls.mono (unitOf_any k w1) ?_
        rintro e w2 ⟨rfl, b2⟩
        have B3 : Hid (Below w.heap.size w w2) := B2.out.trans (b2.mono B2.out.size)
        have G2 : Hid (Um w2 w.heap.size q (lf ks q)) := G1.out.below b2
        obtain ⟨w3, r3, o3, g3⟩ := G2.out.put (by have := LE.out; unfold maxLen; omega) WF.out.1 WF.out.2.1 WF.out.2.2
        have NX : Hid (Um w3 w.heap.size (q + 1) (lf ks (q + 1))) := by unfold Hid; rw [lf_other HK.out h3]; exact o3
        have B4 : Hid (Below w.heap.size w w3) := B3.out.grown g3 B3.out.size (fun k hk => by cases hk; exact Nat.le_refl _)
        clear b2 o3 g3 x0 x1 x2 x3
        go_wp2
        go_round
        case rel => exact ⟨q + 1, by omega, by go_num, NX, B4⟩
        case measure => simp [intOf]; omega
end Go.Proofs.Ytghkchnfcfnejaa

