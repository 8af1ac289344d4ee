/- A region whose operations read, and call what makes memory, ahead of a tail in one order: it may be walked in the text's order. · Orders in a block that may be sorted in place. · The program's orders: compare. · slices.insertionSortCmpFunc of orders by compare. · The reference: Last (orders that count). · Plain mathematics: numbers as lists of 32-bit words, the least first. No program stands in it. · Whole numbers of any size: what trim and words do. · Whole numbers of any size: what words, give, SetInt64 and NewInt do. · Whole numbers of any size: what SetInt64, NewInt and Big do. · Whole numbers of any size: what twin does. · Whole numbers of any size: what trim does, at lists. · The reference: the digits of a number. · Bytes that the call itself makes, by append. -/
import Derived.StillTail
import Derived.Below
import Derived.Test.YtelbdcljdfadbaaDoorZOrdersCount1
import Derived.BigRegion
import Derived.Deep.DeepCutAuto
import Derived.LoopN
import Derived.Shelf.Abstract
import Derived.Laws.Closers25
import Derived.IntWalk
import Derived.KernelRfl
import Derived.Test.YtelbdcljdfadbaaDoorRows
import Derived.WalkKit
import Derived.WalkSpells
import Derived.WalkLawsBesides
import Derived.Deep.QuietTactic
import Derived.BigQuiet
import Derived.OwnWalk
import Derived.Deep.AppendLies
namespace Go.Proofs.YtelbdcljdfadbaaDoor
open Go Go.RowKit
set_option linter.unusedVariables false

section
variable {P : Program} {ops : Array Oper} {md : Region.Mode} {C : World → Prop}

/-- the operation gives v, in each of the worlds C, and leaves one of them. -/
def YieldsC (P : Program) (ops : Array Oper) (C : World → Prop) (o : Oper) (v : Value) (a : Act) : Prop :=
  (Region.wanted o (yielded ops a.tmps) = true ∧ ∀ W, C W → ((execOp a.eval o).run P W = .ok (.value v) W ∨ ((execOp a.eval o).run P W = .ok .skip W ∧ v = undef) ∨
    ∃ f args, (execOp a.eval o).run P W = .ok (.enter f args) W ∧ Calls P f args W (fun e w' => e = .returned v ∧ C w'))) ∨
  (Region.wanted o (yielded ops a.tmps) = false ∧ v = undef)
def stC (P : Program) (ops : Array Oper) (C : World → Prop) (i : Nat) (K : Act → Prop) (a : Act) : Prop :=
  match ops[i]? with
  | none => K a
  | some o => ∃ v, YieldsC P ops C o v a ∧ K (a.put o.dst v)
theorem stC_mono {i : Nat} {a : Act} {K K' : Act → Prop} (h : ∀ a, K a → K' a) (hh : stC P ops C i K a) : stC P ops C i K' a := by
  unfold stC at *
  split
  · rename_i ho
    simp only [ho] at hh
    exact h _ hh
  · rename_i o ho
    simp only [ho] at hh
    obtain ⟨v, h1, h2⟩ := hh
    exact ⟨v, h1, h _ h2⟩
theorem YieldsC.of_same {o : Oper} {v : Value} {a a' : Act} (hy : YieldsC P ops C o v a) (he : execOp a'.eval o = execOp a.eval o)
    (hw : Region.wanted o (yielded ops a'.tmps) = Region.wanted o (yielded ops a.tmps)) : YieldsC P ops C o v a' := by
  unfold YieldsC at *
  rw [he, hw]
  exact hy
theorem stC_put {j : Nat} {oi oj : Oper} {v : Value} (hj : ops[j]? = some oj) (hap : oi.apart ops oj = true)
    (hsi : ∀ cs b, oi.op ≠ .select cs b) (hsj : ∀ cs b, oj.op ≠ .select cs b) {K : Act → Prop} {a : Act}
    (hy : YieldsC P ops C oi v a) (h : stC P ops C j K (a.put oi.dst v)) :
    stC P ops C j (fun a' => YieldsC P ops C oi v a' ∧ K (a'.put oi.dst v)) a := by
  obtain ⟨h1, h2, h3⟩ := Oper.apart_spec hap
  unfold stC at *
  simp only [hj] at *
  obtain ⟨u, hu, hk⟩ := h
  refine ⟨u, hu.of_same (execOp_put oj hsj a oi.dst v h1).symm (wanted_put oj a oi.dst v h1).symm, hy.of_same (execOp_put oi hsi a oj.dst u h3) (wanted_put oi a oj.dst u h3), ?_⟩
  rw [← Act.put_comm a v u h2]
  exact hk
theorem wpOp_of_stC {i : Nat} {a : Act} {W : World} {K : Act → Prop} {K' : Act → World → Prop} {Q' : Exit → Act → World → Prop} (h : ∀ a W, K a → C W → K' a W) (hh : stC P ops C i K a) (hW : C W) : wpOp P ops Q' i K' a W := by
  unfold stC at hh
  unfold wpOp
  split
  · rename_i ho
    simp only [ho] at hh
    exact h _ _ hh hW
  · rename_i o ho
    simp only [ho] at hh
    obtain ⟨v, hy, hk⟩ := hh
    rcases hy with ⟨hw, hr⟩ | ⟨hw, rfl⟩
    · simp only [hw, if_true]
      refine .inl ?_
      unfold Oper.wp
      rcases hr W hW with e | ⟨e, rfl⟩ | ⟨f, args, e, hc⟩
      · rw [e]
        exact h _ _ hk hW
      · rw [e]
        exact h _ _ hk hW
      · rw [e]
        exact hc.mono fun e w' ⟨he, hw'⟩ => by subst he; exact h _ _ hk hw'
    · simp only [hw]
      exact h _ _ hk hW
def wpAnyC (P : Program) (md : Region.Mode) (ops : Array Oper) (C : World → Prop) (n : Nat) (L : Array Bool → Act → Prop) : Nat → Array Bool → Act → Prop
  | 0, listed, a => L listed a
  | f + 1, listed, a =>
    Region.ready md ops listed ≠ [] ∧ ∀ i ∈ Region.ready md ops listed, i < n ∧ stC P ops C i (wpAnyC P md ops C n L f (listed.setIfInBounds i true)) a
theorem wpAny_of_headC {n g : Nat} {L : Array Bool → Act → Prop} {Q' : Exit → Act → World → Prop} (hL : ∀ listed a W, L listed a → C W → wpAny P md ops Q' g listed a W) :
    ∀ (f : Nat) (listed : Array Bool) (a : Act) (W : World), wpAnyC P md ops C n L f listed a → C W → wpAny P md ops Q' (f + g) listed a W
  | 0, listed, a, W, h, hW => by rw [Nat.zero_add]; exact hL _ _ _ h hW
  | f + 1, listed, a, W, h, hW => by
    rw [show f + 1 + g = (f + g) + 1 by omega]
    exact ⟨fun h0 => absurd h0 h.1, fun i hi => wpOp_of_stC (fun a' W' h' hW' => wpAny_of_headC hL f _ a' W' h' hW') (h.2 i hi).2 hW⟩
theorem wpAnyC_first {n i : Nat} {oi : Oper} {v : Value} {L : Array Bool → Act → Prop} (hi : ops[i]? = some oi) (hsel : ∀ (j : Nat) (o : Oper) cs b, ops[j]? = some o → o.op ≠ .select cs b)
    (hs : Region.sinkB md ops n = true) (hc : Region.chainB md ops n = true) (hn : n < ops.size) (hin : i < n)
    (hdone : ∀ listed a, L listed a → ∀ j ∈ Region.ready md ops listed, n ≤ j) :
    ∀ (f : Nat) (listed : Array Bool) (a : Act), HeadInv md ops n listed →
      (∀ j oj, ops[j]? = some oj → j ≠ i → listed.getD j true = false → (∀ e ∈ oj.after, Region.binds md e = true → e.on ≠ i) → oi.apart ops oj = true) →
      i ∈ Region.ready md ops listed → YieldsC P ops C oi v a →
      wpAnyC P md ops C n L f (listed.setIfInBounds i true) (a.put oi.dst v) → wpAnyC P md ops C n L (f + 1) listed a := by
  have hit : ∀ {K : Act → Prop} {a : Act}, YieldsC P ops C oi v a → K (a.put oi.dst v) → stC P ops C i K a := fun hy hk => by
    unfold stC
    simp only [hi]
    exact ⟨v, hy, hk⟩
  intro f
  induction f with
  | zero =>
    intro listed a inv _ hr hy H
    have hun := (mem_ready.1 hr).1
    refine ⟨fun h => (by rw [h] at hr; cases hr), fun j hj => ?_⟩
    have hjn : j < n := by
      rcases Nat.lt_or_ge j n with h | h
      · exact h
      · exact absurd hj (tail_waits hs hc hn inv _ i rfl hin hun j h)
    refine ⟨hjn, ?_⟩
    by_cases hji : j = i
    · subst hji; exact hit hy H
    · have := hdone _ _ H j (ready_mono hj hji)
      omega
  | succ f ih =>
    intro listed a inv hfree hr hy H
    have hun := (mem_ready.1 hr).1
    refine ⟨fun h => (by rw [h] at hr; cases hr), fun j hj => ?_⟩
    have hjn : j < n := by
      rcases Nat.lt_or_ge j n with h | h
      · exact h
      · exact absurd hj (tail_waits hs hc hn inv _ i rfl hin hun j h)
    refine ⟨hjn, ?_⟩
    by_cases hji : j = i
    · subst hji; exact hit hy H
    · have h1 := (H.2 j (ready_mono hj hji)).2
      obtain ⟨hjun, oj, hoj, hall⟩ := mem_ready.1 hj
      have hnot : ∀ e ∈ oj.after, Region.binds md e = true → e.on ≠ i := fun e he hb heq => by
        have h1 := hall e he hb
        rw [heq, getD_both hun] at h1
        cases h1
      have h2 := stC_put hoj (hfree j oj hoj hji hjun hnot) (fun cs b => hsel i oi cs b hi) (fun cs b => hsel j oj cs b hoj) hy h1
      have hfree' : ∀ k ok, ops[k]? = some ok → k ≠ i → (listed.setIfInBounds j true).getD k true = false →
          (∀ e ∈ ok.after, Region.binds md e = true → e.on ≠ i) → oi.apart ops ok = true := fun k ok hk hki hun hno => by
        refine hfree k ok hk hki ?_ hno
        by_cases hjk : j = k
        · subst hjk; exact hjun
        · rw [getD_set_ne true hjk] at hun; exact hun
      refine stC_mono (fun a' h3 => ih (listed.setIfInBounds j true) a' (inv.set hj hjn) hfree' (ready_mono hr (Ne.symm hji)) h3.1 ?_) h2
      rw [Array.setIfInBounds_comm _ _ hji]
      exact h3.2
/-- the head, in the text's order. -/
def wpHead (P : Program) (ops : Array Oper) (C : World → Prop) (Q : Act → Prop) : List Oper → Act → Prop
  | [], a => Q a
  | o :: rest, a => ∃ v, YieldsC P ops C o v a ∧ wpHead P ops C Q rest (a.put o.dst v)
theorem wpAnyC_lex {n g : Nat} {Lq : Act → Prop} (hsel : Region.noSelect ops = true) (hs : Region.sinkB md ops n = true) (hc : Region.chainB md ops n = true) (hn : n < ops.size) :
    ∀ (l : List Oper) (k : Nat) (listed : Array Bool) (a : Act), (∀ j, j < l.length → l[j]? = ops[k + j]?) → k + l.length = n → HeadInv md ops n listed →
    Region.lexHead md ops g l.length k listed = true → wpHead P ops C Lq l a →
    wpAnyC P md ops C n (fun listed' a' => Region.seqB md ops g n listed' = true ∧ Lq a') l.length listed a
  | [], k, listed, a, _, hk, _, hB, h => by
    have : k = n := by simpa using hk
    subst this
    exact ⟨by simpa [Region.lexHead] using hB, h⟩
  | o :: l, k, listed, a, hl, hk, inv, hB, h => by
    have h0 : ops[k]? = some o := by simpa using (hl 0 (by simp)).symm
    simp only [List.length_cons, Region.lexHead, Bool.and_eq_true] at hB
    obtain ⟨⟨hr, hf⟩, hB'⟩ := hB
    have hkn : k < n := by simp only [List.length_cons] at hk; omega
    have hr' : k ∈ Region.ready md ops listed := by simpa using hr
    obtain ⟨v, hy, hK⟩ := h
    exact wpAnyC_first h0 (Region.noSelect_spec hsel) hs hc hn hkn (fun listed' a' hL => seqB_ready hL.1) l.length listed a inv (Region.free_spec h0 hf) hr' hy
      (wpAnyC_lex hsel hs hc hn l (k + 1) _ _ (fun j hj => by have := hl (j + 1) (by simp; omega); simpa [Nat.add_assoc, Nat.add_comm 1 j] using this) (by simp only [List.length_cons] at hk; omega) (inv.set hr' hkn) hB' hK)
/-- the region: its head in the text's order, in each of the worlds C; its tail behind it. -/
theorem wp_region_class {id : Nat} {Q : Exit → Act → World → Prop} {a : Act} {w : World} {l : List Oper} (n : Nat) (C : World → Prop) (hm : P.follows .mixedOrders = true) (hB : Region.lexTailB .any l.toArray n = true)
    (hC : C { w with drawn := w.drawn + 1 }) (h : wpHead P l.toArray C (fun a' => ∀ W, C W → wpList P l.toArray Q (l.drop n) a' W) (l.take n) a) : (Code.region id l.toArray true).wp P Q a w := by
  simp only [Region.lexTailB, Bool.and_eq_true, decide_eq_true_eq] at hB
  obtain ⟨⟨⟨⟨hsel, hn⟩, hs⟩, hc⟩, hlex⟩ := hB
  have hn' : n < l.length := by simpa using hn
  have htl : (l.take n).length = n := by simp; omega
  have hdl : (l.drop n).length = l.toArray.size - n := by simp
  have inv0 : HeadInv .any l.toArray n (Array.replicate l.toArray.size false) :=
    ⟨by simp, fun j oj _ hl => (by rw [getD_replicate_false] at hl; cases hl), fun t _ ht => getD_in (by simpa using ht) (getD_replicate_false _ _)⟩
  have H := wpAnyC_lex (md := .any) (g := l.toArray.size - n) hsel hs hc hn (l.take n) 0 _ a (fun j hj => by
    have hj' : j < n := by rw [htl] at hj; exact hj
    simp [hj']) (by simpa using htl) inv0 (by rw [htl]; exact hlex) h
  refine wp_region_any hm ?_
  have := wpAny_of_headC (Q' := Q) (g := l.toArray.size - n) (fun listed a' W hL hW => by
    have := wpAny_of_seq (md := .any) (Q' := Q) (l.drop n) n listed a' W (fun j => by simp [List.getElem?_drop]) (by rw [hdl]; exact hL.1) (hL.2 W hW)
    rwa [hdl] at this) _ _ _ _ H hC
  rw [htl, show n + (l.toArray.size - n) = l.toArray.size by omega] at this
  exact this
end
theorem head_step {P : Program} {ops : Array Oper} {C : World → Prop} {Q : Act → Prop} {o : Oper} {rest : List Oper} {a : Act} (v : Value) (hw : Region.wanted o (yielded ops a.tmps) = true) (hr : ∀ W, C W → (execOp a.eval o).run P W = .ok (.value v) W) (h : wpHead P ops C Q rest (a.put o.dst v)) : wpHead P ops C Q (o :: rest) a :=
  ⟨v, .inl ⟨hw, fun W hW => .inl (hr W hW)⟩, h⟩
theorem head_call {P : Program} {ops : Array Oper} {C : World → Prop} {Q : Act → Prop} {o : Oper} {rest : List Oper} {a : Act} (v : Value) (f : FuncId) (args : Array Value) (hw : Region.wanted o (yielded ops a.tmps) = true) (hr : ∀ W, C W → (execOp a.eval o).run P W = .ok (.enter f args) W)
    (hc : ∀ W, C W → Calls P f args W (fun e w' => e = .returned v ∧ C w')) (h : wpHead P ops C Q rest (a.put o.dst v)) : wpHead P ops C Q (o :: rest) a :=
  ⟨v, .inl ⟨hw, fun W hW => .inr (.inr ⟨f, args, hr W hW, hc W hW⟩)⟩, h⟩

end Go.Proofs.YtelbdcljdfadbaaDoor

namespace Go.Proofs.YtelbdcljdfadbaaDoor
open Go.RowKit
set_option linter.unusedVariables false

/-- block g has these orders, and more behind them. -/
def Rb (w : World) (g : Nat) (ks : List OrV) (rest : List Value) : Prop := w.heap[g]? = some (.cells (ks.flatMap OrV.cs ++ rest).toArray 63 (0, 0))
theorem Rb.lt {w : World} {g : Nat} {ks : List OrV} {rest : List Value} (h : Rb w g ks rest) : g < w.heap.size := lt_of_block h
theorem Rb.thaw {w : World} {g : Nat} {ks : List OrV} {rest : List Value} (h : Rb w g ks rest) (i : Nat) : w.frozen? ⟨g, i, none⟩ = false := by
  unfold Rb at h
  simp [World.frozen?, h]
theorem Rb.below {w w' : World} {g B : Nat} {ks : List OrV} {rest : List Value} (h : Rb w g ks rest) (hb : Below B w w') (hB : g < B) : Rb w' g ks rest := by
  unfold Rb at *
  rw [hb.block g hB]; exact h
theorem flat_len (ks : List OrV) : (ks.flatMap OrV.cs).length = ks.length * 4 := by
  induction ks with
  | nil => rfl
  | cons k ks ih =>
    rw [List.flatMap_cons, List.length_append, ih, List.length_cons]
    simp [OrV.cs]
    omega
theorem Rb.at_ {w : World} {g : Nat} {ks : List OrV} {rest : List Value} (h : Rb w g ks rest) {i : Nat} {o : OrV} (ho : ks[i]? = some o) {j : Nat} (hj : j < 4) : w.cell? ⟨g, i * 4 + j, none⟩ = o.cs[j]? := by
  unfold Rb at h
  have hi : i < ks.length := (List.getElem?_eq_some_iff.1 ho).1
  simp only [World.cell?, h]
  have e : (ks.flatMap OrV.cs ++ rest).toArray[i * 4 + j]? = o.cs[j]? := by
    rw [List.getElem?_toArray, List.getElem?_append_left (by rw [flat_len]; omega), flat_or ks i j o ho hj]
  simp only [e]
  simp
theorem Rb.cells {w : World} {g : Nat} {ks : List OrV} {rest : List Value} (h : Rb w g ks rest) {i : Nat} {o : OrV} (ho : ks[i]? = some o) :
    w.cell? ⟨g, i * 4, none⟩ = some (.int .i64 o.player) ∧ w.cell? ⟨g, i * 4 + 1, none⟩ = some (.int .i64 o.unit) ∧ w.cell? ⟨g, i * 4 + 2, none⟩ = some (.int .i64 o.what) ∧ w.cell? ⟨g, i * 4 + 3, none⟩ = some (.int .i64 o.arg) :=
  ⟨h.at_ ho (j := 0) (by decide), h.at_ ho (j := 1) (by decide), h.at_ ho (j := 2) (by decide), h.at_ ho (j := 3) (by decide)⟩
theorem flat_set : ∀ (ks : List OrV) (i : Nat) (o : OrV) (rest : List Value), i < ks.length →
    (ks.set i o).flatMap OrV.cs ++ rest = ((((ks.flatMap OrV.cs ++ rest).set (i * 4) (.int .i64 o.player)).set (i * 4 + 1) (.int .i64 o.unit)).set (i * 4 + 2) (.int .i64 o.what)).set (i * 4 + 3) (.int .i64 o.arg)
  | [], i, o, rest, h => by simp at h
  | k :: ks, 0, o, rest, _ => by
    simp [OrV.cs]
  | k :: ks, i + 1, o, rest, h => by
    have ih := flat_set ks i o rest (by simpa using h)
    rw [show (i + 1) * 4 = i * 4 + 4 by omega, show i * 4 + 4 + 1 = i * 4 + 1 + 4 by omega, show i * 4 + 4 + 2 = i * 4 + 2 + 4 by omega, show i * 4 + 4 + 3 = i * 4 + 3 + 4 by omega, List.set_cons_succ, List.flatMap_cons, List.append_assoc, ih, List.flatMap_cons]
    simp [OrV.cs]
theorem Rb.put {w : World} {g : Nat} {ks : List OrV} {rest : List Value} (h : Rb w g ks rest) {i : Nat} (hi : i < ks.length) (o : OrV) :
    Rb ((((w.setCell ⟨g, i * 4, none⟩ (.int .i64 o.player)).setCell ⟨g, i * 4 + 1, none⟩ (.int .i64 o.unit)).setCell ⟨g, i * 4 + 2, none⟩ (.int .i64 o.what)).setCell ⟨g, i * 4 + 3, none⟩ (.int .i64 o.arg)) g (ks.set i o) rest := by
  unfold Rb at *
  have h1 := heap_setCell_same w g (i * 4) _ _ (.int .i64 o.player) h
  have h2 := heap_setCell_same _ g (i * 4 + 1) _ _ (.int .i64 o.unit) h1
  have h3 := heap_setCell_same _ g (i * 4 + 2) _ _ (.int .i64 o.what) h2
  have h4 := heap_setCell_same _ g (i * 4 + 3) _ _ (.int .i64 o.arg) h3
  rw [h4, flat_set ks i o rest hi]
  simp
theorem rb_below {B g : Nat} {w W : World} {i : Nat} (o : OrV) (h : Below B w W) (hb : B ≤ g) :
    Below B w ((((W.setCell ⟨g, i * 4, none⟩ (.int .i64 o.player)).setCell ⟨g, i * 4 + 1, none⟩ (.int .i64 o.unit)).setCell ⟨g, i * 4 + 2, none⟩ (.int .i64 o.what)).setCell ⟨g, i * 4 + 3, none⟩ (.int .i64 o.arg)) :=
  (((h.setCell (p := ⟨g, i * 4, none⟩) hb _).setCell (p := ⟨g, i * 4 + 1, none⟩) hb _).setCell (p := ⟨g, i * 4 + 2, none⟩) hb _).setCell (p := ⟨g, i * 4 + 3, none⟩) hb _
end Go.Proofs.YtelbdcljdfadbaaDoor

namespace Go.Proofs.YtelbdcljdfadbaaDoor
open Go.RowKit
set_option linter.unusedVariables false

set_option maxRecDepth 100000 in
set_option maxHeartbeats 4000000 in
theorem compare_any (a b : OrV) (w : World) : Calls Tryd.prog 54 #[a.val, b.val] w fun e w' => e = .returned (.int .i64 (cmpo a b)) ∧ Below w.heap.size w w' := by
  obtain ⟨p, u, n, x⟩ := a
  obtain ⟨p', u', n', x'⟩ := b
  have ba := (Below.refl w.heap.size w).alloc (Nat.le_refl _) (Obj.cells #[.int .i64 p, .int .i64 u, .int .i64 n, .int .i64 x] 63)
  have B0 : Hid (Below w.heap.size w ((w.alloc (Obj.cells #[.int .i64 p, .int .i64 u, .int .i64 n, .int .i64 x] 63)).alloc (Obj.cells #[.int .i64 p', .int .i64 u', .int .i64 n', .int .i64 x'] 63))) := ba.alloc (by simp) _
  have Oa : Hid (Orc ((w.alloc (Obj.cells #[.int .i64 p, .int .i64 u, .int .i64 n, .int .i64 x] 63)).alloc (Obj.cells #[.int .i64 p', .int .i64 u', .int .i64 n', .int .i64 x'] 63)) ⟨w.heap.size, 0, none⟩ ⟨p, u, n, x⟩) := (Orc.mk' (w := w) ⟨p, u, n, x⟩ rfl).below ((Below.refl _ _).alloc (Nat.le_refl _) _) (by simp)
  have Ob : Hid (Orc ((w.alloc (Obj.cells #[.int .i64 p, .int .i64 u, .int .i64 n, .int .i64 x] 63)).alloc (Obj.cells #[.int .i64 p', .int .i64 u', .int .i64 n', .int .i64 x'] 63)) ⟨w.heap.size + 1, 0, none⟩ ⟨p', u', n', x'⟩) := Orc.mk' ⟨p', u', n', x'⟩ (by simp)
  clear ba
  unfold OrV.val
  simp only
  go_enter Tryd.func54, Tryd.ntmps54
  go_upto_region 1 with fail
  generalize ((w.alloc (Obj.cells #[.int .i64 p, .int .i64 u, .int .i64 n, .int .i64 x] 63)).alloc (Obj.cells #[.int .i64 p', .int .i64 u', .int .i64 n', .int .i64 x'] 63)) = w2 at *
  have FC : Hid (∀ W, Below w2.heap.size w2 W → W.cell? ⟨w.heap.size, 0, none⟩ = some (.int .i64 p) ∧ W.cell? ⟨w.heap.size, 1, none⟩ = some (.int .i64 u) ∧ W.cell? ⟨w.heap.size, 2, none⟩ = some (.int .i64 n) ∧ W.cell? ⟨w.heap.size, 3, none⟩ = some (.int .i64 x) ∧ W.cell? ⟨w.heap.size + 1, 0, none⟩ = some (.int .i64 p') ∧ W.cell? ⟨w.heap.size + 1, 1, none⟩ = some (.int .i64 u') ∧ W.cell? ⟨w.heap.size + 1, 2, none⟩ = some (.int .i64 n') ∧ W.cell? ⟨w.heap.size + 1, 3, none⟩ = some (.int .i64 x')) := fun W hW => by
    have a := Oa.out.below hW Oa.out.lt
    have b := Ob.out.below hW Ob.out.lt
    obtain ⟨a0, a1, a2, a3⟩ := a
    obtain ⟨b0, b1, b2, b3⟩ := b
    simp only [Nat.zero_add] at a0 a1 a2 a3 b0 b1 b2 b3
    exact ⟨a0, a1, a2, a3, b0, b1, b2, b3⟩
  have CI : Hid (∀ (i j : Int) W, Below w2.heap.size w2 W → Calls Tryd.prog 85 #[.int .i64 i, .int .i64 j] W fun e w' => e = .returned (.int .i64 (sgn i j)) ∧ Below w2.heap.size w2 w') := fun i j W hW => (cmpint_any i j W).mono fun e w' ⟨h1, h2⟩ => ⟨h1, by rw [h2]; exact hW⟩
  have CR : Hid (∀ (o : OrV) W, Below w2.heap.size w2 W → Calls Tryd.prog 86 #[.agg #[.int .i64 o.player, .int .i64 o.unit, .int .i64 o.what, .int .i64 o.arg]] W fun e w' => e = .returned (.int .i64 (rnk o)) ∧ Below w2.heap.size w2 w') := fun o W hW => (rank_any o W).mono fun e w' ⟨h1, h2⟩ => ⟨h1, hW.trans (h2.mono hW.size)⟩
  refine wp_region_class 15 (fun W => Below w2.heap.size w2 W) (by kernel_rfl) (by kernel_rfl) (Below.refl _ _).drew ?_
  simp only [List.take_succ_cons, List.take_zero, List.drop_succ_cons, List.drop_zero]
  refine head_step (.pointer (some ⟨w.heap.size, 0, none⟩)) (by go_simp) (fun W hW => by go_simp) ?_
  go_simp
  refine head_step (.int .i64 p) (by go_simp) (fun W hW => by obtain ⟨a0, -, -, -, -, -, -, -⟩ := FC.out W hW; go_simp) ?_
  go_simp
  refine head_step (.pointer (some ⟨w.heap.size + 1, 0, none⟩)) (by go_simp) (fun W hW => by go_simp) ?_
  go_simp
  refine head_step (.int .i64 p') (by go_simp) (fun W hW => by obtain ⟨-, -, -, -, b0, -, -, -⟩ := FC.out W hW; go_simp) ?_
  go_simp
  refine head_call (Value.int .i64 (sgn p p')) 85 #[.int .i64 p, .int .i64 p'] (by go_simp) (fun W hW => by go_simp) (fun W hW => CI.out p p' W hW) ?_
  go_simp
  refine head_step (.pointer (some ⟨w.heap.size, 1, none⟩)) (by go_simp) (fun W hW => by go_simp) ?_
  go_simp
  refine head_step (.int .i64 u) (by go_simp) (fun W hW => by obtain ⟨-, a1, -, -, -, -, -, -⟩ := FC.out W hW; go_simp) ?_
  go_simp
  refine head_step (.pointer (some ⟨w.heap.size + 1, 1, none⟩)) (by go_simp) (fun W hW => by go_simp) ?_
  go_simp
  refine head_step (.int .i64 u') (by go_simp) (fun W hW => by obtain ⟨-, -, -, -, -, b1, -, -⟩ := FC.out W hW; go_simp) ?_
  go_simp
  refine head_call (Value.int .i64 (sgn u u')) 85 #[.int .i64 u, .int .i64 u'] (by go_simp) (fun W hW => by go_simp) (fun W hW => CI.out u u' W hW) ?_
  go_simp
  refine head_step (.agg #[.int .i64 p, .int .i64 u, .int .i64 n, .int .i64 x]) (by go_simp) (fun W hW => by obtain ⟨a0, a1, a2, a3, -, -, -, -⟩ := FC.out W hW; go_simp) ?_
  go_simp
  refine head_call (Value.int .i64 (rnk ⟨p, u, n, x⟩)) 86 #[.agg #[.int .i64 p, .int .i64 u, .int .i64 n, .int .i64 x]] (by go_simp) (fun W hW => by go_simp) (fun W hW => CR.out ⟨p, u, n, x⟩ W hW) ?_
  go_simp
  refine head_step (Value.agg #[.int .i64 p', .int .i64 u', .int .i64 n', .int .i64 x']) (by go_simp) (fun W hW => by obtain ⟨-, -, -, -, b0, b1, b2, b3⟩ := FC.out W hW; go_simp) ?_
  go_simp
  refine head_call (Value.int .i64 (rnk ⟨p', u', n', x'⟩)) 86 #[Value.agg #[.int .i64 p', .int .i64 u', .int .i64 n', .int .i64 x']] (by go_simp) (fun W hW => by go_simp) (fun W hW => CR.out ⟨p', u', n', x'⟩ W hW) ?_
  go_simp
  refine head_call (Value.int .i64 (sgn (rnk ⟨p, u, n, x⟩) (rnk ⟨p', u', n', x'⟩))) 85 #[Value.int .i64 (rnk ⟨p, u, n, x⟩), .int .i64 (rnk ⟨p', u', n', x'⟩)] (by go_simp) (fun W hW => by go_simp) (fun W hW => CI.out _ _ W hW) ?_
  go_simp
  intro W hW
  obtain ⟨s1, hs1⟩ : ∃ s, sgn p p' = s := ⟨_, rfl⟩
  obtain ⟨s2, hs2⟩ : ∃ s, sgn u u' = s := ⟨_, rfl⟩
  obtain ⟨s3, hs3⟩ : ∃ s, sgn (rnk ⟨p, u, n, x⟩) (rnk ⟨p', u', n', x'⟩) = s := ⟨_, rfl⟩
  have HC : Hid (cmpo ⟨p, u, n, x⟩ ⟨p', u', n', x'⟩ = or3 s1 s2 s3) := by unfold Hid cmpo; rw [hs3]; simp only; rw [hs1, hs2]
  rw [hs1, hs2, hs3]
  have OR := or_any s1 s2 s3 W.heap.size (W.alloc (Obj.cells #[.int .i64 s1, .int .i64 s2, .int .i64 s3] 3)) (by simp) (by simp) (by simp)
  have OR' : Hid (Calls Tryd.prog 84 #[.slice (some ⟨W.heap.size, 0, none⟩) 3 3] (W.alloc (Obj.cells #[.int .i64 s1, .int .i64 s2, .int .i64 s3] 3)) fun e w' => e = .returned (.int .i64 (or3 s1 s2 s3)) ∧ w' = (W.alloc (Obj.cells #[.int .i64 s1, .int .i64 s2, .int .i64 s3] 3))) := OR
  have BB : Hid (Below w.heap.size w (W.alloc (Obj.cells #[.int .i64 s1, .int .i64 s2, .int .i64 s3] 3))) := (B0.out.trans (hW.mono B0.out.size)).alloc (Nat.le_trans B0.out.size hW.size) _
  clear OR hW FC CI CR hs1 hs2 hs3
  go_wp2_with fail
  refine OR'.out.mono ?_
  rintro e w' ⟨rfl, rfl⟩
  go_wp2
  go_ret
  exact ⟨by rw [HC.out]; rfl, BB⟩
end Go.Proofs.YtelbdcljdfadbaaDoor

namespace Go.Proofs.YtelbdcljdfadbaaDoor
open Go.RowKit Go.Proofs.YtelbdcljdfadbaaDoor.So
set_option linter.unusedVariables false

abbrev fs (l : List T) : List OrV := l.map Prod.fst
theorem ecmp : ∀ args w, (callFunc 54 args).run Tryd.prog w = .ok (.enter 54 args) w := enters_of Tryd.func54 (by kernel_rfl) rfl
theorem at_x (A S1 : List T) (x : T) (R : List T) : (fs (A ++ S1 ++ x :: R))[A.length + S1.length]? = some x.1 := by
  simp [fs]
theorem at_y (A S1 : List T) (y : T) (R : List T) : (fs (A ++ (S1 ++ [y]) ++ R))[A.length + S1.length]? = some y.1 := by
  simp [fs]

theorem swap_two {α : Type} : ∀ (P : List α) (y x : α) (R : List α), ((P ++ y :: x :: R).set (P.length + 1) y).set P.length x = P ++ x :: y :: R
  | [], y, x, R => rfl
  | p :: P, y, x, R => by
    have := swap_two P y x R
    simp only [List.cons_append, List.length_cons, List.set_cons_succ]
    rw [this]
/-- between two rounds of the outer loop. -/
def IsoO (A UU B : List T) (g : Nat) (rest : List Value) (w : World) (m a : Nat) (iv : Value) (W : World) : Prop := ∃ (S V : List T), S.Pairwise lt ∧ S ≠ [] ∧ S.Perm (UU.take S.length) ∧ V = UU.drop S.length ∧ S.length ≤ m ∧ iv = .int .i64 ((a + S.length : Nat) : Int) ∧ Rb W g (fs (A ++ S ++ (V ++ B))) rest ∧ Kp g w W
/-- between two rounds of the inner loop. -/
def IsoI (A S : List T) (x : T) (VB : List T) (g : Nat) (rest : List Value) (w : World) (a : Nat) (jv : Value) (W : World) : Prop := ∃ (S1 S2 : List T), jv = .int .i64 ((a + S1.length : Nat) : Int) ∧ S1 ++ S2 = S ∧ (∀ y ∈ S2, lt x y) ∧ Rb W g (fs (A ++ S1 ++ x :: (S2 ++ VB))) rest ∧ Kp g w W
def SortSays (A U B : List T) (g : Nat) (rest : List Value) (w : World) (e : Ending) (w' : World) : Prop := e = .returned (.tuple #[]) ∧ ∃ S, S.Perm U ∧ S.Pairwise lt ∧ Rb w' g (fs (A ++ S ++ B)) rest ∧ Kp g w w'
set_option maxRecDepth 100000 in
set_option maxHeartbeats 8000000 in
theorem isort_any (A U B : List T) (g cap : Nat) (rest : List Value) (w : World) (hU : U.Pairwise (fun x y => x.2 < y.2)) (hr : Rb w g (fs (A ++ U ++ B)) rest) (hn : (A ++ U ++ B).length ≤ 1000) :
    Calls Tryd.prog 120 #[.slice (some ⟨g, 0, none⟩) (A ++ U ++ B).length cap, .int .i64 (A.length : Nat), .int .i64 ((A.length + U.length : Nat) : Int), .func (.func 54) #[] #[]] w
      (SortSays A U B g rest w) := by
  obtain ⟨L, hL⟩ : ∃ L, (A ++ U ++ B).length = L := ⟨_, rfl⟩
  have HL : Hid ((A ++ U ++ B).length = L) := hL
  have HL2 : Hid (A.length + U.length + B.length = L) := by unfold Hid; rw [← hL]; simp; omega
  obtain ⟨a, ha⟩ : ∃ a, A.length = a := ⟨_, rfl⟩
  obtain ⟨m, hm⟩ : ∃ m, U.length = m := ⟨_, rfl⟩
  have Ha : Hid (A.length = a) := ha
  have Hm : Hid (U.length = m) := hm
  have hle : a + m ≤ L := by have := HL2.out; omega
  have R0 : Hid (Rb w g (fs (A ++ U ++ B)) rest) := hr
  have HU : Hid (U.Pairwise (fun x y => x.2 < y.2)) := hU
  rw [hL, ha, hm]
  obtain ⟨q, hq⟩ : ∃ q, a + m = q := ⟨_, rfl⟩
  rw [hq]
  rw [hL] at hn
  clear hL ha hm hr hU
  go_enter Tryd.func120, Tryd.ntmps120
  go_wp2
  cases U with
  | nil =>
    have hm0 : m = 0 := by have := Hm.out; simpa using this.symm
    have hqa : ¬ ((a : Nat) : Int) + 1 < (q : Int) := by omega
    refine wp_loop_rounds 1 ?_
    rw [rounds_succ]
    go_wp2
    go_end0
    exact ⟨rfl, [], List.Perm.refl _, List.Pairwise.nil, R0, Kp.refl _ _⟩
  | cons u U' =>
    have hm1 : 1 ≤ m := by have := Hm.out; simp at this; omega
    go_loopw [8] (fun iv W => IsoO A (u :: U') B g rest w m a iv W) (fun iv _ => q - (intOf iv).toNat)
    case atStart =>
      refine ⟨[u], U', by simp, by simp, by simp, by simp, hm1, by simp, ?_, Kp.refl _ _⟩
      have := R0.out
      simpa using this
    case round =>
      obtain ⟨S, V, hS, hne, hp, hV, hle2, rfl, hrb, hk⟩ := hrel
      have RB : Hid (Rb wr g (fs (A ++ S ++ (V ++ B))) rest) := hrb
      have KK : Hid (Kp g w wr) := hk
      have HS : Hid (S.Pairwise lt ∧ S.Perm ((u :: U').take S.length)) := ⟨hS, hp⟩
      clear hrb hk hS hp
      obtain ⟨i, hi⟩ : ∃ i, a + S.length = i := ⟨_, rfl⟩
      rw [hi]
      by_cases he : S.length = m
      · have hlt : ¬ ((i : Nat) : Int) < ((q : Nat) : Int) := by omega
        have FIN : Hid (∃ S', S'.Perm (u :: U') ∧ S'.Pairwise lt ∧ Rb wr g (fs (A ++ S' ++ B)) rest ∧ Kp g w wr) := by
          have h1 : (u :: U').length = m := Hm.out
          have h2 : V = [] := by rw [hV]; exact List.drop_eq_nil_of_le (by omega)
          have h3 := HS.out.2
          rw [List.take_of_length_le (by omega)] at h3
          have h4 := RB.out
          rw [h2] at h4
          exact ⟨S, h3, HS.out.1, by simpa using h4, KK.out⟩
        clear hV
        go_wp2
        go_end0
        exact ⟨rfl, FIN⟩
      · have hlt : ((i : Nat) : Int) < ((q : Nat) : Int) := by omega
        have hUl : (u :: U').length = m := Hm.out
        obtain ⟨x, V', hVx⟩ : ∃ x V', V = x :: V' := by
          cases hv : V with
          | nil =>
            rw [hV] at hv
            have := List.drop_eq_nil_iff.1 hv
            omega
          | cons x V' => exact ⟨x, V', rfl⟩
        have HX : Hid (∀ y ∈ S, y.2 < x.2) := fun y hy => by
          have hy2 := HS.out.2.mem_iff.1 hy
          have hsp : (u :: U') = (u :: U').take S.length ++ x :: V' := by rw [← hVx, hV, List.take_append_drop]
          have h2 := HU.out
          rw [hsp, List.pairwise_append] at h2
          exact h2.2.2 y hy2 x (List.mem_cons_self ..)
        have HV : Hid ((u :: U').take (S.length + 1) = (u :: U').take S.length ++ [x] ∧ (u :: U').drop (S.length + 1) = V') := by
          have hsp : (u :: U').drop S.length = x :: V' := by rw [← hV, hVx]
          refine ⟨?_, ?_⟩
          · rw [List.take_add_one, ← List.head?_drop, hsp]; rfl
          · rw [← List.drop_drop, hsp]; rfl
        have RX : Hid (Rb wr g (fs (A ++ S ++ x :: (V' ++ B))) rest) := by
          have := RB.out
          rw [hVx] at this
          exact this
        clear hV RB hVx
        go_wp2_with fail
        go_loopw [9] (fun jv W => IsoI A S x (V' ++ B) g rest w a jv W) (fun jv _ => (intOf jv).toNat)
        case atStart => exact ⟨S, [], by rw [hi], by simp, by simp, RX, KK⟩
        case round =>
          obtain ⟨S1, S2, rfl, h12, h2x, hrb, hk⟩ := hrel
          have RB : Hid (Rb wr g (fs (A ++ S1 ++ x :: (S2 ++ (V' ++ B)))) rest) := hrb
          have K1 : Hid (Kp g w wr) := hk
          have H2 : Hid (∀ y ∈ S2, lt x y) := h2x
          have H12 : Hid (S1 ++ S2 = S) := h12
          have hj : a + S1.length < L := by
            have h1 := congrArg List.length h12
            simp at h1
            omega
          have hji : ((a + S1.length : Nat) : Int) < (L : Int) := by omega
          clear hrb hk h2x h12
          rcases List.eq_nil_or_concat S1 with h0 | ⟨S1', y, h0⟩
          · subst h0
            have hgt : ¬ ((a : Nat) : Int) < ((a + ([] : List T).length : Nat) : Int) := by simp
            have NEXT : Hid (∃ (S' V2 : List T), S'.Pairwise lt ∧ S' ≠ [] ∧ S'.Perm ((u :: U').take S'.length) ∧ V2 = (u :: U').drop S'.length ∧ S'.length ≤ m ∧ S'.length = S.length + 1 ∧ Rb wr g (fs (A ++ S' ++ (V2 ++ B))) rest ∧ Kp g w wr) := by
              have e := H12.out
              simp only [List.nil_append] at e
              have hl : (x :: S2).length = S.length + 1 := by rw [e]; rfl
              refine ⟨x :: S2, V', ?_, by simp, ?_, ?_, by omega, hl, ?_, K1.out⟩
              · exact List.pairwise_cons.2 ⟨H2.out, by rw [e]; exact HS.out.1⟩
              · rw [hl, HV.out.1, e]
                exact ((HS.out.2.cons x).trans (List.perm_append_singleton x _).symm)
              · rw [hl, HV.out.2]
              · have := RB.out
                simpa using this
            simp only [List.length_nil, Nat.add_zero]
            go_upto_region 4 with fail
            go_quiet (fail)
            go_wp2
            go_round
            case rel =>
              obtain ⟨S', V2, q1, q2, q3, q4, q5, q6, q7, q8⟩ := NEXT.out
              exact ⟨S', V2, q1, q2, q3, q4, q5, by rw [q6, ← Nat.add_assoc, hi]; go_num, q7, q8.drewN _⟩
            case measure => simp [intOf]; omega
          · subst h0
            obtain ⟨k, hk⟩ : ∃ k, a + S1'.length = k := ⟨_, rfl⟩
            have hk1 : a + (S1'.concat y).length = k + 1 := by rw [← hk]; simp; omega
            have hkL : k + 1 < L := by omega
            have Hx : Hid ((fs (A ++ S1'.concat y ++ x :: (S2 ++ (V' ++ B))))[k + 1]? = some x.1) := by
              unfold Hid
              rw [← hk1, ← Ha.out]
              exact at_x A _ x _
            have Hy : Hid ((fs (A ++ S1'.concat y ++ x :: (S2 ++ (V' ++ B))))[k]? = some y.1) := by
              unfold Hid
              rw [← hk, ← Ha.out, List.concat_eq_append]
              exact at_y A _ y _
            have FC : Hid (∀ W, Below wr.heap.size wr W → W.cell? ⟨g, (k + 1) * 4, none⟩ = some (.int .i64 x.1.player) ∧ W.cell? ⟨g, (k + 1) * 4 + 1, none⟩ = some (.int .i64 x.1.unit) ∧ W.cell? ⟨g, (k + 1) * 4 + 2, none⟩ = some (.int .i64 x.1.what) ∧ W.cell? ⟨g, (k + 1) * 4 + 3, none⟩ = some (.int .i64 x.1.arg) ∧ W.cell? ⟨g, k * 4, none⟩ = some (.int .i64 y.1.player) ∧ W.cell? ⟨g, k * 4 + 1, none⟩ = some (.int .i64 y.1.unit) ∧ W.cell? ⟨g, k * 4 + 2, none⟩ = some (.int .i64 y.1.what) ∧ W.cell? ⟨g, k * 4 + 3, none⟩ = some (.int .i64 y.1.arg)) := fun W hW => by
              have r := RB.out.below hW RB.out.lt
              obtain ⟨x0, x1, x2, x3⟩ := r.cells Hx.out
              obtain ⟨y0, y1, y2, y3⟩ := r.cells Hy.out
              exact ⟨x0, x1, x2, x3, y0, y1, y2, y3⟩
            have CC : Hid (∀ W, Below wr.heap.size wr W → Calls Tryd.prog 54 #[.agg #[.int .i64 x.1.player, .int .i64 x.1.unit, .int .i64 x.1.what, .int .i64 x.1.arg], .agg #[.int .i64 y.1.player, .int .i64 y.1.unit, .int .i64 y.1.what, .int .i64 y.1.arg]] W fun e w' => e = .returned (.int .i64 (cmpo x.1 y.1)) ∧ Below wr.heap.size wr w') := fun W hW => (compare_any x.1 y.1 W).mono fun e w' ⟨h1, h2⟩ => ⟨h1, hW.trans (h2.mono hW.size)⟩
            have ec := ecmp
            have hgt : ((a : Nat) : Int) < ((k : Nat) : Int) + 1 := by omega
            have kpos : ¬ ((k : Nat) : Int) + 1 < 0 := by omega
            have hki : ((k : Nat) : Int) + 1 < (L : Int) := by omega
            have hki0 : ((k : Nat) : Int) < (L : Int) := by omega
            have kk1 : ((k : Nat) : Int) + 1 - 1 = k := by omega
            have kw : IntKind.i64.wrap ((k : Nat) : Int) = k := by rw [IntKind.wrap_i64]; omega
            have e1 : ((a + (S1'.concat y).length : Nat) : Int) = (k : Int) + 1 := by rw [hk1]; rfl
            rw [e1]
            clear hji hj
            go_upto_region 4 with fail
            refine wp_region_class 16 (fun W => Below wr.heap.size wr W) (by kernel_rfl) (by kernel_rfl) (Below.refl _ _).drew ?_
            simp only [List.take_succ_cons, List.take_zero, List.drop_succ_cons, List.drop_zero]
            refine head_step (.int .i64 ((k : Int) + 1)) (by go_simp) (fun W hW => by go_simp) ?_
            go_simp
            refine head_step (.int .i64 (a : Int)) (by go_simp) (fun W hW => by go_simp) ?_
            go_simp
            refine head_step (.bool true) (by go_simp) (fun W hW => by go_simp) ?_
            go_simp
            refine head_step (.bool true) (by go_simp) (fun W hW => by go_simp) ?_
            go_simp
            refine head_step (.func (.func 54) #[] #[]) (by go_simp) (fun W hW => by go_simp) ?_
            go_simp
            refine head_step (.slice (some ⟨g, 0, none⟩) L cap) (by go_simp) (fun W hW => by go_simp) ?_
            go_simp
            refine head_step (.int .i64 ((k : Int) + 1)) (by go_simp) (fun W hW => by go_simp) ?_
            go_simp
            refine head_step (.pointer (some ⟨g, (k + 1) * 4, none⟩)) (by go_simp) (fun W hW => by go_simp) ?_
            go_simp
            refine head_step (.agg #[.int .i64 x.1.player, .int .i64 x.1.unit, .int .i64 x.1.what, .int .i64 x.1.arg]) (by go_simp) (fun W hW => by obtain ⟨x0, x1, x2, x3, -⟩ := FC.out W hW; go_simp) ?_
            go_simp
            refine head_step (.slice (some ⟨g, 0, none⟩) L cap) (by go_simp) (fun W hW => by go_simp) ?_
            go_simp
            refine head_step (.int .i64 ((k : Int) + 1)) (by go_simp) (fun W hW => by go_simp) ?_
            go_simp
            refine head_step (.int .i64 (k : Int)) (by go_simp) (fun W hW => by go_simp) ?_
            go_simp
            refine head_step (.pointer (some ⟨g, k * 4, none⟩)) (by go_simp) (fun W hW => by go_simp) ?_
            go_simp
            refine head_step (.agg #[.int .i64 y.1.player, .int .i64 y.1.unit, .int .i64 y.1.what, .int .i64 y.1.arg]) (by go_simp) (fun W hW => by obtain ⟨-, -, -, -, y0, y1, y2, y3⟩ := FC.out W hW; go_simp) ?_
            go_simp
            refine head_call (.int .i64 (cmpo x.1 y.1)) 54 #[.agg #[.int .i64 x.1.player, .int .i64 x.1.unit, .int .i64 x.1.what, .int .i64 x.1.arg], .agg #[.int .i64 y.1.player, .int .i64 y.1.unit, .int .i64 y.1.what, .int .i64 y.1.arg]] (by go_simp) (fun W hW => by go_simp) (fun W hW => CC.out W hW) ?_
            go_simp
            refine head_step (.bool (decide (cmpo x.1 y.1 < 0))) (by go_simp) (fun W hW => by go_simp) ?_
            go_simp
            intro W hW
            have RW : Hid (Rb W g (fs (A ++ S1'.concat y ++ x :: (S2 ++ (V' ++ B)))) rest) := RB.out.below hW RB.out.lt
            have KW : Hid (Kp g w W) := K1.out.trans (Kp.of hW)
            have IX : Hid (∀ z ∈ S1'.concat y, z.2 < x.2) := fun z hz => HX.out z (by rw [← H12.out]; exact List.mem_append_left _ hz)
            have PW : Hid ((S1'.concat y ++ S2).Pairwise lt) := by unfold Hid; rw [H12.out]; exact HS.out.1
            by_cases hc : cmpo x.1 y.1 < 0
            · have LX : Hid (lt x y) := (ask_lt (IX.out y (by simp))).1 ((klt_iff _ _).1 hc)
              obtain ⟨x0, x1, x2, x3, y0, y1, y2, y3⟩ := FC.out W hW
              have f0 := RW.out.thaw ((k + 1) * 4)
              have f1 := RW.out.thaw ((k + 1) * 4 + 1)
              have f2 := RW.out.thaw ((k + 1) * 4 + 2)
              have f3 := RW.out.thaw ((k + 1) * 4 + 3)
              have f4 := RW.out.thaw (k * 4)
              have f5 := RW.out.thaw (k * 4 + 1)
              have f6 := RW.out.thaw (k * 4 + 2)
              have f7 := RW.out.thaw (k * 4 + 3)
              clear hW FC CC
              go_wp2_with fail
              go_region
              have hlen : (fs (A ++ S1'.concat y ++ x :: (S2 ++ (V' ++ B)))).length = L := by
                have h1 := HL2.out
                have h2 := congrArg List.length H12.out
                have h3 := congrArg List.length HV.out.2
                simp [fs] at h2 h3 ⊢
                have h4 : (u :: U').length = m := Hm.out
                have h5 := Ha.out
                simp at h4 h1
                omega
              have rr := (RW.out.put (i := k + 1) (by rw [hlen]; exact hkL) y.1).put (i := k) (by rw [List.length_set, hlen]; omega) x.1
              have el : ((fs (A ++ S1'.concat y ++ x :: (S2 ++ (V' ++ B)))).set (k + 1) y.1).set k x.1 = fs (A ++ S1' ++ x :: (y :: S2 ++ (V' ++ B))) := by
                have hP : (fs (A ++ S1')).length = k := by simp [fs, ← hk, Ha.out]
                have h1 := swap_two (fs (A ++ S1')) y.1 x.1 (fs (S2 ++ (V' ++ B)))
                rw [hP] at h1
                have e1 : fs (A ++ S1'.concat y ++ x :: (S2 ++ (V' ++ B))) = fs (A ++ S1') ++ y.1 :: x.1 :: fs (S2 ++ (V' ++ B)) := by simp [fs]
                have e2 : fs (A ++ S1' ++ x :: (y :: S2 ++ (V' ++ B))) = fs (A ++ S1') ++ x.1 :: y.1 :: fs (S2 ++ (V' ++ B)) := by simp [fs]
                rw [e1, e2]
                exact h1
              rw [el] at rr
              have RR : Hid (Rb _ g (fs (A ++ S1' ++ x :: (y :: S2 ++ (V' ++ B)))) rest) := rr
              have KR : Hid (Kp g w _) := (((((((KW.out.trans (Kp.set W ((k + 1) * 4) (.int .i64 y.1.player))).trans (Kp.set _ ((k + 1) * 4 + 1) (.int .i64 y.1.unit))).trans (Kp.set _ ((k + 1) * 4 + 2) (.int .i64 y.1.what))).trans (Kp.set _ ((k + 1) * 4 + 3) (.int .i64 y.1.arg))).trans (Kp.set _ (k * 4) (.int .i64 x.1.player))).trans (Kp.set _ (k * 4 + 1) (.int .i64 x.1.unit))).trans (Kp.set _ (k * 4 + 2) (.int .i64 x.1.what))).trans (Kp.set _ (k * 4 + 3) (.int .i64 x.1.arg))
              clear rr
              go_wp2
              go_roundw
              case rel =>
                refine ⟨S1', y :: S2, by rw [hk], by rw [← H12.out]; simp, fun z hz => ?_, RR.out.below (Below.refl _ _).drew RR.out.lt, KR.out.trans (Kp.of (Below.refl _ _).drew)⟩
                rcases List.mem_cons.1 hz with rfl | hz
                · exact LX.out
                · exact H2.out z hz
              case measure => simp [intOf]
            · have LX : Hid (lt y x) := (ask_ge (IX.out y (by simp))).1 (fun h => hc ((klt_iff _ _).2 h))
              have NEXT : Hid (∃ (S' V2 : List T), S'.Pairwise lt ∧ S' ≠ [] ∧ S'.Perm ((u :: U').take S'.length) ∧ V2 = (u :: U').drop S'.length ∧ S'.length ≤ m ∧ S'.length = S.length + 1 ∧ Rb W g (fs (A ++ S' ++ (V2 ++ B))) rest ∧ Kp g w W) := by
                have hl : (S1'.concat y ++ x :: S2).length = S.length + 1 := by
                  rw [← H12.out]
                  simp
                  omega
                refine ⟨S1'.concat y ++ x :: S2, V', ?_, by simp, ?_, ?_, by omega, hl, ?_, KW.out⟩
                · refine put_rise PW.out (fun z hz => ?_) H2.out
                  rw [List.concat_eq_append] at hz
                  rcases List.mem_append.1 hz with hz | hz
                  · have h1 := PW.out
                    rw [List.concat_eq_append, List.append_assoc, List.pairwise_append] at h1
                    exact lt_trans (h1.2.2 z hz y (by simp)) LX.out
                  · simp at hz
                    subst hz
                    exact LX.out
                · rw [hl, HV.out.1]
                  refine List.Perm.trans List.perm_middle ?_
                  rw [H12.out]
                  exact ((HS.out.2.cons x).trans (List.perm_append_singleton x _).symm)
                · rw [hl, HV.out.2]
                · have := RW.out
                  simpa using this
              clear hW FC CC
              go_wp2
              go_round
              case rel =>
                obtain ⟨S', V2, q1, q2, q3, q4, q5, q6, q7, q8⟩ := NEXT.out
                exact ⟨S', V2, q1, q2, q3, q4, q5, by rw [q6, ← Nat.add_assoc, hi]; go_num, q7, q8⟩
              case measure => simp [intOf]; omega
end Go.Proofs.YtelbdcljdfadbaaDoor

namespace Go.Proofs.YtelbdcljdfadbaaDoor
open Go.RowKit Go.Proofs.YtelbdcljdfadbaaDoor.So
set_option linter.unusedVariables false

theorem below_dn (w : World) (n : Nat) : Below w.heap.size w (w.drewN n) := ⟨rfl, rfl, rfl, Nat.le_refl _, fun _ _ => rfl⟩
def Rl1 (ks : List OrV) (w : World) (v3 v4 : Value) (W : World) : Prop := ∃ q : Nat, q ≤ ks.length ∧ v4 = .int .i64 (q : Nat) ∧ Oro W w.heap.size v3 (fs (kp ks q)) ∧ Below w.heap.size w W
def Rl2 (ks : List OrV) (o : OrV) (q : Nat) (wo : World) (v5 v6 : Value) (W : World) : Prop := ∃ (b : Bool) (j : Nat), v5 = .bool b ∧ v6 = .int .i64 (j : Nat) ∧ q < j ∧ j ≤ ks.length ∧ (b = true ↔ ∀ (k : Nat) x, q < k → k < j → ks[k]? = some x → ¬ (¬ o.what = 3 ∧ ¬ x.what = 3 ∧ x.player = o.player ∧ x.unit = o.unit)) ∧ ∃ n, W = wo.drewN n
def Rl3 (U : List T) (u3 : Value) (w : World) (v7 v8 : Value) (W : World) : Prop := ∃ (q : Nat) (S : List T), q ≤ U.length ∧ v8 = .int .i64 (q : Nat) ∧ S.Perm (U.take q) ∧ S.Pairwise lt ∧ Oro W w.heap.size v7 (fs S) ∧ Oro W w.heap.size u3 (fs U) ∧ Below w.heap.size w W
def Rl4 (S : List T) (x : T) (wo : World) (v9 : Value) (W : World) : Prop := ∃ (S1 S2 : List T), v9 = .int .i64 (S1.length : Nat) ∧ S1 ++ S2 = S ∧ (∀ y ∈ S2, klt x.1 y.1) ∧ Below wo.heap.size wo W
/-- a part of a list, from its beginning. -/
theorem Orl.front {w : World} {a : Option Addr} {c n L : Nat} {ks : List OrV} (h : Orl w (.slice a L c) ks) (hn : n ≤ ks.length) : Orl w (.slice a n c) (ks.take n) := by
  obtain ⟨a', c', e, h1, h2, h3⟩ := h
  injection e with e1 e2 e3
  subst e1 e3
  refine ⟨a, c, by rw [List.length_take, Nat.min_eq_left hn], by rw [List.length_take]; omega, h2, fun hne => ?_⟩
  obtain ⟨x, hx, hx1, hx2⟩ := h3 (by rintro rfl; simp at hne)
  exact ⟨x, hx, hx1, fun i k hk => hx2 i k (by rw [List.getElem?_take] at hk; split at hk; exact hk; cases hk)⟩
/-- .. and from a place on. -/
theorem or_elem : Tryd.prog.elem 57 = 63 := by
  have hu : Tryd.prog.underlying 57 = some (.slice 63) := Tryd.underlying57
  simp [Program.elem, hu]
theorem Orl.back {w : World} {v : Value} {n : Nat} {ks : List OrV} (h : Orl w v ks) (hn : n ≤ ks.length) : ∃ v', Orl w v' (ks.drop n) ∧ ∀ W, (Instr.slice 57 v (some (.int .i64 (n : Nat))) none none).run Tryd.prog W = .ok v' W := by
  obtain ⟨a, c, rfl, h1, h2, h3⟩ := h
  obtain ⟨i0, hi, hz0, hz1, hz2⟩ := info_parts info_or
  have hu : Tryd.prog.underlying 57 = some (.slice 63) := Tryd.underlying57
  have he := or_elem
  have run : ∀ W, (Instr.slice 57 (.slice a ks.length c) (some (.int .i64 (n : Nat))) none none).run Tryd.prog W = .ok (sliced a n ks.length c 4) W := fun W => by
    refine (run_slice_l (P := Tryd.prog) W 57 a ks.length c (by rw [he]; exact hu) .i64 n (by omega) (by omega)).trans ?_
    rw [he]
    simp [sizeOf, typeInfo, hi, hz1]
  refine ⟨_, ?_, run⟩
  unfold sliced
  refine ⟨_, _, by rw [List.length_drop], by rw [List.length_drop]; omega, by omega, fun hne => ?_⟩
  have hnl : n < ks.length := by
    rcases Nat.lt_or_ge n ks.length with h | h
    · exact h
    · exact absurd (List.drop_eq_nil_of_le h) hne
  obtain ⟨x, rfl, hx1, hx2⟩ := h3 (by rintro rfl; simp at hnl)
  refine ⟨x.add (n * 4), ?_, by rw [add_block]; exact hx1, fun i k hk => ?_⟩
  · simp
    intro hc
    omega
  · rw [List.getElem?_drop] at hk
    have := hx2 (n + i) k hk
    have e : (x.add (n * 4)).add (i * 4) = x.add ((n + i) * 4) := by
      unfold Addr.add
      split <;> split <;> split <;> simp_all <;> omega
    rw [e]
    exact this
theorem Orl.sl {w : World} {a : Option Addr} {c n L : Nat} {ks : List OrV} (h : Orl w (.slice a L c) ks) (hn : n ≤ ks.length) : Orl w (sliced a n L c 4) (ks.drop n) := by
  obtain ⟨a', c', e, h1, h2, h3⟩ := h
  injection e with e1 e2 e3
  subst e1 e3 e2
  unfold sliced
  refine ⟨_, _, by rw [List.length_drop], by rw [List.length_drop]; omega, by omega, fun hne => ?_⟩
  have hnl : n < ks.length := by
    rcases Nat.lt_or_ge n ks.length with h | h
    · exact h
    · exact absurd (List.drop_eq_nil_of_le h) hne
  obtain ⟨x, rfl, hx1, hx2⟩ := h3 (by rintro rfl; simp at hnl)
  refine ⟨x.add (n * 4), ?_, by rw [add_block]; exact hx1, fun i k hk => ?_⟩
  · simp
    intro hc
    omega
  · rw [List.getElem?_drop] at hk
    have := hx2 (n + i) k hk
    have e : (x.add (n * 4)).add (i * 4) = x.add ((n + i) * 4) := by
      unfold Addr.add
      split <;> split <;> split <;> simp_all <;> omega
    rw [e]
    exact this
set_option maxRecDepth 100000 in
set_option maxHeartbeats 16000000 in
theorem ref_last (v : Value) (ks : List OrV) (w : World) (h : Orl w v ks) (hl : ks.length ≤ 60) :
    Calls Tryd.prog 29 #[v] w fun e w' => ∃ u out, e = .returned u ∧ LastSays ks out ∧ Oro w' w.heap.size u out ∧ Below w.heap.size w w' := by
  have K0 : Hid (Orl w v ks) := h
  obtain ⟨pa, pc, rfl, c1, c2, -⟩ := h
  go_enter Tryd.func29, Tryd.ntmps29
  go_wp2_with fail
  go_loopw [3, 4] (fun v3 v4 W => Rl1 ks w v3 v4 W) (fun _ v4 _ => ks.length - (intOf v4).toNat)
  case atStart => exact ⟨0, Nat.zero_le _, rfl, Oro.nil _ _, Below.refl _ _⟩
  case round =>
    obtain ⟨q, hq, rfl, hko, hb⟩ := hrel
    have OQ : Hid (Oro wr w.heap.size u3 (fs (kp ks q))) := hko
    have BQ : Hid (Below w.heap.size w wr) := hb
    clear hko hb
    generalize wr = wo at *
    by_cases hql : q = ks.length
    · subst hql
      obtain ⟨U, hU⟩ : ∃ U, kp ks ks.length = U := ⟨_, rfl⟩
      have HU : Hid (kp ks ks.length = U) := hU
      have UT : Hid (U.Pairwise (fun x y => x.2 < y.2)) := by unfold Hid; rw [← hU]; exact kp_tags _
      have UL : U.length ≤ 60 := by rw [← hU]; exact Nat.le_trans (kp_len _) hl
      rw [hU] at OQ
      clear hU
      obtain ⟨xa, xc, rfl⟩ := OQ.out.len
      have eUl : (fs U).length = U.length := by simp [fs]
      rw [eUl] at OQ ⊢
      clear eUl
      generalize huu : Value.slice xa U.length xc = u3 at *
      subst huu
      go_wp2_with fail
      go_loopw [7, 8] (fun v7 v8 W => Rl3 U (.slice xa U.length xc) w v7 v8 W) (fun _ v8 _ => U.length - (intOf v8).toNat)
      case atStart => exact ⟨0, [], Nat.zero_le _, rfl, by simp, List.Pairwise.nil, Oro.nil _ _, OQ.out, BQ.out⟩
      case round =>
        obtain ⟨q, S, hq, rfl, hp, hs, ho7, ho3, hb⟩ := hrel
        have HS : Hid (S.Perm (U.take q) ∧ S.Pairwise lt) := ⟨hp, hs⟩
        have OS : Hid (Oro wr w.heap.size u7 (fs S)) := ho7
        have OU : Hid (Oro wr w.heap.size (.slice xa U.length xc) (fs U)) := ho3
        have BS : Hid (Below w.heap.size w wr) := hb
        clear hp hs ho7 ho3 hb
        generalize wr = wo2 at *
        by_cases hqU : q = U.length
        · have LSY : Hid (LastSays ks (fs S)) := ⟨S, by have h := HS.out.1; rw [hqU, List.take_length, ← HU.out] at h; exact h, HS.out.2, rfl⟩
          subst hqU
          go_wp2
          go_ret
          exact ⟨_, _, rfl, LSY.out, OS.out, BS.out⟩
        · have hqk : q < U.length := by omega
          have hqi : ((q : Nat) : Int) < (U.length : Nat) := by omega
          obtain ⟨x, hx⟩ : ∃ x, U[q]? = some x := ⟨_, List.getElem?_eq_getElem hqk⟩
          have UX : Hid (U[q]? = some x) := hx
          have NX : Hid (U.take (q + 1) = U.take q ++ [x]) := by
            obtain ⟨hi, e⟩ := List.getElem?_eq_some_iff.1 hx
            unfold Hid
            rw [List.take_succ_eq_append_getElem hi, e]
          have TG : Hid (∀ y ∈ S, y.2 < x.2) := fun y hy => by
            have h1 := HS.out.1.mem_iff.1 hy
            have h2 := UT.out
            rw [← List.take_append_drop q U, List.pairwise_append] at h2
            refine h2.2.2 y h1 x ?_
            have : (U.drop q)[0]? = some x := by rw [List.getElem?_drop]; exact hx
            exact List.mem_of_getElem? this
          have SL : Hid (S.length ≤ 60) := by have h1 := HS.out.1.length_eq; rw [List.length_take] at h1; unfold Hid; omega
          obtain ⟨a7, c7, rfl⟩ := OS.out.len
          have eSl : (fs S).length = S.length := by simp [fs]
          rw [eSl] at OS ⊢
          clear eSl
          obtain ⟨xu, rfl⟩ : ∃ xu, xa = some xu := by
            obtain ⟨a', c', e, -, -, h3⟩ := OU.out.l
            injection e with e1 e2 e3
            subst e1
            obtain ⟨z, e9, -, -⟩ := h3 (by intro h; have := congrArg List.length h; simp [fs] at this; rw [this] at hqk; simp at hqk)
            exact ⟨z, e9⟩
          clear hx
          have sl60 : S.length ≤ 60 := SL.out
          go_wp2_with fail
          go_loopw [9] (fun v9 W => Rl4 S x wo2 v9 W) (fun v9 _ => (intOf v9).toNat)
          case atStart => exact ⟨S, [], rfl, by simp, by simp, Below.refl _ _⟩
          case round =>
            obtain ⟨S1, S2, rfl, h12, hk2, hb7⟩ := hrel
            generalize wr = w6 at *
            rcases List.eq_nil_or_concat S1 with h0 | ⟨S1', y, h0⟩
            · subst h0
              have hlast : ∀ y, ([] : List T).getLast? = some y → ¬ klt x.1 y.1 := fun y h => by simp at h
              simp only [List.length_nil]
              go_upto_region 18 with fail
              go_quiet (fail)
              have D6 : Hid (Below wo2.heap.size wo2 (w6.drewN nq)) := hb7.trans ((below_dn w6 nq).mono hb7.size)
              generalize w6.drewN nq = w7 at *
              have O7 : Hid (Oro w7 w.heap.size (.slice a7 S.length c7) (fs S)) := OS.out.below D6.out
              have U7 : Hid (Oro w7 w.heap.size (.slice (some xu) U.length xc) (fs U)) := OU.out.below D6.out
              have D7 : Hid (Below w.heap.size w w7) := BS.out.trans (D6.out.mono BS.out.size)
              clear hb7
              obtain ⟨S1, hS1⟩ : ∃ S1 : List T, [] = S1 := ⟨_, rfl⟩
              have hk0 : ((0 : Nat) : Int) = ((S1.length : Nat) : Int) := by rw [← hS1]; rfl
              rw [hk0]
              rw [hS1] at h12 hlast
              clear hk0 hS1
              have S12 : Hid (S1 ++ S2 = S) := h12
              have PW : Hid ((S1 ++ x :: S2).Pairwise lt) := put_place (by rw [h12]; exact HS.out.2) (fun y hy => TG.out y (by rw [← h12]; exact hy)) hk2 hlast
              have PM : Hid ((S1 ++ x :: S2).Perm (U.take (q + 1))) := by
                unfold Hid
                rw [NX.out]
                refine List.perm_middle.trans ?_
                rw [h12]
                exact ((HS.out.1.cons x).trans (List.perm_append_singleton x _).symm)
              obtain ⟨m, hm⟩ : ∃ m, S.length = m := ⟨_, rfl⟩
              obtain ⟨k, hk⟩ : ∃ k, S1.length = k := ⟨_, rfl⟩
              have hkm : k ≤ m := by rw [← hk, ← hm, ← h12]; simp
              have FR : Hid (Orl w7 (.slice a7 k c7) (fs S1)) := by
                have h := (O7.out.l).front (n := k) (by simp [fs]; omega)
                have e : (fs S).take k = fs S1 := by rw [← h12, ← hk]; simp [fs]
                rw [e] at h
                exact h
              have BKV : Hid (∀ W, Below w7.heap.size w7 W → Orl W (sliced a7 k m c7 4) (fs S2)) := fun W hW => by
                have h := Orl.sl ((O7.out.l).below hW) (n := k) (by simp [fs]; omega)
                have e : (fs S).drop k = fs S2 := by rw [← h12, ← hk]; simp [fs]
                rw [e, hm] at h
                exact h
              have ml : (fs S).length = m := by simp [fs, hm]
              have km' : ((k : Nat) : Int) ≤ (m : Nat) := by omega
              have kc7 : ((k : Nat) : Int) ≤ (c7 : Nat) := by
                obtain ⟨a', c', e, h1, -, -⟩ := O7.out.l
                injection e with e1 e2 e3
                subst e3
                simp [fs] at h1
                omega
              have LM : Hid (m ≤ 60 ∧ k ≤ m ∧ S1.length = k) := ⟨by rw [← hm]; exact SL.out, hkm, hk⟩
              simp only [hk]
              have ml2 : S.length = m := hm
              simp only [ml2]
              clear h12 hlast hk2 hm hk ml ml2
              go_wp2_with (at_builtin; refine app_ors _ rfl _ _ rfl w7.heap.size _ [] rfl (Oro.nil _ _) _ (fs S1) rfl FR.out (by have := LM.out; simp [fs]; omega) (Nat.le_refl _) ?_)
              intro v10 w8 o8 g8 a8
              have B8 : Hid (Below w7.heap.size w7 w8) := (Below.refl _ _).grown g8 (Nat.le_refl _) (fun k hk => by cases hk)
              have O8 : Hid (Oro w8 w7.heap.size v10 (fs S1)) := by unfold Hid; simpa using o8
              obtain ⟨a10, c10, e10⟩ := O8.out.len
              rw [show (fs S1).length = S1.length by simp [fs]] at e10
              subst e10
              clear o8 g8 a8
              have U8 : Hid (Oro w8 w.heap.size (.slice (some xu) U.length xc) (fs U)) := U7.out.below B8.out
              obtain ⟨y0, y1, y2, y3⟩ : Orc w8 (xu.add (q * 4)) x.1 := by
                obtain ⟨a', c', e, -, -, h3⟩ := U8.out.l
                injection e with e1 e2 e3
                subst e1
                obtain ⟨z, e9, -, hz⟩ := h3 (by intro h; have h9 := UX.out; have h8 := congrArg List.length h; simp [fs] at h8; rw [h8] at h9; simp at h9)
                injection e9 with e9
                subst e9
                exact hz q x.1 (by have := UX.out; simp [fs, this])
              have OA : Hid (Oro (w8.alloc (Obj.cells #[.int .i64 x.1.player, .int .i64 x.1.unit, .int .i64 x.1.what, .int .i64 x.1.arg] 63)) w7.heap.size (.slice a10 S1.length c10) (fs S1)) := O8.out.alloc _
              have RC : Hid (Orc (w8.alloc (Obj.cells #[.int .i64 x.1.player, .int .i64 x.1.unit, .int .i64 x.1.what, .int .i64 x.1.arg] 63)) ⟨w8.heap.size, 0, none⟩ x.1) := Orc.mk' (w := w8) x.1 rfl
              have BB : Hid (Below w8.heap.size w8 (w8.alloc (Obj.cells #[.int .i64 x.1.player, .int .i64 x.1.unit, .int .i64 x.1.what, .int .i64 x.1.arg] 63))) := (Below.refl _ _).alloc (Nat.le_refl _) _
              have SB : Hid (w7.heap.size ≤ (w8.alloc (Obj.cells #[.int .i64 x.1.player, .int .i64 x.1.unit, .int .i64 x.1.what, .int .i64 x.1.arg] 63)).heap.size) := Nat.le_trans B8.out.size BB.out.size
              go_wp2_with (at_builtin; refine app_or _ rfl _ _ rfl w7.heap.size _ (fs S1) rfl OA.out w8.heap.size x.1 rfl RC.out (by have := LM.out; simp [fs]; omega) SB.out ?_)
              intro g cap w9 o9 g9 a9 l9
              have B9 : Hid (Below w7.heap.size w7 w9) := (B8.out.trans (BB.out.mono B8.out.size)).grown g9 SB.out (fun k hk => (O8.out.block k hk).1)
              have O9 : Hid (Oro w9 w7.heap.size (.slice (some ⟨g, 0, none⟩) (S1.length + 1) cap) (fs S1 ++ [x.1])) := by unfold Hid; simpa [fs] using o9
              have BK := BKV.out w9 B9.out
              clear o9 g9 a9 l9 y0 y1 y2 y3
              go_wp2_with (at_builtin; refine app_ors _ rfl _ _ rfl w7.heap.size _ (fs S1 ++ [x.1]) (by first | rfl | simp [fs]) (by first | exact O9.out | simpa [fs] using O9.out) _ (fs S2) rfl (by first | exact BK | simpa [sliced] using BK) (by have := LM.out; have h9 := congrArg List.length S12.out; have h8 := SL.out; simp [fs] at h9 ⊢; omega) B9.out.size ?_)
              all_goals
                intro v11 wa oa ga aa
                have BA : Hid (Below w7.heap.size w7 wa) := B9.out.grown ga B9.out.size (fun k hk => (O9.out.block k (by first | exact hk | simpa [fs] using hk)).1)
                have OAA : Hid (Oro wa w.heap.size v11 (fs (S1 ++ x :: S2))) := by
                  have h := oa.mono (base' := w.heap.size) (by have := D7.out.size; omega)
                  unfold Hid
                  simpa [fs] using h
                have UA : Hid (Oro wa w.heap.size (.slice (some xu) U.length xc) (fs U)) := U7.out.below BA.out
                have DA : Hid (Below w.heap.size w wa) := D7.out.trans (BA.out.mono D7.out.size)
                clear oa ga aa BK
                go_wp2
                go_round
                case rel => exact ⟨q + 1, S1 ++ x :: S2, by omega, by go_num, PM.out, PW.out, OAA.out, UA.out, DA.out⟩
                case measure => simp [intOf]; omega
            · subst h0
              have hmm : S1'.length + 1 + S2.length = S.length := by have := congrArg List.length h12; simp at this; omega
              obtain ⟨k', hk'⟩ : ∃ k, S1'.length = k := ⟨_, rfl⟩
              have hk1 : (S1'.concat y).length = k' + 1 := by rw [← hk']; simp
              have O6 : Hid (Oro w6 w.heap.size (.slice a7 S.length c7) (fs S)) := OS.out.below hb7
              have U6 : Hid (Oro w6 w.heap.size (.slice (some xu) U.length xc) (fs U)) := OU.out.below hb7
              have SY : Hid ((fs S)[k']? = some y.1) := by
                unfold Hid
                rw [← h12, ← hk']
                simp [fs]
              obtain ⟨xs7, rfl⟩ : ∃ xs, a7 = some xs := by
                obtain ⟨a', c', e, -, -, h3⟩ := O6.out.l
                injection e with e1 e2 e3
                subst e1
                obtain ⟨z, e9, -, -⟩ := h3 (by intro h; rw [h] at SY; have := SY.out; simp at this)
                exact ⟨z, e9⟩
              have CX : Hid (∀ W, Below w6.heap.size w6 W → Orc W (xs7.add (k' * 4)) y.1 ∧ Orc W (xu.add (q * 4)) x.1) := fun W hW => by
                refine ⟨?_, ?_⟩
                · obtain ⟨a', c', e, -, -, h3⟩ := (O6.out.below hW).l
                  injection e with e1 e2 e3
                  subst e1
                  obtain ⟨z, e9, -, hz⟩ := h3 (by intro h; rw [h] at SY; have := SY.out; simp at this)
                  injection e9 with e9
                  subst e9
                  exact hz k' y.1 SY.out
                · obtain ⟨a', c', e, -, -, h3⟩ := (U6.out.below hW).l
                  injection e with e1 e2 e3
                  subst e1
                  obtain ⟨z, e9, -, hz⟩ := h3 (by intro h; have h9 := UX.out; have := congrArg List.length h; simp [fs] at this; rw [this] at h9; simp at h9)
                  injection e9 with e9
                  subst e9
                  exact hz q x.1 (by have := UX.out; simp [fs, this])
              have CB : Hid (∀ W, Below w6.heap.size w6 W → Calls Tryd.prog 61 #[.agg #[.int .i64 y.1.player, .int .i64 y.1.unit, .int .i64 y.1.what, .int .i64 y.1.arg], .agg #[.int .i64 x.1.player, .int .i64 x.1.unit, .int .i64 x.1.what, .int .i64 x.1.arg]] W fun e w' => e = .returned (.bool (decide (klt x.1 y.1))) ∧ Below w6.heap.size w6 w') := fun W hW => (ref_behind y.1 x.1 W).mono fun e w' ⟨h1, h2⟩ => ⟨h1, hW.trans (h2.mono hW.size)⟩
              have kpos : (0 : Int) < ((k' : Nat) : Int) + 1 := by omega
              have kk1 : ((k' : Nat) : Int) + 1 - 1 = k' := by omega
              have kw : IntKind.i64.wrap ((k' : Nat) : Int) = k' := by rw [IntKind.wrap_i64]; omega
              have hki0 : ((k' : Nat) : Int) < (S.length : Int) := by omega
              have e1 : (((S1'.concat y).length : Nat) : Int) = (k' : Int) + 1 := by rw [hk1]; rfl
              obtain ⟨bb, hbb⟩ : ∃ b, decide (klt x.1 y.1) = b := ⟨_, rfl⟩
              have HBB : Hid (decide (klt x.1 y.1) = bb) := hbb
              rw [hbb] at CB
              have HB7 : Hid (Below wo2.heap.size wo2 w6) := hb7
              have H12 : Hid (S1'.concat y ++ S2 = S) := h12
              have HK2 : Hid (∀ z ∈ S2, klt x.1 z.1) := hk2
              have HKL : Hid (S1'.length = k') := hk'
              rw [e1]
              clear hbb hb7 h12 hk2 hk1 e1 hmm hk'
              go_upto_region 18 with fail
              refine wp_region_class 13 (fun W => Below w6.heap.size w6 W) (by kernel_rfl) (by kernel_rfl) (Below.refl _ _).drew ?_
              simp only [List.take_succ_cons, List.take_zero, List.drop_succ_cons, List.drop_zero]
              refine head_step (.int .i64 ((k' : Int) + 1)) (by go_simp) (fun W hW => by go_simp) ?_
              go_simp
              refine head_step (.bool true) (by go_simp) (fun W hW => by go_simp) ?_
              go_simp
              refine head_step (.bool true) (by go_simp) (fun W hW => by go_simp) ?_
              go_simp
              refine head_step (.slice (some xs7) S.length c7) (by go_simp) (fun W hW => by go_simp) ?_
              go_simp
              refine head_step (.int .i64 ((k' : Int) + 1)) (by go_simp) (fun W hW => by go_simp) ?_
              go_simp
              refine head_step (.int .i64 (k' : Int)) (by go_simp) (fun W hW => by go_simp) ?_
              go_simp
              refine head_step (.pointer (some (xs7.add (k' * 4)))) (by go_simp) (fun W hW => by go_simp) ?_
              go_simp
              refine head_step (.agg #[.int .i64 y.1.player, .int .i64 y.1.unit, .int .i64 y.1.what, .int .i64 y.1.arg]) (by go_simp) (fun W hW => by obtain ⟨⟨x0, x1, x2, x3⟩, -⟩ := CX.out W hW; go_simp) ?_
              go_simp
              refine head_step (.slice (some xu) U.length xc) (by go_simp) (fun W hW => by go_simp) ?_
              go_simp
              refine head_step (.int .i64 (q : Int)) (by go_simp) (fun W hW => by go_simp) ?_
              go_simp
              refine head_step (.pointer (some (xu.add (q * 4)))) (by go_simp) (fun W hW => by go_simp) ?_
              go_simp
              refine head_step (.agg #[.int .i64 x.1.player, .int .i64 x.1.unit, .int .i64 x.1.what, .int .i64 x.1.arg]) (by go_simp) (fun W hW => by obtain ⟨-, x0, x1, x2, x3⟩ := CX.out W hW; go_simp) ?_
              go_simp
              refine head_call (.bool bb) 61 #[.agg #[.int .i64 y.1.player, .int .i64 y.1.unit, .int .i64 y.1.what, .int .i64 y.1.arg], .agg #[.int .i64 x.1.player, .int .i64 x.1.unit, .int .i64 x.1.what, .int .i64 x.1.arg]] (by go_simp) (fun W hW => by go_simp) (fun W hW => CB.out W hW) ?_
              go_simp
              intro w7 hW
              have D6 : Hid (Below wo2.heap.size wo2 w7) := HB7.out.trans (hW.mono HB7.out.size)
              clear hW CX CB
              cases bb
              · have O7 : Hid (Oro w7 w.heap.size (.slice (some xs7) S.length c7) (fs S)) := OS.out.below D6.out
                have U7 : Hid (Oro w7 w.heap.size (.slice (some xu) U.length xc) (fs U)) := OU.out.below D6.out
                have D7 : Hid (Below w.heap.size w w7) := BS.out.trans (D6.out.mono BS.out.size)
                have hlast : ∀ z, (S1'.concat y).getLast? = some z → ¬ klt x.1 z.1 := fun z hz => by
                  simp at hz
                  subst hz
                  exact of_decide_eq_false HBB.out
                have h12 : S1'.concat y ++ S2 = S := H12.out
                have hk2 : ∀ z ∈ S2, klt x.1 z.1 := HK2.out
                have hS1l : (k' : Int) + 1 = (((S1'.concat y).length : Nat) : Int) := by have := HKL.out; simp; omega
                rw [hS1l]
                generalize S1'.concat y = S1 at *
                clear hS1l kk1 kw kpos hki0
                have S12 : Hid (S1 ++ S2 = S) := h12
                have PW : Hid ((S1 ++ x :: S2).Pairwise lt) := put_place (by rw [h12]; exact HS.out.2) (fun y hy => TG.out y (by rw [← h12]; exact hy)) hk2 hlast
                have PM : Hid ((S1 ++ x :: S2).Perm (U.take (q + 1))) := by
                  unfold Hid
                  rw [NX.out]
                  refine List.perm_middle.trans ?_
                  rw [h12]
                  exact ((HS.out.1.cons x).trans (List.perm_append_singleton x _).symm)
                obtain ⟨m, hm⟩ : ∃ m, S.length = m := ⟨_, rfl⟩
                obtain ⟨k, hk⟩ : ∃ k, S1.length = k := ⟨_, rfl⟩
                have hkm : k ≤ m := by rw [← hk, ← hm, ← h12]; simp
                have FR : Hid (Orl w7 (.slice (some xs7) k c7) (fs S1)) := by
                  have h := (O7.out.l).front (n := k) (by simp [fs]; omega)
                  have e : (fs S).take k = fs S1 := by rw [← h12, ← hk]; simp [fs]
                  rw [e] at h
                  exact h
                have BKV : Hid (∀ W, Below w7.heap.size w7 W → Orl W (sliced (some xs7) k m c7 4) (fs S2)) := fun W hW => by
                  have h := Orl.sl ((O7.out.l).below hW) (n := k) (by simp [fs]; omega)
                  have e : (fs S).drop k = fs S2 := by rw [← h12, ← hk]; simp [fs]
                  rw [e, hm] at h
                  exact h
                have ml : (fs S).length = m := by simp [fs, hm]
                have km' : ((k : Nat) : Int) ≤ (m : Nat) := by omega
                have kc7 : ((k : Nat) : Int) ≤ (c7 : Nat) := by
                  obtain ⟨a', c', e, h1, -, -⟩ := O7.out.l
                  injection e with e1 e2 e3
                  subst e3
                  simp [fs] at h1
                  omega
                have LM : Hid (m ≤ 60 ∧ k ≤ m ∧ S1.length = k) := ⟨by rw [← hm]; exact SL.out, hkm, hk⟩
                simp only [hk]
                have ml2 : S.length = m := hm
                simp only [ml2]
                clear h12 hlast hk2 hm hk ml ml2
                go_wp2_with (at_builtin; refine app_ors _ rfl _ _ rfl w7.heap.size _ [] rfl (Oro.nil _ _) _ (fs S1) rfl FR.out (by have := LM.out; simp [fs]; omega) (Nat.le_refl _) ?_)
                intro v10 w8 o8 g8 a8
                have B8 : Hid (Below w7.heap.size w7 w8) := (Below.refl _ _).grown g8 (Nat.le_refl _) (fun k hk => by cases hk)
                have O8 : Hid (Oro w8 w7.heap.size v10 (fs S1)) := by unfold Hid; simpa using o8
                obtain ⟨a10, c10, e10⟩ := O8.out.len
                rw [show (fs S1).length = S1.length by simp [fs]] at e10
                subst e10
                clear o8 g8 a8
                have U8 : Hid (Oro w8 w.heap.size (.slice (some xu) U.length xc) (fs U)) := U7.out.below B8.out
                obtain ⟨y0, y1, y2, y3⟩ : Orc w8 (xu.add (q * 4)) x.1 := by
                  obtain ⟨a', c', e, -, -, h3⟩ := U8.out.l
                  injection e with e1 e2 e3
                  subst e1
                  obtain ⟨z, e9, -, hz⟩ := h3 (by intro h; have h9 := UX.out; have h8 := congrArg List.length h; simp [fs] at h8; rw [h8] at h9; simp at h9)
                  injection e9 with e9
                  subst e9
                  exact hz q x.1 (by have := UX.out; simp [fs, this])
                have OA : Hid (Oro (w8.alloc (Obj.cells #[.int .i64 x.1.player, .int .i64 x.1.unit, .int .i64 x.1.what, .int .i64 x.1.arg] 63)) w7.heap.size (.slice a10 S1.length c10) (fs S1)) := O8.out.alloc _
                have RC : Hid (Orc (w8.alloc (Obj.cells #[.int .i64 x.1.player, .int .i64 x.1.unit, .int .i64 x.1.what, .int .i64 x.1.arg] 63)) ⟨w8.heap.size, 0, none⟩ x.1) := Orc.mk' (w := w8) x.1 rfl
                have BB : Hid (Below w8.heap.size w8 (w8.alloc (Obj.cells #[.int .i64 x.1.player, .int .i64 x.1.unit, .int .i64 x.1.what, .int .i64 x.1.arg] 63))) := (Below.refl _ _).alloc (Nat.le_refl _) _
                have SB : Hid (w7.heap.size ≤ (w8.alloc (Obj.cells #[.int .i64 x.1.player, .int .i64 x.1.unit, .int .i64 x.1.what, .int .i64 x.1.arg] 63)).heap.size) := Nat.le_trans B8.out.size BB.out.size
                go_wp2_with (at_builtin; refine app_or _ rfl _ _ rfl w7.heap.size _ (fs S1) rfl OA.out w8.heap.size x.1 rfl RC.out (by have := LM.out; simp [fs]; omega) SB.out ?_)
                intro g cap w9 o9 g9 a9 l9
                have B9 : Hid (Below w7.heap.size w7 w9) := (B8.out.trans (BB.out.mono B8.out.size)).grown g9 SB.out (fun k hk => (O8.out.block k hk).1)
                have O9 : Hid (Oro w9 w7.heap.size (.slice (some ⟨g, 0, none⟩) (S1.length + 1) cap) (fs S1 ++ [x.1])) := by unfold Hid; simpa [fs] using o9
                have BK := BKV.out w9 B9.out
                clear o9 g9 a9 l9 y0 y1 y2 y3
                go_wp2_with (at_builtin; refine app_ors _ rfl _ _ rfl w7.heap.size _ (fs S1 ++ [x.1]) (by first | rfl | simp [fs]) (by first | exact O9.out | simpa [fs] using O9.out) _ (fs S2) rfl (by first | exact BK | simpa [sliced] using BK) (by have := LM.out; have h9 := congrArg List.length S12.out; have h8 := SL.out; simp [fs] at h9 ⊢; omega) B9.out.size ?_)
                all_goals
                  intro v11 wa oa ga aa
                  have BA : Hid (Below w7.heap.size w7 wa) := B9.out.grown ga B9.out.size (fun k hk => (O9.out.block k (by first | exact hk | simpa [fs] using hk)).1)
                  have OAA : Hid (Oro wa w.heap.size v11 (fs (S1 ++ x :: S2))) := by
                    have h := oa.mono (base' := w.heap.size) (by have := D7.out.size; omega)
                    unfold Hid
                    simpa [fs] using h
                  have UA : Hid (Oro wa w.heap.size (.slice (some xu) U.length xc) (fs U)) := U7.out.below BA.out
                  have DA : Hid (Below w.heap.size w wa) := D7.out.trans (BA.out.mono D7.out.size)
                  clear oa ga aa BK
                  go_wp2
                  go_round
                  case rel => exact ⟨q + 1, S1 ++ x :: S2, by omega, by go_num, PM.out, PW.out, OAA.out, UA.out, DA.out⟩
                  case measure => simp [intOf]; omega
              · have KX : Hid (∀ z ∈ y :: S2, klt x.1 z.1) := fun z hz => by
                  rcases List.mem_cons.1 hz with rfl | hz
                  · exact of_decide_eq_true HBB.out
                  · exact HK2.out z hz
                have HJ : Hid (S1' ++ y :: S2 = S) := by have := H12.out; unfold Hid; rw [← this]; simp
                go_wp2
                go_roundw
                case rel => exact ⟨S1', y :: S2, by rw [HKL.out], HJ.out, KX.out, D6.out⟩
                case measure => have := HKL.out; simp [intOf]; try omega
    · have hqk : q < ks.length := by omega
      obtain ⟨o, ho⟩ : ∃ o, ks[q]? = some o := ⟨_, List.getElem?_eq_getElem hqk⟩
      have HO : Hid (ks[q]? = some o) := ho
      obtain ⟨a', c', e, -, -, h3⟩ := K0.out.below BQ.out
      injection e with e1 e2 e3
      subst e1 e3
      obtain ⟨y, rfl, hy1, hy⟩ := h3 (by rintro rfl; simp at hqk)
      have HY : Hid (∀ (i : Nat) k, ks[i]? = some k → Orc wo (y.add (i * 4)) k) := hy
      obtain ⟨r0, r1, r2, r3⟩ := hy q o ho
      clear hy h3 e2 ho
      have hqi : ((q : Nat) : Int) < (ks.length : Nat) := by omega
      have hqb : q + 1 ≤ ks.length := by omega
      have KL : Hid ((fs (kp ks q)).length ≤ 60) := by have h1 := kp_len (l := ks) q; unfold Hid; simp [fs]; omega
      go_wp2_with fail
      go_loopw [5, 6] (fun v5 v6 W => Rl2 ks o q wo v5 v6 W) (fun _ v6 _ => ks.length - (intOf v6).toNat)
      case atStart => exact ⟨true, q + 1, rfl, by go_num, by omega, hqb, ⟨fun _ k x h1 h2 => by omega, fun _ => rfl⟩, 0, rfl⟩
      case round =>
        obtain ⟨b, j, rfl, rfl, hqj, hj, hall, m, rfl⟩ := hrel
        have HA : Hid (b = true ↔ ∀ (k : Nat) x, q < k → k < j → ks[k]? = some x → ¬ (¬ o.what = 3 ∧ ¬ x.what = 3 ∧ x.player = o.player ∧ x.unit = o.unit)) := hall
        clear hall
        by_cases hjl : j = ks.length
        · subst hjl
          have DN : Hid (Below wo.heap.size wo (wo.drewN m)) := below_dn wo m
          generalize wo.drewN m = w5 at *
          have B5 : Hid (Below w.heap.size w w5) := BQ.out.trans (DN.out.mono BQ.out.size)
          have O5 : Hid (Oro w5 w.heap.size u3 (fs (kp ks q))) := OQ.out.below DN.out
          cases b
          · have NK : Hid (kp ks (q + 1) = kp ks q) := stays_no HO.out (fun h => by have := HA.out.2 h; cases this)
            clear r0 r1 r2 r3
            go_wp2
            go_round
            case rel => exact ⟨q + 1, by omega, by go_num, by rw [NK.out]; exact O5.out, B5.out⟩
            case measure => simp [intOf]; omega
          · have NK : Hid (kp ks (q + 1) = kp ks q ++ [(o, q)]) := stays_yes HO.out (HA.out.1 rfl)
            clear r0 r1 r2 r3
            obtain ⟨r0, r1, r2, r3⟩ := (HY.out q o HO.out).below DN.out (by rw [add_block]; exact hy1)
            have OA : Hid (Oro (w5.alloc (Obj.cells #[.int .i64 o.player, .int .i64 o.unit, .int .i64 o.what, .int .i64 o.arg] 63)) w.heap.size u3 (fs (kp ks q))) := O5.out.alloc _
            have RC : Hid (Orc (w5.alloc (Obj.cells #[.int .i64 o.player, .int .i64 o.unit, .int .i64 o.what, .int .i64 o.arg] 63)) ⟨w5.heap.size, 0, none⟩ o) := Orc.mk' (w := w5) o rfl
            have BB : Hid (Below w5.heap.size w5 (w5.alloc (Obj.cells #[.int .i64 o.player, .int .i64 o.unit, .int .i64 o.what, .int .i64 o.arg] 63))) := (Below.refl _ _).alloc (Nat.le_refl _) _
            have SB : Hid (w.heap.size ≤ (w5.alloc (Obj.cells #[.int .i64 o.player, .int .i64 o.unit, .int .i64 o.what, .int .i64 o.arg] 63)).heap.size) := Nat.le_trans B5.out.size BB.out.size
            go_wp2_with (at_builtin; refine app_or _ rfl _ _ rfl w.heap.size _ (fs (kp ks q)) rfl OA.out w5.heap.size o rfl RC.out (by have := KL.out; omega) SB.out ?_)
            intro g cap w7 o7 g7 a7 l7
            have B7 : Hid (Below w.heap.size w w7) := (B5.out.trans (BB.out.mono B5.out.size)).grown g7 SB.out (fun k hk => (O5.out.block k hk).1)
            have O7 : Hid (Oro w7 w.heap.size (.slice (some ⟨g, 0, none⟩) ((kp ks q).length + 1) cap) (fs (kp ks (q + 1)))) := by unfold Hid; rw [NK.out]; simpa [fs] using o7
            clear o7 g7 a7 l7 r0 r1 r2 r3
            go_wp2
            go_round
            case rel => exact ⟨q + 1, by omega, by go_num, O7.out, B7.out⟩
            case measure => simp [intOf]; omega
        · have hjk : j < ks.length := by omega
          have hji : ((j : Nat) : Int) < (ks.length : Nat) := by omega
          obtain ⟨x, hx⟩ : ∃ x, ks[j]? = some x := ⟨_, List.getElem?_eq_getElem hjk⟩
          obtain ⟨s0, s1, s2, s3⟩ := HY.out j x hx
          have HX : Hid (ks[j]? = some x) := hx
          have NX : Hid ((¬ (¬ o.what = 3 ∧ ¬ x.what = 3 ∧ x.player = o.player ∧ x.unit = o.unit)) → (b = true ↔ ∀ (k : Nat) z, q < k → k < j + 1 → ks[k]? = some z → ¬ (¬ o.what = 3 ∧ ¬ z.what = 3 ∧ z.player = o.player ∧ z.unit = o.unit))) := fun hd => ⟨fun hb k z h1 h2 hz => by
              by_cases e : k = j
              · subst e
                rw [HX.out] at hz
                obtain rfl := Option.some.inj hz
                exact hd
              · exact HA.out.1 hb k z h1 (by omega) hz, fun h => HA.out.2 (fun k z h1 h2 hz => h k z h1 (by omega) hz)⟩
          clear hx hjl
          by_cases g0 : o.what = 3
          · go_upto_region 9 with fail
            go_quiet (fail)
            go_wp2
            go_roundw
            case rel => exact ⟨b, j + 1, rfl, by go_num, by omega, by omega, NX.out (fun h => h.1 g0), m + nq, rfl⟩
            case measure => simp [intOf]; omega
          · by_cases g3 : x.what = 3
            · go_upto_region 9 with fail
              have g0b : (o.what != 3) = true := bne_iff_ne.2 g0
              go_quiet (fail)
              go_wp2
              go_roundw
              case rel => exact ⟨b, j + 1, rfl, by go_num, by omega, by omega, NX.out (fun h => h.2.1 g3), m + nq, rfl⟩
              case measure => simp [intOf]; omega
            · by_cases gp : x.player = o.player
              · by_cases gu : x.unit = o.unit
                · have FX : Hid (false = true ↔ ∀ (k : Nat) z, q < k → k < j + 1 → ks[k]? = some z → ¬ (¬ o.what = 3 ∧ ¬ z.what = 3 ∧ z.player = o.player ∧ z.unit = o.unit)) := ⟨fun h => (by cases h), fun h => absurd ⟨g0, g3, gp, gu⟩ (h j x (by omega) (by omega) HX.out)⟩
                  go_upto_region 9 with fail
                  have g0b : (o.what != 3) = true := bne_iff_ne.2 g0
                  have g3b : (x.what != 3) = true := bne_iff_ne.2 g3
                  go_quiet (fail)
                  go_wp2
                  go_roundw
                  case rel => exact ⟨false, j + 1, rfl, by go_num, by omega, by omega, FX.out, m + nq, rfl⟩
                  case measure => simp [intOf]; omega
                · have gub : (x.unit == o.unit) = false := beq_eq_false_iff_ne.2 gu
                  go_upto_region 9 with fail
                  have g0b : (o.what != 3) = true := bne_iff_ne.2 g0
                  have g3b : (x.what != 3) = true := bne_iff_ne.2 g3
                  go_quiet (fail)
                  go_wp2
                  go_roundw
                  case rel => exact ⟨b, j + 1, rfl, by go_num, by omega, by omega, NX.out (fun h => gu h.2.2.2), m + nq, rfl⟩
                  case measure => simp [intOf]; omega
              · have gpb : (x.player == o.player) = false := beq_eq_false_iff_ne.2 gp
                go_upto_region 9 with fail
                have g0b : (o.what != 3) = true := bne_iff_ne.2 g0
                have g3b : (x.what != 3) = true := bne_iff_ne.2 g3
                go_quiet (fail)
                go_wp2
                go_roundw
                case rel => exact ⟨b, j + 1, rfl, by go_num, by omega, by omega, NX.out (fun h => gp h.2.2.1), m + nq, rfl⟩
                case measure => simp [intOf]; omega
end Go.Proofs.YtelbdcljdfadbaaDoor

namespace Go.Proofs.YtelbdcljdfadbaaDoor.Bg

def val : List Int → Int
  | [] => 0
  | d :: ds => d + 4294967296 * val ds

/-- each word is one. -/
def Wds (ds : List Int) : Prop := ∀ d ∈ ds, 0 ≤ d ∧ d < 4294967296

/-- no nought at the end. -/
def Nrm (ds : List Int) : Prop := Wds ds ∧ ∀ d, ds.getLast? = some d → d ≠ 0

theorem Wds.nil : Wds [] := fun _ h => by cases h
theorem Wds.cons {d : Int} {ds : List Int} (h : 0 ≤ d ∧ d < 4294967296) (k : Wds ds) : Wds (d :: ds) := by
  intro e he
  rcases List.mem_cons.1 he with rfl | he
  · exact h
  · exact k e he
theorem Wds.head {d : Int} {ds : List Int} (h : Wds (d :: ds)) : 0 ≤ d ∧ d < 4294967296 := h d (List.mem_cons_self ..)
theorem Wds.tail {d : Int} {ds : List Int} (h : Wds (d :: ds)) : Wds ds := fun e he => h e (List.mem_cons_of_mem _ he)

theorem val_nonneg (ds : List Int) (h : Wds ds) : 0 ≤ val ds := by
  induction ds with
  | nil => exact Int.le_refl _
  | cons d ds ih =>
    have := ih h.tail
    have := h.head
    simp only [val]; omega

theorem nrm_nil : Nrm [] := ⟨Wds.nil, fun _ h => by cases h⟩

theorem nrm_tail {d : Int} {ds : List Int} (h : Nrm (d :: ds)) : Nrm ds := by
  refine ⟨h.1.tail, fun e he => h.2 e ?_⟩
  cases ds with
  | nil => cases he
  | cons x xs => rw [List.getLast?_cons_cons]; exact he

/-- a number that has words is not 0. -/
theorem val_pos (ds : List Int) (h : Nrm ds) (hn : ds ≠ []) : 0 < val ds := by
  induction ds with
  | nil => exact absurd rfl hn
  | cons d ds ih =>
    have hd := h.1.head
    simp only [val]
    cases ds with
    | nil =>
      have := h.2 d rfl
      simp only [val]; omega
    | cons x xs =>
      have := ih (nrm_tail h) (by simp)
      omega

theorem val_lt_len (ds : List Int) (h : Wds ds) : val ds < 4294967296 ^ ds.length := by
  induction ds with
  | nil => simp [val]
  | cons d ds ih =>
    have := ih h.tail
    have hd := h.head
    simp only [val, List.length_cons, Int.pow_succ]
    omega

theorem len_le_val (ds : List Int) (h : Nrm ds) (hn : ds ≠ []) : 4294967296 ^ (ds.length - 1) ≤ val ds := by
  induction ds with
  | nil => exact absurd rfl hn
  | cons d ds ih =>
    have hd := h.1.head
    cases ds with
    | nil =>
      have := h.2 d rfl
      simp only [val]; simp; omega
    | cons x xs =>
      have := ih (nrm_tail h) (by simp)
      simp only [val, List.length_cons, Nat.add_sub_cancel] at this ⊢
      rw [Int.pow_succ]
      omega

theorem pow_mono (a b : Nat) (h : a ≤ b) : (4294967296 : Int) ^ a ≤ 4294967296 ^ b := by
  induction b with
  | zero => have : a = 0 := by omega
            subst this; exact Int.le_refl _
  | succ b ih =>
    by_cases e : a = b + 1
    · subst e; exact Int.le_refl _
    · have h1 := ih (by omega)
      have h2 : (0 : Int) < 4294967296 ^ b := Int.pow_pos (by omega)
      rw [Int.pow_succ]; omega

theorem lt_of_len (a b : List Int) (ha : Nrm a) (hb : Nrm b) (h : a.length < b.length) : val a < val b := by
  have h1 := val_lt_len a ha.1
  have h2 := len_le_val b hb (by intro e; subst e; simp at h)
  have h3 := pow_mono a.length (b.length - 1) (by omega)
  omega

/-- as many words as a number has. -/
theorem len_le (ds : List Int) (h : Nrm ds) (k : Nat) (hv : val ds < 4294967296 ^ k) : ds.length ≤ k := by
  by_cases hk : ds.length ≤ k
  · exact hk
  · have h2 := len_le_val ds h (by intro e; subst e; simp at hk)
    have h3 := pow_mono k (ds.length - 1) (by omega)
    omega

theorem val_append (a b : List Int) : val (a ++ b) = val a + 4294967296 ^ a.length * val b := by
  induction a with
  | nil => simp [val]
  | cons d a ih =>
    simp only [List.cons_append, val, ih, List.length_cons, Int.pow_succ, Int.mul_add]
    have : 4294967296 * (4294967296 ^ a.length * val b) = 4294967296 ^ a.length * 4294967296 * val b := by
      rw [← Int.mul_assoc, Int.mul_comm 4294967296 (4294967296 ^ a.length)]
    omega

theorem val_zeros (ds : List Int) (h : ∀ d ∈ ds, d = 0) : val ds = 0 := by
  induction ds with
  | nil => rfl
  | cons d ds ih =>
    have h1 := h d (List.mem_cons_self ..)
    have h2 := ih (fun e he => h e (List.mem_cons_of_mem _ he))
    simp only [val]; omega

/-- one word decides, where those above are the same. -/
theorem val_lt_of (p q t : List Int) (x y : Int) (hp : Wds p) (hq : Wds q) (hl : p.length = q.length) (h : x < y) : val (p ++ x :: t) < val (q ++ y :: t) := by
  rw [val_append, val_append, hl]
  have h1 := val_lt_len p hp
  have h2 := val_nonneg q hq
  rw [hl] at h1
  simp only [val, Int.mul_add]
  have h3 : 4294967296 ^ q.length * x + 4294967296 ^ q.length ≤ 4294967296 ^ q.length * y := by
    have : 4294967296 ^ q.length * (x + 1) ≤ 4294967296 ^ q.length * y := Int.mul_le_mul_of_nonneg_left (by omega) (Int.le_of_lt (Int.pow_pos (by omega)))
    rw [Int.mul_add] at this
    omega
  omega

/-- what is left of a list when noughts at its end are taken. -/
theorem trim_val (ds : List Int) (m : Nat) (h : ∀ d ∈ ds.drop m, d = 0) : val (ds.take m) = val ds := by
  conv => rhs; rw [← List.take_append_drop m ds]
  rw [val_append, val_zeros _ h]; omega

theorem trim_nrm (ds : List Int) (m : Nat) (hw : Wds ds) (hm : m ≤ ds.length) (h : ∀ d, 0 < m → ds[m - 1]? = some d → d ≠ 0) : Nrm (ds.take m) := by
  refine ⟨fun d hd => hw d (List.mem_of_mem_take hd), fun d hd => ?_⟩
  rw [List.getLast?_eq_getElem?, List.length_take, Nat.min_eq_left hm] at hd
  by_cases h0 : 0 < m
  · rw [List.getElem?_take_of_lt (by omega)] at hd
    exact h d h0 hd
  · have : m = 0 := by omega
    subst this; simp at hd

end Go.Proofs.YtelbdcljdfadbaaDoor.Bg

namespace Go.Proofs.YtelbdcljdfadbaaDoor
open Go.RowKit

/-- v is a slice of the words ds. -/
def Sl (w : World) (v : Value) (ds : List Int) : Prop :=
  (ds = [] ∧ v = .slice none 0 0) ∨ ∃ (b cap : Nat), v = .slice (some ⟨b, 0, none⟩) ds.length cap ∧ ds.length ≤ cap ∧ cap ≤ 9223372036854775807 ∧ b < w.heap.size ∧ ∀ i d, ds[i]? = some d → w.cell? ⟨b, i, none⟩ = some (.int .u32 d)

theorem Sl.below {w w' : World} {v : Value} {ds : List Int} (h : Sl w v ds) (hb : Below w.heap.size w w') : Sl w' v ds := by
  rcases h with h | ⟨b, cap, h1, h2, h3, h4, h5⟩
  · exact .inl h
  · refine .inr ⟨b, cap, h1, h2, h3, Nat.lt_of_lt_of_le h4 hb.size, fun i d hd => ?_⟩
    rw [hb.cell (p := ⟨b, i, none⟩) h4]
    exact h5 i d hd

set_option maxHeartbeats 400000 in
theorem trim_any (b cap : Nat) (ds : List Int) (w : World) (hw : Bg.Wds ds) (hcap : ds.length ≤ cap) (hcap2 : cap ≤ 9223372036854775807) (hc : ∀ i d, ds[i]? = some d → w.cell? ⟨b, i, none⟩ = some (.int .u32 d)) :
    Calls Tryd.prog 176 #[.slice (some ⟨b, 0, none⟩) ds.length cap] w fun e w' => ∃ m : Nat, m ≤ ds.length ∧ (∀ d ∈ ds.drop m, d = 0) ∧ (∀ d, 0 < m → ds[m - 1]? = some d → d ≠ 0) ∧ e = .returned (.slice (some ⟨b, 0, none⟩) m cap) ∧ w' = w := by
  have Hc : Hid (∀ i d, ds[i]? = some d → w.cell? ⟨b, i, none⟩ = some (.int .u32 d)) := hc
  clear hc
  go_enter Tryd.func176, Tryd.ntmps176
  go_wp2
  go_loop [3] (fun n => ∃ k : Nat, k ≤ ds.length ∧ n = .int .i64 k ∧ ∀ d ∈ ds.drop k, d = 0) (fun n => (intOf n).toNat)
  case atStart => exact ⟨ds.length, Nat.le_refl _, rfl, by simp⟩
  case round =>
    obtain ⟨k, hk, rfl, hz⟩ := hrel
    have Hz : Hid (∀ d ∈ ds.drop k, d = 0) := hz
    clear hz
    by_cases h0 : k = 0
    · subst h0
      go_wp2
      go_ret
      exact ⟨0, by omega, Hz, fun d h => absurd h (by omega), rfl, rfl⟩
    · obtain ⟨j, rfl⟩ : ∃ j, k = j + 1 := ⟨k - 1, by omega⟩
      obtain ⟨d, hd⟩ : ∃ d, ds[j]? = some d := ⟨ds[j], List.getElem?_eq_getElem (by omega)⟩
      have hcell := Hc.out j d hd
      have Hd : Hid (ds[j]? = some d) := hd
      clear hd
      have hdb := hw d (List.mem_of_getElem? Hd)
      obtain ⟨hd1, hd2⟩ := hdb
      by_cases hd0 : d = 0
      · subst hd0
        go_wp2
        go_round
        case rel =>
          refine ⟨j, by omega, by go_num, fun e he => ?_⟩
          rw [List.drop_eq_getElem_cons (by omega)] at he
          rcases List.mem_cons.1 he with rfl | he
          · have := Hd.out
            rw [List.getElem?_eq_getElem (by omega)] at this
            exact Option.some.inj this
          · exact Hz.out e he
        case measure => simp [intOf]
      · have hne : (d == 0) = false := beq_eq_false_iff_ne.2 hd0
        go_wp2
        go_ret
        refine ⟨j + 1, hk, Hz, fun e _ he => ?_, rfl, rfl⟩
        have := Hd.out.symm.trans he
        rw [Option.some.inj this] at hd0
        exact hd0
end Go.Proofs.YtelbdcljdfadbaaDoor

namespace Go.Proofs.YtelbdcljdfadbaaDoor
open Go.RowKit

theorem trim_two (b : Nat) (x y : Int) (w : World) (hx : 0 ≤ x ∧ x < 4294967296) (hy : 0 ≤ y ∧ y < 4294967296) (h0 : w.cell? ⟨b, 0, none⟩ = some (.int .u32 x)) (h1 : w.cell? ⟨b, 1, none⟩ = some (.int .u32 y)) :
    Calls Tryd.prog 176 #[.slice (some ⟨b, 0, none⟩) 2 2] w fun e w' => ∃ m : Nat, m ≤ 2 ∧ Bg.Nrm ([x, y].take m) ∧ Bg.val ([x, y].take m) = x + 4294967296 * y ∧ e = .returned (.slice (some ⟨b, 0, none⟩) m 2) ∧ w' = w := by
  have hw : Bg.Wds [x, y] := Bg.Wds.cons hx (Bg.Wds.cons hy Bg.Wds.nil)
  refine (trim_any b 2 [x, y] w hw (by simp) (by omega) ?_).mono ?_
  · intro i d hd
    match i, hd with
    | 0, hd => simp at hd; subst hd; exact h0
    | 1, hd => simp at hd; subst hd; exact h1
  · rintro e w1 ⟨m, hm, hz, hn, rfl, rfl⟩
    refine ⟨m, hm, Bg.trim_nrm _ _ hw hm hn, ?_, rfl, rfl⟩
    rw [Bg.trim_val _ _ hz]
    simp [Bg.val]

/-- the words of a number below 2^64. -/
theorem words_any (x : Int) (w : World) (h0 : 0 ≤ x) (h1 : x < 18446744073709551616) :
    Calls Tryd.prog 175 #[.int .u64 x] w fun e w' => ∃ v ds, Sl w' v ds ∧ Bg.Nrm ds ∧ Bg.val ds = x ∧ e = .returned v ∧ Below w.heap.size w w' := by
  have b1 : 0 ≤ x / 4294967296 ∧ x / 4294967296 < 4294967296 := by omega
  have b0 : 0 ≤ x % 4294967296 ∧ x % 4294967296 < 4294967296 := by omega
  go_enter Tryd.func175, Tryd.ntmps175
  go_wp2_with fail
  refine (trim_two w.heap.size (x % 4294967296) (x / 4294967296) _ b0 b1 (by simp) (by simp)).mono ?_
  rintro e w1 ⟨m, hm, hn, hv, rfl, rfl⟩
  have Hn : Hid (Bg.Nrm (List.take m [x % 4294967296, x / 4294967296])) := hn
  have Hv : Hid (Bg.val (List.take m [x % 4294967296, x / 4294967296]) = x) := by
    have : Bg.val (List.take m [x % 4294967296, x / 4294967296]) = x := by rw [hv]; omega
    exact this
  clear hn hv
  go_wp2
  go_ret
  refine ⟨_, List.take m [x % 4294967296, x / 4294967296], .inr ⟨w.heap.size, 2, ?_, ?_, by omega, by simp, ?_⟩, Hn, Hv, rfl, (Below.refl _ _).alloc (Nat.le_refl _) _⟩
  · have : (List.take m [x % 4294967296, x / 4294967296]).length = m := by rw [List.length_take]; simp; omega
    rw [this]
    rfl
  · rw [List.length_take]; simp; omega
  · intro i d hd
    rw [List.getElem?_take] at hd
    split at hd
    · match i, hd with
      | 0, hd => simp at hd; subst hd; simp
      | 1, hd => simp at hd; subst hd; simp
    · cases hd

theorem give_any (zb : Nat) (ng neg : Bool) (sl : Value) (a : Option Addr) (n c : Nat) (w : World) (h0 : w.cell? ⟨zb, 0, none⟩ = some (.bool ng)) (h1 : w.cell? ⟨zb, 1, none⟩ = some sl) (f0 : w.frozen? ⟨zb, 0, none⟩ = false) (f1 : w.frozen? ⟨zb, 1, none⟩ = false) :
    Calls Tryd.prog 174 #[.pointer (some ⟨zb, 0, none⟩), .bool neg, .slice a n c] w fun e w' => e = .returned (.pointer (some ⟨zb, 0, none⟩)) ∧ w' = (w.setCell ⟨zb, 1, none⟩ (.slice a n c)).setCell ⟨zb, 0, none⟩ (.bool (neg && decide (0 < n))) := by
  cases neg
  · go_enter Tryd.func174, Tryd.ntmps174
    go_wp2
    go_ret
    exact ⟨rfl, rfl⟩
  · by_cases hz : 0 < n
    · go_enter Tryd.func174, Tryd.ntmps174
      go_wp2
      go_ret
      refine ⟨rfl, ?_⟩
      simp [hz]
    · go_enter Tryd.func174, Tryd.ntmps174
      go_wp2
      go_ret
      refine ⟨rfl, ?_⟩
      simp [hz]

/-- a block for a number. -/
def Zb (w : World) (z : Nat) : Prop := ∃ (ng : Bool) (sl : Value), w.heap[z]? = some (.cells #[.bool ng, sl] 225 (0, 0))

/-- the number x stands in block z. -/
def IntAt (w : World) (z : Nat) (x : Int) : Prop := ∃ v ds, w.heap[z]? = some (.cells #[.bool (decide (x < 0)), v] 225 (0, 0)) ∧ Sl w v ds ∧ Bg.Nrm ds ∧ Bg.val ds = x.natAbs

theorem IntAt.zb {w : World} {z : Nat} {x : Int} (h : IntAt w z x) : Zb w z := by
  obtain ⟨v, ds, h1, -⟩ := h
  exact ⟨_, _, h1⟩

/-- words stay where a number's own block turns. -/
theorem Sl.kp {w w' : World} {v : Value} {ds : List Int} {z : Nat} (h : Sl w v ds) (hk : Kp z w w') (hz : Zb w z) : Sl w' v ds := by
  obtain ⟨ng, sl, hz⟩ := hz
  rcases h with h | ⟨b, cap, h1, h2, h3, h4, h5⟩
  · exact .inl h
  · refine .inr ⟨b, cap, h1, h2, h3, Nat.lt_of_lt_of_le h4 hk.size, fun i d hd => ?_⟩
    have hb : b ≠ z := by
      intro e
      subst e
      obtain ⟨x, hx⟩ : ∃ x, ds[0]? = some x := by
        cases ds with
        | nil => simp at hd
        | cons x xs => exact ⟨x, rfl⟩
      have := h5 0 x hx
      simp [World.cell?, hz] at this
    rw [World.cell?_of_block (w := w) (a := ⟨b, i, none⟩) (hk.block b h4 hb)]
    exact h5 i d hd

theorem IntAt.kp {w w' : World} {y z : Nat} {x : Int} (h : IntAt w y x) (hk : Kp z w w') (hz : Zb w z) (hne : y ≠ z) : IntAt w' y x := by
  obtain ⟨v, ds, h1, h2, h3, h4⟩ := h
  exact ⟨v, ds, by rw [hk.block y (lt_of_block h1) hne]; exact h1, h2.kp hk hz, h3, h4⟩

theorem IntAt.below {w w' : World} {y : Nat} {x : Int} (h : IntAt w y x) (hb : Below w.heap.size w w') : IntAt w' y x := by
  obtain ⟨v, ds, h1, h2, h3, h4⟩ := h
  exact ⟨v, ds, by rw [hb.block y (lt_of_block h1)]; exact h1, h2.below hb, h3, h4⟩

theorem Zb.below {w w' : World} {y : Nat} (h : Zb w y) (hb : Below w.heap.size w w') : Zb w' y := by
  obtain ⟨ng, sl, h1⟩ := h
  exact ⟨ng, sl, by rw [hb.block y (lt_of_block h1)]; exact h1⟩

theorem Zb.kp {w w' : World} {y z : Nat} (h : Zb w y) (hk : Kp z w w') (hne : y ≠ z) : Zb w' y := by
  obtain ⟨ng, sl, h1⟩ := h
  exact ⟨ng, sl, by rw [hk.block y (lt_of_block h1) hne]; exact h1⟩

/-- a sign and words, as a number. -/
def sgnb (neg : Bool) (x : Int) : Int := if neg then -x else x

theorem give_int (z : Nat) (neg : Bool) (v : Value) (ds : List Int) (w : World) (hz : Zb w z) (hs : Sl w v ds) (hn : Bg.Nrm ds) :
    Calls Tryd.prog 174 #[.pointer (some ⟨z, 0, none⟩), .bool neg, v] w fun e w' => e = .returned (.pointer (some ⟨z, 0, none⟩)) ∧ IntAt w' z (sgnb neg (Bg.val ds)) ∧ Kp z w w' := by
  have hz' := hz
  obtain ⟨ng, sl, hz⟩ := hz
  have key : ∃ a n c, v = .slice a n c ∧ n = ds.length := by
    rcases hs with ⟨rfl, rfl⟩ | ⟨b, cap, rfl, -⟩
    · exact ⟨_, _, _, rfl, rfl⟩
    · exact ⟨_, _, _, rfl, rfl⟩
  obtain ⟨a, n, c, hv, hl⟩ := key
  subst hv
  refine (give_any z ng neg sl a n c w (by simp [World.cell?, hz]) (by simp [World.cell?, hz]) (by simp [World.frozen?, hz]) (by simp [World.frozen?, hz])).mono ?_
  rintro e w1 ⟨rfl, rfl⟩
  have k1 : Kp z w ((w.setCell ⟨z, 1, none⟩ (.slice a n c)).setCell ⟨z, 0, none⟩ (.bool (neg && decide (0 < n)))) := (Kp.set w 1 _).trans (Kp.set _ 0 _)
  refine ⟨rfl, ⟨.slice a n c, ds, ?_, hs.kp k1 hz', hn, ?_⟩, k1⟩
  · have g1 := heap_setCell_same w z 1 _ _ (.slice a n c) hz
    have g2 := heap_setCell_same (w.setCell ⟨z, 1, none⟩ (.slice a n c)) z 0 _ _ (.bool (neg && decide (0 < n))) g1
    rw [g2]
    have e1 : (neg && decide (0 < n)) = decide (sgnb neg (Bg.val ds) < 0) := by
      have h0 := Bg.val_nonneg ds hn.1
      by_cases hd : ds = []
      · subst hd; subst hl; cases neg <;> simp [sgnb, Bg.val]
      · have h1 := Bg.val_pos ds hn hd
        have h2 : 0 < n := by rw [hl]; exact List.length_pos_iff.2 hd
        cases neg
        · simp only [sgnb]; simp; omega
        · simp only [sgnb, Bool.true_and]; simp [h2]; omega
    rw [e1]
    rfl
  · have h0 := Bg.val_nonneg ds hn.1
    unfold sgnb
    split <;> omega
end Go.Proofs.YtelbdcljdfadbaaDoor

namespace Go.Proofs.YtelbdcljdfadbaaDoor
open Go.RowKit

theorem neg_wrap (x : Int) (h : x < 0) (h0 : -9223372036854775808 < x) : IntKind.u64.wrap (-IntKind.u64.wrap x) = -x := by
  simp [IntKind.wrap, IntKind.bits, IntKind.signed]
  omega

theorem set_int (z : Nat) (x : Int) (w : World) (hz : Zb w z) (h0 : -9223372036854775808 < x) (h1 : x ≤ 9223372036854775807) :
    Calls Tryd.prog 149 #[.pointer (some ⟨z, 0, none⟩), .int .i64 x] w fun e w' => e = .returned (.pointer (some ⟨z, 0, none⟩)) ∧ IntAt w' z x ∧ Kp z w w' := by
  have Hz : Hid (Zb w z) := hz
  clear hz
  by_cases hx : x < 0
  · go_enter Tryd.func149, Tryd.ntmps149
    go_wp2_with fail
    rw [neg_wrap x hx h0]
    refine (words_any (-x) _ (by omega) (by omega)).mono ?_
    rintro e w1 ⟨v, ds, hs, hn, hv, rfl, hb⟩
    have Hs : Hid (Sl w1 v ds) := hs
    have Hn : Hid (Bg.Nrm ds) := hn
    have Hv : Hid (Bg.val ds = -x) := hv
    have Hb : Hid (Below w.heap.size w w1) := hb
    clear hs hn hv hb
    go_wp2_with fail
    refine (give_int z true v ds _ (Zb.below Hz Hb) Hs Hn).mono ?_
    rintro e w2 ⟨rfl, hi, hk⟩
    have e1 : sgnb true (Bg.val ds) = x := by rw [Hv.out]; simp [sgnb]
    rw [e1] at hi
    have Hi : Hid (IntAt w2 z x) := hi
    have Hk : Hid (Kp z w1 w2) := hk
    clear hi hk e1
    go_wp2
    go_ret
    exact ⟨rfl, Hi, (Kp.of Hb.out).trans Hk⟩
  · go_enter Tryd.func149, Tryd.ntmps149
    go_wp2_with fail
    refine (words_any x _ (by omega) (by omega)).mono ?_
    rintro e w1 ⟨v, ds, hs, hn, hv, rfl, hb⟩
    have Hs : Hid (Sl w1 v ds) := hs
    have Hn : Hid (Bg.Nrm ds) := hn
    have Hv : Hid (Bg.val ds = x) := hv
    have Hb : Hid (Below w.heap.size w w1) := hb
    clear hs hn hv hb
    go_wp2_with fail
    refine (give_int z false v ds _ (Zb.below Hz Hb) Hs Hn).mono ?_
    rintro e w2 ⟨rfl, hi, hk⟩
    have e1 : sgnb false (Bg.val ds) = x := by rw [Hv.out]; simp [sgnb]
    rw [e1] at hi
    have Hi : Hid (IntAt w2 z x) := hi
    have Hk : Hid (Kp z w1 w2) := hk
    clear hi hk e1
    go_wp2
    go_ret
    exact ⟨rfl, Hi, (Kp.of Hb.out).trans Hk⟩

theorem zb_new (w : World) (v : Value) : Zb (w.alloc (.cells #[.bool false, v] 225)) w.heap.size :=
  ⟨false, v, by show (w.heap.push _)[w.heap.size]? = _; simp⟩

/-- a new number. -/
theorem new_int (x : Int) (w : World) (h0 : -9223372036854775808 < x) (h1 : x ≤ 9223372036854775807) :
    Calls Tryd.prog 126 #[.int .i64 x] w fun e w' => e = .returned (.pointer (some ⟨w.heap.size, 0, none⟩)) ∧ IntAt w' w.heap.size x ∧ Below w.heap.size w w' ∧ w.heap.size < w'.heap.size := by
  go_enter Tryd.func126, Tryd.ntmps126
  go_wp2_with fail
  refine (set_int w.heap.size x _ (zb_new w _) h0 h1).mono ?_
  rintro e w1 ⟨rfl, hi, hk⟩
  have Hi : Hid (IntAt w1 w.heap.size x) := hi
  have Hk : Hid (Kp w.heap.size _ w1) := hk
  clear hi hk
  go_wp2
  go_ret
  refine ⟨rfl, Hi, Kp.below ((Below.refl _ _).alloc (Nat.le_refl _) _) Hk.out (by simp) (Nat.le_refl _), ?_⟩
  have := Hk.out.size
  simp at this
  omega

theorem big_int (x : Int) (w : World) (h0 : -9223372036854775808 < x) (h1 : x ≤ 9223372036854775807) :
    Calls Tryd.prog 91 #[.int .i64 x] w fun e w' => e = .returned (.pointer (some ⟨w.heap.size, 0, none⟩)) ∧ IntAt w' w.heap.size x ∧ Below w.heap.size w w' ∧ w.heap.size < w'.heap.size := by
  go_enter Tryd.func91, Tryd.ntmps91
  go_wp2_with fail
  refine (new_int x _ h0 h1).mono ?_
  rintro e w1 ⟨rfl, hi, hb, hl⟩
  have Hi : Hid (IntAt w1 w.heap.size x) := hi
  have Hb : Hid (Below w.heap.size w w1) := hb
  have Hl : Hid (w.heap.size < w1.heap.size) := hl
  clear hi hb hl
  go_wp2
  go_ret
  exact ⟨rfl, Hi, Hb, Hl⟩
end Go.Proofs.YtelbdcljdfadbaaDoor

namespace Go.Proofs.YtelbdcljdfadbaaDoor
open Go.RowKit

theorem inf_u32 : (Tryd.prog.info? 169).map (fun i => (i.zero, i.size, i.bytes)) = some (some (.int .u32 0), 1, 4) := by kernel_rfl
theorem inf_u32' : ∃ i, Tryd.prog.info? 169 = some i ∧ i.zero = some (.int .u32 0) ∧ i.size = 1 ∧ i.bytes = 4 := by
  have h := inf_u32
  cases hi : Tryd.prog.info? 169 with
  | none => rw [hi] at h; cases h
  | some i =>
    rw [hi] at h
    simp only [Option.map_some, Option.some.injEq, Prod.mk.injEq] at h
    exact ⟨i, rfl, h.1, h.2.1, h.2.2⟩

/-- an append whose run is known. -/
theorem wpList_append_run {P : Program} (w : World) {ops : Array Oper} {rest : List Oper} {o : Oper} {a : Act} {Q : Exit → Act → World → Prop} (hgd : o.guard = none) (s x : Operand) (t tx : TypeId)
    (ho : o.op = .call { callee := .builtin .append, args := #[s, x], argTypes := #[t, tx] }) (v xv v' : Value) (w' : World) (hv : a.eval s = v) (hx : a.eval x = xv)
    (hrun : (Builtin.append_ #[t, tx] o.type #[v, xv]).run P w = .ok v' w') (h : wpList P ops Q rest (a.put o.dst v') w') : wpList P ops Q (o :: rest) a w :=
  wpList_plain hgd fun K hK => by
    unfold Oper.wp
    simp [execOp, ho, resolve, invoke, builtin, hv, hx, hrun, Result.andThen]
    exact hK _ _ h

def cellsOf (ds : List Int) : List Value := ds.map fun d => .int .u32 d

theorem append_empty (a : Option Addr) (c : Nat) (w : World) (ha : a = none ∨ ∃ b, a = some ⟨b, 0, none⟩) :
    (Builtin.append_ #[223, 223] 223 #[.slice none 0 0, .slice a 0 c]).run Tryd.prog w = .ok (.slice none 0 0) w := by
  rcases ha with rfl | ⟨b, rfl⟩
  · kernel_rfl
  · kernel_rfl

theorem append_words (b c : Nat) (ds : List Int) (w : World) (hn : ds ≠ []) (hl : ds.length ≤ 1000) (hc : ∀ i d, ds[i]? = some d → w.cell? ⟨b, i, none⟩ = some (.int .u32 d)) :
    (Builtin.append_ #[223, 223] 223 #[.slice none 0 0, .slice (some ⟨b, 0, none⟩) ds.length c]).run Tryd.prog w =
      .ok (.slice (some ⟨w.heap.size, 0, none⟩) ds.length (grownCap w ds.length 0 169)) (w.drew.alloc (.cells ((cellsOf ds).toArray ++ Builtin.zeroCells #[.int .u32 0] (grownCap w ds.length 0 169 - ds.length)) 169)) := by
  obtain ⟨i, hi, hz, hs, hb⟩ := inf_u32'
  have h0 : 0 < ds.length := List.length_pos_iff.2 hn
  exact run_append_nil (P := Tryd.prog) w 223 223 169 i (.int .u32 0) Tryd.underlying223 hi hz ⟨b, 0, none⟩ ds.length c (cellsOf ds) (by simp [cellsOf, hs])
    (fun j v hv => by
      simp only [cellsOf, List.getElem?_map] at hv
      cases hd : ds[j]? with
      | none => rw [hd] at hv; cases hv
      | some d =>
        rw [hd] at hv
        cases hv
        rw [Addr.add_lit, Nat.zero_add]
        exact hc j d hd) h0 (by omega) (by rw [hb]; omega)

theorem sl_new (w W : World) (ds : List Int) (g : Nat) (r : Array Value) (hg : ds.length ≤ g) (hg2 : g ≤ 9223372036854775807) (hW : W.heap[w.heap.size]? = some (.cells ((cellsOf ds).toArray ++ r) 169 (0, 0))) :
    Sl W (.slice (some ⟨w.heap.size, 0, none⟩) ds.length g) ds := by
  refine .inr ⟨w.heap.size, g, rfl, hg, hg2, lt_of_block hW, fun i d hd => ?_⟩
  have hi : i < ds.length := (List.getElem?_eq_some_iff.1 hd).1
  simp only [World.cell?, hW]
  simp [cellsOf, Array.getElem?_append, hi]
  exact (List.getElem?_eq_some_iff.1 hd).2


set_option maxRecDepth 100000 in
theorem twin_any (v : Value) (ds : List Int) (w : World) (hs : Sl w v ds) (hl : ds.length ≤ 1000) :
    Calls Tryd.prog 150 #[v] w fun e w' => ∃ v', e = .returned v' ∧ Sl w' v' ds ∧ Below w.heap.size w w' := by
  by_cases hd : ds = []
  · subst hd
    have key : ∃ a c, v = .slice a 0 c ∧ (a = none ∨ ∃ b, a = some ⟨b, 0, none⟩) := by
      rcases hs with ⟨-, rfl⟩ | ⟨b, cap, rfl, -⟩
      · exact ⟨_, _, rfl, .inl rfl⟩
      · exact ⟨_, _, rfl, .inr ⟨b, rfl⟩⟩
    obtain ⟨a, c, rfl, ha⟩ := key
    have hap := append_empty a c w ha
    clear ha hs
    go_enter Tryd.func150, Tryd.ntmps150
    have Hap : Hid _ := hap
    clear hap
    go_wp2_with (at_builtin; refine wpList_append_run _ rfl _ _ 223 223 rfl _ _ _ _ rfl rfl Hap.out ?_)
    go_ret
    exact ⟨_, rfl, .inl ⟨rfl, rfl⟩, Below.refl _ _⟩
  · rcases hs with ⟨h, -⟩ | ⟨b, cap, rfl, h1, h2, h3, h4⟩
    · exact absurd h hd
    · have hap := append_words b cap ds w hd hl h4
      have hg := grownCap_ge w ds.length 0 169
      have hg2 := grownCap_le_maxLen w ds.length 0 169 (by unfold maxLen; omega)
      unfold maxLen at hg2
      clear h1 h2 h3 h4
      generalize grownCap w ds.length 0 169 = g at *
      have Hg : Hid (ds.length ≤ g) := hg
      have Hg2 : Hid (g ≤ 9223372036854775807) := by unfold Hid; omega
      clear hg hg2
      go_enter Tryd.func150, Tryd.ntmps150
      have Hap : Hid _ := hap
      clear hap
      go_wp2_with (at_builtin; refine wpList_append_run _ rfl _ _ 223 223 rfl _ _ _ _ rfl rfl Hap.out ?_)
      go_ret
      refine ⟨_, rfl, sl_new w _ ds g (Builtin.zeroCells #[.int .u32 0] (g - ds.length)) Hg Hg2 ?_, ?_⟩
      · show (w.heap.push _)[w.heap.size]? = _
        rw [Array.getElem?_push, if_pos rfl]
      · exact ((Below.refl _ _).alloc (Nat.le_refl _) _).drew
end Go.Proofs.YtelbdcljdfadbaaDoor

namespace Go.Proofs.YtelbdcljdfadbaaDoor
open Go.RowKit

theorem trim_sl (b n cap : Nat) (ds : List Int) (w : World) (hn : n = ds.length) (hw : Bg.Wds ds) (hcap : n ≤ cap) (hcap2 : cap ≤ 9223372036854775807) (hb : b < w.heap.size) (hc : ∀ i d, ds[i]? = some d → w.cell? ⟨b, i, none⟩ = some (.int .u32 d)) :
    Calls Tryd.prog 176 #[.slice (some ⟨b, 0, none⟩) n cap] w fun e w' => ∃ v ds', e = .returned v ∧ Sl w v ds' ∧ Bg.Nrm ds' ∧ Bg.val ds' = Bg.val ds ∧ w' = w := by
  subst hn
  refine (trim_any b cap ds w hw hcap hcap2 hc).mono ?_
  rintro e w1 ⟨m, hm, hz, hn, rfl, rfl⟩
  have hl : (ds.take m).length = m := by rw [List.length_take]; omega
  refine ⟨_, ds.take m, rfl, .inr ⟨b, cap, by rw [hl], by omega, hcap2, hb, fun i d hd => ?_⟩, Bg.trim_nrm _ _ hw hm hn, Bg.trim_val _ _ hz, rfl⟩
  rw [List.getElem?_take] at hd
  split at hd
  · exact hc i d hd
  · cases hd
end Go.Proofs.YtelbdcljdfadbaaDoor

namespace Go.Proofs.YtelbdcljdfadbaaDoor
open Go.RowKit Tx
set_option linter.unusedVariables false

theorem make_1 (w : World) : (Instr.makeSlice 223 (.int .i64 1) (.int .i64 1)).run Tryd.prog w = .ok (.slice (some ⟨w.heap.size, 0, none⟩) 1 1) (w.alloc (.cells #[.int .u32 0] 169)) := by kernel_rfl

theorem or_zero (x : Int) (h0 : 0 ≤ x) (h1 : x < 4294967296) : bits .or .u64 0 x = x := by
  rw [u64_or 0 x (by omega) (by omega) h0 (by omega)]
  simp
  omega

set_option maxRecDepth 100000 in
set_option maxHeartbeats 1000000 in
theorem small_one (b c : Nat) (x : Nat) (w : World) (hx : x < 4294967296) (hb : b < w.heap.size) (h0 : w.cell? ⟨b, 0, none⟩ = some (.int .u32 (x : Nat))) :
    Calls Tryd.prog 151 #[.slice (some ⟨b, 0, none⟩) 1 c, .int .u32 10] w fun e w' => ∃ v ds, e = .returned (.tuple #[v, .int .u32 ((x % 10 : Nat) : Int)]) ∧ Sl w' v ds ∧ Bg.Nrm ds ∧ Bg.val ds = ((x / 10 : Nat) : Int) ∧ Below w.heap.size w w' := by
  have mk := make_1
  have ho := or_zero (x : Int) (by omega) (by omega)
  have e1 : (x : Int) / 10 = ((x / 10 : Nat) : Int) := rfl
  have e2 : (x : Int) % 10 = ((x % 10 : Nat) : Int) := rfl
  obtain ⟨q, hq⟩ : ∃ q, x / 10 = q := ⟨_, rfl⟩
  obtain ⟨r, hr⟩ : ∃ r, x % 10 = r := ⟨_, rfl⟩
  have hq1 : q < 4294967296 := by omega
  have hr1 : r < 10 := by omega
  rw [hq] at e1 ⊢
  rw [hr] at e2 ⊢
  clear hq hr
  go_enter Tryd.func151, Tryd.ntmps151
  go_wp2
  refine wp_loop_rounds 2 ?_
  rw [rounds_succ]
  go_wp2
  rw [rounds_succ]
  go_wp2_with fail
  refine (trim_sl w.heap.size 1 1 [(q : Int)] _ rfl (Bg.Wds.cons ⟨by omega, by omega⟩ Bg.Wds.nil) (by omega) (by omega) (by simp) (fun i d hd => by match i, hd with | 0, hd => simp at hd; subst hd; simp)).mono ?_
  rintro e w1 ⟨v, ds, rfl, hs, hn, hv, rfl⟩
  have Hs : Hid (Sl _ v ds) := hs
  have Hn : Hid (Bg.Nrm ds) := hn
  have Hv : Hid (Bg.val ds = (q : Int)) := by
    unfold Hid
    rw [hv]
    simp [Bg.val]
  clear hs hn hv
  go_wp2
  go_ret2
  exact ⟨v, ds, rfl, Hs, Hn, Hv, (Below.refl _ _).alloc (Nat.le_refl _) _⟩
end Go.Proofs.YtelbdcljdfadbaaDoor

namespace Go.Proofs.YtelbdcljdfadbaaDoor
open Go.RowKit
set_option linter.unusedVariables false

/-- the bytes of a list, as cells. -/
def byteCells (l : List UInt8) : List Value := l.map fun b => .int .u8 (b.toNat : Nat)
theorem info_byte : (Tryd.prog.info? 5).map (fun i => (i.zero, i.size, i.bytes)) = some (some (.int .u8 0), 1, 1) := by kernel_rfl
/-- v is a slice of the bytes l, in a block of its own from base on. -/
def Ob (w : World) (base : Nat) (v : Value) (l : List UInt8) : Prop := w.ownsRow base 5 1 v l.length (byteCells l)
theorem Ob.nil (w : World) (base : Nat) : Ob w base (.slice none 0 0) [] := World.ownsRow_nil _ _ _ _
theorem Ob.alloc {w : World} {base : Nat} {v : Value} {l : List UInt8} (h : Ob w base v l) (o : Obj) : Ob (w.alloc o) base v l := World.ownsRow.alloc h o
theorem Ob.drew {w : World} {base : Nat} {v : Value} {l : List UInt8} (h : Ob w base v l) : Ob w.drew base v l := h
theorem Ob.block {w : World} {base : Nat} {v : Value} {l : List UInt8} (h : Ob w base v l) : ∀ k, v.ownBlock = some k → base ≤ k ∧ k < w.heap.size := World.ownsRow.lt h

theorem byteCells_snoc (l : List UInt8) (b : UInt8) : byteCells (l ++ [b]) = byteCells l ++ [.int .u8 (b.toNat : Nat)] := by simp [byteCells]

theorem Ob.len {w : World} {base : Nat} {v : Value} {l : List UInt8} (h : Ob w base v l) : ∃ a c, v = .slice a l.length c := by
  rcases h.2 with ⟨hv, h0⟩ | ⟨g, cap, cur, hv, _⟩
  · exact ⟨none, 0, by rw [hv, h0]⟩
  · exact ⟨_, _, hv⟩
theorem Ob.text {w : World} {base : Nat} {v : Value} {l : List UInt8} (h : Ob w base v l) (hl : 0 < l.length) :
    ∃ g cap, v = .slice (some ⟨g, 0, none⟩) l.length cap ∧ ∀ j (hj : j < l.length), w.cell? ((⟨g, 0, none⟩ : Addr).add j) = some (.int .u8 (l[j].toNat : Int)) := by
  obtain ⟨g, cap, hv, -, -⟩ := World.ownsRow.form h hl
  refine ⟨g, cap, hv, fun j hj => ?_⟩
  subst hv
  rw [Addr.add_lit, Nat.zero_add, World.ownsRow.cellAt h j (by omega)]
  simp [byteCells, List.getElem?_eq_getElem hj]
theorem step_app_byte {ops : Array Oper} {o : Oper} {a : Act} {K : Act → World → Prop} {Q : Exit → Act → World → Prop} {E : Prop} (w : World) (hgd : o.guard = none) (s x : Operand)
    (ho : o.op = .call { callee := .builtin .append, args := #[s, x], argTypes := #[108, 108] }) (base : Nat) (v : Value) (l : List UInt8) (hs : a.eval s = v) (hown : Ob w base v l)
    (ad : Addr) (b : UInt8) (hx : a.eval x = .slice (some ad) 1 1) (hd : w.cell? ad = some (.int .u8 (b.toNat : Nat))) (hl : l.length ≤ 2000000000) (hbase : base ≤ w.heap.size)
    (h : ∀ g cap w', Ob w' base (.slice (some ⟨g, 0, none⟩) (l.length + 1) cap) (l ++ [b]) → w.grownBy w' v.ownBlock → g < w'.heap.size → K (a.put o.dst (.slice (some ⟨g, 0, none⟩) (l.length + 1) cap)) w') :
    if Region.wanted o (yielded ops a.tmps) = true then Oper.wp Tryd.prog o a w K Q else E := by
  obtain ⟨i0, hi, hz0, hz1, hz2⟩ := info_parts info_byte
  refine step_append_lies w hgd s x 108 ho base 5 i0 (.int .u8 0) 1 1 Tryd.underlying108 hi hz0 hz1 hz2 rfl (by decide) v l.length _ hs hown ad 1 1 [.int .u8 (b.toNat : Nat)] hx rfl ?_ ?_ (by decide) (by unfold maxLen; omega) (by omega) hbase _ rfl ?_
  · intro j u hj
    match j, hj with
    | 0, hj => simp at hj; subst hj; exact hd
  · intro u hu
    simp at hu
    subst hu
    rfl
  · intro g cap w' h1 h2 h3 h4
    refine h g cap w' ?_ h2 h4
    unfold Ob
    rw [List.length_append, byteCells_snoc]
    exact h1
theorem app_byte {ops : Array Oper} {rest : List Oper} {o : Oper} {a : Act} {Q : Exit → Act → World → Prop} (w : World) (hgd : o.guard = none) (s x : Operand)
    (ho : o.op = .call { callee := .builtin .append, args := #[s, x], argTypes := #[108, 108] }) (base : Nat) (v : Value) (l : List UInt8) (hs : a.eval s = v) (hown : Ob w base v l)
    (ad : Addr) (b : UInt8) (hx : a.eval x = .slice (some ad) 1 1) (hd : w.cell? ad = some (.int .u8 (b.toNat : Nat))) (hl : l.length ≤ 2000000000) (hbase : base ≤ w.heap.size)
    (h : ∀ g cap w', Ob w' base (.slice (some ⟨g, 0, none⟩) (l.length + 1) cap) (l ++ [b]) → w.grownBy w' v.ownBlock → g < w'.heap.size → wpList Tryd.prog ops Q rest (a.put o.dst (.slice (some ⟨g, 0, none⟩) (l.length + 1) cap)) w') :
    wpList Tryd.prog ops Q (o :: rest) a w := by
  obtain ⟨i0, hi, hz0, hz1, hz2⟩ := info_parts info_byte
  refine wpList_append_lies w hgd s x 108 ho base 5 i0 (.int .u8 0) 1 1 Tryd.underlying108 hi hz0 hz1 hz2 rfl (by decide) v l.length _ hs hown ad 1 1 [.int .u8 (b.toNat : Nat)] hx rfl ?_ ?_ (by decide) (by unfold maxLen; omega) (by omega) hbase _ rfl ?_
  · intro j u hj
    match j, hj with
    | 0, hj => simp at hj; subst hj; exact hd
  · intro u hu
    simp at hu
    subst hu
    rfl
  · intro g cap w' h1 h2 h3 h4
    refine h g cap w' ?_ h2 h4
    unfold Ob
    rw [List.length_append, byteCells_snoc]
    exact h1

end Go.Proofs.YtelbdcljdfadbaaDoor

