/- A region that draws its order, in which calls that change memory stand in one order, and what else there is reads what they leave: it may be walked in an order of one's own. -/
import Derived.StillTail
import Derived.Below
namespace Go.Proofs.YtefepjiajgoomaaDoor
open Go Go.RowKit
set_option linter.unusedVariables false

section
variable {P : Program} {ops : Array Oper} {md : Region.Mode} {C : World → Prop} {Q : Exit → Act → World → Prop}

/-- the operation gives v in each of the worlds C, and turns nothing. -/
def YieldsS (P : Program) (ops : Array Oper) (C : World → Prop) (o : Oper) (v : Value) (a : Act) : Prop :=
  Region.wanted o (yielded ops a.tmps) = true ∧ ∀ W, C W → (execOp a.eval o).run P W = .ok (.value v) W
/-- the operation goes on, to a world of C. -/
def StepS (P : Program) (ops : Array Oper) (C : World → Prop) (o : Oper) (K : Act → World → Prop) (a : Act) (W : World) : Prop :=
  Region.wanted o (yielded ops a.tmps) = true ∧
   ((∃ v W', (execOp a.eval o).run P W = .ok (.value v) W' ∧ C W' ∧ K (a.put o.dst v) W') ∨ (∃ W', (execOp a.eval o).run P W = .ok .skip W' ∧ C W' ∧ K (a.put o.dst undef) W') ∨
    ∃ f args, (execOp a.eval o).run P W = .ok (.enter f args) W ∧ Calls P f args W (fun e w' => ∃ v, e = .returned v ∧ C w' ∧ K (a.put o.dst v) w'))
theorem StepS.mono {o : Oper} {K K' : Act → World → Prop} {a : Act} {W : World} (h : ∀ a W, C W → K a W → K' a W) (hh : StepS P ops C o K a W) : StepS P ops C o K' a W := by
  obtain ⟨h1, h2⟩ := hh
  refine ⟨h1, ?_⟩
  rcases h2 with ⟨v, W', e, hc, hk⟩ | ⟨W', e, hc, hk⟩ | ⟨f, args, e, hc⟩
  · exact .inl ⟨v, W', e, hc, h _ _ hc hk⟩
  · exact .inr (.inl ⟨W', e, hc, h _ _ hc hk⟩)
  · exact .inr (.inr ⟨f, args, e, hc.mono fun e w' ⟨v, he, hw, hk⟩ => ⟨v, he, hw, h _ _ hw hk⟩⟩)
theorem YieldsS.step {o : Oper} {v : Value} {K : Act → World → Prop} {a : Act} {W : World} (hy : YieldsS P ops C o v a) (hC : C W) (h : K (a.put o.dst v) W) : StepS P ops C o K a W :=
  ⟨hy.1, .inl ⟨v, W, hy.2 W hC, hC, h⟩⟩
theorem StepS.put {oi oj : Oper} {v : Value} (hap : oi.apart ops oj = true)
    (hsi : ∀ cs b, oi.op ≠ .select cs b) (hsj : ∀ cs b, oj.op ≠ .select cs b) {K : Act → World → Prop} {a : Act} {W : World}
    (hy : YieldsS P ops C oi v a) (h : StepS P ops C oj K (a.put oi.dst v) W) :
    StepS P ops C oj (fun a' w' => YieldsS P ops C oi v a' ∧ K (a'.put oi.dst v) w') a W := by
  obtain ⟨h1, h2, h3⟩ := Oper.apart_spec hap
  have keep : ∀ u, YieldsS P ops C oi v (a.put oj.dst u) := fun u => by
    unfold YieldsS at *
    rw [execOp_put oi hsi a oj.dst u h3, wanted_put oi a oj.dst u h3]
    exact hy
  unfold StepS at *
  rw [wanted_put oj a oi.dst v h1, execOp_put oj hsj a oi.dst v h1] at h
  obtain ⟨hw, h⟩ := h
  refine ⟨hw, ?_⟩
  rcases h with ⟨u, W', e, hc, hk⟩ | ⟨W', e, hc, hk⟩ | ⟨f, args, e, hc⟩
  · exact .inl ⟨u, W', e, hc, keep u, by rw [← Act.put_comm a v u h2]; exact hk⟩
  · exact .inr (.inl ⟨W', e, hc, keep _, by rw [← Act.put_comm a v _ h2]; exact hk⟩)
  · exact .inr (.inr ⟨f, args, e, hc.mono fun e w' ⟨u, he, hw, hk⟩ => ⟨u, he, hw, keep u, by rw [← Act.put_comm a v u h2]; exact hk⟩⟩)
def wpAnyS (P : Program) (md : Region.Mode) (ops : Array Oper) (C : World → Prop) (Q : Exit → Act → World → Prop) : Nat → Array Bool → Act → World → Prop
  | 0, listed, a, W => Region.ready md ops listed = [] ∧ Q .normal a W
  | f + 1, listed, a, W => Region.ready md ops listed ≠ [] ∧ ∀ i ∈ Region.ready md ops listed, ∃ o, ops[i]? = some o ∧ StepS P ops C o (wpAnyS P md ops C Q f (listed.setIfInBounds i true)) a W
theorem wpAny_of_S : ∀ (f : Nat) (listed : Array Bool) (a : Act) (W : World), wpAnyS P md ops C Q f listed a W → wpAny P md ops Q f listed a W
  | 0, listed, a, W, h => h
  | f + 1, listed, a, W, h => by
    refine ⟨fun h0 => absurd h0 h.1, fun i hi => ?_⟩
    obtain ⟨o, ho, hs⟩ := h.2 i hi
    unfold wpOp
    simp only [ho]
    obtain ⟨hw, hs⟩ := hs
    rw [if_pos hw]
    refine .inl ?_
    unfold Oper.wp
    rcases hs with ⟨v, W', e, -, hk⟩ | ⟨W', e, -, hk⟩ | ⟨g, args, e, hc⟩
    · rw [e]; exact wpAny_of_S f _ _ _ hk
    · rw [e]; exact wpAny_of_S f _ _ _ hk
    · rw [e]
      exact hc.mono fun e w' ⟨v, he, _, hk⟩ => by subst he; exact wpAny_of_S f _ _ _ hk
theorem wpAnyS_first {i : Nat} {oi : Oper} {v : Value} (hi : ops[i]? = some oi) (hsel : ∀ (j : Nat) (o : Oper) cs b, ops[j]? = some o → o.op ≠ .select cs b) :
    ∀ (f : Nat) (listed : Array Bool) (a : Act) (W : World),
      (∀ j oj, ops[j]? = some oj → j ≠ i → listed.getD j true = false → (∀ e ∈ oj.after, Region.binds md e = true → e.on ≠ i) → oi.apart ops oj = true) →
      i ∈ Region.ready md ops listed → YieldsS P ops C oi v a → C W →
      wpAnyS P md ops C Q f (listed.setIfInBounds i true) (a.put oi.dst v) W → wpAnyS P md ops C Q (f + 1) listed a W := by
  intro f
  induction f with
  | zero =>
    intro listed a W _ hr hy hC H
    refine ⟨fun h => (by rw [h] at hr; cases hr), fun j hj => ?_⟩
    by_cases hji : j = i
    · subst hji; exact ⟨oi, hi, hy.step hC H⟩
    · have := ready_mono hj hji
      rw [H.1] at this
      cases this
  | succ f ih =>
    intro listed a W hfree hr hy hC H
    refine ⟨fun h => (by rw [h] at hr; cases hr), fun j hj => ?_⟩
    by_cases hji : j = i
    · subst hji; exact ⟨oi, hi, hy.step hC H⟩
    · obtain ⟨o', ho', h1⟩ := H.2 j (ready_mono hj hji)
      obtain ⟨hjun, oj, hoj, hall⟩ := mem_ready.1 hj
      obtain rfl : o' = oj := Option.some.inj (ho'.symm.trans hoj)
      have hnot : ∀ e ∈ o'.after, Region.binds md e = true → e.on ≠ i := fun e he hb heq => by
        have h1 := hall e he hb
        have h0 := (mem_ready.1 hr).1
        rw [heq, getD_both h0] at h1
        cases h1
      have h2 := StepS.put (hfree j o' hoj hji hjun hnot) (fun cs b => hsel i oi cs b hi) (fun cs b => hsel j o' cs b hoj) hy h1
      have hfree' : ∀ k ok, ops[k]? = some ok → k ≠ i → (listed.setIfInBounds j true).getD k true = false →
          (∀ e ∈ ok.after, Region.binds md e = true → e.on ≠ i) → oi.apart ops ok = true := fun k ok hk hki hun hno => by
        refine hfree k ok hk hki ?_ hno
        by_cases hjk : j = k
        · subst hjk; exact hjun
        · rw [getD_set_ne true hjk] at hun; exact hun
      refine ⟨o', hoj, h2.mono fun a' W' hC' h3 => ih (listed.setIfInBounds j true) a' W' hfree' (ready_mono hr (Ne.symm hji)) h3.1 hC' ?_⟩
      rw [Array.setIfInBounds_comm _ _ hji]
      exact h3.2
/-- an order of one's own: those marked true read, and may come at any time; of the others each is the only one that may come. -/
def wpSched (P : Program) (ops : Array Oper) (C : World → Prop) (Q : Exit → Act → World → Prop) : List (Bool × Nat) → Act → World → Prop
  | [], a, W => Q .normal a W
  | (true, i) :: r, a, W => ∃ o v, ops[i]? = some o ∧ YieldsS P ops C o v a ∧ wpSched P ops C Q r (a.put o.dst v) W
  | (false, i) :: r, a, W => ∃ o, ops[i]? = some o ∧ StepS P ops C o (wpSched P ops C Q r) a W
def schedB (md : Region.Mode) (ops : Array Oper) : List (Bool × Nat) → Array Bool → Bool
  | [], listed => (Region.ready md ops listed).isEmpty
  | (true, i) :: r, listed => (Region.ready md ops listed).contains i && (Region.free md ops listed i && schedB md ops r (listed.setIfInBounds i true))
  | (false, i) :: r, listed => decide (Region.ready md ops listed = [i]) && schedB md ops r (listed.setIfInBounds i true)
theorem wpAnyS_of_sched (hsel : Region.noSelect ops = true) : ∀ (s : List (Bool × Nat)) (listed : Array Bool) (a : Act) (W : World), schedB md ops s listed = true → C W → wpSched P ops C Q s a W → wpAnyS P md ops C Q s.length listed a W
  | [], listed, a, W, hB, hC, h => ⟨by simpa [schedB] using hB, h⟩
  | (true, i) :: r, listed, a, W, hB, hC, h => by
    simp only [schedB, Bool.and_eq_true] at hB
    obtain ⟨hr, hf, hB⟩ := hB
    obtain ⟨o, v, ho, hy, hk⟩ := h
    have hr' : i ∈ Region.ready md ops listed := by simpa using hr
    exact wpAnyS_first ho (Region.noSelect_spec hsel) r.length listed a W (Region.free_spec ho hf) hr' hy hC (wpAnyS_of_sched hsel r _ _ _ hB hC hk)
  | (false, i) :: r, listed, a, W, hB, hC, h => by
    simp only [schedB, Bool.and_eq_true, decide_eq_true_eq] at hB
    obtain ⟨hr, hB⟩ := hB
    obtain ⟨o, ho, hs⟩ := h
    refine ⟨fun h => (by rw [hr] at h; cases h), fun j hj => ?_⟩
    rw [hr] at hj
    obtain rfl : j = i := by simpa using hj
    exact ⟨o, ho, hs.mono fun a' W' hC' hk => wpAnyS_of_sched hsel r _ _ _ hB hC' hk⟩
theorem wp_region_sched {id : Nat} {a : Act} {w : World} (s : List (Bool × Nat)) (C : World → Prop) (hm : P.follows .mixedOrders = true) (hs : Region.noSelect ops = true) (hl : s.length = ops.size) (hB : schedB .any ops s (Array.replicate ops.size false) = true)
    (hC : C { w with drawn := w.drawn + 1 }) (h : wpSched P ops C Q s a { w with drawn := w.drawn + 1 }) : (Code.region id ops true).wp P Q a w := by
  refine wp_region_any hm ?_
  rw [← hl]
  exact wpAny_of_S _ _ _ _ (wpAnyS_of_sched hs s _ a _ (by rw [hl]; exact hB) hC h)
theorem sched_read {i : Nat} {r : List (Bool × Nat)} {o : Oper} {a : Act} {W : World} (ho : ops[i]? = some o) (v : Value) (hw : Region.wanted o (yielded ops a.tmps) = true) (hr : ∀ W, C W → (execOp a.eval o).run P W = .ok (.value v) W) (h : wpSched P ops C Q r (a.put o.dst v) W) : wpSched P ops C Q ((true, i) :: r) a W :=
  ⟨o, v, ho, ⟨hw, hr⟩, h⟩
theorem sched_call {i : Nat} {r : List (Bool × Nat)} {o : Oper} {a : Act} {W : World} (ho : ops[i]? = some o) (f : FuncId) (args : Array Value) (hw : Region.wanted o (yielded ops a.tmps) = true) (hr : (execOp a.eval o).run P W = .ok (.enter f args) W)
    (hc : Calls P f args W (fun e w' => ∃ v, e = .returned v ∧ C w' ∧ wpSched P ops C Q r (a.put o.dst v) w')) : wpSched P ops C Q ((false, i) :: r) a W :=
  ⟨o, ho, hw, .inr (.inr ⟨f, args, hr, hc⟩)⟩
theorem sched_value {i : Nat} {r : List (Bool × Nat)} {o : Oper} {a : Act} {W : World} (ho : ops[i]? = some o) (v : Value) (W' : World) (hw : Region.wanted o (yielded ops a.tmps) = true) (hr : (execOp a.eval o).run P W = .ok (.value v) W') (hC : C W') (h : wpSched P ops C Q r (a.put o.dst v) W') : wpSched P ops C Q ((false, i) :: r) a W :=
  ⟨o, ho, hw, .inl ⟨v, W', hr, hC, h⟩⟩
theorem sched_skip {i : Nat} {r : List (Bool × Nat)} {o : Oper} {a : Act} {W : World} (ho : ops[i]? = some o) (W' : World) (hw : Region.wanted o (yielded ops a.tmps) = true) (hr : (execOp a.eval o).run P W = .ok .skip W') (hC : C W') (h : wpSched P ops C Q r (a.put o.dst undef) W') : wpSched P ops C Q ((false, i) :: r) a W :=
  ⟨o, ho, hw, .inr (.inl ⟨W', hr, hC, h⟩)⟩
end
end Go.Proofs.YtefepjiajgoomaaDoor
