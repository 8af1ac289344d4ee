/- A region that draws its order, in which calls that change memory stand in one order, and what else there is reads what they leave: it may be walked in an order of one's own. · A region that draws its order: what reads, and calls in one order, first, in an order of one's own; then what turns what was read, each the only one that may come. · The walk of FeedBack, out of the contracts of package feed. -/
import Derived.StillTail
import Derived.Below
import Derived.Test.YtifijfaefpdmpaaZFeedBack2
namespace Go.Proofs.Ytifijfaefpdmpaa
open Go Go.RowKit
set_option linter.unusedVariables false

section
variable {P : Program} {ops : Array Oper} {md : Region.Mode} {C : World → Prop} {Q : Exit → Act → World → Prop}

/-- the operation gives v in each of the worlds C, and turns nothing. -/
def YieldsS (P : Program) (ops : Array Oper) (C : World → Prop) (o : Oper) (v : Value) (a : Act) : Prop :=
  Region.wanted o (yielded ops a.tmps) = true ∧ ∀ W, C W → (execOp a.eval o).run P W = .ok (.value v) W
/-- the operation goes on, to a world of C. -/
def StepS (P : Program) (ops : Array Oper) (C : World → Prop) (o : Oper) (K : Act → World → Prop) (a : Act) (W : World) : Prop :=
  Region.wanted o (yielded ops a.tmps) = true ∧
   ((∃ v W', (execOp a.eval o).run P W = .ok (.value v) W' ∧ C W' ∧ K (a.put o.dst v) W') ∨ (∃ W', (execOp a.eval o).run P W = .ok .skip W' ∧ C W' ∧ K (a.put o.dst undef) W') ∨
    ∃ f args, (execOp a.eval o).run P W = .ok (.enter f args) W ∧ Calls P f args W (fun e w' => ∃ v, e = .returned v ∧ C w' ∧ K (a.put o.dst v) w'))
theorem StepS.mono {o : Oper} {K K' : Act → World → Prop} {a : Act} {W : World} (h : ∀ a W, C W → K a W → K' a W) (hh : StepS P ops C o K a W) : StepS P ops C o K' a W := by
  obtain ⟨h1, h2⟩ := hh
  refine ⟨h1, ?_⟩
  rcases h2 with ⟨v, W', e, hc, hk⟩ | ⟨W', e, hc, hk⟩ | ⟨f, args, e, hc⟩
  · exact .inl ⟨v, W', e, hc, h _ _ hc hk⟩
  · exact .inr (.inl ⟨W', e, hc, h _ _ hc hk⟩)
  · exact .inr (.inr ⟨f, args, e, hc.mono fun e w' ⟨v, he, hw, hk⟩ => ⟨v, he, hw, h _ _ hw hk⟩⟩)
theorem YieldsS.step {o : Oper} {v : Value} {K : Act → World → Prop} {a : Act} {W : World} (hy : YieldsS P ops C o v a) (hC : C W) (h : K (a.put o.dst v) W) : StepS P ops C o K a W :=
  ⟨hy.1, .inl ⟨v, W, hy.2 W hC, hC, h⟩⟩
theorem StepS.put {oi oj : Oper} {v : Value} (hap : oi.apart ops oj = true)
    (hsi : ∀ cs b, oi.op ≠ .select cs b) (hsj : ∀ cs b, oj.op ≠ .select cs b) {K : Act → World → Prop} {a : Act} {W : World}
    (hy : YieldsS P ops C oi v a) (h : StepS P ops C oj K (a.put oi.dst v) W) :
    StepS P ops C oj (fun a' w' => YieldsS P ops C oi v a' ∧ K (a'.put oi.dst v) w') a W := by
  obtain ⟨h1, h2, h3⟩ := Oper.apart_spec hap
  have keep : ∀ u, YieldsS P ops C oi v (a.put oj.dst u) := fun u => by
    unfold YieldsS at *
    rw [execOp_put oi hsi a oj.dst u h3, wanted_put oi a oj.dst u h3]
    exact hy
  unfold StepS at *
  rw [wanted_put oj a oi.dst v h1, execOp_put oj hsj a oi.dst v h1] at h
  obtain ⟨hw, h⟩ := h
  refine ⟨hw, ?_⟩
  rcases h with ⟨u, W', e, hc, hk⟩ | ⟨W', e, hc, hk⟩ | ⟨f, args, e, hc⟩
  · exact .inl ⟨u, W', e, hc, keep u, by rw [← Act.put_comm a v u h2]; exact hk⟩
  · exact .inr (.inl ⟨W', e, hc, keep _, by rw [← Act.put_comm a v _ h2]; exact hk⟩)
  · exact .inr (.inr ⟨f, args, e, hc.mono fun e w' ⟨u, he, hw, hk⟩ => ⟨u, he, hw, keep u, by rw [← Act.put_comm a v u h2]; exact hk⟩⟩)
def wpAnyS (P : Program) (md : Region.Mode) (ops : Array Oper) (C : World → Prop) (Q : Exit → Act → World → Prop) : Nat → Array Bool → Act → World → Prop
  | 0, listed, a, W => Region.ready md ops listed = [] ∧ Q .normal a W
  | f + 1, listed, a, W => Region.ready md ops listed ≠ [] ∧ ∀ i ∈ Region.ready md ops listed, ∃ o, ops[i]? = some o ∧ StepS P ops C o (wpAnyS P md ops C Q f (listed.setIfInBounds i true)) a W
theorem wpAny_of_S : ∀ (f : Nat) (listed : Array Bool) (a : Act) (W : World), wpAnyS P md ops C Q f listed a W → wpAny P md ops Q f listed a W
  | 0, listed, a, W, h => h
  | f + 1, listed, a, W, h => by
    refine ⟨fun h0 => absurd h0 h.1, fun i hi => ?_⟩
    obtain ⟨o, ho, hs⟩ := h.2 i hi
    unfold wpOp
    simp only [ho]
    obtain ⟨hw, hs⟩ := hs
    rw [if_pos hw]
    refine .inl ?_
    unfold Oper.wp
    rcases hs with ⟨v, W', e, -, hk⟩ | ⟨W', e, -, hk⟩ | ⟨g, args, e, hc⟩
    · rw [e]; exact wpAny_of_S f _ _ _ hk
    · rw [e]; exact wpAny_of_S f _ _ _ hk
    · rw [e]
      exact hc.mono fun e w' ⟨v, he, _, hk⟩ => by subst he; exact wpAny_of_S f _ _ _ hk
theorem wpAnyS_first {i : Nat} {oi : Oper} {v : Value} (hi : ops[i]? = some oi) (hsel : ∀ (j : Nat) (o : Oper) cs b, ops[j]? = some o → o.op ≠ .select cs b) :
    ∀ (f : Nat) (listed : Array Bool) (a : Act) (W : World),
      (∀ j oj, ops[j]? = some oj → j ≠ i → listed.getD j true = false → (∀ e ∈ oj.after, Region.binds md e = true → e.on ≠ i) → oi.apart ops oj = true) →
      i ∈ Region.ready md ops listed → YieldsS P ops C oi v a → C W →
      wpAnyS P md ops C Q f (listed.setIfInBounds i true) (a.put oi.dst v) W → wpAnyS P md ops C Q (f + 1) listed a W := by
  intro f
  induction f with
  | zero =>
    intro listed a W _ hr hy hC H
    refine ⟨fun h => (by rw [h] at hr; cases hr), fun j hj => ?_⟩
    by_cases hji : j = i
    · subst hji; exact ⟨oi, hi, hy.step hC H⟩
    · have := ready_mono hj hji
      rw [H.1] at this
      cases this
  | succ f ih =>
    intro listed a W hfree hr hy hC H
    refine ⟨fun h => (by rw [h] at hr; cases hr), fun j hj => ?_⟩
    by_cases hji : j = i
    · subst hji; exact ⟨oi, hi, hy.step hC H⟩
    · obtain ⟨o', ho', h1⟩ := H.2 j (ready_mono hj hji)
      obtain ⟨hjun, oj, hoj, hall⟩ := mem_ready.1 hj
      obtain rfl : o' = oj := Option.some.inj (ho'.symm.trans hoj)
      have hnot : ∀ e ∈ o'.after, Region.binds md e = true → e.on ≠ i := fun e he hb heq => by
        have h1 := hall e he hb
        have h0 := (mem_ready.1 hr).1
        rw [heq, getD_both h0] at h1
        cases h1
      have h2 := StepS.put (hfree j o' hoj hji hjun hnot) (fun cs b => hsel i oi cs b hi) (fun cs b => hsel j o' cs b hoj) hy h1
      have hfree' : ∀ k ok, ops[k]? = some ok → k ≠ i → (listed.setIfInBounds j true).getD k true = false →
          (∀ e ∈ ok.after, Region.binds md e = true → e.on ≠ i) → oi.apart ops ok = true := fun k ok hk hki hun hno => by
        refine hfree k ok hk hki ?_ hno
        by_cases hjk : j = k
        · subst hjk; exact hjun
        · rw [getD_set_ne true hjk] at hun; exact hun
      refine ⟨o', hoj, h2.mono fun a' W' hC' h3 => ih (listed.setIfInBounds j true) a' W' hfree' (ready_mono hr (Ne.symm hji)) h3.1 hC' ?_⟩
      rw [Array.setIfInBounds_comm _ _ hji]
      exact h3.2
/-- an order of one's own: those marked true read, and may come at any time; of the others each is the only one that may come. -/
def wpSched (P : Program) (ops : Array Oper) (C : World → Prop) (Q : Exit → Act → World → Prop) : List (Bool × Nat) → Act → World → Prop
  | [], a, W => Q .normal a W
  | (true, i) :: r, a, W => ∃ o v, ops[i]? = some o ∧ YieldsS P ops C o v a ∧ wpSched P ops C Q r (a.put o.dst v) W
  | (false, i) :: r, a, W => ∃ o, ops[i]? = some o ∧ StepS P ops C o (wpSched P ops C Q r) a W
def schedB (md : Region.Mode) (ops : Array Oper) : List (Bool × Nat) → Array Bool → Bool
  | [], listed => (Region.ready md ops listed).isEmpty
  | (true, i) :: r, listed => (Region.ready md ops listed).contains i && (Region.free md ops listed i && schedB md ops r (listed.setIfInBounds i true))
  | (false, i) :: r, listed => decide (Region.ready md ops listed = [i]) && schedB md ops r (listed.setIfInBounds i true)
theorem wpAnyS_of_sched (hsel : Region.noSelect ops = true) : ∀ (s : List (Bool × Nat)) (listed : Array Bool) (a : Act) (W : World), schedB md ops s listed = true → C W → wpSched P ops C Q s a W → wpAnyS P md ops C Q s.length listed a W
  | [], listed, a, W, hB, hC, h => ⟨by simpa [schedB] using hB, h⟩
  | (true, i) :: r, listed, a, W, hB, hC, h => by
    simp only [schedB, Bool.and_eq_true] at hB
    obtain ⟨hr, hf, hB⟩ := hB
    obtain ⟨o, v, ho, hy, hk⟩ := h
    have hr' : i ∈ Region.ready md ops listed := by simpa using hr
    exact wpAnyS_first ho (Region.noSelect_spec hsel) r.length listed a W (Region.free_spec ho hf) hr' hy hC (wpAnyS_of_sched hsel r _ _ _ hB hC hk)
  | (false, i) :: r, listed, a, W, hB, hC, h => by
    simp only [schedB, Bool.and_eq_true, decide_eq_true_eq] at hB
    obtain ⟨hr, hB⟩ := hB
    obtain ⟨o, ho, hs⟩ := h
    refine ⟨fun h => (by rw [hr] at h; cases h), fun j hj => ?_⟩
    rw [hr] at hj
    obtain rfl : j = i := by simpa using hj
    exact ⟨o, ho, hs.mono fun a' W' hC' hk => wpAnyS_of_sched hsel r _ _ _ hB hC' hk⟩
theorem wp_region_sched {id : Nat} {a : Act} {w : World} (s : List (Bool × Nat)) (C : World → Prop) (hm : P.follows .mixedOrders = true) (hs : Region.noSelect ops = true) (hl : s.length = ops.size) (hB : schedB .any ops s (Array.replicate ops.size false) = true)
    (hC : C { w with drawn := w.drawn + 1 }) (h : wpSched P ops C Q s a { w with drawn := w.drawn + 1 }) : (Code.region id ops true).wp P Q a w := by
  refine wp_region_any hm ?_
  rw [← hl]
  exact wpAny_of_S _ _ _ _ (wpAnyS_of_sched hs s _ a _ (by rw [hl]; exact hB) hC h)
theorem sched_read {i : Nat} {r : List (Bool × Nat)} {o : Oper} {a : Act} {W : World} (ho : ops[i]? = some o) (v : Value) (hw : Region.wanted o (yielded ops a.tmps) = true) (hr : ∀ W, C W → (execOp a.eval o).run P W = .ok (.value v) W) (h : wpSched P ops C Q r (a.put o.dst v) W) : wpSched P ops C Q ((true, i) :: r) a W :=
  ⟨o, v, ho, ⟨hw, hr⟩, h⟩
theorem sched_call {i : Nat} {r : List (Bool × Nat)} {o : Oper} {a : Act} {W : World} (ho : ops[i]? = some o) (f : FuncId) (args : Array Value) (hw : Region.wanted o (yielded ops a.tmps) = true) (hr : (execOp a.eval o).run P W = .ok (.enter f args) W)
    (hc : Calls P f args W (fun e w' => ∃ v, e = .returned v ∧ C w' ∧ wpSched P ops C Q r (a.put o.dst v) w')) : wpSched P ops C Q ((false, i) :: r) a W :=
  ⟨o, ho, hw, .inr (.inr ⟨f, args, hr, hc⟩)⟩
theorem sched_value {i : Nat} {r : List (Bool × Nat)} {o : Oper} {a : Act} {W : World} (ho : ops[i]? = some o) (v : Value) (W' : World) (hw : Region.wanted o (yielded ops a.tmps) = true) (hr : (execOp a.eval o).run P W = .ok (.value v) W') (hC : C W') (h : wpSched P ops C Q r (a.put o.dst v) W') : wpSched P ops C Q ((false, i) :: r) a W :=
  ⟨o, ho, hw, .inl ⟨v, W', hr, hC, h⟩⟩
theorem sched_skip {i : Nat} {r : List (Bool × Nat)} {o : Oper} {a : Act} {W : World} (ho : ops[i]? = some o) (W' : World) (hw : Region.wanted o (yielded ops a.tmps) = true) (hr : (execOp a.eval o).run P W = .ok .skip W') (hC : C W') (h : wpSched P ops C Q r (a.put o.dst undef) W') : wpSched P ops C Q ((false, i) :: r) a W :=
  ⟨o, ho, hw, .inr (.inl ⟨W', hr, hC, h⟩)⟩
end
end Go.Proofs.Ytifijfaefpdmpaa

namespace Go.Proofs.Ytifijfaefpdmpaa
open Go Go.RowKit
set_option linter.unusedVariables false

section
variable {P : Program} {ops : Array Oper} {md : Region.Mode} {C : World → Prop} {Q : Exit → Act → World → Prop} {L : Array Bool → Act → World → Prop}

def wpAnyT (P : Program) (md : Region.Mode) (ops : Array Oper) (C : World → Prop) (L : Array Bool → Act → World → Prop) : Nat → Array Bool → Act → World → Prop
  | 0, listed, a, W => L listed a W
  | f + 1, listed, a, W => Region.ready md ops listed ≠ [] ∧ ∀ i ∈ Region.ready md ops listed, ∃ o, ops[i]? = some o ∧ StepS P ops C o (wpAnyT P md ops C L f (listed.setIfInBounds i true)) a W
theorem wpAny_of_T {g : Nat} (hL : ∀ listed a W, L listed a W → wpAny P md ops Q g listed a W) : ∀ (f : Nat) (listed : Array Bool) (a : Act) (W : World), wpAnyT P md ops C L f listed a W → wpAny P md ops Q (f + g) listed a W
  | 0, listed, a, W, h => by rw [Nat.zero_add]; exact hL _ _ _ h
  | f + 1, listed, a, W, h => by
    rw [show f + 1 + g = (f + g) + 1 by omega]
    refine ⟨fun h0 => absurd h0 h.1, fun i hi => ?_⟩
    obtain ⟨o, ho, hs⟩ := h.2 i hi
    unfold wpOp
    simp only [ho]
    obtain ⟨hw, hs⟩ := hs
    rw [if_pos hw]
    refine .inl ?_
    unfold Oper.wp
    rcases hs with ⟨v, W', e, -, hk⟩ | ⟨W', e, -, hk⟩ | ⟨k, args, e, hc⟩
    · rw [e]; exact wpAny_of_T hL f _ _ _ hk
    · rw [e]; exact wpAny_of_T hL f _ _ _ hk
    · rw [e]
      exact hc.mono fun e w' ⟨v, he, _, hk⟩ => by subst he; exact wpAny_of_T hL f _ _ _ hk
theorem unset_of {l H : Array Bool} {i : Nat} (h0 : l.getD i true = false) (e : l.setIfInBounds i true = H) : l = H.setIfInBounds i false := by
  subst e
  apply Array.ext_getElem?
  intro k
  by_cases hk : i = k
  · subst hk
    rcases Nat.lt_or_ge i l.size with hl | hl
    · simp [Array.getD, hl] at h0
      simp [hl, h0]
    · simp [Array.getD, Nat.not_lt.2 hl] at h0
  · simp [hk]
/-- what is listed has all that it waits for. -/
def Clos (md : Region.Mode) (ops : Array Oper) (listed : Array Bool) : Prop := ∀ (j : Nat) (oj : Oper), ops[j]? = some oj → listed.getD j false = true → ∀ e ∈ oj.after, Region.binds md e = true → listed.getD e.on false = true
theorem Clos.set {i : Nat} {listed : Array Bool} (inv : Clos md ops listed) (hi : i ∈ Region.ready md ops listed) : Clos md ops (listed.setIfInBounds i true) := by
  obtain ⟨_, oi, hoi, hall⟩ := mem_ready.1 hi
  intro j oj hj hl e he hb
  by_cases hij : i = j
  · subst hij
    have : oj = oi := Option.some.inj (hj.symm.trans hoi)
    subst this
    exact getD_set_true (hall e he hb)
  · rw [getD_set_ne false hij] at hl
    exact getD_set_true (inv j oj hj hl e he hb)
/-- one that is listed waits for i. -/
def waits (md : Region.Mode) (ops : Array Oper) (H0 : Array Bool) (i : Nat) : Bool := (List.range ops.size).any fun j => H0.getD j false && (decide (j ≠ i) && match ops[j]? with | some o => o.after.any fun e => Region.binds md e && decide (e.on = i) | none => false)
theorem waits_spec {H0 : Array Bool} {i : Nat} (h : waits md ops H0 i = true) : ∃ j o, ops[j]? = some o ∧ j ≠ i ∧ H0.getD j false = true ∧ ∃ e ∈ o.after, Region.binds md e = true ∧ e.on = i := by
  unfold waits at h
  obtain ⟨j, -, hj⟩ := List.any_eq_true.1 h
  simp only [Bool.and_eq_true, decide_eq_true_eq] at hj
  obtain ⟨h1, h2, h3⟩ := hj
  cases ho : ops[j]? with
  | none => rw [ho] at h3; cases h3
  | some o =>
    rw [ho] at h3
    obtain ⟨k, hk, he⟩ := Array.any_eq_true.1 h3
    simp only [Bool.and_eq_true, decide_eq_true_eq] at he
    exact ⟨j, o, ho, h2, h1, o.after[k], Array.getElem_mem hk, he.1, he.2⟩
theorem wpAnyT_first {i : Nat} {oi : Oper} {v : Value} {H0 : Array Bool} (hi : ops[i]? = some oi) (hsel : ∀ (j : Nat) (o : Oper) cs b, ops[j]? = some o → o.op ≠ .select cs b)
    (hH : waits md ops H0 i = true ∨ Region.ready md ops (H0.setIfInBounds i false) = [i]) (hLH : ∀ listed a W, L listed a W → listed = H0) :
    ∀ (f : Nat) (listed : Array Bool) (a : Act) (W : World), Clos md ops listed →
      (∀ j oj, ops[j]? = some oj → j ≠ i → listed.getD j true = false → (∀ e ∈ oj.after, Region.binds md e = true → e.on ≠ i) → oi.apart ops oj = true) →
      i ∈ Region.ready md ops listed → YieldsS P ops C oi v a → C W →
      wpAnyT P md ops C L f (listed.setIfInBounds i true) (a.put oi.dst v) W → wpAnyT P md ops C L (f + 1) listed a W := by
  intro f
  induction f with
  | zero =>
    intro listed a W inv _ hr hy hC H
    refine ⟨fun h => (by rw [h] at hr; cases hr), fun j hj => ?_⟩
    by_cases hji : j = i
    · subst hji; exact ⟨oi, hi, hy.step hC H⟩
    · rcases hH with hH | hH
      · obtain ⟨k, ok, hk, hki, hkl, e, he, hb, heq⟩ := waits_spec hH
        rw [← hLH _ _ _ H, getD_set_ne false (Ne.symm hki)] at hkl
        have h1 := inv k ok hk hkl e he hb
        rw [heq, getD_both (mem_ready.1 hr).1] at h1
        cases h1
      · have e := unset_of (mem_ready.1 hr).1 (hLH _ _ _ H)
        rw [e, hH] at hj
        exact absurd (by simpa using hj) hji
  | succ f ih =>
    intro listed a W inv hfree hr hy hC H
    refine ⟨fun h => (by rw [h] at hr; cases hr), fun j hj => ?_⟩
    by_cases hji : j = i
    · subst hji; exact ⟨oi, hi, hy.step hC H⟩
    · obtain ⟨o', ho', h1⟩ := H.2 j (ready_mono hj hji)
      obtain ⟨hjun, oj, hoj, hall⟩ := mem_ready.1 hj
      obtain rfl : o' = oj := Option.some.inj (ho'.symm.trans hoj)
      have hnot : ∀ e ∈ o'.after, Region.binds md e = true → e.on ≠ i := fun e he hb heq => by
        have h1 := hall e he hb
        have h0 := (mem_ready.1 hr).1
        rw [heq, getD_both h0] at h1
        cases h1
      have h2 := StepS.put (hfree j o' hoj hji hjun hnot) (fun cs b => hsel i oi cs b hi) (fun cs b => hsel j o' cs b hoj) hy h1
      have hfree' : ∀ k ok, ops[k]? = some ok → k ≠ i → (listed.setIfInBounds j true).getD k true = false →
          (∀ e ∈ ok.after, Region.binds md e = true → e.on ≠ i) → oi.apart ops ok = true := fun k ok hk hki hun hno => by
        refine hfree k ok hk hki ?_ hno
        by_cases hjk : j = k
        · subst hjk; exact hjun
        · rw [getD_set_ne true hjk] at hun; exact hun
      refine ⟨o', hoj, h2.mono fun a' W' hC' h3 => ih (listed.setIfInBounds j true) a' W' (inv.set hj) hfree' (ready_mono hr (Ne.symm hji)) h3.1 hC' ?_⟩
      rw [Array.setIfInBounds_comm _ _ hji]
      exact h3.2
/-- the head, in an order of one's own; K behind it. -/
def wpHeadT (P : Program) (ops : Array Oper) (C : World → Prop) (K : Act → World → Prop) : List (Bool × Nat) → Act → World → Prop
  | [], a, W => K a W
  | (true, i) :: r, a, W => ∃ o v, ops[i]? = some o ∧ YieldsS P ops C o v a ∧ wpHeadT P ops C K r (a.put o.dst v) W
  | (false, i) :: r, a, W => ∃ o, ops[i]? = some o ∧ StepS P ops C o (wpHeadT P ops C K r) a W
def headB (md : Region.Mode) (ops : Array Oper) (H0 : Array Bool) : List (Bool × Nat) → Array Bool → Bool
  | [], listed => decide (listed = H0)
  | (true, i) :: r, listed => (Region.ready md ops listed).contains i && (Region.free md ops listed i && ((waits md ops H0 i || decide (Region.ready md ops (H0.setIfInBounds i false) = [i])) && headB md ops H0 r (listed.setIfInBounds i true)))
  | (false, i) :: r, listed => decide (Region.ready md ops listed = [i]) && headB md ops H0 r (listed.setIfInBounds i true)
theorem wpAnyT_of_head {K : Act → World → Prop} {H0 : Array Bool} (hsel : Region.noSelect ops = true) : ∀ (s : List (Bool × Nat)) (listed : Array Bool) (a : Act) (W : World), Clos md ops listed → headB md ops H0 s listed = true → C W → wpHeadT P ops C K s a W → wpAnyT P md ops C (fun l a W => l = H0 ∧ K a W) s.length listed a W
  | [], listed, a, W, inv, hB, hC, h => ⟨of_decide_eq_true hB, h⟩
  | (true, i) :: r, listed, a, W, inv, hB, hC, h => by
    simp only [headB, Bool.and_eq_true, Bool.or_eq_true, decide_eq_true_eq] at hB
    obtain ⟨hr, hf, hH, hB⟩ := hB
    obtain ⟨o, v, ho, hy, hk⟩ := h
    have hr' : i ∈ Region.ready md ops listed := by simpa using hr
    exact wpAnyT_first ho (Region.noSelect_spec hsel) hH (fun _ _ _ h => h.1) r.length listed a W inv (Region.free_spec ho hf) hr' hy hC (wpAnyT_of_head hsel r _ _ _ (inv.set hr') hB hC hk)
  | (false, i) :: r, listed, a, W, inv, hB, hC, h => by
    simp only [headB, Bool.and_eq_true, decide_eq_true_eq] at hB
    obtain ⟨hr, hB⟩ := hB
    obtain ⟨o, ho, hs⟩ := h
    refine ⟨fun h => (by rw [hr] at h; cases h), fun j hj => ?_⟩
    have hr' : i ∈ Region.ready md ops listed := by rw [hr]; simp
    rw [hr] at hj
    obtain rfl : j = i := by simpa using hj
    exact ⟨o, ho, hs.mono fun a' W' hC' hk => wpAnyT_of_head hsel r _ _ _ (inv.set hr') hB hC' hk⟩
def listedBy (n : Nat) (s : List (Bool × Nat)) : Array Bool := s.foldl (fun l p => l.setIfInBounds p.2 true) (Array.replicate n false)
/-- the region: its head s, in the worlds C; its tail t. -/
theorem wp_region_two {id : Nat} {a : Act} {w : World} (s t : List (Bool × Nat)) (C : World → Prop) (hm : P.follows .mixedOrders = true) (hs : Region.noSelect ops = true) (hl : s.length + t.length = ops.size) (hB : headB .any ops (listedBy ops.size s) s (Array.replicate ops.size false) = true)
    (hT : schedB .any ops t (listedBy ops.size s) = true)
    (hC : C { w with drawn := w.drawn + 1 }) (h : wpHeadT P ops C (wpSched P ops (fun _ => True) Q t) s a { w with drawn := w.drawn + 1 }) : (Code.region id ops true).wp P Q a w := by
  refine wp_region_any hm ?_
  rw [← hl]
  refine wpAny_of_T (g := t.length) (fun listed a W hh => ?_) _ _ _ _ (wpAnyT_of_head (H0 := listedBy ops.size s) hs s _ a _ (fun j oj _ hj => by rw [getD_replicate_false] at hj; cases hj) (by rw [hl]; exact hB) hC h)
  obtain ⟨rfl, hk⟩ := hh
  exact wpAny_of_S _ _ _ _ (wpAnyS_of_sched hs t _ a W hT trivial hk)
theorem headT_read {K : Act → World → Prop} {i : Nat} {r : List (Bool × Nat)} {o : Oper} {a : Act} {W : World} (ho : ops[i]? = some o) (v : Value) (hw : Region.wanted o (yielded ops a.tmps) = true) (hr : ∀ W, C W → (execOp a.eval o).run P W = .ok (.value v) W) (h : wpHeadT P ops C K r (a.put o.dst v) W) : wpHeadT P ops C K ((true, i) :: r) a W :=
  ⟨o, v, ho, ⟨hw, hr⟩, h⟩
theorem headT_call {K : Act → World → Prop} {i : Nat} {r : List (Bool × Nat)} {o : Oper} {a : Act} {W : World} (ho : ops[i]? = some o) (f : FuncId) (args : Array Value) (hw : Region.wanted o (yielded ops a.tmps) = true) (hr : (execOp a.eval o).run P W = .ok (.enter f args) W)
    (hc : Calls P f args W (fun e w' => ∃ v, e = .returned v ∧ C w' ∧ wpHeadT P ops C K r (a.put o.dst v) w')) : wpHeadT P ops C K ((false, i) :: r) a W :=
  ⟨o, ho, hw, .inr (.inr ⟨f, args, hr, hc⟩)⟩
theorem exec_append {o : Oper} {a : Act} {w w' : World} {v' : Value} (s x : Operand) (t tx : TypeId) (ho : o.op = .call { callee := .builtin .append, args := #[s, x], argTypes := #[t, tx] }) (v xv : Value) (hs : a.eval s = v) (hx : a.eval x = xv)
    (hr : (Builtin.append_ #[t, tx] o.type #[v, xv]).run P w = .ok v' w') : (execOp a.eval o).run P w = .ok (.value v') w' := by
  unfold execOp
  simp only [ho, resolve, invoke, builtin, Sem.run_bind, Sem.run_pure, Result.andThen_ok, List.map_toArray, List.map_cons, List.map_nil, hs, hx, hr]
theorem headT_value {K : Act → World → Prop} {i : Nat} {r : List (Bool × Nat)} {o : Oper} {a : Act} {W : World} (ho : ops[i]? = some o) (v : Value) (W' : World) (hw : Region.wanted o (yielded ops a.tmps) = true) (hr : (execOp a.eval o).run P W = .ok (.value v) W') (hC : C W') (h : wpHeadT P ops C K r (a.put o.dst v) W') : wpHeadT P ops C K ((false, i) :: r) a W :=
  ⟨o, ho, hw, .inl ⟨v, W', hr, hC, h⟩⟩
end
end Go.Proofs.Ytifijfaefpdmpaa

namespace Go.Proofs.Ytifijfaefpdmpaa.feedBack
open Go.RowKit
set_option linter.unusedVariables false

theorem fact_diff : Fe.diff [97, 98] [97, 99] = [⟨1, 98, 99⟩] := by
  have h0 : Fe.bat [97, 98] 0 = Fe.bat [97, 99] 0 := by decide
  have h1 : Fe.bat [97, 98] 1 ≠ Fe.bat [97, 99] 1 := by decide
  unfold Fe.diff
  rw [show max ([97, 98] : List UInt8).length ([97, 99] : List UInt8).length = 0 + 1 + 1 from rfl, Fe.dif_more h1, Fe.dif_same h0]
  rfl
theorem app_says {a b : List UInt8} {w w' : World} {v r : Value} (ha : a.length ≤ 6000) (hb : b.length ≤ 6000) (h : AppSays a (Fe.diff a b) w w' v r) : r = .nilIface ∧ Ob w' w.heap.size v b := by
  have hz : aFault a (Fe.diff a b) = 0 := by
    unfold aFault
    rw [if_neg (by omega)]
    exact chk_of (Nat.le_trans (Fe.dif_len _ _ _) (by omega)) (Fe.diff_fine ha hb)
  have he := Fe.applied_diff (N := 6000) ha hb
  rcases h with ⟨h, -⟩ | ⟨-, h, -⟩ | ⟨-, c, h1, h2, h3⟩
  · exact absurd hz h
  · rw [he] at h; cases h
  · rw [he] at h1
    injection h1 with h1
    subst h1
    exact ⟨h2, h3⟩
theorem pack_says {a b : List UInt8} {w w' : World} {v r : Value} (ha : a.length ≤ 6000) (hb : b.length ≤ 6000) (h : PackSays (Fe.diff a b) w w' v r) : r = .nilIface ∧ Ob w' w.heap.size v (Wd.wr (Fe.nums (Fe.diff a b))) := by
  have hz : chk (fun _ => true) (Fe.diff a b) = 0 := chk_of (Nat.le_trans (Fe.dif_len _ _ _) (by omega)) (Fe.fine_any (Fe.diff_fine ha hb))
  rcases h with ⟨h, -⟩ | ⟨-, h1, h2⟩
  · exact absurd hz h
  · exact ⟨h1, h2⟩
theorem Chl.one {w : World} {z : Nat} (c : ChV) (hz : w.heap.size = z) : Chl (w.alloc (.cells #[.int .i64 c.at_, .int .i64 c.old, .int .i64 c.new] 28)) (.slice (some ⟨z, 0, none⟩) 1 1) [c] := by
  refine ⟨_, 1, rfl, Nat.le_refl _, by omega, fun _ => ⟨_, rfl, by subst hz; simp, fun i k hk => ?_⟩⟩
  match i, hk with
  | 0, hk =>
    simp at hk
    subst hk
    rw [Nat.zero_mul, Addr.add_lit, Nat.zero_add]
    exact Chc.mk' c hz
  | i + 1, hk => simp at hk
set_option maxRecDepth 100000 in
set_option maxHeartbeats 64000000 in
theorem walk (va : Value) (a : List UInt8) (vb : Value) (b : List UInt8) (vc : Value) (c : List UInt8) (w : World) (h0 : By w va a) (h1 : By w vb b) (h2 : By w vc c) :
    Calls Try.prog 3 #[va, vb, vc] w fun e w' => e = .returned (.bool true) ∧ Below w.heap.size w w' := by
  have A : Hid (By w va a) := h0
  have B : Hid (By w vb b) := h1
  have C : Hid (By w vc c) := h2
  obtain ⟨pa, ca, rfl, a1, a2, -⟩ := h0
  obtain ⟨pb, cb, rfl, b1, b2, -⟩ := h1
  obtain ⟨pc, cc, rfl, c1, c2, -⟩ := h2
  have a2' : ca ≤ 9223372036854775807 := by unfold maxLen at a2; omega
  have b2' : cb ≤ 9223372036854775807 := by unfold maxLen at b2; omega
  have c2' : cc ≤ 9223372036854775807 := by unfold maxLen at c2; omega
  clear a2 b2 c2
  have kc := fun (w : World) (C : Array Value) (n c g : Nat) (hg : g = w.heap.size) => Go.Joins.run_convert_bytes_const_at (P := Try.prog) w 22 5 C n c g hg Try.underlying22 Try.underlying5
  have k1 := kc w #[.int .u8 97, .int .u8 98] 2 2 w.heap.size rfl
  simp only [List.size_toArray, List.length_cons, List.length_nil, Nat.zero_add, Nat.reduceAdd] at k1
  clear kc
  go_enter Try.func3, Try.ntmps3
  go_wp2_with fail
  have B0 : Hid (Below w.heap.size w ((w.alloc (Obj.cells #[.int .u8 97, .int .u8 98] 5 (2, 3))).alloc (Obj.cells #[.int .i64 1, .int .i64 98, .int .i64 99] 28))) := ((Below.refl _ _).alloc (Nat.le_refl _) _).alloc (by simp) _
  refine (Apply_any _ _ [97, 98] [⟨1, 98, 99⟩] _ ((By.two_ rfl 97 98 rfl rfl 5 (2, 3)).below ((Below.refl _ _).alloc (Nat.le_refl _) _)) (Chl.one ⟨1, 98, 99⟩ (by simp))).mono ?_
  rintro e w1 ⟨v, r, rfl, hd, hb⟩
  have B1 : Hid (Below w.heap.size w w1) := B0.out.trans (hb.mono B0.out.size)
  clear hb k1 B0
  rw [← fact_diff] at hd
  obtain ⟨rfl, ho⟩ := app_says (by decide) (by decide) hd
  have kv := (Ob.by_ ho)
  obtain ⟨p1, q1, rfl, -⟩ := Ob.by_ ho
  have kk : (convert 22 9 (.slice p1 2 q1)).run Try.prog w1 = .ok (.string ⟨#[97, 99]⟩) w1 := kv.conv
  clear hd ho kv
  go_wp2_with fail
  refine (Diff_any _ _ a b _ (A.out.below B1.out) (B.out.below B1.out)).mono ?_
  rintro e w2 ⟨v1, r1, rfl, hd1, hb⟩
  have B2 : Hid (Below w.heap.size w w2) := B1.out.trans (hb.mono B1.out.size)
  have D1 : Hid (DiffSays a b w1 w2 v1 r1) := hd1
  clear hb kk hd1
  go_wp2_with fail
  refine (Diff_any _ _ b c _ (B.out.below B2.out) (C.out.below B2.out)).mono ?_
  rintro e w3 ⟨v2, r2, rfl, hd2, hb⟩
  have B3 : Hid (Below w.heap.size w w3) := B2.out.trans (hb.mono B2.out.size)
  have B23 : Hid (Below w2.heap.size w2 w3) := hb
  have D2 : Hid (DiffSays b c w2 w3 v2 r2) := hd2
  clear hb hd2
  by_cases ha6 : 6000 < a.length
  · have ha6' : (6000 : Int) < (a.length : Int) := by omega
    rcases D1.out with ⟨-, rfl, hr⟩ | ⟨h, -⟩
    · rcases hr with ⟨h4, -⟩ | ⟨-, rfl⟩
      · cases h4
      go_wp2
      go_ret
      exact ⟨rfl, B3.out⟩
    · omega
  have ha6' : ¬ (6000 : Int) < (a.length : Int) := by omega
  by_cases hb6 : 6000 < b.length
  · have hb6' : (6000 : Int) < (b.length : Int) := by omega
    rcases D1.out with ⟨-, rfl, hr⟩ | ⟨-, h, -⟩
    · rcases hr with ⟨h4, -⟩ | ⟨-, rfl⟩
      · cases h4
      go_wp2
      go_ret
      exact ⟨rfl, B3.out⟩
    · omega
  have hb6' : ¬ (6000 : Int) < (b.length : Int) := by omega
  rcases D1.out with ⟨h, -⟩ | ⟨-, -, rfl, hl1⟩
  case inl => omega
  have L1 : Hid (Cho w2 w1.heap.size v1 (Fe.diff a b)) := hl1
  clear hl1 D1
  by_cases hc6 : 6000 < c.length
  · have hc6' : (6000 : Int) < (c.length : Int) := by omega
    rcases D2.out with ⟨-, rfl, hr⟩ | ⟨-, h, -⟩
    · rcases hr with ⟨h4, -⟩ | ⟨-, rfl⟩
      · cases h4
      go_wp2
      go_ret
      exact ⟨rfl, B3.out⟩
    · omega
  rcases D2.out with ⟨h, -⟩ | ⟨-, -, rfl, hl2⟩
  case inl => omega
  have SZ : Hid (a.length ≤ 6000 ∧ b.length ≤ 6000 ∧ c.length ≤ 6000) := ⟨by omega, by omega, by omega⟩
  have L2 : Hid (Cho w3 w2.heap.size v2 (Fe.diff b c)) := hl2
  have L13 : Hid (Chl w3 v1 (Fe.diff a b)) := (L1.out.below B23.out).l
  obtain ⟨pl, cl, rfl⟩ := L1.out.len
  obtain ⟨ll, hll⟩ : ∃ n, (Fe.diff a b).length = n := ⟨_, rfl⟩
  have LL : Hid ((Fe.diff a b).length = ll) := hll
  have ll6 : ll ≤ 6000 := by rw [← hll]; exact Nat.le_trans (Fe.dif_len _ _ _) (by omega)
  rw [hll] at L13 ⊢
  clear hl2 hll L1 D2 ha6 hb6 hc6 ha6' hb6'
  go_wp2_with fail
  refine (Apply_any _ _ a (Fe.diff a b) w3 (A.out.below B3.out) L13.out).mono ?_
  rintro e w4 ⟨v3, r3, rfl, hd, hb⟩
  have B4 : Hid (Below w.heap.size w w4) := B3.out.trans (hb.mono B3.out.size)
  have B34 : Hid (Below w3.heap.size w3 w4) := hb
  obtain ⟨rfl, hx⟩ := app_says SZ.out.1 SZ.out.2.1 hd
  have X4 : Hid (By w4 v3 b) := hx.by_
  clear hd hx hb
  go_wp2_with fail
  refine (Apply_any _ _ b (Fe.diff b c) w4 X4.out (L2.out.below B34.out).l).mono ?_
  rintro e w5 ⟨v4, r4, rfl, hd, hb⟩
  have B5 : Hid (Below w.heap.size w w5) := B4.out.trans (hb.mono B4.out.size)
  have X5 : Hid (By w5 v3 b) := X4.out.below hb
  obtain ⟨rfl, hy⟩ := app_says SZ.out.2.1 SZ.out.2.2 hd
  have Y5 : Hid (By w5 v4 c) := hy.by_
  have L5 : Hid (Chl w5 (.slice pl ll cl) (Fe.diff a b)) := (L13.out.below B34.out).below hb
  clear hd hy hb L2 L13 X4 B34 B23
  obtain ⟨px, qx, rfl, -⟩ := X5.out
  obtain ⟨py, qy, rfl, -⟩ := Y5.out
  have kx := X5.out.conv
  have ky := Y5.out.conv
  have kb := (B.out.below B5.out).conv
  have kc := (C.out.below B5.out).conv
  obtain ⟨sb, hsb⟩ : ∃ s, (⟨b.toArray⟩ : ByteArray) = s := ⟨_, rfl⟩
  obtain ⟨sc, hsc⟩ : ∃ s, (⟨c.toArray⟩ : ByteArray) = s := ⟨_, rfl⟩
  rw [hsb] at kx kb
  rw [hsc] at ky kc
  have HSB : Hid ((⟨b.toArray⟩ : ByteArray) = sb) := hsb
  clear hsb hsc
  go_wp2_with fail
  clear kx ky kb kc
  go_loopw [15, 16] (fun bv iv W => ∃ n : Nat, n ≤ ll ∧ iv = .int .i64 (n : Nat) ∧ Cho W w5.heap.size bv (((Fe.diff a b).take n).map Fe.swap) ∧ Below w5.heap.size w5 W) (fun _ iv _ => ll - (intOf iv).toNat)
  case atStart => exact ⟨0, Nat.zero_le _, rfl, by simpa using Cho.nil _ _, Below.refl _ _⟩
  case round =>
  obtain ⟨n, hn, rfl, ho, hb⟩ := hrel
  have O : Hid (Cho wr w5.heap.size u15 (((Fe.diff a b).take n).map Fe.swap)) := ho
  have BW : Hid (Below w5.heap.size w5 wr) := hb
  obtain ⟨ba, bc, rfl⟩ := ho.len
  have hlen : (((Fe.diff a b).take n).map Fe.swap).length = n := by rw [List.length_map, List.length_take, LL.out]; omega
  rw [hlen] at O ⊢
  have ON : Hid ((((Fe.diff a b).take n).map Fe.swap).length = n) := hlen
  clear ho hb hlen
  by_cases hne : n = ll
  case neg =>
    have hnl : n < ll := by omega
    have hnl' : (n : Int) < (ll : Int) := by omega
    obtain ⟨oc, hoc⟩ : ∃ o, (Fe.diff a b)[n]? = some o := ⟨_, List.getElem?_eq_getElem (by rw [LL.out]; exact hnl)⟩
    have OX : Hid (((Fe.diff a b).take (n + 1)).map Fe.swap = ((Fe.diff a b).take n).map Fe.swap ++ [⟨oc.at_, oc.new, oc.old⟩]) := by
      unfold Hid
      rw [List.take_add_one, hoc, List.map_append]
      rfl
    obtain ⟨a', c', e', -, -, hq⟩ := L5.out
    injection e' with e1 e2 e3
    subst e1 e3
    obtain ⟨xl, rfl, xlt, hcc⟩ := hq (by rintro h; rw [h] at hoc; simp at hoc)
    have RD : Hid (Chc w5 (xl.add (n * 3)) oc ∧ (xl.add (n * 3)).block < w5.heap.size) := ⟨hcc n oc hoc, by rw [add_block]; exact xlt⟩
    clear hq hcc hoc xlt e2
    have SR : Hid (w5.heap.size ≤ wr.heap.size) := BW.out.size
    go_upto_region 16 with fail
    have DE : Hid (Below wr.heap.size wr { wr with drawn := wr.drawn + 1 }) := (Below.refl _ _).drew
    have CE : Hid (∀ V, Below wr.heap.size wr V → Chc V (xl.add (n * 3)) oc) := fun V hV => RD.out.1.below (BW.out.trans (hV.mono SR.out)) RD.out.2
    refine wp_region_two [(true, 0), (true, 1), (true, 2), (true, 3), (true, 4), (true, 5), (true, 6), (true, 7), (true, 8), (true, 9), (true, 10), (true, 11), (true, 12), (true, 13), (true, 14), (true, 15), (true, 16), (false, 17), (false, 18)] [(false, 19)] (fun V => Chc V (xl.add (n * 3)) oc) (by kernel_rfl) (by kernel_rfl) (by kernel_rfl) (by decide +kernel) (by decide +kernel) (CE.out _ DE.out) ?_
    generalize ({ wr with drawn := wr.drawn + 1 } : World) = wa at *
    refine headT_read rfl (.slice ba n bc) (by go_simp) (fun V hV => by obtain ⟨d0, d1, d2⟩ := hV; go_simp) ?_
    go_simp
    refine headT_read rfl (.slice (some xl) ll cl) (by go_simp) (fun V hV => by obtain ⟨d0, d1, d2⟩ := hV; go_simp) ?_
    go_simp
    refine headT_read rfl (.int .i64 (n : Nat)) (by go_simp) (fun V hV => by obtain ⟨d0, d1, d2⟩ := hV; go_simp) ?_
    go_simp
    refine headT_read rfl (.pointer (some (xl.add (n * 3)))) (by go_simp) (fun V hV => by obtain ⟨d0, d1, d2⟩ := hV; go_simp) ?_
    go_simp
    refine headT_read rfl (.pointer (some (xl.add (n * 3)))) (by go_simp) (fun V hV => by obtain ⟨d0, d1, d2⟩ := hV; go_simp) ?_
    go_simp
    refine headT_read rfl (.int .i64 oc.at_) (by go_simp) (fun V hV => by obtain ⟨d0, d1, d2⟩ := hV; go_simp) ?_
    go_simp
    refine headT_read rfl (.slice (some xl) ll cl) (by go_simp) (fun V hV => by obtain ⟨d0, d1, d2⟩ := hV; go_simp) ?_
    go_simp
    refine headT_read rfl (.int .i64 (n : Nat)) (by go_simp) (fun V hV => by obtain ⟨d0, d1, d2⟩ := hV; go_simp) ?_
    go_simp
    refine headT_read rfl (.pointer (some (xl.add (n * 3)))) (by go_simp) (fun V hV => by obtain ⟨d0, d1, d2⟩ := hV; go_simp) ?_
    go_simp
    refine headT_read rfl (.pointer (some ⟨(xl.add (n * 3)).block, (xl.add (n * 3)).off + 2, none⟩)) (by go_simp) (fun V hV => by obtain ⟨d0, d1, d2⟩ := hV; go_simp) ?_
    go_simp
    refine headT_read rfl (.int .i64 oc.new) (by go_simp) (fun V hV => by obtain ⟨d0, d1, d2⟩ := hV; go_simp) ?_
    go_simp
    refine headT_read rfl (.slice (some xl) ll cl) (by go_simp) (fun V hV => by obtain ⟨d0, d1, d2⟩ := hV; go_simp) ?_
    go_simp
    refine headT_read rfl (.int .i64 (n : Nat)) (by go_simp) (fun V hV => by obtain ⟨d0, d1, d2⟩ := hV; go_simp) ?_
    go_simp
    refine headT_read rfl (.pointer (some (xl.add (n * 3)))) (by go_simp) (fun V hV => by obtain ⟨d0, d1, d2⟩ := hV; go_simp) ?_
    go_simp
    refine headT_read rfl (.pointer (some ⟨(xl.add (n * 3)).block, (xl.add (n * 3)).off + 1, none⟩)) (by go_simp) (fun V hV => by obtain ⟨d0, d1, d2⟩ := hV; go_simp) ?_
    go_simp
    refine headT_read rfl (.int .i64 oc.old) (by go_simp) (fun V hV => by obtain ⟨d0, d1, d2⟩ := hV; go_simp) ?_
    go_simp
    refine headT_read rfl (.agg #[.int .i64 oc.at_, .int .i64 oc.new, .int .i64 oc.old]) (by go_simp) (fun V hV => by obtain ⟨d0, d1, d2⟩ := hV; go_simp) ?_
    go_simp
    have BA : Hid (Below wa.heap.size wa (wa.alloc (Obj.cells #[.int .i64 oc.at_, .int .i64 oc.new, .int .i64 oc.old] 28))) := (Below.refl _ _).alloc (Nat.le_refl _) _
    have BAA : Hid (Below wr.heap.size wr (wa.alloc (Obj.cells #[.int .i64 oc.at_, .int .i64 oc.new, .int .i64 oc.old] 28))) := DE.out.trans (BA.out.mono DE.out.size)
    have RC : Hid (Chc (wa.alloc (Obj.cells #[.int .i64 oc.at_, .int .i64 oc.new, .int .i64 oc.old] 28)) ⟨wa.heap.size, 0, none⟩ ⟨oc.at_, oc.new, oc.old⟩) := Chc.mk' (w := wa) ⟨oc.at_, oc.new, oc.old⟩ rfl
    refine headT_value rfl (.slice (some ⟨wa.heap.size, 0, none⟩) 1 1) (wa.alloc (Obj.cells #[.int .i64 oc.at_, .int .i64 oc.new, .int .i64 oc.old] 28)) (by go_simp) (by go_simp) (CE.out _ BAA.out) ?_
    go_simp
    generalize (wa.alloc (Obj.cells #[.int .i64 oc.at_, .int .i64 oc.new, .int .i64 oc.old] 28)) = wb at *
    have EB : Hid (Cho wb w5.heap.size (.slice ba n bc) (((Fe.diff a b).take n).map Fe.swap)) := O.out.below BAA.out
    have SB : Hid (w5.heap.size ≤ wb.heap.size) := Nat.le_trans SR.out BAA.out.size
    obtain ⟨gg, gc, wE, hr, ho8, hg8, -, -⟩ := run_ch wb 29 w5.heap.size _ _ EB.out _ _ RC.out (by rw [ON.out]; omega) SB.out
    have EO : Hid (Cho wE w5.heap.size (.slice (some ⟨gg, 0, none⟩) (n + 1) gc) (((Fe.diff a b).take (n + 1)).map Fe.swap)) := by
      rw [ON.out] at ho8
      unfold Hid
      rw [OX.out]
      exact ho8
    have BE : Hid (Below w5.heap.size w5 wE) := (BW.out.trans (BAA.out.mono SR.out)).grown hg8 SB.out (fun k hk => (O.out.block k hk).1)
    have CX : Hid (Chc wE (xl.add (n * 3)) oc) := RD.out.1.below BE.out RD.out.2
    rw [ON.out] at hr
    refine headT_value rfl (.slice (some ⟨gg, 0, none⟩) (n + 1) gc) wE (by go_simp) (exec_append _ _ _ _ rfl _ _ (by go_simp) (by go_simp) hr) CX.out ?_
    clear hr ho8 hg8
    go_simp
    unfold wpHeadT
    refine sched_value rfl (.slice (some ⟨gg, 0, none⟩) (n + 1) gc) wE (by go_simp) (by go_simp) trivial ?_
    go_simp
    unfold wpSched
    go_wp2
    go_roundw
    case rel => exact ⟨n + 1, by omega, by go_num, EO.out, BE.out⟩
    case measure => simp [intOf]; omega
  have OB : Hid (Cho wr w5.heap.size (.slice ba n bc) (Fe.diff b a)) := by
    have := O.out
    rw [hne, List.take_of_length_le (by rw [LL.out]; exact Nat.le_refl _), Fe.diff_swap] at this
    unfold Hid
    rw [hne]
    exact this
  have hnn : ¬ (n : Int) < (ll : Int) := by omega
  have B6 : Hid (Below w.heap.size w wr) := B5.out.trans (BW.out.mono B5.out.size)
  have L6 : Hid (Chl wr (.slice pl ll cl) (Fe.diff a b)) := L5.out.below BW.out
  clear O ON BW hne L5 X5 Y5
  go_wp2_with fail
  refine (Apply_any _ _ b (Fe.diff b a) wr (B.out.below B6.out) OB.out.l).mono ?_
  rintro e w6 ⟨v5, r5, rfl, hd, hb⟩
  have B7 : Hid (Below w.heap.size w w6) := B6.out.trans (hb.mono B6.out.size)
  have L7 : Hid (Chl w6 (.slice pl ll cl) (Fe.diff a b)) := L6.out.below hb
  obtain ⟨rfl, hx⟩ := app_says SZ.out.2.1 SZ.out.1 hd
  have X6 : Hid (By w6 v5 a) := hx.by_
  clear hd hx hb OB L6 B6
  go_wp2_with fail
  refine (Diff_any _ _ a a w6 (A.out.below B7.out) (A.out.below B7.out)).mono ?_
  rintro e w7 ⟨v6, r6, rfl, hd, hb⟩
  have B8 : Hid (Below w.heap.size w w7) := B7.out.trans (hb.mono B7.out.size)
  have L8 : Hid (Chl w7 (.slice pl ll cl) (Fe.diff a b)) := L7.out.below hb
  have X7 : Hid (By w7 v5 a) := X6.out.below hb
  rcases hd with ⟨h, -⟩ | ⟨-, -, rfl, hd⟩
  case inl => have := SZ.out; omega
  obtain ⟨p6, q6, rfl⟩ := hd.len
  have e6 : (Fe.diff a a).length = 0 := by unfold Fe.diff; rw [Fe.dif_none]; rfl
  rw [e6]
  clear hd hb e6 L7 X6 B7
  go_wp2_with fail
  refine (Pack_any _ (Fe.diff a b) w7 L8.out).mono ?_
  rintro e w8 ⟨v7, r7, rfl, hd, hb⟩
  have B9 : Hid (Below w.heap.size w w8) := B8.out.trans (hb.mono B8.out.size)
  have L9 : Hid (Chl w8 (.slice pl ll cl) (Fe.diff a b)) := L8.out.below hb
  have X8 : Hid (By w8 v5 a) := X7.out.below hb
  obtain ⟨rfl, hp⟩ := pack_says SZ.out.1 SZ.out.2.1 hd
  have S78 : Hid (w7.heap.size ≤ w8.heap.size) := hb.size
  have B78 : Hid (Below w7.heap.size w7 w8) := hb
  have P8 : Hid (Ob w8 w7.heap.size v7 (Wd.wr (Fe.nums (Fe.diff a b)))) := hp
  clear hd hp hb L9 X7
  obtain ⟨px, qx', rfl, -⟩ := X8.out
  have kx := X8.out.conv
  have ka := (A.out.below B9.out).conv
  obtain ⟨sa, hsa⟩ : ∃ s, (⟨a.toArray⟩ : ByteArray) = s := ⟨_, rfl⟩
  rw [hsa] at kx ka
  clear hsa
  have PL : Hid ((Wd.wr (Fe.nums (Fe.diff a b))).length + c.length ≤ 1000000000) := by
    have h9 := SZ.out
    have h8 : (Fe.nums (Fe.diff a b)).length ≤ 20000 := by
      unfold Fe.nums
      rw [List.length_cons, Fe.chain_len, LL.out]
      omega
    have h7 := wr_len (xs := Fe.nums (Fe.diff a b)) (fun n hn => by
      unfold Fe.nums at hn
      rcases List.mem_cons.1 hn with rfl | hn
      · unfold Wd.In64; rw [LL.out]; omega
      · exact Fe.chain_in (Fe.fine_mem (Fe.diff_fine h9.1 h9.2.1)) (by omega) (by omega) n hn)
    unfold Hid
    omega
  go_wp2_with (at_builtin; refine app_bytes _ rfl _ _ rfl w7.heap.size _ _ rfl P8.out _ c rfl (C.out.below B9.out) PL.out S78.out ?_)
  intro v9 w9 o9 g9
  have P9 : Hid (By w9 v9 (Wd.wr (Fe.nums (Fe.diff a b)) ++ c)) := Ob.by_ o9
  have BB9 : Hid (Below w7.heap.size w8 w9) := (Below.refl _ _).grown g9 S78.out (fun k hk => (P8.out.block k hk).1)
  have B10 : Hid (Below w.heap.size w w9) := B9.out.trans (BB9.out.mono B8.out.size)
  have L10 : Hid (Chl w9 (.slice pl ll cl) (Fe.diff a b)) := L8.out.below (B78.out.trans BB9.out)
  clear o9 g9 kx ka P8 L8 B78 BB9
  go_wp2_with fail
  refine (Unpack_any _ _ w9 P9.out).mono ?_
  rintro e w10 ⟨v10, n10, r10, rfl, hu, hb⟩
  obtain ⟨ua, hua⟩ := Fe.unpack_pack (l := Fe.diff a b) (by rw [LL.out]; exact ll6) (Fe.fine_any (Fe.diff_fine SZ.out.1 SZ.out.2.1)) c
  rcases hu with ⟨h, -⟩ | ⟨ls, a9, h, rfl, rfl, ho⟩
  case inl => rw [hua] at h; cases h
  rw [hua] at h
  injection h with h
  injection h with h1 h2
  subst h1 h2
  have Q10 : Hid (Chl w10 v10 (Fe.diff a b)) := ho.l
  have B11 : Hid (Below w.heap.size w w10) := B10.out.trans (hb.mono B10.out.size)
  have L11 : Hid (Chl w10 (.slice pl ll cl) (Fe.diff a b)) := L10.out.below hb
  obtain ⟨pq, cq, rfl⟩ := ho.len
  rw [LL.out] at Q10
  clear ho hb hua L10
  rw [LL.out]
  go_wp2_with fail
  refine (changes_like _ _ (Fe.diff a b) w10 Q10.out L11.out).mono ?_
  rintro e w11 ⟨rfl, hb⟩
  have B12 : Hid (Below w.heap.size w w11) := B11.out.trans (hb.mono B11.out.size)
  clear hb
  go_wp2
  go_ret
  exact ⟨rfl, B12.out⟩
end Go.Proofs.Ytifijfaefpdmpaa.feedBack

