/- A region that draws its order: what reads, and calls in one order, first, in an order of one's own; then what turns what was read, each the only one that may come. · A world's value: its five slices; its field. · works.Spot: where a new unit would come. · api.Event: records in memory. · works.Train as mathematics: who waits, who comes, who stays. · Behind training a world is right; who is trained comes once. Plain mathematics. · works.Dig as mathematics: who takes how much, who brings what. · Slices of api.Unit: a whole list behind another one. · Units in a block that may be written. · works.yield. · What stays where some blocks turn; two blocks of two types. · What stays where one block turns, or a list of one's own grows. · What stays where some blocks turn: a world in a block. · A list of integers of its own, as a block. · Slices of api.Event that the call itself makes, by append. · works.take. · works.take. · slices.Index and Contains, of integers. -/
import Derived.Test.YtoabhfipikkkeaaGreatDoorZTopViews4
import Derived.Test.YtoabhfipikkkeaaGreatDoorZTopViews2
import Derived.Test.YtoabhfipikkkeaaGreatDoorZTopViews3
import Derived.Test.YtoabhfipikkkeaaGreatDoorZTopViews1
import Derived.BigRegion
import Derived.Deep.DeepCutAuto
import Derived.OwnWalk
import Derived.Deep.AppendLies
namespace Go.Proofs.YtoabhfipikkkeaaGreatDoor
open Go Go.RowKit
set_option linter.unusedVariables false

section
variable {P : Program} {ops : Array Oper} {md : Region.Mode} {C : World → Prop} {Q : Exit → Act → World → Prop} {L : Array Bool → Act → World → Prop}

def wpAnyT (P : Program) (md : Region.Mode) (ops : Array Oper) (C : World → Prop) (L : Array Bool → Act → World → Prop) : Nat → Array Bool → Act → World → Prop
  | 0, listed, a, W => L listed a W
  | f + 1, listed, a, W => Region.ready md ops listed ≠ [] ∧ ∀ i ∈ Region.ready md ops listed, ∃ o, ops[i]? = some o ∧ StepS P ops C o (wpAnyT P md ops C L f (listed.setIfInBounds i true)) a W
theorem wpAny_of_T {g : Nat} (hL : ∀ listed a W, L listed a W → wpAny P md ops Q g listed a W) : ∀ (f : Nat) (listed : Array Bool) (a : Act) (W : World), wpAnyT P md ops C L f listed a W → wpAny P md ops Q (f + g) listed a W
  | 0, listed, a, W, h => by rw [Nat.zero_add]; exact hL _ _ _ h
  | f + 1, listed, a, W, h => by
    rw [show f + 1 + g = (f + g) + 1 by omega]
    refine ⟨fun h0 => absurd h0 h.1, fun i hi => ?_⟩
    obtain ⟨o, ho, hs⟩ := h.2 i hi
    unfold wpOp
    simp only [ho]
    obtain ⟨hw, hs⟩ := hs
    rw [if_pos hw]
    refine .inl ?_
    unfold Oper.wp
    rcases hs with ⟨v, W', e, -, hk⟩ | ⟨W', e, -, hk⟩ | ⟨k, args, e, hc⟩
    · rw [e]; exact wpAny_of_T hL f _ _ _ hk
    · rw [e]; exact wpAny_of_T hL f _ _ _ hk
    · rw [e]
      exact hc.mono fun e w' ⟨v, he, _, hk⟩ => by subst he; exact wpAny_of_T hL f _ _ _ hk
theorem unset_of {l H : Array Bool} {i : Nat} (h0 : l.getD i true = false) (e : l.setIfInBounds i true = H) : l = H.setIfInBounds i false := by
  subst e
  apply Array.ext_getElem?
  intro k
  by_cases hk : i = k
  · subst hk
    rcases Nat.lt_or_ge i l.size with hl | hl
    · simp [Array.getD, hl] at h0
      simp [hl, h0]
    · simp [Array.getD, Nat.not_lt.2 hl] at h0
  · simp [hk]
/-- what is listed has all that it waits for. -/
def Clos (md : Region.Mode) (ops : Array Oper) (listed : Array Bool) : Prop := ∀ (j : Nat) (oj : Oper), ops[j]? = some oj → listed.getD j false = true → ∀ e ∈ oj.after, Region.binds md e = true → listed.getD e.on false = true
theorem Clos.set {i : Nat} {listed : Array Bool} (inv : Clos md ops listed) (hi : i ∈ Region.ready md ops listed) : Clos md ops (listed.setIfInBounds i true) := by
  obtain ⟨_, oi, hoi, hall⟩ := mem_ready.1 hi
  intro j oj hj hl e he hb
  by_cases hij : i = j
  · subst hij
    have : oj = oi := Option.some.inj (hj.symm.trans hoi)
    subst this
    exact getD_set_true (hall e he hb)
  · rw [getD_set_ne false hij] at hl
    exact getD_set_true (inv j oj hj hl e he hb)
/-- one that is listed waits for i. -/
def waits (md : Region.Mode) (ops : Array Oper) (H0 : Array Bool) (i : Nat) : Bool := (List.range ops.size).any fun j => H0.getD j false && (decide (j ≠ i) && match ops[j]? with | some o => o.after.any fun e => Region.binds md e && decide (e.on = i) | none => false)
theorem waits_spec {H0 : Array Bool} {i : Nat} (h : waits md ops H0 i = true) : ∃ j o, ops[j]? = some o ∧ j ≠ i ∧ H0.getD j false = true ∧ ∃ e ∈ o.after, Region.binds md e = true ∧ e.on = i := by
  unfold waits at h
  obtain ⟨j, -, hj⟩ := List.any_eq_true.1 h
  simp only [Bool.and_eq_true, decide_eq_true_eq] at hj
  obtain ⟨h1, h2, h3⟩ := hj
  cases ho : ops[j]? with
  | none => rw [ho] at h3; cases h3
  | some o =>
    rw [ho] at h3
    obtain ⟨k, hk, he⟩ := Array.any_eq_true.1 h3
    simp only [Bool.and_eq_true, decide_eq_true_eq] at he
    exact ⟨j, o, ho, h2, h1, o.after[k], Array.getElem_mem hk, he.1, he.2⟩
theorem wpAnyT_first {i : Nat} {oi : Oper} {v : Value} {H0 : Array Bool} (hi : ops[i]? = some oi) (hsel : ∀ (j : Nat) (o : Oper) cs b, ops[j]? = some o → o.op ≠ .select cs b)
    (hH : waits md ops H0 i = true ∨ Region.ready md ops (H0.setIfInBounds i false) = [i]) (hLH : ∀ listed a W, L listed a W → listed = H0) :
    ∀ (f : Nat) (listed : Array Bool) (a : Act) (W : World), Clos md ops listed →
      (∀ j oj, ops[j]? = some oj → j ≠ i → listed.getD j true = false → (∀ e ∈ oj.after, Region.binds md e = true → e.on ≠ i) → oi.apart ops oj = true) →
      i ∈ Region.ready md ops listed → YieldsS P ops C oi v a → C W →
      wpAnyT P md ops C L f (listed.setIfInBounds i true) (a.put oi.dst v) W → wpAnyT P md ops C L (f + 1) listed a W := by
  intro f
  induction f with
  | zero =>
    intro listed a W inv _ hr hy hC H
    refine ⟨fun h => (by rw [h] at hr; cases hr), fun j hj => ?_⟩
    by_cases hji : j = i
    · subst hji; exact ⟨oi, hi, hy.step hC H⟩
    · rcases hH with hH | hH
      · obtain ⟨k, ok, hk, hki, hkl, e, he, hb, heq⟩ := waits_spec hH
        rw [← hLH _ _ _ H, getD_set_ne false (Ne.symm hki)] at hkl
        have h1 := inv k ok hk hkl e he hb
        rw [heq, getD_both (mem_ready.1 hr).1] at h1
        cases h1
      · have e := unset_of (mem_ready.1 hr).1 (hLH _ _ _ H)
        rw [e, hH] at hj
        exact absurd (by simpa using hj) hji
  | succ f ih =>
    intro listed a W inv hfree hr hy hC H
    refine ⟨fun h => (by rw [h] at hr; cases hr), fun j hj => ?_⟩
    by_cases hji : j = i
    · subst hji; exact ⟨oi, hi, hy.step hC H⟩
    · obtain ⟨o', ho', h1⟩ := H.2 j (ready_mono hj hji)
      obtain ⟨hjun, oj, hoj, hall⟩ := mem_ready.1 hj
      obtain rfl : o' = oj := Option.some.inj (ho'.symm.trans hoj)
      have hnot : ∀ e ∈ o'.after, Region.binds md e = true → e.on ≠ i := fun e he hb heq => by
        have h1 := hall e he hb
        have h0 := (mem_ready.1 hr).1
        rw [heq, getD_both h0] at h1
        cases h1
      have h2 := StepS.put (hfree j o' hoj hji hjun hnot) (fun cs b => hsel i oi cs b hi) (fun cs b => hsel j o' cs b hoj) hy h1
      have hfree' : ∀ k ok, ops[k]? = some ok → k ≠ i → (listed.setIfInBounds j true).getD k true = false →
          (∀ e ∈ ok.after, Region.binds md e = true → e.on ≠ i) → oi.apart ops ok = true := fun k ok hk hki hun hno => by
        refine hfree k ok hk hki ?_ hno
        by_cases hjk : j = k
        · subst hjk; exact hjun
        · rw [getD_set_ne true hjk] at hun; exact hun
      refine ⟨o', hoj, h2.mono fun a' W' hC' h3 => ih (listed.setIfInBounds j true) a' W' (inv.set hj) hfree' (ready_mono hr (Ne.symm hji)) h3.1 hC' ?_⟩
      rw [Array.setIfInBounds_comm _ _ hji]
      exact h3.2
/-- the head, in an order of one's own; K behind it. -/
def wpHeadT (P : Program) (ops : Array Oper) (C : World → Prop) (K : Act → World → Prop) : List (Bool × Nat) → Act → World → Prop
  | [], a, W => K a W
  | (true, i) :: r, a, W => ∃ o v, ops[i]? = some o ∧ YieldsS P ops C o v a ∧ wpHeadT P ops C K r (a.put o.dst v) W
  | (false, i) :: r, a, W => ∃ o, ops[i]? = some o ∧ StepS P ops C o (wpHeadT P ops C K r) a W
def headB (md : Region.Mode) (ops : Array Oper) (H0 : Array Bool) : List (Bool × Nat) → Array Bool → Bool
  | [], listed => decide (listed = H0)
  | (true, i) :: r, listed => (Region.ready md ops listed).contains i && (Region.free md ops listed i && ((waits md ops H0 i || decide (Region.ready md ops (H0.setIfInBounds i false) = [i])) && headB md ops H0 r (listed.setIfInBounds i true)))
  | (false, i) :: r, listed => decide (Region.ready md ops listed = [i]) && headB md ops H0 r (listed.setIfInBounds i true)
theorem wpAnyT_of_head {K : Act → World → Prop} {H0 : Array Bool} (hsel : Region.noSelect ops = true) : ∀ (s : List (Bool × Nat)) (listed : Array Bool) (a : Act) (W : World), Clos md ops listed → headB md ops H0 s listed = true → C W → wpHeadT P ops C K s a W → wpAnyT P md ops C (fun l a W => l = H0 ∧ K a W) s.length listed a W
  | [], listed, a, W, inv, hB, hC, h => ⟨of_decide_eq_true hB, h⟩
  | (true, i) :: r, listed, a, W, inv, hB, hC, h => by
    simp only [headB, Bool.and_eq_true, Bool.or_eq_true, decide_eq_true_eq] at hB
    obtain ⟨hr, hf, hH, hB⟩ := hB
    obtain ⟨o, v, ho, hy, hk⟩ := h
    have hr' : i ∈ Region.ready md ops listed := by simpa using hr
    exact wpAnyT_first ho (Region.noSelect_spec hsel) hH (fun _ _ _ h => h.1) r.length listed a W inv (Region.free_spec ho hf) hr' hy hC (wpAnyT_of_head hsel r _ _ _ (inv.set hr') hB hC hk)
  | (false, i) :: r, listed, a, W, inv, hB, hC, h => by
    simp only [headB, Bool.and_eq_true, decide_eq_true_eq] at hB
    obtain ⟨hr, hB⟩ := hB
    obtain ⟨o, ho, hs⟩ := h
    refine ⟨fun h => (by rw [hr] at h; cases h), fun j hj => ?_⟩
    have hr' : i ∈ Region.ready md ops listed := by rw [hr]; simp
    rw [hr] at hj
    obtain rfl : j = i := by simpa using hj
    exact ⟨o, ho, hs.mono fun a' W' hC' hk => wpAnyT_of_head hsel r _ _ _ (inv.set hr') hB hC' hk⟩
def listedBy (n : Nat) (s : List (Bool × Nat)) : Array Bool := s.foldl (fun l p => l.setIfInBounds p.2 true) (Array.replicate n false)
/-- the region: its head s, in the worlds C; its tail t. -/
theorem wp_region_two {id : Nat} {a : Act} {w : World} (s t : List (Bool × Nat)) (C : World → Prop) (hm : P.follows .mixedOrders = true) (hs : Region.noSelect ops = true) (hl : s.length + t.length = ops.size) (hB : headB .any ops (listedBy ops.size s) s (Array.replicate ops.size false) = true)
    (hT : schedB .any ops t (listedBy ops.size s) = true)
    (hC : C { w with drawn := w.drawn + 1 }) (h : wpHeadT P ops C (wpSched P ops (fun _ => True) Q t) s a { w with drawn := w.drawn + 1 }) : (Code.region id ops true).wp P Q a w := by
  refine wp_region_any hm ?_
  rw [← hl]
  refine wpAny_of_T (g := t.length) (fun listed a W hh => ?_) _ _ _ _ (wpAnyT_of_head (H0 := listedBy ops.size s) hs s _ a _ (fun j oj _ hj => by rw [getD_replicate_false] at hj; cases hj) (by rw [hl]; exact hB) hC h)
  obtain ⟨rfl, hk⟩ := hh
  exact wpAny_of_S _ _ _ _ (wpAnyS_of_sched hs t _ a W hT trivial hk)
theorem headT_read {K : Act → World → Prop} {i : Nat} {r : List (Bool × Nat)} {o : Oper} {a : Act} {W : World} (ho : ops[i]? = some o) (v : Value) (hw : Region.wanted o (yielded ops a.tmps) = true) (hr : ∀ W, C W → (execOp a.eval o).run P W = .ok (.value v) W) (h : wpHeadT P ops C K r (a.put o.dst v) W) : wpHeadT P ops C K ((true, i) :: r) a W :=
  ⟨o, v, ho, ⟨hw, hr⟩, h⟩
theorem headT_call {K : Act → World → Prop} {i : Nat} {r : List (Bool × Nat)} {o : Oper} {a : Act} {W : World} (ho : ops[i]? = some o) (f : FuncId) (args : Array Value) (hw : Region.wanted o (yielded ops a.tmps) = true) (hr : (execOp a.eval o).run P W = .ok (.enter f args) W)
    (hc : Calls P f args W (fun e w' => ∃ v, e = .returned v ∧ C w' ∧ wpHeadT P ops C K r (a.put o.dst v) w')) : wpHeadT P ops C K ((false, i) :: r) a W :=
  ⟨o, ho, hw, .inr (.inr ⟨f, args, hr, hc⟩)⟩
theorem exec_append {o : Oper} {a : Act} {w w' : World} {v' : Value} (s x : Operand) (t tx : TypeId) (ho : o.op = .call { callee := .builtin .append, args := #[s, x], argTypes := #[t, tx] }) (v xv : Value) (hs : a.eval s = v) (hx : a.eval x = xv)
    (hr : (Builtin.append_ #[t, tx] o.type #[v, xv]).run P w = .ok v' w') : (execOp a.eval o).run P w = .ok (.value v') w' := by
  unfold execOp
  simp only [ho, resolve, invoke, builtin, Sem.run_bind, Sem.run_pure, Result.andThen_ok, List.map_toArray, List.map_cons, List.map_nil, hs, hx, hr]
theorem headT_value {K : Act → World → Prop} {i : Nat} {r : List (Bool × Nat)} {o : Oper} {a : Act} {W : World} (ho : ops[i]? = some o) (v : Value) (W' : World) (hw : Region.wanted o (yielded ops a.tmps) = true) (hr : (execOp a.eval o).run P W = .ok (.value v) W') (hC : C W') (h : wpHeadT P ops C K r (a.put o.dst v) W') : wpHeadT P ops C K ((false, i) :: r) a W :=
  ⟨o, ho, hw, .inl ⟨v, W', hr, hC, h⟩⟩
end
end Go.Proofs.YtoabhfipikkkeaaGreatDoor

namespace Go.Proofs.YtoabhfipikkkeaaGreatDoor
open Go.RowKit
set_option linter.unusedVariables false

theorem wl_shape9 {w : World} {v : Value} {X : WV} (h : Wl w v X) : ∃ p1 q1 p2 q2 p3 q3 p4 q4 p5 q5, v = .agg #[.int .i64 X.turn, .int .i64 X.next, .int .i64 X.wide, .int .i64 X.high, .slice p1 X.gs.length q1, .slice p2 X.os.length q2, .slice p3 X.gold.length q3, .slice p4 X.us.length q4, .slice p5 X.qs.length q5] := by
  obtain ⟨u1, u2, u3, u4, u5, rfl, ⟨p1, q1, rfl, -⟩, ⟨p2, q2, rfl, -⟩, ⟨p3, q3, rfl, -⟩, ⟨p4, q4, rfl, -⟩, ⟨p5, q5, rfl, -⟩⟩ := h
  exact ⟨_, _, _, _, _, _, _, _, _, _, rfl⟩
theorem fl_of {w : World} {X : WV} {u1 u2 u3 u4 u5 : Value} (h : Wl w (.agg #[.int .i64 X.turn, .int .i64 X.next, .int .i64 X.wide, .int .i64 X.high, u1, u2, u3, u4, u5]) X) : Fl w (.agg #[.int .i64 X.wide, .int .i64 X.high, u1, u2]) X.wide X.high X.gs X.os :=
  ⟨u1, u2, rfl, h.slices.1, h.slices.2.1⟩
end Go.Proofs.YtoabhfipikkkeaaGreatDoor

namespace Go.Proofs.YtoabhfipikkkeaaGreatDoor
open Go.RowKit Wy
set_option linter.unusedVariables false

/-- nobody is on a cell. -/
def freeAt (us : List UnV) (x : Int) : Bool := !us.any (fun u => u.at_ == x)
/-- what Spot tells. -/
def SpotSays (ks : List KV) (X : WV) (unit kind c F : Int) : Prop :=
  (Wd.wfault ks X ≠ 0 ∧ F = Wd.wfault ks X ∧ c = 0) ∨ (Wd.wfault ks X = 0 ∧ X.us.any (fun u => u.id == unit) = false ∧ F = 6 ∧ c = 0)
  ∨ (Wd.wfault ks X = 0 ∧ X.us.any (fun u => u.id == unit) = true ∧ ¬ (0 ≤ kind ∧ kind < (ks.length : Int)) ∧ F = 1 ∧ c = 0)
  ∨ (Wd.wfault ks X = 0 ∧ ∃ (i kn Wn Hn an : Nat) (u : UnV) (k : KV) (l : List Int), FstU (fun u => u.id == unit) X.us (i : Nat) ∧ X.us[i]? = some u ∧ kind = (kn : Nat) ∧ ks[kn]? = some k ∧ X.wide = (Wn : Nat) ∧ X.high = (Hn : Nat) ∧ Fd.Good Wn Hn X.gs X.os ∧ u.at_ = (an : Nat) ∧ an < Wn * Hn
      ∧ IsFar (Fd.near Wn Hn) (fun i _ => (X.gs.map fun g => Fd.onto g k.f).getD i 0) an (Wn * Hn) l ∧ NearSays l (Wn * Hn) (freeAt X.us) c F)
set_option maxRecDepth 100000 in
set_option maxHeartbeats 16000000 in
theorem spot_any (vk vw : Value) (ks : List KV) (X : WV) (unit kind : Int) (w : World) (hk : Kl w vk ks) (hb : ∀ k ∈ ks, k.b.size ≤ 9223372036854775807) (hw : Wl w vw X) (hs : Sd w) :
    Calls Tryz.prog 26 #[vk, vw, .int .i64 unit, .int .i64 kind] w fun e w' => ∃ c r F, e = .returned (.tuple #[.int .i64 c, r]) ∧ Er r F ∧ SpotSays ks X unit kind c F ∧ Below w.heap.size w w' := by
  have K : Hid (Kl w vk ks ∧ ∀ k ∈ ks, k.b.size ≤ 9223372036854775807) := ⟨hk, hb⟩
  have H : Hid (Wl w vw X) := hw
  have S : Hid (Sd w) := hs
  obtain ⟨p1, q1, p2, q2, p3, q3, p4, q4, p5, q5, rfl⟩ := wl_shape9 hw
  obtain ⟨pk, qk, rfl, ck1, ck2, kc⟩ := hk
  have KC : Hid (ks ≠ [] → ∃ x, pk = some x ∧ x.block < w.heap.size ∧ ∀ (i : Nat) k, ks[i]? = some k → Kc w (x.add (i * 11)) k) := kc
  clear hb hw hs kc
  go_enter Tryz.func26, Tryz.ntmps26
  go_upto_region 1 with fail
  have B0 : Hid (Below w.heap.size w (w.alloc (Obj.cells #[.int .i64 X.turn, .int .i64 X.next, .int .i64 X.wide, .int .i64 X.high, .slice p1 X.gs.length q1, .slice p2 X.os.length q2, .slice p3 X.gold.length q3, .slice p4 X.us.length q4, .slice p5 X.qs.length q5] 29))) := (Below.refl _ _).alloc (Nat.le_refl _) _
  have X0 : Hid (Bw (w.alloc (Obj.cells #[.int .i64 X.turn, .int .i64 X.next, .int .i64 X.wide, .int .i64 X.high, .slice p1 X.gs.length q1, .slice p2 X.os.length q2, .slice p3 X.gold.length q3, .slice p4 X.us.length q4, .slice p5 X.qs.length q5] 29)) w.heap.size X (.slice p1 X.gs.length q1) (.slice p2 X.os.length q2) (.slice p3 X.gold.length q3) (.slice p4 X.us.length q4) (.slice p5 X.qs.length q5)) := Bw.mk' X _ _ _ _ _ rfl
  generalize (w.alloc (Obj.cells #[.int .i64 X.turn, .int .i64 X.next, .int .i64 X.wide, .int .i64 X.high, .slice p1 X.gs.length q1, .slice p2 X.os.length q2, .slice p3 X.gold.length q3, .slice p4 X.us.length q4, .slice p5 X.qs.length q5] 29)) = w0 at *
  obtain ⟨x0, x1, x2, x3, x4, x5, x6, x7, x8⟩ := X0.out
  go_wp2_with fail
  refine (wcheck_any _ _ ks X w0 (K.out.1.below B0.out) K.out.2 (H.out.below B0.out)).mono ?_
  rintro e w1 ⟨r, rfl, hr, hb⟩
  obtain ⟨fw, hfw⟩ : ∃ f, Wd.wfault ks X = f := ⟨_, rfl⟩
  have FW : Hid (Wd.wfault ks X = fw) := hfw
  rw [hfw] at hr
  have B1 : Hid (Below w.heap.size w w1) := B0.out.trans (hb.mono B0.out.size)
  have X1 : Hid (Bw w1 w.heap.size X (.slice p1 X.gs.length q1) (.slice p2 X.os.length q2) (.slice p3 X.gold.length q3) (.slice p4 X.us.length q4) (.slice p5 X.qs.length q5)) := X0.out.below hb X0.out.lt
  clear hb hfw x0 x1 x2 x3 x4 x5 x6 x7 x8 X0 B0
  rcases hr with ⟨rfl, rfl⟩ | ⟨hf, rfl⟩
  case inr =>
    have HF : Hid (fw ≠ 0) := hf
    clear hf
    go_wp2
    go_ret2
    exact ⟨0, _, fw, rfl, Er.no HF.out, .inl (by rw [FW.out]; exact ⟨HF.out, rfl, rfl⟩), B1.out⟩
  obtain ⟨x0, x1, x2, x3, x4, x5, x6, x7, x8⟩ := X1.out
  go_wp2_with fail
  refine (wfind_any _ X unit w1 (H.out.below B1.out)).mono ?_
  rintro e w2 ⟨r, rfl, hf, hb⟩
  have B2 : Hid (Below w.heap.size w w2) := B1.out.trans (hb.mono B1.out.size)
  have X2 : Hid (Bw w2 w.heap.size X (.slice p1 X.gs.length q1) (.slice p2 X.os.length q2) (.slice p3 X.gold.length q3) (.slice p4 X.us.length q4) (.slice p5 X.qs.length q5)) := X1.out.below hb X1.out.lt
  have FI : Hid (FstU (fun u => u.id == unit) X.us r) := hf
  clear hb x0 x1 x2 x3 x4 x5 x6 x7 x8 X1 B1
  rcases hf with ⟨rfl, hno⟩ | ⟨i, u, rfl, hi, hid, -⟩
  · have NO : Hid (X.us.any (fun u => u.id == unit) = false) := hno
    clear hno
    go_wp2
    go_ret2
    exact ⟨0, _, 6, rfl, Er.no (by decide), .inr (.inl ⟨FW.out, NO.out, rfl, rfl⟩), B2.out⟩
  have AN : Hid (X.us.any (fun u => u.id == unit) = true) := List.any_eq_true.2 ⟨u, List.mem_of_getElem? hi, hid⟩
  have UI : Hid (X.us[i]? = some u) := hi
  have hil : i < X.us.length := (List.getElem?_eq_some_iff.1 hi).1
  clear hi hid
  by_cases hk0 : kind < 0
  · go_wp2
    go_ret2
    exact ⟨0, _, 1, rfl, Er.no (by decide), .inr (.inr (.inl ⟨FW.out, AN.out, by omega, rfl, rfl⟩)), B2.out⟩
  by_cases hk1 : (ks.length : Int) ≤ kind
  · go_wp2
    go_ret2
    exact ⟨0, _, 1, rfl, Er.no (by decide), .inr (.inr (.inl ⟨FW.out, AN.out, by omega, rfl, rfl⟩)), B2.out⟩
  obtain ⟨kn, rfl⟩ : ∃ n : Nat, kind = n := ⟨kind.toNat, by omega⟩
  have hkl : kn < ks.length := by omega
  obtain ⟨k, hkk⟩ : ∃ k, ks[kn]? = some k := ⟨_, List.getElem?_eq_getElem hkl⟩
  have WR : Hid (WRight ks X) := wright_of FW.out
  obtain ⟨Wn, Hn, e1, e2, G⟩ := WR.out.good
  obtain ⟨k0, fu⟩ := WR.out.fine UI.out
  have hat := fu.at_
  obtain ⟨an, han⟩ : ∃ n : Nat, u.at_ = n := ⟨u.at_.toNat, by omega⟩
  have GD : Hid (X.wide = (Wn : Nat) ∧ X.high = (Hn : Nat) ∧ Fd.Good Wn Hn X.gs X.os ∧ u.at_ = (an : Nat) ∧ an < Wn * Hn ∧ ks[kn]? = some k) := ⟨e1, e2, G, han, by have := G.gl; omega, hkk⟩
  obtain ⟨pa, pc, he, -, -, hu⟩ := H.out.slices.2.2.2.1
  obtain ⟨xu, hxu, hxul, hxuc⟩ := hu (by intro h; rw [h] at hil; simp at hil)
  injection he with he1 he2 he3
  subst he1
  subst hxu
  obtain ⟨xk, hxk, hxl, hxc⟩ := KC.out (by intro h; subst h; simp at hkl)
  subst hxk
  have UK : Hid (Unc w (xu.add (i * 8)) u ∧ (xu.add (i * 8)).block < w.heap.size ∧ Kc w (xk.add (kn * 11)) k ∧ (xk.add (kn * 11)).block < w.heap.size) := ⟨hxuc i u UI.out, by rw [add_block]; exact hxul, hxc kn k hkk, by rw [add_block]; exact hxl⟩
  clear hu he2 he3 hxul hxuc hxl hxc e1 e2 G fu hat hkk KC han
  go_upto_region 10 with fail
  refine wp_region_two [(true, 0), (true, 1), (true, 2), (true, 3), (true, 4), (true, 5), (true, 6), (true, 7), (true, 8), (true, 9), (true, 10), (true, 11), (true, 12), (true, 13), (false, 14)] [(true, 15), (true, 16), (true, 17), (false, 18)] (fun V => Bw V w.heap.size X (.slice p1 X.gs.length q1) (.slice p2 X.os.length q2) (.slice p3 X.gold.length q3) (.slice (some xu) X.us.length q4) (.slice p5 X.qs.length q5) ∧ V.cell? ⟨(xu.add (i * 8)).block, (xu.add (i * 8)).off + 3, none⟩ = some (.int .i64 u.at_) ∧ V.cell? ⟨(xk.add (kn * 11)).block, (xk.add (kn * 11)).off + 9, none⟩ = some (.bool k.f)) (by kernel_rfl) (by kernel_rfl) (by kernel_rfl) (by decide +kernel) (by decide +kernel) ?_ ?_
  · exact ⟨X2.out.below ((Below.refl _ _).drew) X2.out.lt, (UK.out.1.below B2.out UK.out.2.1).c3, (UK.out.2.2.1.below B2.out UK.out.2.2.2).c9⟩
  have X3 : Hid (Bw { w2 with drawn := w2.drawn + 1 } w.heap.size X (.slice p1 X.gs.length q1) (.slice p2 X.os.length q2) (.slice p3 X.gold.length q3) (.slice (some xu) X.us.length q4) (.slice p5 X.qs.length q5)) := X2.out.below ((Below.refl _ _).drew) X2.out.lt
  have B3 : Hid (Below w.heap.size w { w2 with drawn := w2.drawn + 1 }) := B2.out.drew
  generalize ({ w2 with drawn := w2.drawn + 1 } : World) = w3 at *
  clear X2 B2
  refine headT_read rfl (.pointer (some ⟨w.heap.size, 2, none⟩)) (by go_simp) (fun V hV => by go_simp) ?_
  go_simp
  refine headT_read rfl (.agg #[.int .i64 X.wide, .int .i64 X.high, .slice p1 X.gs.length q1, .slice p2 X.os.length q2]) (by go_simp) (fun V hV => by obtain ⟨⟨x0, x1, x2, x3, x4, x5, x6, x7, x8⟩, cu, ck⟩ := hV; go_simp) ?_
  go_simp
  refine headT_read rfl (.pointer (some ⟨w.heap.size, 7, none⟩)) (by go_simp) (fun V hV => by go_simp) ?_
  go_simp
  refine headT_read rfl (.slice (some xu) X.us.length q4) (by go_simp) (fun V hV => by obtain ⟨⟨x0, x1, x2, x3, x4, x5, x6, x7, x8⟩, cu, ck⟩ := hV; go_simp) ?_
  go_simp
  refine headT_read rfl (.int .i64 (i : Nat)) (by go_simp) (fun V hV => by go_simp) ?_
  go_simp
  refine headT_read rfl (.pointer (some (xu.add (i * 8)))) (by go_simp) (fun V hV => by go_simp) ?_
  go_simp
  refine headT_read rfl (.pointer (some ⟨(xu.add (i * 8)).block, (xu.add (i * 8)).off + 3, none⟩)) (by go_simp) (fun V hV => by go_simp) ?_
  go_simp
  refine headT_read rfl (.int .i64 u.at_) (by go_simp) (fun V hV => by obtain ⟨⟨x0, x1, x2, x3, x4, x5, x6, x7, x8⟩, cu, ck⟩ := hV; go_simp) ?_
  go_simp
  refine headT_read rfl (.slice (some xk) ks.length qk) (by go_simp) (fun V hV => by go_simp) ?_
  go_simp
  refine headT_read rfl (.int .i64 (kn : Nat)) (by go_simp) (fun V hV => by go_simp) ?_
  go_simp
  refine headT_read rfl (.pointer (some (xk.add (kn * 11)))) (by go_simp) (fun V hV => by go_simp) ?_
  go_simp
  refine headT_read rfl (.pointer (some ⟨(xk.add (kn * 11)).block, (xk.add (kn * 11)).off + 9, none⟩)) (by go_simp) (fun V hV => by go_simp) ?_
  go_simp
  refine headT_read rfl (.bool k.f) (by go_simp) (fun V hV => by obtain ⟨⟨x0, x1, x2, x3, x4, x5, x6, x7, x8⟩, cu, ck⟩ := hV; go_simp) ?_
  go_simp
  refine headT_read rfl (.func (Fn.func 78) #[] #[.pointer (some ⟨w.heap.size, 0, none⟩)]) (by go_simp) (fun V hV => by go_simp) ?_
  go_simp
  refine headT_call rfl 81 #[.agg #[.int .i64 X.wide, .int .i64 X.high, .slice p1 X.gs.length q1, .slice p2 X.os.length q2], .int .i64 u.at_, .bool k.f, .func (Fn.func 78) #[] #[.pointer (some ⟨w.heap.size, 0, none⟩)]] (by go_simp) (by go_simp) ?_
  have FL : Hid (Fl w3 (.agg #[.int .i64 X.wide, .int .i64 X.high, .slice p1 X.gs.length q1, .slice p2 X.os.length q2]) (Wn : Nat) (Hn : Nat) X.gs X.os) := by
    have := fl_of (H.out.below B3.out)
    rw [GD.out.1, GD.out.2.1] at this
    rw [GD.out.1, GD.out.2.1]
    exact this
  have UL : Hid (Unl w (.slice (some xu) X.us.length q4) X.us) := H.out.slices.2.2.2.1
  rw [GD.out.2.2.2.1]
  refine (nearest_ok 78 (by intro args w; go_simp) #[.pointer (some ⟨w.heap.size, 0, none⟩)] (freeAt X.us) _ Wn Hn X.gs X.os an k.f w3 FL.out (S.out.below B3.out) GD.out.2.2.1 GD.out.2.2.2.2.1
    (fun V hV x => free_any X.us x w.heap.size _ V (X3.out.below hV X3.out.lt).c7 ((UL.out.below B3.out).below hV))).mono ?_
  rintro e w4 ⟨l, c, r, F, rfl, hl, hr, hn, hb⟩
  have B4 : Hid (Below w.heap.size w w4) := B3.out.trans (hb.mono B3.out.size)
  have X4 : Hid (Bw w4 w.heap.size X (.slice p1 X.gs.length q1) (.slice p2 X.os.length q2) (.slice p3 X.gold.length q3) (.slice (some xu) X.us.length q4) (.slice p5 X.qs.length q5)) := X3.out.below hb X3.out.lt
  have NS : Hid (IsFar (Fd.near Wn Hn) (fun i _ => (X.gs.map fun g => Fd.onto g k.f).getD i 0) an (Wn * Hn) l ∧ Er r F ∧ NearSays l (Wn * Hn) (freeAt X.us) c F) := ⟨hl, hr, hn⟩
  refine ⟨_, rfl, ⟨X4.out, (by have := (UK.out.1.below B4.out UK.out.2.1).c3; rw [GD.out.2.2.2.1] at this; exact this), (UK.out.2.2.1.below B4.out UK.out.2.2.2).c9⟩, ?_⟩
  clear hb hl hr hn X3 B3 FL
  go_simp
  refine sched_read rfl (.int .i64 c) (by go_simp) (fun V hV => by go_simp) ?_
  go_simp
  refine sched_read rfl r (by go_simp) (fun V hV => by go_simp) ?_
  go_simp
  refine sched_read rfl (.int .i64 c) (by go_simp) (fun V hV => by go_simp) ?_
  go_simp
  refine sched_value rfl r w4 (by go_simp) (by go_simp) trivial ?_
  go_simp
  unfold wpSched
  go_wp2
  go_ret2
  exact ⟨c, r, F, rfl, NS.out.2.1, .inr (.inr (.inr ⟨FW.out, i, kn, Wn, Hn, an, u, k, l, FI.out, UI.out, rfl, GD.out.2.2.2.2.2, GD.out.1, GD.out.2.1, GD.out.2.2.1, GD.out.2.2.2.1, GD.out.2.2.2.2.1, NS.out.1, NS.out.2.2⟩)), B4.out⟩
end Go.Proofs.YtoabhfipikkkeaaGreatDoor

namespace Go.Proofs.YtoabhfipikkkeaaGreatDoor
open Go.RowKit
set_option linter.unusedVariables false

structure EvV where
  what : Int
  unit : Int
  arg : Int
def EvV.val (k : EvV) : Value := .agg #[.int .i64 k.what, .int .i64 k.unit, .int .i64 k.arg]
/-- its cells, from an address on. -/
structure Evc (w : World) (y : Addr) (k : EvV) : Prop where
  c0 : w.cell? y = some (.int .i64 k.what)
  c1 : w.cell? ⟨y.block, y.off + 1, none⟩ = some (.int .i64 k.unit)
  c2 : w.cell? ⟨y.block, y.off + 2, none⟩ = some (.int .i64 k.arg)
theorem Evc.lt {w : World} {y : Addr} {k : EvV} (h : Evc w y k) : y.block < w.heap.size := cell_lt h.c0
theorem Evc.below {w w' : World} {y : Addr} {k : EvV} {B : Nat} (h : Evc w y k) (hb : Below B w w') (hy : y.block < B) : Evc w' y k :=
  ⟨by rw [hb.cell (p := y) hy]; exact h.c0, by rw [hb.cell (p := ⟨y.block, y.off + 1, none⟩) hy]; exact h.c1, by rw [hb.cell (p := ⟨y.block, y.off + 2, none⟩) hy]; exact h.c2⟩
/-- v is a slice of them. -/
def Evl (w : World) (v : Value) (ks : List EvV) : Prop := ∃ a c, v = .slice a ks.length c ∧ ks.length ≤ c ∧ c ≤ 9223372036854775807 ∧ (ks ≠ [] → ∃ x, a = some x ∧ x.block < w.heap.size ∧ ∀ (i : Nat) k, ks[i]? = some k → Evc w (x.add (i * 3)) k)
theorem Evl.below {w w' : World} {v : Value} {ks : List EvV} (h : Evl w v ks) (hb : Below w.heap.size w w') : Evl w' v ks := by
  obtain ⟨a, c, h1, h2, h3, h4⟩ := h
  refine ⟨a, c, h1, h2, h3, fun hn => ?_⟩
  obtain ⟨x, e, hx, hk⟩ := h4 hn
  exact ⟨x, e, Nat.lt_of_lt_of_le hx hb.size, fun i k hi => (hk i k hi).below hb (by rw [add_block]; exact hx)⟩
theorem Evc.mk' {w : World} {z : Nat} (k : EvV) (hz : w.heap.size = z) : Evc (w.alloc (.cells #[.int .i64 k.what, .int .i64 k.unit, .int .i64 k.arg] 120)) ⟨z, 0, none⟩ k := by
  subst hz
  constructor <;> simp
end Go.Proofs.YtoabhfipikkkeaaGreatDoor

namespace Go.Proofs.YtoabhfipikkkeaaGreatDoor
set_option linter.unusedVariables false

def cntU (l : List JbV) (u : Int) : Nat := l.countP (fun j => decide (j.unit = u))
theorem cntU_next {l : List JbV} {q : Nat} {j : JbV} (h : l[q]? = some j) (u : Int) : cntU (l.take (q + 1)) u = cntU (l.take q) u + if j.unit = u then 1 else 0 := by
  unfold cntU
  rw [List.take_add_one, h, List.countP_append]
  simp [List.countP_cons]
/-- a job, one turn later, if none ahead is of its unit. -/
def dec1 (l : List JbV) (j : JbV) : JbV := if cntU l j.unit = 0 then { j with left := j.left - 1 } else j
def one1 (j : JbV) : JbV := { j with left := 1 }
def Comes (ks : List KV) (Y : WV) (j : JbV) (c : Int) : Prop := SpotSays ks Y j.unit j.kind c 0 ∧ Wd.placeFault ks Y j.player j.kind c = 0
def NoCome (ks : List KV) (Y : WV) (j : JbV) : Prop := ∃ c F, SpotSays ks Y j.unit j.kind c F ∧ (F ≠ 0 ∨ Wd.placeFault ks Y j.player j.kind c ≠ 0)
/-- the first q jobs are looked at: the world by then, what happened, which jobs are left. -/
inductive Tr (ks : List KV) (X : WV) : Nat → WV → List EvV → List JbV → Prop
  | zero : Tr ks X 0 X [] []
  | wait {q : Nat} {Y : WV} {es : List EvV} {qs : List JbV} {j : JbV} : Tr ks X q Y es qs → X.qs[q]? = some j → (dec1 (X.qs.take q) j).left ≠ 0 → Tr ks X (q + 1) Y es (qs ++ [dec1 (X.qs.take q) j])
  | come {q : Nat} {Y : WV} {es : List EvV} {qs : List JbV} {j : JbV} {c : Int} : Tr ks X q Y es qs → X.qs[q]? = some j → (dec1 (X.qs.take q) j).left = 0 → Comes ks Y j c → Tr ks X (q + 1) (Wd.put ks Y j.player j.kind c) (es ++ [⟨6, Y.next, c⟩]) qs
  | stay {q : Nat} {Y : WV} {es : List EvV} {qs : List JbV} {j : JbV} : Tr ks X q Y es qs → X.qs[q]? = some j → (dec1 (X.qs.take q) j).left = 0 → NoCome ks Y j → Tr ks X (q + 1) Y es (qs ++ [one1 j])
theorem Tr.keep {ks : List KV} {X : WV} (h : WRight ks X) {q : Nat} {Y : WV} {es : List EvV} {qs : List JbV} (t : Tr ks X q Y es qs) : WRight ks Y ∧ Y.qs = X.qs ∧ es.length ≤ q ∧ qs.length ≤ q ∧ Y.turn = X.turn ∧ Y.wide = X.wide ∧ Y.high = X.high ∧ Y.gs = X.gs ∧ Y.os = X.os ∧ Y.gold = X.gold := by
  induction t with
  | zero => exact ⟨h, rfl, by simp, by simp, rfl, rfl, rfl, rfl, rfl, rfl⟩
  | wait _ _ _ ih =>
    obtain ⟨i1, i2, i3, i4, i5⟩ := ih
    exact ⟨i1, i2, by omega, by simp; omega, i5⟩
  | come _ _ _ hc ih =>
    obtain ⟨i1, i2, i3, i4, i5⟩ := ih
    exact ⟨wright_of (put_right i1 hc.2), i2, by simp; omega, by omega, i5⟩
  | stay _ _ _ _ ih =>
    obtain ⟨i1, i2, i3, i4, i5⟩ := ih
    exact ⟨i1, i2, by omega, by simp; omega, i5⟩
end Go.Proofs.YtoabhfipikkkeaaGreatDoor

namespace Go.Proofs.YtoabhfipikkkeaaGreatDoor
set_option linter.unusedVariables false

theorem Tr.count {ks : List KV} {X : WV} {q : Nat} {Y : WV} {es : List EvV} {qs : List JbV} (t : Tr ks X q Y es qs) : Y.us.length = X.us.length + es.length ∧ Y.next = X.next + (es.length : Int) ∧ qs.length + es.length = q := by
  induction t with
  | zero => simp
  | wait _ _ _ ih => obtain ⟨i1, i2, i3⟩ := ih; exact ⟨i1, i2, by simp; omega⟩
  | come _ _ _ _ ih =>
    obtain ⟨i1, i2, i3⟩ := ih
    refine ⟨?_, ?_, by simp; omega⟩
    · simp only [Wd.put, List.length_append, List.length_cons, List.length_nil]
      omega
    · simp only [Wd.put, List.length_append, List.length_cons, List.length_nil, i2]
      omega
  | stay _ _ _ _ ih => obtain ⟨i1, i2, i3⟩ := ih; exact ⟨i1, i2, by simp; omega⟩
/-- a job that is left is one that was, with Left from 1 on. -/
def FromJ (X : WV) (j : JbV) : Prop := ∃ o ∈ X.qs, j.player = o.player ∧ j.unit = o.unit ∧ j.kind = o.kind ∧ j.left ≠ 0 ∧ (j.left = 1 ∨ j.left = o.left ∨ j.left = o.left - 1)
theorem Tr.from {ks : List KV} {X : WV} {q : Nat} {Y : WV} {es : List EvV} {qs : List JbV} (t : Tr ks X q Y es qs) : ∀ j ∈ qs, FromJ X j := by
  induction t with
  | zero => intro j hj; cases hj
  | @wait q Y es qs o _ ho hl ih =>
    intro j hj
    rcases List.mem_append.1 hj with hj | hj
    · exact ih j hj
    · simp only [List.mem_singleton] at hj
      subst hj
      refine ⟨o, List.mem_of_getElem? ho, ?_⟩
      unfold dec1 at hl ⊢
      split
      · rename_i h
        rw [if_pos h] at hl
        exact ⟨rfl, rfl, rfl, hl, .inr (.inr rfl)⟩
      · rename_i h
        rw [if_neg h] at hl
        exact ⟨rfl, rfl, rfl, hl, .inr (.inl rfl)⟩
  | come _ _ _ _ ih => exact ih
  | @stay q Y es qs o _ ho _ _ ih =>
    intro j hj
    rcases List.mem_append.1 hj with hj | hj
    · exact ih j hj
    · simp only [List.mem_singleton] at hj
      subst hj
      exact ⟨o, List.mem_of_getElem? ho, rfl, rfl, rfl, (by show (1 : Int) ≠ 0; decide), .inl rfl⟩
/-- behind training a world is right. -/
theorem tr_right {ks : List KV} {X : WV} (h : WRight ks X) {Y : WV} {es : List EvV} {qs : List JbV} (t : Tr ks X X.qs.length Y es qs) : Wd.wfault ks { Y with qs := qs } = 0 := by
  obtain ⟨R, eq, -, hq, -⟩ := t.keep h
  have hf := t.from
  obtain ⟨Wn, Hn, e1, e2, G⟩ := R.good
  refine Wd.wfault_zero R.kinds (by show Fd.fault Y.wide Y.high Y.gs Y.os = 0; rw [e1, e2]; exact Fd.fault_good G) R.nums R.ul (fun i u hu => ?_) (by show qs.length ≤ 12; have := h.ql; omega) (fun j hj => ?_)
  · obtain ⟨k, F⟩ := R.fine hu
    exact ⟨k, F.id1, F.id2, F.up, F.p, F.k0, F.kk, F.life, F.load, F.task, F.at_, F.goal, F.opn, F.rest⟩
  · obtain ⟨o, ho, p1, p2, p3, p4, p5⟩ := hf j hj
    have h1 := R.job (j := o) (by rw [eq]; exact ho)
    unfold Wd.jobFault at h1 ⊢
    show (match Y.us.find? (fun u => u.id == j.unit) with | none => 6 | some u => _) = (0 : Int)
    rw [p2]
    cases hu : Y.us.find? (fun u => u.id == o.unit) with
    | none => rw [hu] at h1; exact h1
    | some u =>
      rw [hu] at h1
      simp only at h1 ⊢
      cases hk : ks[u.kind.toNat]? with
      | none => rw [hk] at h1; exact h1
      | some k =>
        rw [hk] at h1
        simp only at h1 ⊢
        rw [p1, p3]
        split at h1
        · cases h1
        · rename_i c1
          rw [if_neg c1]
          split at h1
          · cases h1
          · rename_i c2
            rw [if_neg]
            simp only [Bool.or_eq_true, Bool.not_eq_true', decide_eq_false_iff_not, not_or, Classical.not_not, Bool.not_eq_false] at c2 ⊢
            refine ⟨c2.1, ?_⟩
            have := c2.2
            rcases p5 with e | e | e <;> omega
end Go.Proofs.YtoabhfipikkkeaaGreatDoor

namespace Go.Proofs.YtoabhfipikkkeaaGreatDoor
set_option linter.unusedVariables false

def carryOf (ks : List KV) (u : UnV) : Int := match ks[u.kind.toNat]? with | some k => k.n7 | none => 0
/-- how much a unit takes where it stands. -/
def yieldN (ks : List KV) (Y : WV) (u : UnV) : Int := if u.task = 2 ∧ u.at_ = u.goal then min (min (carryOf ks u - u.load) (Y.os.getD u.at_.toNat 0)) 10 else 0
def loadU (u : UnV) (n : Int) : UnV := { u with load := n }
def takeW (Y : WV) (i : Nat) (u : UnV) (n : Int) : WV := { Y with us := Y.us.set i (loadU u (u.load + n)), os := Y.os.set u.at_.toNat (Y.os.getD u.at_.toNat 0 - n) }
/-- the first q units have taken; what happened. -/
def tk (ks : List KV) (Y : WV) : Nat → WV × List EvV
  | 0 => (Y, [])
  | q + 1 => match (tk ks Y q).1.us[q]? with
    | none => tk ks Y q
    | some u => if 0 < yieldN ks (tk ks Y q).1 u then (takeW (tk ks Y q).1 q u (yieldN ks (tk ks Y q).1 u), (tk ks Y q).2 ++ [⟨4, u.id, yieldN ks (tk ks Y q).1 u⟩]) else tk ks Y q
theorem tk_yes {ks : List KV} {Y : WV} {q : Nat} {u : UnV} (hu : (tk ks Y q).1.us[q]? = some u) (h : 0 < yieldN ks (tk ks Y q).1 u) : tk ks Y (q + 1) = (takeW (tk ks Y q).1 q u (yieldN ks (tk ks Y q).1 u), (tk ks Y q).2 ++ [⟨4, u.id, yieldN ks (tk ks Y q).1 u⟩]) := by
  rw [tk]; simp only [hu]; rw [if_pos h]
theorem tk_no {ks : List KV} {Y : WV} {q : Nat} {u : UnV} (hu : (tk ks Y q).1.us[q]? = some u) (h : ¬ 0 < yieldN ks (tk ks Y q).1 u) : tk ks Y (q + 1) = tk ks Y q := by
  rw [tk]; simp only [hu]; rw [if_neg h]
/-- what must hold for ore to be dug. -/
structure DFit (ks : List KV) (Y : WV) : Prop where
  wide : ∃ Wn Hn : Nat, Y.wide = Wn ∧ Y.high = Hn ∧ Fd.Good Wn Hn Y.gs Y.os
  units : ∀ u ∈ Y.us, (∃ kn : Nat, ∃ k, u.kind = kn ∧ ks[kn]? = some k ∧ 0 ≤ u.load ∧ u.load ≤ k.n7 ∧ k.n7 ≤ 1000) ∧ (∃ an : Nat, u.at_ = an ∧ an < Y.os.length) ∧ ∃ pn : Nat, u.player = pn ∧ pn < Y.gold.length
  gold : ∀ g ∈ Y.gold, 0 ≤ g ∧ g ≤ 1000000
  ul : Y.us.length ≤ 40
theorem DFit.ore {ks : List KV} {Y : WV} (h : DFit ks Y) {i : Nat} {x : Int} (hx : Y.os[i]? = some x) : 0 ≤ x ∧ x ≤ 1000000 := by
  obtain ⟨Wn, Hn, -, -, G⟩ := h.wide
  have hi := (List.getElem?_eq_some_iff.1 hx).1
  have hg := List.getElem?_eq_getElem (l := Y.gs) (i := i) (by rw [G.gl, ← G.ol]; exact hi)
  have := G.cell i _ x hg hx
  omega
theorem kinds_carry {ks : List KV} (h : Kd.kindsFault (ks.map KV.k) = 0) : ∀ k ∈ ks, 0 ≤ k.n7 ∧ k.n7 ≤ 1000 := by
  intro k hk
  unfold Kd.kindsFault at h
  split at h
  · omega
  · have h2 := kgo_nums h k.k (List.mem_map.2 ⟨k, hk, rfl⟩)
    unfold Kd.numsFault at h2
    split at h2
    · omega
    · rename_i h3
      rw [Bool.not_eq_true, List.any_eq_false] at h3
      have := h3 k.n7 (by simp [KV.k])
      simp only [decide_eq_true_eq] at this
      omega
theorem gold_inD {Y : WV} (h : Wd.numsBad Y = false) : ∀ g ∈ Y.gold, 0 ≤ g ∧ g ≤ 1000000 := by
  unfold Wd.numsBad at h
  simp only [Bool.or_eq_false_iff] at h
  obtain ⟨-, -, h3, h4⟩ := h
  intro g hg
  rw [List.any_eq_false] at h4
  have := h4 g hg
  unfold Wd.off at this
  simp at this
  exact this
theorem WRight.dfit {ks : List KV} {Y : WV} (h : WRight ks Y) : DFit ks Y := by
  have kc := kinds_carry h.kinds
  obtain ⟨Wn, Hn, e1, e2, G⟩ := h.good
  refine ⟨⟨Wn, Hn, e1, e2, G⟩, fun u hu => ?_, gold_inD h.nums, h.ul⟩
  obtain ⟨i, hi⟩ := List.mem_iff_getElem?.1 hu
  obtain ⟨k, F⟩ := h.fine hi
  have hl : Y.os.length = Y.gs.length := by rw [G.gl, G.ol]
  exact ⟨⟨u.kind.toNat, k, by have := F.k0; omega, F.kk, F.load.1, F.load.2, (kc k (List.mem_of_getElem? F.kk)).2⟩, ⟨u.at_.toNat, by have := F.at_; omega, by have := F.at_; omega⟩, ⟨u.player.toNat, by have := F.p; omega, by have := F.p; omega⟩⟩
theorem yield_le {ks : List KV} {Y : WV} {u : UnV} {kn an : Nat} {k : KV} {x : Int} (hk : u.kind = kn) (hkk : ks[kn]? = some k) (ha : u.at_ = an) (hx : Y.os[an]? = some x) : yieldN ks Y u = (if u.task = 2 ∧ u.at_ = u.goal then min (min (k.n7 - u.load) x) 10 else 0) := by
  unfold yieldN carryOf
  rw [hk, ha, Int.toNat_natCast, Int.toNat_natCast]
  simp only [hkk, List.getD_eq_getElem?_getD, hx, Option.getD_some]
theorem DFit.take {ks : List KV} {Y : WV} (h : DFit ks Y) {i : Nat} {u : UnV} (hu : Y.us[i]? = some u) (hn : 0 < yieldN ks Y u) : DFit ks (takeW Y i u (yieldN ks Y u)) := by
  obtain ⟨⟨kn, k, e1, e2, l1, l2, l3⟩, ⟨an, e3, hal⟩, pn, e4, hpl⟩ := h.units u (List.mem_of_getElem? hu)
  obtain ⟨x, hx⟩ : ∃ x, Y.os[an]? = some x := ⟨_, List.getElem?_eq_getElem hal⟩
  have ey := yield_le (ks := ks) (Y := Y) e1 e2 e3 hx
  have hox := h.ore hx
  have hy : yieldN ks Y u ≤ k.n7 - u.load ∧ yieldN ks Y u ≤ x := by
    rw [ey] at hn ⊢
    split
    · omega
    · rename_i hh; rw [if_neg hh] at hn; omega
  have eg : Y.os.getD u.at_.toNat 0 = x := by rw [e3, Int.toNat_natCast, List.getD_eq_getElem?_getD, hx, Option.getD_some]
  refine ⟨?_, fun v hv => ?_, h.gold, by simpa [takeW] using h.ul⟩
  · obtain ⟨Wn, Hn, a1, a2, G⟩ := h.wide
    refine ⟨Wn, Hn, a1, a2, ⟨G.w1, G.w2, G.h1, G.h2, G.gl, by simpa [takeW] using G.ol, fun j g o hg ho => ?_⟩⟩
    unfold takeW at ho
    simp only at ho
    rw [eg, e3, Int.toNat_natCast, List.getElem?_set] at ho
    split at ho
    · rename_i ej
      subst ej
      injection ho with ho
      have c := G.cell an g x hg hx
      refine ⟨c.1, c.2.1, by omega, by omega, fun h9 => c.2.2.2.2 (by omega)⟩
    · exact G.cell j g o hg ho
  · have hlen : (takeW Y i u (yieldN ks Y u)).os.length = Y.os.length := by simp [takeW]
    rw [hlen]
    rcases List.mem_or_eq_of_mem_set hv with hv | rfl
    · exact h.units v hv
    · exact ⟨⟨kn, k, e1, e2, by show 0 ≤ u.load + _; omega, by show u.load + _ ≤ _; omega, l3⟩, ⟨an, e3, hal⟩, pn, e4, hpl⟩
/-- what taking leaves as it was. -/
def TkK (Y Z : WV) : Prop := Z.turn = Y.turn ∧ Z.next = Y.next ∧ Z.wide = Y.wide ∧ Z.high = Y.high ∧ Z.gs = Y.gs ∧ Z.gold = Y.gold ∧ Z.qs = Y.qs ∧ Z.us.length = Y.us.length ∧ Z.os.length = Y.os.length
theorem tk_keep {ks : List KV} {Y : WV} : ∀ q, TkK Y (tk ks Y q).1
  | 0 => ⟨rfl, rfl, rfl, rfl, rfl, rfl, rfl, rfl, rfl⟩
  | q + 1 => by
    have ih := tk_keep (ks := ks) (Y := Y) q
    cases hu : (tk ks Y q).1.us[q]? with
    | none => rw [tk]; simp only [hu]; exact ih
    | some u =>
      by_cases h : 0 < yieldN ks (tk ks Y q).1 u
      · rw [tk_yes hu h]
        obtain ⟨a1, a2, a3, a4, a5, a6, a7, a8, a9⟩ := ih
        exact ⟨a1, a2, a3, a4, a5, a6, a7, by simpa [takeW] using a8, by simpa [takeW] using a9⟩
      · rw [tk_no hu h]; exact ih
theorem tk_fit {ks : List KV} {Y : WV} (h : DFit ks Y) : ∀ q, DFit ks (tk ks Y q).1
  | 0 => h
  | q + 1 => by
    have ih := tk_fit h q
    cases hu : (tk ks Y q).1.us[q]? with
    | none => rw [tk]; simp only [hu]; exact ih
    | some u =>
      by_cases hh : 0 < yieldN ks (tk ks Y q).1 u
      · rw [tk_yes hu hh]; exact ih.take hu hh
      · rw [tk_no hu hh]; exact ih
theorem tk_evs {ks : List KV} {Y : WV} : ∀ q, (tk ks Y q).2.length ≤ q
  | 0 => by simp [tk]
  | q + 1 => by
    have ih := tk_evs (ks := ks) (Y := Y) q
    cases hu : (tk ks Y q).1.us[q]? with
    | none => rw [tk]; simp only [hu]; omega
    | some u =>
      by_cases h : 0 < yieldN ks (tk ks Y q).1 u
      · rw [tk_yes hu h]; simp; omega
      · rw [tk_no hu h]; omega
end Go.Proofs.YtoabhfipikkkeaaGreatDoor

namespace Go.Proofs.YtoabhfipikkkeaaGreatDoor
open Go.RowKit
set_option linter.unusedVariables false

theorem len_un (ks : List UnV) : (ks.flatMap UnV.cs).length = ks.length * 8 := by
  induction ks with
  | nil => rfl
  | cons x l ih => rw [List.flatMap_cons, List.length_append, ih, List.length_cons, Nat.succ_mul, Nat.add_comm]; rfl
theorem cell_un {w : World} {y : Addr} {ks : List UnV} (hc : ∀ (i : Nat) k, ks[i]? = some k → Unc w (y.add (i * 8)) k) (j : Nat) (u : Value) (hj : (ks.flatMap UnV.cs)[j]? = some u) : w.cell? (y.add j) = some u := by
  have hjl : j < ks.length * 8 := by rw [← len_un]; exact (List.getElem?_eq_some_iff.1 hj).1
  obtain ⟨i, r, hr, rfl⟩ : ∃ i r, r < 8 ∧ j = i * 8 + r := ⟨j / 8, j % 8, Nat.mod_lt _ (by decide), by omega⟩
  have hi : i < ks.length := by omega
  obtain ⟨k, hk⟩ : ∃ k, ks[i]? = some k := ⟨_, List.getElem?_eq_getElem hi⟩
  rw [flat_un ks i r k hk hr] at hj
  have h := hc i k hk
  rcases Nat.eq_zero_or_pos r with rfl | hr0
  · simp [UnV.cs] at hj
    subst hj
    exact h.c0
  · have ea : y.add (i * 8 + r) = ⟨(y.add (i * 8)).block, (y.add (i * 8)).off + r, none⟩ := by
      unfold Addr.add
      rw [if_neg (by omega)]
      split <;> simp <;> omega
    rw [ea]
    match r, hr, hr0, hj with
    | 1, _, _, hj => simp [UnV.cs] at hj; subst hj; exact h.c1
    | 2, _, _, hj => simp [UnV.cs] at hj; subst hj; exact h.c2
    | 3, _, _, hj => simp [UnV.cs] at hj; subst hj; exact h.c3
    | 4, _, _, hj => simp [UnV.cs] at hj; subst hj; exact h.c4
    | 5, _, _, hj => simp [UnV.cs] at hj; subst hj; exact h.c5
    | 6, _, _, hj => simp [UnV.cs] at hj; subst hj; exact h.c6
    | 7, _, _, hj => simp [UnV.cs] at hj; subst hj; exact h.c7

theorem app_uns {ops : Array Oper} {rest : List Oper} {o : Oper} {a : Act} {Q : Exit → Act → World → Prop} (w : World) (hgd : o.guard = none) (s x : Operand)
    (ho : o.op = .call { callee := .builtin .append, args := #[s, x], argTypes := #[26, 26] }) (base : Nat) (v : Value) (ks : List UnV) (hs : a.eval s = v) (hown : Uno w base v ks)
    (u : Value) (ys : List UnV) (hx : a.eval x = u) (hu : Unl w u ys) (hl : ks.length + ys.length ≤ 100000000) (hbase : base ≤ w.heap.size)
    (h : ∀ v' w', Uno w' base v' (ks ++ ys) → w.grownBy w' v.ownBlock → (v'.ownBlock = v.ownBlock ∨ v'.ownBlock = some w.heap.size) → wpList Tryz.prog ops Q rest (a.put o.dst v') w') :
    wpList Tryz.prog ops Q (o :: rest) a w := by
  obtain ⟨i0, hi, hz0, hz1, hz2⟩ := info_parts info_un
  obtain ⟨ad, c, rfl, h1, h2, h3⟩ := hu
  by_cases hn : ys = []
  · subst hn
    refine wpList_plain hgd fun K hK => ?_
    have hrun := run_append_no (P := Tryz.prog) (w := w) base 26 o.type 63 i0 8 Tryz.underlying26 hi v ks.length _ hown ad c
    have hx' : a.eval x = .slice ad 0 c := hx
    unfold Oper.wp
    simp [execOp, ho, resolve, invoke, builtin, hs, hx', hrun, Result.andThen]
    exact hK _ _ (h v w (by simpa using hown) (World.grownBy.refl _ _) (.inl rfl))
  · obtain ⟨y, rfl, hy, hc⟩ := h3 hn
    refine wpList_append_lies w hgd s x 26 ho base 63 i0 _ 8 64 Tryz.underlying26 hi hz0 hz1 hz2 rfl (by decide) v ks.length _ hs hown y ys.length c (ys.flatMap UnV.cs) hx (len_un ys) (cell_un hc) ?_ (List.length_pos_iff.2 hn) (by unfold maxLen; omega) (by omega) hbase _ rfl ?_
    · intro u hu
      obtain ⟨k, -, hk⟩ := List.mem_flatMap.1 hu
      simp [UnV.cs] at hk
      rcases hk with rfl | rfl | rfl | rfl | rfl | rfl | rfl | rfl <;> rfl
    · intro g cap w' k1 k2 k3 _
      refine h _ w' ?_ k2 ?_
      · unfold Uno
        rw [List.length_append, List.flatMap_append]
        exact k1
      · rcases k3 with k3 | k3
        · exact .inl k3.symm
        · exact .inr (by rw [k3]; rfl)
end Go.Proofs.YtoabhfipikkkeaaGreatDoor

namespace Go.Proofs.YtoabhfipikkkeaaGreatDoor
open Go.RowKit
set_option linter.unusedVariables false

/-- block g has these units, and more behind them. -/
def Ub (w : World) (g : Nat) (ks : List UnV) (rest : List Value) : Prop := w.heap[g]? = some (.cells (ks.flatMap UnV.cs ++ rest).toArray 63 (0, 0))
theorem Ub.lt {w : World} {g : Nat} {ks : List UnV} {rest : List Value} (h : Ub w g ks rest) : g < w.heap.size := lt_of_block h
theorem Ub.thaw {w : World} {g : Nat} {ks : List UnV} {rest : List Value} (h : Ub w g ks rest) (i : Nat) : w.frozen? ⟨g, i, none⟩ = false := by
  unfold Ub at h
  simp [World.frozen?, h]
theorem Ub.below {w w' : World} {g B : Nat} {ks : List UnV} {rest : List Value} (h : Ub w g ks rest) (hb : Below B w w') (hB : g < B) : Ub w' g ks rest := by
  unfold Ub at *
  rw [hb.block g hB]; exact h
theorem Ub.at_ {w : World} {g : Nat} {ks : List UnV} {rest : List Value} (h : Ub w g ks rest) {i : Nat} {o : UnV} (ho : ks[i]? = some o) {j : Nat} (hj : j < 8) : w.cell? ⟨g, i * 8 + j, none⟩ = o.cs[j]? := by
  unfold Ub at h
  have hi : i < ks.length := (List.getElem?_eq_some_iff.1 ho).1
  simp only [World.cell?, h]
  have e : (ks.flatMap UnV.cs ++ rest).toArray[i * 8 + j]? = o.cs[j]? := by
    rw [List.getElem?_toArray, List.getElem?_append_left (by rw [len_un]; omega), flat_un ks i j o ho hj]
  simp only [e]
  simp
theorem Ub.unc {w : World} {g : Nat} {ks : List UnV} {rest : List Value} (h : Ub w g ks rest) {i : Nat} {o : UnV} (ho : ks[i]? = some o) : Unc w ⟨g, i * 8, none⟩ o :=
  ⟨h.at_ ho (j := 0) (by decide), h.at_ ho (j := 1) (by decide), h.at_ ho (j := 2) (by decide), h.at_ ho (j := 3) (by decide), h.at_ ho (j := 4) (by decide), h.at_ ho (j := 5) (by decide), h.at_ ho (j := 6) (by decide), h.at_ ho (j := 7) (by decide)⟩
theorem uflat_set : ∀ (ks : List UnV) (i : Nat) (o : UnV) (rest : List Value), i < ks.length →
    (ks.set i o).flatMap UnV.cs ++ rest = ((((((((ks.flatMap UnV.cs ++ rest).set (i * 8) (.int .i64 o.id)).set (i * 8 + 1) (.int .i64 o.player)).set (i * 8 + 2) (.int .i64 o.kind)).set (i * 8 + 3) (.int .i64 o.at_)).set (i * 8 + 4) (.int .i64 o.life)).set (i * 8 + 5) (.int .i64 o.load)).set (i * 8 + 6) (.int .i64 o.task)).set (i * 8 + 7) (.int .i64 o.goal)
  | [], i, o, rest, h => by simp at h
  | k :: ks, 0, o, rest, _ => by
    simp [UnV.cs]
  | k :: ks, i + 1, o, rest, h => by
    have ih := uflat_set ks i o rest (by simpa using h)
    rw [show (i + 1) * 8 = i * 8 + 8 by omega, show i * 8 + 8 + 1 = i * 8 + 1 + 8 by omega, show i * 8 + 8 + 2 = i * 8 + 2 + 8 by omega, show i * 8 + 8 + 3 = i * 8 + 3 + 8 by omega, show i * 8 + 8 + 4 = i * 8 + 4 + 8 by omega, show i * 8 + 8 + 5 = i * 8 + 5 + 8 by omega, show i * 8 + 8 + 6 = i * 8 + 6 + 8 by omega, show i * 8 + 8 + 7 = i * 8 + 7 + 8 by omega, List.set_cons_succ, List.flatMap_cons, List.append_assoc, ih, List.flatMap_cons]
    simp [UnV.cs]
theorem Ub.put {w : World} {g : Nat} {ks : List UnV} {rest : List Value} (h : Ub w g ks rest) {i : Nat} (hi : i < ks.length) (o : UnV) :
    Ub ((((((((w.setCell ⟨g, i * 8, none⟩ (.int .i64 o.id)).setCell ⟨g, i * 8 + 1, none⟩ (.int .i64 o.player)).setCell ⟨g, i * 8 + 2, none⟩ (.int .i64 o.kind)).setCell ⟨g, i * 8 + 3, none⟩ (.int .i64 o.at_)).setCell ⟨g, i * 8 + 4, none⟩ (.int .i64 o.life)).setCell ⟨g, i * 8 + 5, none⟩ (.int .i64 o.load)).setCell ⟨g, i * 8 + 6, none⟩ (.int .i64 o.task)).setCell ⟨g, i * 8 + 7, none⟩ (.int .i64 o.goal)) g (ks.set i o) rest := by
  unfold Ub at *
  have h0 := heap_setCell_same w g (i * 8) _ _ (.int .i64 o.id) h
  have h1 := heap_setCell_same _ g (i * 8 + 1) _ _ (.int .i64 o.player) h0
  have h2 := heap_setCell_same _ g (i * 8 + 2) _ _ (.int .i64 o.kind) h1
  have h3 := heap_setCell_same _ g (i * 8 + 3) _ _ (.int .i64 o.at_) h2
  have h4 := heap_setCell_same _ g (i * 8 + 4) _ _ (.int .i64 o.life) h3
  have h5 := heap_setCell_same _ g (i * 8 + 5) _ _ (.int .i64 o.load) h4
  have h6 := heap_setCell_same _ g (i * 8 + 6) _ _ (.int .i64 o.task) h5
  have h7 := heap_setCell_same _ g (i * 8 + 7) _ _ (.int .i64 o.goal) h6
  rw [h7, uflat_set ks i o rest hi]
  simp
theorem ub_below {B g : Nat} {w W : World} {i : Nat} (o : UnV) (h : Below B w W) (hb : B ≤ g) : Below B w ((((((((W.setCell ⟨g, i * 8, none⟩ (.int .i64 o.id)).setCell ⟨g, i * 8 + 1, none⟩ (.int .i64 o.player)).setCell ⟨g, i * 8 + 2, none⟩ (.int .i64 o.kind)).setCell ⟨g, i * 8 + 3, none⟩ (.int .i64 o.at_)).setCell ⟨g, i * 8 + 4, none⟩ (.int .i64 o.life)).setCell ⟨g, i * 8 + 5, none⟩ (.int .i64 o.load)).setCell ⟨g, i * 8 + 6, none⟩ (.int .i64 o.task)).setCell ⟨g, i * 8 + 7, none⟩ (.int .i64 o.goal)) :=
  (((((((h.setCell (p := ⟨g, i * 8, none⟩) hb _).setCell (p := ⟨g, i * 8 + 1, none⟩) hb _).setCell (p := ⟨g, i * 8 + 2, none⟩) hb _).setCell (p := ⟨g, i * 8 + 3, none⟩) hb _).setCell (p := ⟨g, i * 8 + 4, none⟩) hb _).setCell (p := ⟨g, i * 8 + 5, none⟩) hb _).setCell (p := ⟨g, i * 8 + 6, none⟩) hb _).setCell (p := ⟨g, i * 8 + 7, none⟩) hb _
theorem uflat_set3 : ∀ (ks : List UnV) (i : Nat) (o : UnV) (a : Int) (rest : List Value), ks[i]? = some o → (ks.set i { o with at_ := a }).flatMap UnV.cs ++ rest = (ks.flatMap UnV.cs ++ rest).set (i * 8 + 3) (.int .i64 a)
  | [], i, o, a, rest, h => by simp at h
  | k :: ks, 0, o, a, rest, h => by
    simp at h
    subst h
    simp [UnV.cs]
  | k :: ks, i + 1, o, a, rest, h => by
    have ih := uflat_set3 ks i o a rest (by simpa using h)
    rw [show (i + 1) * 8 + 3 = i * 8 + 3 + 8 by omega, List.set_cons_succ, List.flatMap_cons, List.append_assoc, ih, List.flatMap_cons]
    simp [UnV.cs]
theorem Ub.set3 {w : World} {g : Nat} {ks : List UnV} {rest : List Value} (h : Ub w g ks rest) {i : Nat} {o : UnV} (ho : ks[i]? = some o) (a : Int) : Ub (w.setCell ⟨g, i * 8 + 3, none⟩ (.int .i64 a)) g (ks.set i { o with at_ := a }) rest := by
  unfold Ub at *
  have h0 := heap_setCell_same w g (i * 8 + 3) _ _ (.int .i64 a) h
  rw [h0, uflat_set3 ks i o a rest ho]
  simp
theorem uflat_set4 : ∀ (ks : List UnV) (i : Nat) (o : UnV) (a : Int) (rest : List Value), ks[i]? = some o → (ks.set i { o with life := a }).flatMap UnV.cs ++ rest = (ks.flatMap UnV.cs ++ rest).set (i * 8 + 4) (.int .i64 a)
  | [], i, o, a, rest, h => by simp at h
  | k :: ks, 0, o, a, rest, h => by
    simp at h
    subst h
    simp [UnV.cs]
  | k :: ks, i + 1, o, a, rest, h => by
    have ih := uflat_set4 ks i o a rest (by simpa using h)
    rw [show (i + 1) * 8 + 4 = i * 8 + 4 + 8 by omega, List.set_cons_succ, List.flatMap_cons, List.append_assoc, ih, List.flatMap_cons]
    simp [UnV.cs]
theorem Ub.set4 {w : World} {g : Nat} {ks : List UnV} {rest : List Value} (h : Ub w g ks rest) {i : Nat} {o : UnV} (ho : ks[i]? = some o) (a : Int) : Ub (w.setCell ⟨g, i * 8 + 4, none⟩ (.int .i64 a)) g (ks.set i { o with life := a }) rest := by
  unfold Ub at *
  have h0 := heap_setCell_same w g (i * 8 + 4) _ _ (.int .i64 a) h
  rw [h0, uflat_set4 ks i o a rest ho]
  simp
theorem uflat_set5 : ∀ (ks : List UnV) (i : Nat) (o : UnV) (a : Int) (rest : List Value), ks[i]? = some o → (ks.set i { o with load := a }).flatMap UnV.cs ++ rest = (ks.flatMap UnV.cs ++ rest).set (i * 8 + 5) (.int .i64 a)
  | [], i, o, a, rest, h => by simp at h
  | k :: ks, 0, o, a, rest, h => by
    simp at h
    subst h
    simp [UnV.cs]
  | k :: ks, i + 1, o, a, rest, h => by
    have ih := uflat_set5 ks i o a rest (by simpa using h)
    rw [show (i + 1) * 8 + 5 = i * 8 + 5 + 8 by omega, List.set_cons_succ, List.flatMap_cons, List.append_assoc, ih, List.flatMap_cons]
    simp [UnV.cs]
theorem Ub.set5 {w : World} {g : Nat} {ks : List UnV} {rest : List Value} (h : Ub w g ks rest) {i : Nat} {o : UnV} (ho : ks[i]? = some o) (a : Int) : Ub (w.setCell ⟨g, i * 8 + 5, none⟩ (.int .i64 a)) g (ks.set i { o with load := a }) rest := by
  unfold Ub at *
  have h0 := heap_setCell_same w g (i * 8 + 5) _ _ (.int .i64 a) h
  rw [h0, uflat_set5 ks i o a rest ho]
  simp
theorem uflat_set6 : ∀ (ks : List UnV) (i : Nat) (o : UnV) (a : Int) (rest : List Value), ks[i]? = some o → (ks.set i { o with task := a }).flatMap UnV.cs ++ rest = (ks.flatMap UnV.cs ++ rest).set (i * 8 + 6) (.int .i64 a)
  | [], i, o, a, rest, h => by simp at h
  | k :: ks, 0, o, a, rest, h => by
    simp at h
    subst h
    simp [UnV.cs]
  | k :: ks, i + 1, o, a, rest, h => by
    have ih := uflat_set6 ks i o a rest (by simpa using h)
    rw [show (i + 1) * 8 + 6 = i * 8 + 6 + 8 by omega, List.set_cons_succ, List.flatMap_cons, List.append_assoc, ih, List.flatMap_cons]
    simp [UnV.cs]
theorem Ub.set6 {w : World} {g : Nat} {ks : List UnV} {rest : List Value} (h : Ub w g ks rest) {i : Nat} {o : UnV} (ho : ks[i]? = some o) (a : Int) : Ub (w.setCell ⟨g, i * 8 + 6, none⟩ (.int .i64 a)) g (ks.set i { o with task := a }) rest := by
  unfold Ub at *
  have h0 := heap_setCell_same w g (i * 8 + 6) _ _ (.int .i64 a) h
  rw [h0, uflat_set6 ks i o a rest ho]
  simp
theorem uflat_set7 : ∀ (ks : List UnV) (i : Nat) (o : UnV) (a : Int) (rest : List Value), ks[i]? = some o → (ks.set i { o with goal := a }).flatMap UnV.cs ++ rest = (ks.flatMap UnV.cs ++ rest).set (i * 8 + 7) (.int .i64 a)
  | [], i, o, a, rest, h => by simp at h
  | k :: ks, 0, o, a, rest, h => by
    simp at h
    subst h
    simp [UnV.cs]
  | k :: ks, i + 1, o, a, rest, h => by
    have ih := uflat_set7 ks i o a rest (by simpa using h)
    rw [show (i + 1) * 8 + 7 = i * 8 + 7 + 8 by omega, List.set_cons_succ, List.flatMap_cons, List.append_assoc, ih, List.flatMap_cons]
    simp [UnV.cs]
theorem Ub.set7 {w : World} {g : Nat} {ks : List UnV} {rest : List Value} (h : Ub w g ks rest) {i : Nat} {o : UnV} (ho : ks[i]? = some o) (a : Int) : Ub (w.setCell ⟨g, i * 8 + 7, none⟩ (.int .i64 a)) g (ks.set i { o with goal := a }) rest := by
  unfold Ub at *
  have h0 := heap_setCell_same w g (i * 8 + 7) _ _ (.int .i64 a) h
  rw [h0, uflat_set7 ks i o a rest ho]
  simp
/-- a list of its own, as a block. -/
theorem Uno.ub {w : World} {base : Nat} {v : Value} {ks : List UnV} (h : Uno w base v ks) : (v = .slice none 0 0 ∧ ks = []) ∨ ∃ g cap rest, v = .slice (some ⟨g, 0, none⟩) ks.length cap ∧ base ≤ g ∧ ks.length ≤ cap ∧ cap ≤ maxLen ∧ ks.length * 8 + rest.length = cap * 8 ∧ Ub w g ks rest := by
  rcases h.2 with ⟨h1, h2⟩ | ⟨g, cap, cur, h1, h2, h3, h4, h5, h6, h7⟩
  · exact .inl ⟨h1, List.length_eq_zero_iff.1 h2⟩
  · refine .inr ⟨g, cap, cur.toList.drop (ks.length * 8), h1, h2, h4, h5, ?_, ?_⟩
    · have e6 : cur.toList.length = cap * 8 := by simpa using h6
      rw [List.length_drop, e6]
      have : ks.length * 8 ≤ cap * 8 := Nat.mul_le_mul_right _ h4
      omega
    · unfold Ub
      rw [← h7, List.take_append_drop, Array.toArray_toList]
      exact h3
theorem Ub.uno {w : World} {base g cap : Nat} {ks : List UnV} {rest : List Value} (h : Ub w g ks rest) (hb : base ≤ g) (h1 : ks.length ≤ cap) (h2 : cap ≤ maxLen) (h3 : ks.length * 8 + rest.length = cap * 8) : Uno w base (.slice (some ⟨g, 0, none⟩) ks.length cap) ks := by
  refine ⟨len_un ks, .inr ⟨g, cap, _, rfl, hb, h, h1, h2, ?_, ?_⟩⟩
  · simp only [List.size_toArray, List.length_append, len_un]; omega
  · show (ks.flatMap UnV.cs ++ rest).take (ks.length * 8) = _
    rw [List.take_append_of_le_length (by rw [len_un]; exact Nat.le_refl _), List.take_of_length_le (by rw [len_un]; exact Nat.le_refl _)]
/-- the first m of them, and the others behind. -/
theorem Ub.take {w : World} {g : Nat} {ks : List UnV} {rest : List Value} (h : Ub w g ks rest) (m : Nat) : Ub w g (ks.take m) ((ks.drop m).flatMap UnV.cs ++ rest) := by
  unfold Ub at *
  rw [← List.append_assoc, ← List.flatMap_append, List.take_append_drop]
  exact h
end Go.Proofs.YtoabhfipikkkeaaGreatDoor

namespace Go.Proofs.YtoabhfipikkkeaaGreatDoor
open Go.RowKit
set_option linter.unusedVariables false

theorem unit_one {w : World} {z : Nat} (y : UnV) (hz : w.heap.size = z) : Ub (w.alloc (Obj.cells #[.int .i64 y.id, .int .i64 y.player, .int .i64 y.kind, .int .i64 y.at_, .int .i64 y.life, .int .i64 y.load, .int .i64 y.task, .int .i64 y.goal] 63)) z [y] [] := by
  subst hz
  exact heap_alloc_new _ _
theorem ret_int {a b : Int} (h : a = b) : Ending.returned (.int .i64 a) = Ending.returned (.int .i64 b) := by rw [h]
set_option maxRecDepth 100000 in
set_option maxHeartbeats 8000000 in
theorem yield_any (vk vw : Value) (ks : List KV) (Y : WV) (u : UnV) (kn an : Nat) (k : KV) (x : Int) (w : World) (hk : Kl w vk ks) (hw : Wl w vw Y) (hkn : u.kind = kn) (hkk : ks[kn]? = some k) (han : u.at_ = an) (hx : Y.os[an]? = some x)
    (l1 : 0 ≤ u.load) (l2 : u.load ≤ 1000) (l3 : 0 ≤ k.n7) (l4 : k.n7 ≤ 1000) (l5 : 0 ≤ x ∧ x ≤ 1000000) :
    Calls Tryz.prog 116 #[vk, vw, u.val] w fun e w' => e = .returned (.int .i64 (yieldN ks Y u)) ∧ Below w.heap.size w w' := by
  have K : Hid (Kl w vk ks) := hk
  have H : Hid (Wl w vw Y) := hw
  have NN : Hid (u.kind = (kn : Nat) ∧ ks[kn]? = some k ∧ u.at_ = (an : Nat) ∧ Y.os[an]? = some x) := ⟨hkn, hkk, han, hx⟩
  have EY : Hid (yieldN ks Y u = (if u.task = 2 ∧ u.at_ = u.goal then min (min (k.n7 - u.load) x) 10 else 0)) := yield_le hkn hkk han hx
  have hkl : kn < ks.length := (List.getElem?_eq_some_iff.1 hkk).1
  have hal : an < Y.os.length := (List.getElem?_eq_some_iff.1 hx).1
  have hki : ((kn : Nat) : Int) < (ks.length : Nat) := by omega
  have hai : ((an : Nat) : Int) < (Y.os.length : Nat) := by omega
  obtain ⟨p1, q1, p2, q2, p3, q3, p4, q4, p5, q5, rfl⟩ := wl_shape9 hw
  obtain ⟨pk, qk, rfl, ck1, ck2, kc⟩ := hk
  obtain ⟨xk, rfl, hxk1, hxk⟩ := kc (by rintro hn; rw [hn] at hkl; simp at hkl)
  have KC : Hid (xk.block < w.heap.size ∧ Kc w (xk.add (kn * 11)) k) := ⟨hxk1, hxk kn k hkk⟩
  obtain ⟨xo, rfl, hxo⟩ : ∃ xo, p2 = some xo ∧ xo.block < w.heap.size ∧ w.cell? (xo.add an) = some (.int .i64 x) := by
    obtain ⟨k1, k2, k3, k4, k5, ev, r1, r2, r3, hu, r5⟩ := hw
    have e9 : k2 = .slice p2 Y.os.length q2 := by simp only [Value.agg.injEq, Array.mk.injEq, List.cons.injEq] at ev; exact ev.2.2.2.2.2.1.symm
    subst e9
    obtain ⟨a', c', e', -, -, hz⟩ := r2
    injection e' with e1' e2' e3'
    subst e1'
    obtain ⟨y, e, h1, h2⟩ := hz (by rintro hn; rw [hn] at hal; simp at hal)
    exact ⟨y, e, h1, h2 an x hx⟩
  have XO : Hid (xo.block < w.heap.size ∧ w.cell? (xo.add an) = some (.int .i64 x)) := hxo
  clear hw hxo hkn hkk han hx kc hxk hxk1
  unfold UnV.val
  go_enter Tryz.func116, Tryz.ntmps116
  go_upto_region 1 with fail
  have BA : Hid (Below w.heap.size w (w.alloc (Obj.cells #[.int .i64 Y.turn, .int .i64 Y.next, .int .i64 Y.wide, .int .i64 Y.high, .slice p1 Y.gs.length q1, .slice (some xo) Y.os.length q2, .slice p3 Y.gold.length q3, .slice p4 Y.us.length q4, .slice p5 Y.qs.length q5] 29))) := (Below.refl _ _).alloc (Nat.le_refl _) _
  have X0 : Hid (Bw (w.alloc (Obj.cells #[.int .i64 Y.turn, .int .i64 Y.next, .int .i64 Y.wide, .int .i64 Y.high, .slice p1 Y.gs.length q1, .slice (some xo) Y.os.length q2, .slice p3 Y.gold.length q3, .slice p4 Y.us.length q4, .slice p5 Y.qs.length q5] 29)) w.heap.size Y (.slice p1 Y.gs.length q1) (.slice (some xo) Y.os.length q2) (.slice p3 Y.gold.length q3) (.slice p4 Y.us.length q4) (.slice p5 Y.qs.length q5)) := Bw.mk' Y _ _ _ _ _ rfl
  have U0 : Hid (Ub ((w.alloc (Obj.cells #[.int .i64 Y.turn, .int .i64 Y.next, .int .i64 Y.wide, .int .i64 Y.high, .slice p1 Y.gs.length q1, .slice (some xo) Y.os.length q2, .slice p3 Y.gold.length q3, .slice p4 Y.us.length q4, .slice p5 Y.qs.length q5] 29)).alloc (Obj.cells #[.int .i64 u.id, .int .i64 u.player, .int .i64 u.kind, .int .i64 u.at_, .int .i64 u.life, .int .i64 u.load, .int .i64 u.task, .int .i64 u.goal] 63)) (w.heap.size + 1) [u] []) := unit_one u (by simp)
  have B1 : Hid (Below w.heap.size w ((w.alloc (Obj.cells #[.int .i64 Y.turn, .int .i64 Y.next, .int .i64 Y.wide, .int .i64 Y.high, .slice p1 Y.gs.length q1, .slice (some xo) Y.os.length q2, .slice p3 Y.gold.length q3, .slice p4 Y.us.length q4, .slice p5 Y.qs.length q5] 29)).alloc (Obj.cells #[.int .i64 u.id, .int .i64 u.player, .int .i64 u.kind, .int .i64 u.at_, .int .i64 u.life, .int .i64 u.load, .int .i64 u.task, .int .i64 u.goal] 63))) := BA.out.alloc (by simp) _
  have X1 : Hid (Bw ((w.alloc (Obj.cells #[.int .i64 Y.turn, .int .i64 Y.next, .int .i64 Y.wide, .int .i64 Y.high, .slice p1 Y.gs.length q1, .slice (some xo) Y.os.length q2, .slice p3 Y.gold.length q3, .slice p4 Y.us.length q4, .slice p5 Y.qs.length q5] 29)).alloc (Obj.cells #[.int .i64 u.id, .int .i64 u.player, .int .i64 u.kind, .int .i64 u.at_, .int .i64 u.life, .int .i64 u.load, .int .i64 u.task, .int .i64 u.goal] 63)) w.heap.size Y (.slice p1 Y.gs.length q1) (.slice (some xo) Y.os.length q2) (.slice p3 Y.gold.length q3) (.slice p4 Y.us.length q4) (.slice p5 Y.qs.length q5)) := X0.out.below ((Below.refl _ _).alloc (Nat.le_refl _) _) X0.out.lt
  generalize ((w.alloc (Obj.cells #[.int .i64 Y.turn, .int .i64 Y.next, .int .i64 Y.wide, .int .i64 Y.high, .slice p1 Y.gs.length q1, .slice (some xo) Y.os.length q2, .slice p3 Y.gold.length q3, .slice p4 Y.us.length q4, .slice p5 Y.qs.length q5] 29)).alloc (Obj.cells #[.int .i64 u.id, .int .i64 u.player, .int .i64 u.kind, .int .i64 u.at_, .int .i64 u.life, .int .i64 u.load, .int .i64 u.task, .int .i64 u.goal] 63)) = w1 at *
  clear BA X0
  have kc1 := KC.out.2.below B1.out (by rw [add_block]; exact KC.out.1)
  have k8 := kc1.c8
  have co : w1.cell? (xo.add an) = some (.int .i64 x) := by rw [B1.out.cell (by rw [add_block]; exact XO.out.1)]; exact XO.out.2
  obtain ⟨x0, x1, x2, x3, x4, x5, x6, x7, x8⟩ := X1.out
  obtain ⟨y0, y1, y2, y3, y4, y5, y6, y7⟩ := U0.out.unc (i := 0) (o := u) rfl
  simp only [Nat.zero_mul, Nat.zero_add] at y0 y1 y2 y3 y4 y5 y6 y7
  rw [NN.out.1] at y2
  by_cases h2 : u.task = 2
  · rw [h2] at y6
    by_cases hg : u.at_ = u.goal
    · have E : Hid (yieldN ks Y u = min (min (k.n7 - u.load) x) 10) := by unfold Hid; rw [EY.out, if_pos ⟨h2, hg⟩]
      rw [← hg, NN.out.2.2.1] at y7
      rw [NN.out.2.2.1] at y3
      have wr : IntKind.i64.wrap (k.n7 - u.load) = k.n7 - u.load := by rw [IntKind.wrap_i64]; omega
      clear h2 hg
      go_upto_region 3 with fail
      go_region
      all_goals (try go_wp2)
      all_goals go_ret
      all_goals refine ⟨?_, ⟨B1.out.os, B1.out.tape, B1.out.output, B1.out.size, B1.out.block⟩⟩
      all_goals (rw [E.out]; exact ret_int (by omega))
    · have E : Hid (yieldN ks Y u = 0) := by unfold Hid; rw [EY.out, if_neg (fun h => hg h.2)]
      clear h2
      go_wp2
      go_ret
      exact ⟨by rw [E.out]; rfl, ⟨B1.out.os, B1.out.tape, B1.out.output, B1.out.size, B1.out.block⟩⟩
  · have E : Hid (yieldN ks Y u = 0) := by unfold Hid; rw [EY.out, if_neg (fun h => h2 h.1)]
    go_wp2
    go_ret
    exact ⟨by rw [E.out]; rfl, ⟨B1.out.os, B1.out.tape, B1.out.output, B1.out.size, B1.out.block⟩⟩
end Go.Proofs.YtoabhfipikkkeaaGreatDoor

namespace Go.Proofs.YtoabhfipikkkeaaGreatDoor
open Go.RowKit
set_option linter.unusedVariables false

/-- nothing below has turned but the blocks of S. -/
structure Fr (S : Nat → Prop) (w w' : World) : Prop where
  os : w'.os = w.os
  tape : w'.tape = w.tape
  output : w'.output = w.output
  size : w.heap.size ≤ w'.heap.size
  block : ∀ k, k < w.heap.size → ¬ S k → w'.heap[k]? = w.heap[k]?
theorem Fr.below {S : Nat → Prop} {w w' : World} (h : Below w.heap.size w w') : Fr S w w' := ⟨h.os, h.tape, h.output, h.size, fun k hk _ => h.block k hk⟩
theorem Fr.kp {S : Nat → Prop} {w w' : World} {z : Nat} (h : Kp z w w') (hz : S z) : Fr S w w' := ⟨h.os, h.tape, h.output, h.size, fun k hk hn => h.block k hk (fun e => hn (e ▸ hz))⟩
theorem Fr.gb {S : Nat → Prop} {w w' : World} {r : Option Nat} (h : w.grownBy w' r) (hr : ∀ k, r = some k → S k) : Fr S w w' := ⟨h.os, h.tape, h.output, h.size, fun k hk hn => h.block k hk (fun e => hn (hr k e.symm))⟩
theorem Fr.trans {S : Nat → Prop} {a b c : World} (h : Fr S a b) (k : Fr S b c) : Fr S a c :=
  ⟨k.os.trans h.os, k.tape.trans h.tape, k.output.trans h.output, Nat.le_trans h.size k.size, fun i hi hn => (k.block i (Nat.lt_of_lt_of_le hi h.size) hn).trans (h.block i hi hn)⟩
theorem Fr.mono {S T : Nat → Prop} {a b : World} (h : Fr S a b) (hs : ∀ k, S k → T k) : Fr T a b := ⟨h.os, h.tape, h.output, h.size, fun k hk hn => h.block k hk (fun e => hn (hs k e))⟩
theorem Fr.low {S : Nat → Prop} {w w' : World} {n : Nat} (h : Fr S w w') (hn : n ≤ w.heap.size) (hs : ∀ k, S k → n ≤ k) : Below n w w' := ⟨h.os, h.tape, h.output, h.size, fun k hk => h.block k (by omega) (fun e => by have := hs k e; omega)⟩
theorem Fr.own {S : Nat → Prop} {w w' : World} {base : Nat} {T : TypeId} {size : Nat} {u : Value} {n : Nat} {cs : List Value} (f : Fr S w w') (h : w.ownsRow base T size u n cs) (hn : ∀ b, u.ownBlock = some b → ¬ S b) : w'.ownsRow base T size u n cs := by
  refine ⟨h.1, ?_⟩
  rcases h.2 with h1 | ⟨g, cap, cur, h1, h2, h3, h4⟩
  · exact .inl h1
  · exact .inr ⟨g, cap, cur, h1, h2, (f.block g (lt_of_block h3) (hn g (by rw [h1]; rfl))).trans h3, h4⟩
theorem Fr.cell {S : Nat → Prop} {w w' : World} {p : Addr} {u : Value} (f : Fr S w w') (h : w.cell? p = some u) (hn : ¬ S p.block) : w'.cell? p = some u := by
  have hl := cell_lt h
  have e := f.block p.block hl hn
  unfold World.cell? at h ⊢
  rw [e]
  exact h
theorem own_two {w : World} {b1 b2 : Nat} {T S : TypeId} {s1 s2 : Nat} {u v : Value} {n m : Nat} {cs ds : List Value} (h : w.ownsRow b1 T s1 u n cs) (k : w.ownsRow b2 S s2 v m ds) (hT : T ≠ S) : ∀ b, u.ownBlock = some b → ¬ v.ownBlock = some b := by
  intro b hb hv
  rcases h.2 with ⟨h1, -⟩ | ⟨g, cap, cur, h1, -, h3, -⟩
  · rw [h1] at hb; cases hb
  · rcases k.2 with ⟨k1, -⟩ | ⟨g', cap', cur', k1, -, k3, -⟩
    · rw [k1] at hv; cases hv
    · rw [h1] at hb
      rw [k1] at hv
      simp [Value.ownBlock] at hb hv
      subst hb
      subst hv
      rw [h3] at k3
      injection k3 with k3
      injection k3 with _ k4
      exact hT k4
end Go.Proofs.YtoabhfipikkkeaaGreatDoor

namespace Go.Proofs.YtoabhfipikkkeaaGreatDoor
open Go.RowKit
set_option linter.unusedVariables false

theorem gb_trans {a b c : World} {r : Option Nat} (h : a.grownBy b r) (k : b.grownBy c r) : a.grownBy c r :=
  ⟨k.os.trans h.os, k.tape.trans h.tape, k.output.trans h.output, Nat.le_trans h.size k.size, fun i hi hr => (k.block i (Nat.lt_of_lt_of_le hi h.size) hr).trans (h.block i hi hr)⟩
theorem gb_below {a b : World} {r : Option Nat} (h : Below a.heap.size a b) : a.grownBy b r := ⟨h.os, h.tape, h.output, h.size, fun k hk _ => h.block k hk⟩
theorem gb_kp {a b : World} {z : Nat} (h : Kp z a b) : a.grownBy b (some z) := ⟨h.os, h.tape, h.output, h.size, fun k hk hn => h.block k hk (fun e => hn (by rw [e]))⟩
theorem kp_gb {z : Nat} {a b c : World} {r : Option Nat} (h : Kp z a b) (g : b.grownBy c r) (hr : ∀ k, r = some k → a.heap.size ≤ k) : Kp z a c :=
  ⟨g.os.trans h.os, g.tape.trans h.tape, g.output.trans h.output, Nat.le_trans h.size g.size, fun i hi hz => (g.block i (Nat.lt_of_lt_of_le hi h.size) (fun e => by have := hr i e.symm; omega)).trans (h.block i hi hz)⟩
theorem cell_kp9 {w w' : World} {z : Nat} {p : Addr} {u : Value} (h : w.cell? p = some u) (k : Kp z w w') (hz : p.block ≠ z) : w'.cell? p = some u := by
  rw [World.cell?_of_block (k.block p.block (cell_lt h) hz)]; exact h
theorem Bw.kp9 {w w' : World} {z y : Nat} {W : WV} {u1 u2 u3 u4 u5 : Value} (h : Bw w z W u1 u2 u3 u4 u5) (k : Kp y w w') (hn : z ≠ y) : Bw w' z W u1 u2 u3 u4 u5 :=
  ⟨cell_kp9 h.c0 k hn, cell_kp9 h.c1 k hn, cell_kp9 h.c2 k hn, cell_kp9 h.c3 k hn, cell_kp9 h.c4 k hn, cell_kp9 h.c5 k hn, cell_kp9 h.c6 k hn, cell_kp9 h.c7 k hn, cell_kp9 h.c8 k hn⟩
theorem Unc.kp9 {w w' : World} {z : Nat} {y : Addr} {u : UnV} (h : Unc w y u) (k : Kp z w w') (hn : y.block ≠ z) : Unc w' y u :=
  ⟨cell_kp9 h.c0 k hn, cell_kp9 h.c1 k hn, cell_kp9 h.c2 k hn, cell_kp9 h.c3 k hn, cell_kp9 h.c4 k hn, cell_kp9 h.c5 k hn, cell_kp9 h.c6 k hn, cell_kp9 h.c7 k hn⟩
theorem cell_gb {w w' : World} {r : Option Nat} {p : Addr} {u : Value} (h : w.cell? p = some u) (k : w.grownBy w' r) (hz : r ≠ some p.block) : w'.cell? p = some u := by
  rw [World.cell?_of_block (k.block p.block (cell_lt h) (fun e => hz e.symm))]; exact h
theorem Unc.gb {w w' : World} {r : Option Nat} {y : Addr} {u : UnV} (h : Unc w y u) (k : w.grownBy w' r) (hn : r ≠ some y.block) : Unc w' y u :=
  ⟨cell_gb h.c0 k hn, cell_gb h.c1 k hn, cell_gb h.c2 k hn, cell_gb h.c3 k hn, cell_gb h.c4 k hn, cell_gb h.c5 k hn, cell_gb h.c6 k hn, cell_gb h.c7 k hn⟩
theorem wx_bw {w : World} {z : Nat} {X : WV} {u1 u2 u3 u4 u5 : Value} (h : Wx w z (.int .i64 X.turn) (.int .i64 X.next) (.int .i64 X.wide) (.int .i64 X.high) u1 u2 u3 u4 u5) : Bw w z X u1 u2 u3 u4 u5 := by
  obtain ⟨h0, h1, h2, h3, h4, h5, h6, h7, h8⟩ := h.cells
  exact ⟨h0, h1, h2, h3, h4, h5, h6, h7, h8⟩
theorem own_low {w w' : World} {B base : Nat} {T : TypeId} {size : Nat} {u : Value} {n : Nat} {cs : List Value} (h : w.ownsRow base T size u n cs) (k : Below B w w') (hz : ∀ b, u.ownBlock = some b → b < B) : w'.ownsRow base T size u n cs := by
  refine ⟨h.1, ?_⟩
  rcases h.2 with h1 | ⟨g, cap, cur, h1, h2, h3, h4⟩
  · exact .inl h1
  · exact .inr ⟨g, cap, cur, h1, h2, (k.block g (hz g (by rw [h1]; rfl))).trans h3, h4⟩
theorem own_gb {w w' : World} {base : Nat} {T : TypeId} {size : Nat} {u : Value} {n : Nat} {cs : List Value} {r : Option Nat} (h : w.ownsRow base T size u n cs) (k : w.grownBy w' r) (hz : ∀ b, u.ownBlock = some b → r ≠ some b) : w'.ownsRow base T size u n cs := by
  refine ⟨h.1, ?_⟩
  rcases h.2 with h1 | ⟨g, cap, cur, h1, h2, h3, h4⟩
  · exact .inl h1
  · exact .inr ⟨g, cap, cur, h1, h2, (k.block g (lt_of_block h3) (fun e => hz g (by rw [h1]; rfl) e.symm)).trans h3, h4⟩
theorem kind_new {w : World} {z : Nat} (k : KV) (hz : w.heap.size = z) : Kc (w.alloc (Obj.cells #[.string k.b, .int .i64 k.n0, .int .i64 k.n1, .int .i64 k.n2, .int .i64 k.n3, .int .i64 k.n4, .int .i64 k.n5, .int .i64 k.n6, .int .i64 k.n7, .bool k.f, .bool k.t] 80)) ⟨z, 0, none⟩ k := by
  subst hz
  exact ⟨by simp, by simp, by simp, by simp, by simp, by simp, by simp, by simp, by simp, by simp, by simp⟩
theorem Kc.kp9 {w w' : World} {z : Nat} {y : Addr} {k : KV} (h : Kc w y k) (q : Kp z w w') (hn : y.block ≠ z) : Kc w' y k :=
  ⟨cell_kp9 h.c0 q hn, cell_kp9 h.c1 q hn, cell_kp9 h.c2 q hn, cell_kp9 h.c3 q hn, cell_kp9 h.c4 q hn, cell_kp9 h.c5 q hn, cell_kp9 h.c6 q hn, cell_kp9 h.c7 q hn, cell_kp9 h.c8 q hn, cell_kp9 h.c9 q hn, cell_kp9 h.c10 q hn⟩
theorem kc_of {w : World} {xk : Addr} {n q kn : Nat} {ks : List KV} {k : KV} (h : Kl w (.slice (some xk) n q) ks) (hk : ks[kn]? = some k) : Kc w (xk.add (kn * 11)) k := by
  obtain ⟨a, c, he, -, -, hc⟩ := h
  obtain ⟨x, hx, -, hxc⟩ := hc (by intro h; rw [h] at hk; simp at hk)
  injection he with he
  rw [← he] at hx
  injection hx with hx
  rw [hx]
  exact hxc kn k hk
end Go.Proofs.YtoabhfipikkkeaaGreatDoor

namespace Go.Proofs.YtoabhfipikkkeaaGreatDoor
open Go.RowKit
set_option linter.unusedVariables false

theorem Fr.wx {S : Nat → Prop} {w w' : World} {z : Nat} {c0 c1 c2 c3 c4 c5 c6 c7 c8 : Value} (f : Fr S w w') (h : Wx w z c0 c1 c2 c3 c4 c5 c6 c7 c8) (hn : ¬ S z) : Wx w' z c0 c1 c2 c3 c4 c5 c6 c7 c8 := (f.block z h.lt hn).trans h
end Go.Proofs.YtoabhfipikkkeaaGreatDoor

namespace Go.Proofs.YtoabhfipikkkeaaGreatDoor
open Go.RowKit
set_option linter.unusedVariables false

theorem Ow.bk {w : World} {base : Nat} {v : Value} {xs : List Int} (h : Ow w base v xs) : (v = .slice none 0 0 ∧ xs = []) ∨ ∃ g cap rest, v = .slice (some ⟨g, 0, none⟩) xs.length cap ∧ base ≤ g ∧ xs.length ≤ cap ∧ cap ≤ maxLen ∧ xs.length + rest.size = cap ∧ Bk w g xs rest := by
  rcases h.2 with ⟨h1, h2⟩ | ⟨g, cap, cur, h1, h2, h3, h4, h5, h6, h7⟩
  · exact .inl ⟨h1, List.length_eq_zero_iff.1 h2⟩
  · have e6 : cur.toList.length = cap := by simpa using h6
    refine .inr ⟨g, cap, (cur.toList.drop xs.length).toArray, h1, h2, h4, h5, ?_, ?_⟩
    · simp only [List.size_toArray, List.length_drop, e6]; omega
    · have e : cur = (intCells xs).toArray ++ (cur.toList.drop xs.length).toArray := by
        apply Array.ext'
        rw [Nat.mul_one] at h7
        have h8 : cur.toList.take xs.length = intCells xs := h7
        rw [Array.toList_append]
        show cur.toList = intCells xs ++ cur.toList.drop xs.length
        rw [← h8, List.take_append_drop]
      unfold Bk
      rw [h3, ← e]
theorem Bk.ow {w : World} {base g cap : Nat} {xs : List Int} {rest : Array Value} (h : Bk w g xs rest) (hb : base ≤ g) (h1 : xs.length ≤ cap) (h2 : cap ≤ maxLen) (h3 : xs.length + rest.size = cap) : Ow w base (.slice (some ⟨g, 0, none⟩) xs.length cap) xs := by
  refine ⟨by simp, .inr ⟨g, cap, _, rfl, hb, h, h1, h2, ?_, ?_⟩⟩
  · simp [intCells]; omega
  · simp [intCells]
end Go.Proofs.YtoabhfipikkkeaaGreatDoor

namespace Go.Proofs.YtoabhfipikkkeaaGreatDoor
open Go.RowKit
set_option linter.unusedVariables false

theorem info_ev : (Tryz.prog.info? 120).map (fun i => (i.zero, i.size, i.bytes)) = some (some (.agg #[.int .i64 0, .int .i64 0, .int .i64 0]), 3, 24) := by kernel_rfl
def EvV.cs (k : EvV) : List Value := [.int .i64 k.what, .int .i64 k.unit, .int .i64 k.arg]
theorem flat_ev : ∀ (ks : List EvV) (i j : Nat) (k : EvV), ks[i]? = some k → j < 3 → (ks.flatMap EvV.cs)[i * 3 + j]? = k.cs[j]?
  | [], i, j, k, h, _ => by simp at h
  | x :: ks, 0, j, k, h, hj => by
    simp at h
    subst h
    rw [List.flatMap_cons, List.getElem?_append_left (by simp [EvV.cs]; omega)]
    simp
  | x :: ks, i + 1, j, k, h, hj => by
    rw [List.flatMap_cons, List.getElem?_append_right (by simp [EvV.cs]; omega)]
    have : (i + 1) * 3 + j - (EvV.cs x).length = i * 3 + j := by simp [EvV.cs]; omega
    rw [this]
    exact flat_ev ks i j k (by simpa using h) hj
/-- v is a slice of them, in a block of its own from base on. -/
def Evo (w : World) (base : Nat) (v : Value) (ks : List EvV) : Prop := w.ownsRow base 120 3 v ks.length (ks.flatMap EvV.cs)
theorem Evo.nil (w : World) (base : Nat) : Evo w base (.slice none 0 0) [] := World.ownsRow_nil _ _ _ _
theorem Evo.below {w w' : World} {base : Nat} {v : Value} {ks : List EvV} (h : Evo w base v ks) (hb : Below w.heap.size w w') : Evo w' base v ks :=
  World.ownsRow.kept h (row := none) ⟨hb.os, hb.tape, hb.output, hb.size, fun k hk _ => hb.block k hk⟩ (by cases v.ownBlock <;> simp)
theorem Evo.kept {w w' : World} {base : Nat} {v : Value} {ks : List EvV} {row : Option Nat} (h : Evo w base v ks) (hg : w.grownBy w' row) (hne : v.ownBlock = none ∨ v.ownBlock ≠ row) : Evo w' base v ks := World.ownsRow.kept h hg hne
theorem Evo.alloc {w : World} {base : Nat} {v : Value} {ks : List EvV} (h : Evo w base v ks) (o : Obj) : Evo (w.alloc o) base v ks := World.ownsRow.alloc h o
theorem Evo.block {w : World} {base : Nat} {v : Value} {ks : List EvV} (h : Evo w base v ks) : ∀ k, v.ownBlock = some k → base ≤ k ∧ k < w.heap.size := World.ownsRow.lt h
theorem Evo.mono {w : World} {base base' : Nat} {v : Value} {ks : List EvV} (h : Evo w base v ks) (hb : base' ≤ base) : Evo w base' v ks := by
  refine ⟨h.1, ?_⟩
  rcases h.2 with h1 | ⟨g, cap, cur, h1, h2, h3⟩
  · exact .inl h1
  · exact .inr ⟨g, cap, cur, h1, Nat.le_trans hb h2, h3⟩
theorem Evo.l {w : World} {base : Nat} {v : Value} {ks : List EvV} (h : Evo w base v ks) : Evl w v ks := by
  rcases h.2 with ⟨hv, h0⟩ | ⟨g, cap, cur, hv, hb, hg, h1, h2, h3, h4⟩
  · exact ⟨none, 0, by rw [hv, h0], by omega, by omega, fun hn => absurd (List.length_eq_zero_iff.1 h0) hn⟩
  · refine ⟨_, cap, hv, h1, by unfold maxLen at h2; omega, fun _ => ⟨_, rfl, lt_of_block hg, fun i k hi => ?_⟩⟩
    have hil : i < ks.length := (List.getElem?_eq_some_iff.1 hi).1
    have h5 : w.ownsRow base 120 3 (.slice (some ⟨g, 0, none⟩) ks.length cap) ks.length (ks.flatMap EvV.cs) := by rw [← hv]; exact h
    have hc : ∀ j u, j < 3 → k.cs[j]? = some u → w.cell? ⟨g, i * 3 + j, none⟩ = some u := fun j u hj hu => by
      rw [h5.cellAt (i * 3 + j) (by omega), flat_ev ks i j k hi hj, hu]
    rw [Addr.add_lit, Nat.zero_add]
    exact ⟨hc 0 _ (by decide) rfl, hc 1 _ (by decide) rfl, hc 2 _ (by decide) rfl⟩
theorem Evo.len {w : World} {base : Nat} {v : Value} {ks : List EvV} (h : Evo w base v ks) : ∃ a c, v = .slice a ks.length c := by
  obtain ⟨a, c, h1, -⟩ := h.l
  exact ⟨a, c, h1⟩

/-- one more. -/
theorem app_ev {ops : Array Oper} {rest : List Oper} {o : Oper} {a : Act} {Q : Exit → Act → World → Prop} (w : World) (hgd : o.guard = none) (s x : Operand)
    (ho : o.op = .call { callee := .builtin .append, args := #[s, x], argTypes := #[38, 38] }) (base : Nat) (v : Value) (ks : List EvV) (hs : a.eval s = v) (hown : Evo w base v ks)
    (b : Nat) (d : EvV) (hx : a.eval x = .slice (some ⟨b, 0, none⟩) 1 1) (hd : Evc w ⟨b, 0, none⟩ d) (hl : ks.length ≤ 1000000) (hbase : base ≤ w.heap.size)
    (h : ∀ g cap w', Evo w' base (.slice (some ⟨g, 0, none⟩) (ks.length + 1) cap) (ks ++ [d]) → w.grownBy w' v.ownBlock → (v.ownBlock = some g ∨ g = w.heap.size) → g < w'.heap.size → wpList Tryz.prog ops Q rest (a.put o.dst (.slice (some ⟨g, 0, none⟩) (ks.length + 1) cap)) w') :
    wpList Tryz.prog ops Q (o :: rest) a w := by
  obtain ⟨i0, hi, hz0, hz1, hz2⟩ := info_parts info_ev
  refine wpList_append_lies w hgd s x 38 ho base 120 i0 (.agg #[.int .i64 0, .int .i64 0, .int .i64 0]) 3 24 Tryz.underlying38 hi hz0 hz1 hz2 rfl (by decide) v ks.length _ hs hown ⟨b, 0, none⟩ 1 1 d.cs hx rfl ?_ ?_ (by decide) (by unfold maxLen; omega) (by omega) hbase _ rfl ?_
  · intro j u hj
    have hjn : j < 3 := (List.getElem?_eq_some_iff.1 hj).1
    rw [Addr.add_lit, Nat.zero_add]
    match j, hjn, hj with
    | 0, _, hj => simp [EvV.cs] at hj; subst hj; exact hd.c0
    | 1, _, hj => simp [EvV.cs] at hj; subst hj; exact hd.c1
    | 2, _, hj => simp [EvV.cs] at hj; subst hj; exact hd.c2
  · intro u hu
    simp [EvV.cs] at hu
    rcases hu with rfl | rfl | rfl <;> rfl
  · intro g cap w' h1 h2 h3 h4
    refine h g cap w' ?_ h2 h3 h4
    unfold Evo
    rw [List.length_append, List.flatMap_append]
    simpa using h1
end Go.Proofs.YtoabhfipikkkeaaGreatDoor

namespace Go.Proofs.YtoabhfipikkkeaaGreatDoor
open Go.RowKit
set_option linter.unusedVariables false

/-- what stays while units take. -/
structure TkS (ks : List KV) (Y Z : WV) (es : List EvV) (b1 b : Nat) (w : World) (u1 u2 u3 u4 u5 ev : Value) (V : World) : Prop where
  o1 : Ow V b1 u1 Z.gs
  o2 : Ow V b1 u2 Z.os
  o3 : Ow V b1 u3 Z.gold
  o4 : Uno V b1 u4 Z.us
  o5 : Jbo V b1 u5 Z.qs
  e : Evo V b ev es
  d : [u1, u2, u3, u4, u5].Pairwise Dif
  fr : Fr (fun q => u2.ownBlock = some q ∨ u4.ownBlock = some q) w V
  k : TkK Y Z
  f : DFit ks Z
section
variable {ks : List KV} {Y Z : WV} {es : List EvV} {b1 b : Nat} {w : World} {u1 u2 u3 u4 u5 ev : Value} {V V' : World}
theorem TkS.below (h : TkS ks Y Z es b1 b w u1 u2 u3 u4 u5 ev V) (hb : Below V.heap.size V V') : TkS ks Y Z es b1 b w u1 u2 u3 u4 u5 ev V' :=
  ⟨h.o1.below hb, h.o2.below hb, h.o3.below hb, h.o4.below hb, h.o5.below hb, h.e.below hb, h.d, h.fr.trans (Fr.below hb), h.k, h.f⟩
theorem TkS.wl (h : TkS ks Y Z es b1 b w u1 u2 u3 u4 u5 ev V) : Wl V (.agg #[.int .i64 Y.turn, .int .i64 Y.next, .int .i64 Y.wide, .int .i64 Y.high, u1, u2, u3, u4, u5]) Z := by
  obtain ⟨a1, a2, a3, a4, -⟩ := h.k
  exact ⟨u1, u2, u3, u4, u5, by rw [a1, a2, a3, a4], h.o1.ro, h.o2.ro, h.o3.ro, h.o4.l, h.o5.l⟩
theorem TkS.difs (h : TkS ks Y Z es b1 b w u1 u2 u3 u4 u5 ev V) : (Dif u1 u2 ∧ Dif u1 u3 ∧ Dif u1 u4 ∧ Dif u1 u5) ∧ (Dif u2 u3 ∧ Dif u2 u4 ∧ Dif u2 u5) ∧ (Dif u3 u4 ∧ Dif u3 u5) ∧ Dif u4 u5 := by
  have := h.d
  simp only [List.pairwise_cons, List.mem_cons, List.not_mem_nil, or_false, forall_eq_or_imp, forall_eq] at this
  obtain ⟨⟨a1, a2, a3, a4⟩, ⟨b1, b2, b3⟩, ⟨c1, c2⟩, d1, -⟩ := this
  exact ⟨⟨a1, a2, a3, a4⟩, ⟨b1, b2, b3⟩, ⟨c1, c2⟩, d1⟩
theorem TkS.take {gu gs cu co i : Nat} {ur : List Value} {sr : Array Value} {u : UnV} {ev' : Value} (h : TkS ks Y Z es b1 b w u1 (.slice (some ⟨gs, 0, none⟩) Y.os.length co) u3 (.slice (some ⟨gu, 0, none⟩) Y.us.length cu) u5 ev V) (hwb : w.heap.size = b)
    (hl : ∀ x ∈ [u1, u3, u5], ∀ k, x.ownBlock = some k → k < b) (hgu : b1 ≤ gu) (c1 : Y.us.length ≤ cu) (c2 : cu ≤ maxLen) (c3 : Y.us.length * 8 + ur.length = cu * 8) (hgs : b1 ≤ gs) (d1 : Y.os.length ≤ co) (d2 : co ≤ maxLen) (d3 : Y.os.length + sr.size = co)
    (hu : Z.us[i]? = some u) (hy : 0 < yieldN ks Z u) (hub : Ub V' gu (takeW Z i u (yieldN ks Z u)).us ur) (hbk : Bk V' gs (takeW Z i u (yieldN ks Z u)).os sr) (he : Evo V' b ev' (es ++ [⟨4, u.id, yieldN ks Z u⟩])) (hf : Fr (fun q => q = gu ∨ q = gs ∨ ev.ownBlock = some q) V V') :
    TkS ks Y (takeW Z i u (yieldN ks Z u)) (es ++ [⟨4, u.id, yieldN ks Z u⟩]) b1 b w u1 (.slice (some ⟨gs, 0, none⟩) Y.os.length co) u3 (.slice (some ⟨gu, 0, none⟩) Y.us.length cu) u5 ev' V' := by
  obtain ⟨⟨d12, d13, d14, d15⟩, ⟨d23, d24, d25⟩, ⟨d34, d35⟩, d45⟩ := h.difs
  have owu : (Value.slice (some ⟨gu, 0, none⟩) Y.us.length cu).ownBlock = some gu := rfl
  have ows : (Value.slice (some ⟨gs, 0, none⟩) Y.os.length co).ownBlock = some gs := rfl
  have no : ∀ x ∈ [u1, u3, u5], Dif x (.slice (some ⟨gs, 0, none⟩) Y.os.length co) → Dif x (.slice (some ⟨gu, 0, none⟩) Y.us.length cu) → ∀ q, x.ownBlock = some q → ¬ (q = gu ∨ q = gs ∨ ev.ownBlock = some q) := fun x hx e2 e4 q hq hs => by
    rcases hs with e | e | e
    · exact e4 q hq (by rw [owu, e])
    · exact e2 q hq (by rw [ows, e])
    · have h8 := (h.e.block q e).1; have h9 := hl x hx q hq; omega
  have k' : TkK Y (takeW Z i u (yieldN ks Z u)) := by
    obtain ⟨a1, a2, a3, a4, a5, a6, a7, a8, a9⟩ := h.k
    exact ⟨a1, a2, a3, a4, a5, a6, a7, by simpa [takeW] using a8, by simpa [takeW] using a9⟩
  refine ⟨hf.own h.o1 (no u1 (by simp) d12 d14), ?_, hf.own h.o3 (no u3 (by simp) d23.symm d34), ?_, hf.own h.o5 (no u5 (by simp) d25.symm d45.symm), he, h.d, ?_, k', h.f.take hu hy⟩
  · have := hbk.ow (base := b1) (cap := co) hgs (by rw [k'.2.2.2.2.2.2.2.2]; exact d1) d2 (by rw [k'.2.2.2.2.2.2.2.2]; exact d3)
    rw [k'.2.2.2.2.2.2.2.2] at this
    exact this
  · have := hub.uno (base := b1) (cap := cu) hgu (by rw [k'.2.2.2.2.2.2.2.1]; exact c1) c2 (by rw [k'.2.2.2.2.2.2.2.1]; exact c3)
    rw [k'.2.2.2.2.2.2.2.1] at this
    exact this
  · refine ⟨hf.os.trans h.fr.os, hf.tape.trans h.fr.tape, hf.output.trans h.fr.output, Nat.le_trans h.fr.size hf.size, fun q hq hn => (hf.block q (Nat.lt_of_lt_of_le hq h.fr.size) (fun e => ?_)).trans (h.fr.block q hq hn)⟩
    rcases e with e | e | e
    · exact hn (.inr (by rw [owu, e]))
    · exact hn (.inl (by rw [ows, e]))
    · have := (h.e.block q e).1; omega
end
end Go.Proofs.YtoabhfipikkkeaaGreatDoor

namespace Go.Proofs.YtoabhfipikkkeaaGreatDoor
open Go.RowKit
set_option linter.unusedVariables false

def TkI (ks : List KV) (Y : WV) (z b1 : Nat) (w1 : World) (u1 u2 u3 u4 u5 ev j : Value) (V : World) : Prop := ∃ q : Nat, q ≤ Y.us.length ∧ j = .int .i64 (q : Nat) ∧ Wx V z (.int .i64 Y.turn) (.int .i64 Y.next) (.int .i64 Y.wide) (.int .i64 Y.high) u1 u2 u3 u4 u5 ∧ TkS ks Y (tk ks Y q).1 (tk ks Y q).2 b1 (z + 1) w1 u1 u2 u3 u4 u5 ev V
set_option maxRecDepth 100000 in
set_option maxHeartbeats 16000000 in
theorem take_any (vk : Value) (ks : List KV) (Y : WV) (u1 u2 u3 u4 u5 : Value) (b1 : Nat) (w0 w : World) (hk : Kl w0 vk ks) (hb0 : Below w0.heap.size w0 w) (h0b : w0.heap.size ≤ b1) (o1 : Ow w b1 u1 Y.gs) (o2 : Ow w b1 u2 Y.os) (o3 : Ow w b1 u3 Y.gold) (o4 : Uno w b1 u4 Y.us) (o5 : Jbo w b1 u5 Y.qs) (hd : [u1, u2, u3, u4, u5].Pairwise Dif) (hf : DFit ks Y) :
    Calls Tryz.prog 71 #[vk, .agg #[.int .i64 Y.turn, .int .i64 Y.next, .int .i64 Y.wide, .int .i64 Y.high, u1, u2, u3, u4, u5]] w fun e w' => ∃ ev, e = .returned ev ∧ TkS ks Y (tk ks Y Y.us.length).1 (tk ks Y Y.us.length).2 b1 w.heap.size w u1 u2 u3 u4 u5 ev w' := by
  have KB : Hid (Kl w0 vk ks ∧ Below w0.heap.size w0 w ∧ w0.heap.size ≤ b1) := ⟨hk, hb0, h0b⟩
  obtain ⟨pk, qk, rfl, ck1, ck2, kc⟩ := hk
  have T0 : Hid (TkS ks Y Y [] b1 w.heap.size w u1 u2 u3 u4 u5 (.slice none 0 0) w) := ⟨o1, o2, o3, o4, o5, Evo.nil _ _, hd, Fr.below (Below.refl _ _), ⟨rfl, rfl, rfl, rfl, rfl, rfl, rfl, rfl, rfl⟩, hf⟩
  have LW : Hid (∀ x ∈ [u1, u3, u5], ∀ k, x.ownBlock = some k → k < w.heap.size) := by
    intro x hx k hk
    simp only [List.mem_cons, List.not_mem_nil, or_false] at hx
    rcases hx with rfl | rfl | rfl
    · exact (o1.block k hk).2
    · exact (o3.block k hk).2
    · exact (o5.block k hk).2
  have L24 : Hid ((∀ k, u2.ownBlock = some k → b1 ≤ k ∧ k < w.heap.size) ∧ ∀ k, u4.ownBlock = some k → b1 ≤ k ∧ k < w.heap.size) := ⟨o2.block, o4.block⟩
  have ul : Y.us.length ≤ 40 := hf.ul
  obtain ⟨a1, h1, rfl⟩ := o1.len
  obtain ⟨a2, h2, rfl⟩ := o2.len
  obtain ⟨a3, h3, rfl⟩ := o3.len
  obtain ⟨a4, h4, rfl⟩ := o4.len
  obtain ⟨a5, h5, rfl⟩ := o5.len
  clear hb0 h0b kc o1 o2 o3 o4 o5 hd hf
  go_enter Tryz.func71, Tryz.ntmps71
  go_upto_region 2 with fail
  have BA : Hid (Below w.heap.size w (w.alloc (Obj.cells #[.int .i64 Y.turn, .int .i64 Y.next, .int .i64 Y.wide, .int .i64 Y.high, .slice a1 Y.gs.length h1, .slice a2 Y.os.length h2, .slice a3 Y.gold.length h3, .slice a4 Y.us.length h4, .slice a5 Y.qs.length h5] 29))) := (Below.refl _ _).alloc (Nat.le_refl _) _
  obtain ⟨z, hz⟩ : ∃ z, w.heap.size = z := ⟨_, rfl⟩
  have HZ : Hid (w.heap.size = z) := hz
  have X1 : Hid (Wx (w.alloc (Obj.cells #[.int .i64 Y.turn, .int .i64 Y.next, .int .i64 Y.wide, .int .i64 Y.high, .slice a1 Y.gs.length h1, .slice a2 Y.os.length h2, .slice a3 Y.gold.length h3, .slice a4 Y.us.length h4, .slice a5 Y.qs.length h5] 29)) z (.int .i64 Y.turn) (.int .i64 Y.next) (.int .i64 Y.wide) (.int .i64 Y.high) (.slice a1 Y.gs.length h1) (.slice a2 Y.os.length h2) (.slice a3 Y.gold.length h3) (.slice a4 Y.us.length h4) (.slice a5 Y.qs.length h5)) := Wx.new (w := w) _ _ _ _ _ _ _ _ _ hz
  have S1 : Hid ((w.alloc (Obj.cells #[.int .i64 Y.turn, .int .i64 Y.next, .int .i64 Y.wide, .int .i64 Y.high, .slice a1 Y.gs.length h1, .slice a2 Y.os.length h2, .slice a3 Y.gold.length h3, .slice a4 Y.us.length h4, .slice a5 Y.qs.length h5] 29)).heap.size = z + 1) := by unfold Hid; rw [← hz]; simp
  rw [hz]
  clear hz
  generalize w.alloc (Obj.cells #[.int .i64 Y.turn, .int .i64 Y.next, .int .i64 Y.wide, .int .i64 Y.high, .slice a1 Y.gs.length h1, .slice a2 Y.os.length h2, .slice a3 Y.gold.length h3, .slice a4 Y.us.length h4, .slice a5 Y.qs.length h5] 29) = w1 at *
  have T1 : Hid (TkS ks Y Y [] b1 (z + 1) w1 (.slice a1 Y.gs.length h1) (.slice a2 Y.os.length h2) (.slice a3 Y.gold.length h3) (.slice a4 Y.us.length h4) (.slice a5 Y.qs.length h5) (.slice none 0 0) w1) := by
    have h := T0.out.below BA.out
    exact ⟨h.o1, h.o2, h.o3, h.o4, h.o5, Evo.nil _ _, h.d, Fr.below (Below.refl _ _), h.k, h.f⟩
  clear T0
  obtain ⟨x0, x1, x2, x3, x4, x5, x6, x7, x8⟩ := X1.out.cells
  go_wp2_with fail
  clear x0 x1 x2 x3 x4 x5 x6 x7 x8
  go_loopw [5, 12] (fun ev j V => TkI ks Y z b1 w1 (.slice a1 Y.gs.length h1) (.slice a2 Y.os.length h2) (.slice a3 Y.gold.length h3) (.slice a4 Y.us.length h4) (.slice a5 Y.qs.length h5) ev j V) (fun _ j _ => Y.us.length - (intOf j).toNat)
  case atStart => exact ⟨0, Nat.zero_le _, rfl, X1.out, T1.out⟩
  case round =>
    obtain ⟨q, hq, rfl, hx, ht⟩ := hrel
    obtain ⟨Z, hZ⟩ : ∃ Z, (tk ks Y q).1 = Z := ⟨_, rfl⟩
    obtain ⟨es, hE⟩ : ∃ es, (tk ks Y q).2 = es := ⟨_, rfl⟩
    have HQ : Hid ((tk ks Y q).1 = Z ∧ (tk ks Y q).2 = es) := ⟨hZ, hE⟩
    have EL : Hid (es.length ≤ 40) := by have h9 := tk_evs (ks := ks) (Y := Y) q; rw [hE] at h9; unfold Hid; omega
    rw [hZ, hE] at ht
    clear hZ hE
    obtain ⟨ea, ec, rfl⟩ := ht.e.len
    have TQ : Hid (TkS ks Y Z es b1 (z + 1) w1 (.slice a1 Y.gs.length h1) (.slice a2 Y.os.length h2) (.slice a3 Y.gold.length h3) (.slice a4 Y.us.length h4) (.slice a5 Y.qs.length h5) (.slice ea es.length ec) wr) := ht
    have XQ : Hid (Wx wr z (.int .i64 Y.turn) (.int .i64 Y.next) (.int .i64 Y.wide) (.int .i64 Y.high) (.slice a1 Y.gs.length h1) (.slice a2 Y.os.length h2) (.slice a3 Y.gold.length h3) (.slice a4 Y.us.length h4) (.slice a5 Y.qs.length h5)) := hx
    clear hx ht
    by_cases hqn : q = Y.us.length
    · have FIN : Hid ((tk ks Y Y.us.length).1 = Z ∧ (tk ks Y Y.us.length).2 = es) := by rw [← hqn]; exact HQ.out
      subst hqn
      go_wp2
      go_ret
      refine ⟨_, rfl, ?_⟩
      rw [FIN.out.1, FIN.out.2]
      have h := TQ.out
      exact ⟨h.o1, h.o2, h.o3, h.o4, h.o5, h.e.mono (by have := HZ.out; omega), h.d, (Fr.below BA.out).trans h.fr, h.k, h.f⟩
    · have hql : q < Y.us.length := by omega
      have hqi : ((q : Nat) : Int) < (Y.us.length : Nat) := by omega
      have hzl : q < Z.us.length := by rw [TQ.out.k.2.2.2.2.2.2.2.1]; exact hql
      obtain ⟨u, hu⟩ : ∃ u, Z.us[q]? = some u := ⟨_, List.getElem?_eq_getElem hzl⟩
      obtain ⟨⟨kn, k, hkn, hkk, l1, l2, l3⟩, ⟨an, han, hal⟩, -⟩ := TQ.out.f.units u (List.mem_of_getElem? hu)
      obtain ⟨x, hx⟩ : ∃ x, Z.os[an]? = some x := ⟨_, List.getElem?_eq_getElem hal⟩
      have UU : Hid (Z.us[q]? = some u ∧ u.kind = (kn : Nat) ∧ ks[kn]? = some k ∧ u.at_ = (an : Nat) ∧ Z.os[an]? = some x) := ⟨hu, hkn, hkk, han, hx⟩
      have OX := TQ.out.f.ore hx
      have hali : ((an : Nat) : Int) < (Y.os.length : Nat) := by rw [← TQ.out.k.2.2.2.2.2.2.2.2]; omega
      obtain ⟨gu, cu, ur, e4, hgu, c1, c2, c3, hub⟩ : ∃ g cap rest, Value.slice a4 Y.us.length h4 = .slice (some ⟨g, 0, none⟩) Y.us.length cap ∧ b1 ≤ g ∧ Y.us.length ≤ cap ∧ cap ≤ maxLen ∧ Y.us.length * 8 + rest.length = cap * 8 ∧ Ub wr g Z.us rest := by
        rcases TQ.out.o4.ub with ⟨-, h⟩ | ⟨g, cap, rest, h⟩
        · rw [h] at hzl; simp at hzl
        · rw [TQ.out.k.2.2.2.2.2.2.2.1] at h; exact ⟨g, cap, rest, h⟩
      injection e4 with e41 e42 e43
      subst e41 e43
      obtain ⟨gs, co, sr, e2, hgs, d1, d2, d3, hbk⟩ : ∃ g cap rest, Value.slice a2 Y.os.length h2 = .slice (some ⟨g, 0, none⟩) Y.os.length cap ∧ b1 ≤ g ∧ Y.os.length ≤ cap ∧ cap ≤ maxLen ∧ Y.os.length + rest.size = cap ∧ Bk wr g Z.os rest := by
        rcases TQ.out.o2.bk with ⟨-, h⟩ | ⟨g, cap, rest, h⟩
        · rw [h] at hal; simp at hal
        · rw [TQ.out.k.2.2.2.2.2.2.2.2] at h; exact ⟨g, cap, rest, h⟩
      injection e2 with e21 e22 e23
      subst e21 e23
      have GB : Hid (b1 ≤ gu ∧ Y.us.length ≤ h4 ∧ h4 ≤ maxLen ∧ Y.us.length * 8 + ur.length = h4 * 8 ∧ b1 ≤ gs ∧ Y.os.length ≤ h2 ∧ h2 ≤ maxLen ∧ Y.os.length + sr.size = h2) := ⟨hgu, c1, c2, c3, hgs, d1, d2, d3⟩
      have UB : Hid (∀ V, Below wr.heap.size wr V → Ub V gu Z.us ur) := fun V hV => hub.below hV hub.lt
      have BB : Hid (∀ V, Below wr.heap.size wr V → Bk V gs Z.os sr) := fun V hV => hbk.below hV
      have GL : Hid (gu < z ∧ gs < z ∧ gu ≠ gs) := by
        rw [← HZ.out]
        refine ⟨(L24.out.2 gu rfl).2, (L24.out.1 gs rfl).2, fun e => TQ.out.difs.2.1.2.1 gs rfl (by rw [← e]; rfl)⟩
      have KV' : Hid (∀ V, Below wr.heap.size wr V → Kl V (.slice pk ks.length qk) ks) := fun V hV => by
        have b01 : Below w0.heap.size w0 w1 := KB.out.2.1.trans (BA.out.mono KB.out.2.1.size)
        have b1r : Below w0.heap.size w1 wr := TQ.out.fr.low b01.size (fun k hk => by
          rcases hk with hk | hk
          · have := (L24.out.1 k hk).1; have := KB.out.2.2; omega
          · have := (L24.out.2 k hk).1; have := KB.out.2.2; omega)
        exact KB.out.1.below ((b01.trans b1r).trans (hV.mono (b01.trans b1r).size))
      have CV : Hid (∀ V, Below wr.heap.size wr V → Wx V z (.int .i64 Y.turn) (.int .i64 Y.next) (.int .i64 Y.wide) (.int .i64 Y.high) (.slice a1 Y.gs.length h1) (.slice (some ⟨gs, 0, none⟩) Y.os.length h2) (.slice a3 Y.gold.length h3) (.slice (some ⟨gu, 0, none⟩) Y.us.length h4) (.slice a5 Y.qs.length h5) ∧ Unc V ⟨gu, q * 8, none⟩ u) := fun V hV => ⟨XQ.out.below hV XQ.out.lt, (UB.out V hV).unc UU.out.1⟩
      have D5 : Hid (Below wr.heap.size wr { wr with drawn := wr.drawn + 1 }) := (Below.refl _ _).drew
      have xq := XQ.out
      obtain ⟨x0, x1, x2, x3, x4, x5, x6, x7, x8⟩ := xq.cells
      clear xq hu hkn hkk han hx hal hzl hgu c1 c2 c3 hgs d1 d2 d3 hub hbk e42 e22
      go_upto_region 6 with fail
      clear x0 x1 x2 x3 x4 x5 x6 x7 x8
      refine wp_region_two [(true, 0), (true, 1), (true, 2), (true, 3), (true, 4), (false, 5)] [(false, 6)] (fun V => Wx V z (.int .i64 Y.turn) (.int .i64 Y.next) (.int .i64 Y.wide) (.int .i64 Y.high) (.slice a1 Y.gs.length h1) (.slice (some ⟨gs, 0, none⟩) Y.os.length h2) (.slice a3 Y.gold.length h3) (.slice (some ⟨gu, 0, none⟩) Y.us.length h4) (.slice a5 Y.qs.length h5) ∧ Unc V ⟨gu, q * 8, none⟩ u) (by kernel_rfl) (by kernel_rfl) (by kernel_rfl) (by decide +kernel) (by decide +kernel) (CV.out _ D5.out) ?_
      generalize ({ wr with drawn := wr.drawn + 1 } : World) = w6 at *
      refine headT_read rfl (.slice pk ks.length qk) (by go_simp) (fun V hV => by go_simp) ?_
      go_simp
      refine headT_read rfl (.agg #[.int .i64 Y.turn, .int .i64 Y.next, .int .i64 Y.wide, .int .i64 Y.high, .slice a1 Y.gs.length h1, .slice (some ⟨gs, 0, none⟩) Y.os.length h2, .slice a3 Y.gold.length h3, .slice (some ⟨gu, 0, none⟩) Y.us.length h4, .slice a5 Y.qs.length h5]) (by go_simp) (fun V hV => by obtain ⟨hX, hU⟩ := hV; obtain ⟨x0, x1, x2, x3, x4, x5, x6, x7, x8⟩ := hX.cells; obtain ⟨y0, y1, y2, y3, y4, y5, y6, y7⟩ := hU; go_simp) ?_
      go_simp
      refine headT_read rfl (.pointer (some ⟨gu, q * 8, none⟩)) (by go_simp) (fun V hV => by go_simp) ?_
      go_simp
      refine headT_read rfl (.pointer (some ⟨gu, q * 8, none⟩)) (by go_simp) (fun V hV => by obtain ⟨hX, hU⟩ := hV; obtain ⟨x0, x1, x2, x3, x4, x5, x6, x7, x8⟩ := hX.cells; obtain ⟨y0, y1, y2, y3, y4, y5, y6, y7⟩ := hU; go_simp) ?_
      go_simp
      refine headT_read rfl (.agg #[.int .i64 u.id, .int .i64 u.player, .int .i64 u.kind, .int .i64 u.at_, .int .i64 u.life, .int .i64 u.load, .int .i64 u.task, .int .i64 u.goal]) (by go_simp) (fun V hV => by obtain ⟨hX, hU⟩ := hV; obtain ⟨x0, x1, x2, x3, x4, x5, x6, x7, x8⟩ := hX.cells; obtain ⟨y0, y1, y2, y3, y4, y5, y6, y7⟩ := hU; go_simp) ?_
      go_simp
      refine headT_call rfl 116 #[.slice pk ks.length qk, .agg #[.int .i64 Y.turn, .int .i64 Y.next, .int .i64 Y.wide, .int .i64 Y.high, .slice a1 Y.gs.length h1, .slice (some ⟨gs, 0, none⟩) Y.os.length h2, .slice a3 Y.gold.length h3, .slice (some ⟨gu, 0, none⟩) Y.us.length h4, .slice a5 Y.qs.length h5], .agg #[.int .i64 u.id, .int .i64 u.player, .int .i64 u.kind, .int .i64 u.at_, .int .i64 u.life, .int .i64 u.load, .int .i64 u.task, .int .i64 u.goal]] (by go_simp) (by go_simp) ?_
      have T6 : Hid (TkS ks Y Z es b1 (z + 1) w1 (.slice a1 Y.gs.length h1) (.slice (some ⟨gs, 0, none⟩) Y.os.length h2) (.slice a3 Y.gold.length h3) (.slice (some ⟨gu, 0, none⟩) Y.us.length h4) (.slice a5 Y.qs.length h5) (.slice ea es.length ec) w6) := TQ.out.below D5.out
      refine Calls.mono (yield_any _ _ ks Z u kn an k x w6 (KV'.out _ D5.out) T6.out.wl UU.out.2.1 UU.out.2.2.1 UU.out.2.2.2.1 UU.out.2.2.2.2 l1 (by omega) (by omega) l3 OX) ?_
      rintro e w7 ⟨rfl, b7⟩
      have D7 : Hid (Below wr.heap.size wr w7) := D5.out.trans (b7.mono D5.out.size)
      refine ⟨_, rfl, CV.out _ D7.out, ?_⟩
      have EY := yield_le (ks := ks) (Y := Z) UU.out.2.1 UU.out.2.2.1 UU.out.2.2.2.1 UU.out.2.2.2.2
      obtain ⟨n, hn⟩ : ∃ n, yieldN ks Z u = n := ⟨_, rfl⟩
      have HN : Hid (yieldN ks Z u = n) := hn
      have nb : n ≤ 10 ∧ (0 < n → n ≤ x ∧ u.load + n ≤ k.n7) := by
        rw [hn] at EY
        split at EY
        · omega
        · omega
      rw [hn]
      clear b7 hn EY T6
      go_simp
      refine sched_value rfl (.int .i64 n) w7 (by go_simp) (by go_simp) trivial ?_
      go_simp
      unfold wpSched
      have T7 : Hid (TkS ks Y Z es b1 (z + 1) w1 (.slice a1 Y.gs.length h1) (.slice (some ⟨gs, 0, none⟩) Y.os.length h2) (.slice a3 Y.gold.length h3) (.slice (some ⟨gu, 0, none⟩) Y.us.length h4) (.slice a5 Y.qs.length h5) (.slice ea es.length ec) w7) := TQ.out.below D7.out
      have X7 : Hid (Wx w7 z (.int .i64 Y.turn) (.int .i64 Y.next) (.int .i64 Y.wide) (.int .i64 Y.high) (.slice a1 Y.gs.length h1) (.slice (some ⟨gs, 0, none⟩) Y.os.length h2) (.slice a3 Y.gold.length h3) (.slice (some ⟨gu, 0, none⟩) Y.us.length h4) (.slice a5 Y.qs.length h5)) := XQ.out.below D7.out XQ.out.lt
      by_cases hp : 0 < n
      · have NX : Hid (tk ks Y (q + 1) = (takeW Z q u n, es ++ [⟨4, u.id, n⟩])) := by
          have h9 := tk_yes (ks := ks) (Y := Y) (q := q) (u := u) (by rw [HQ.out.1]; exact UU.out.1) (by rw [HQ.out.1, HN.out]; exact hp)
          unfold Hid
          rw [h9, HQ.out.1, HQ.out.2, HN.out]
        have U7 := UB.out _ D7.out
        have B7 := BB.out _ D7.out
        obtain ⟨y0, y1, y2, y3, y4, y5, y6, y7⟩ := U7.unc UU.out.1
        have t5 := U7.thaw (q * 8 + 5)
        have wr1 : IntKind.i64.wrap (u.load + n) = u.load + n := by rw [IntKind.wrap_i64]; omega
        have U8 : Hid (Ub (w7.setCell ⟨gu, q * 8 + 5, none⟩ (.int .i64 (u.load + n))) gu (Z.us.set q (loadU u (u.load + n))) ur) := U7.set5 UU.out.1 _
        have K8 : Hid (Kp gu w7 (w7.setCell ⟨gu, q * 8 + 5, none⟩ (.int .i64 (u.load + n)))) := Kp.set _ _ _
        have B8 : Hid (Bk (w7.setCell ⟨gu, q * 8 + 5, none⟩ (.int .i64 (u.load + n))) gs Z.os sr) := B7.other (by have := GL.out.2.2; omega) _ _
        clear U7 B7
        go_upto_region 9 with fail
        clear y0 y1 y2 y3 y4 y5 y6 y7 t5 wr1
        generalize w7.setCell ⟨gu, q * 8 + 5, none⟩ (.int .i64 (u.load + n)) = w8 at *
        have F8 : Hid (Fr (fun q => q = gu) w7 w8) := Fr.kp K8.out rfl
        have X8 : Hid (Wx w8 z (.int .i64 Y.turn) (.int .i64 Y.next) (.int .i64 Y.wide) (.int .i64 Y.high) (.slice a1 Y.gs.length h1) (.slice (some ⟨gs, 0, none⟩) Y.os.length h2) (.slice a3 Y.gold.length h3) (.slice (some ⟨gu, 0, none⟩) Y.us.length h4) (.slice a5 Y.qs.length h5)) := F8.out.wx X7.out (by have := GL.out.1; omega)
        obtain ⟨y0, y1, y2, y3, y4, y5, y6, y7⟩ := U8.out.unc (i := q) (o := loadU u (u.load + n)) (by rw [List.getElem?_set_self (by have := (List.getElem?_eq_some_iff.1 UU.out.1).1; exact this)])
        have y3' : w8.cell? ⟨gu, q * 8 + 3, none⟩ = some (.int .i64 (an : Nat)) := by rw [← UU.out.2.2.2.1]; exact y3
        obtain ⟨x0, x1, x2, x3, x4, x5, x6, x7, x8⟩ := X8.out.cells
        have co := B8.out.cell UU.out.2.2.2.2
        have ts := B8.out.thaw an
        have wr2 : IntKind.i64.wrap (x - n) = x - n := by rw [IntKind.wrap_i64]; omega
        clear y0 y1 y2 y3 y4 y5 y6 y7
        go_region
        have K9 : Hid (Kp gs w8 (w8.setCell ⟨gs, an, none⟩ (.int .i64 (x - n))).drew) := (Kp.set _ _ _).trans (Kp.of (Below.refl _ _).drew)
        have B9 : Hid (Bk (w8.setCell ⟨gs, an, none⟩ (.int .i64 (x - n))).drew gs (Z.os.set an (x - n)) sr) := B8.out.set an _ (List.getElem?_eq_some_iff.1 UU.out.2.2.2.2).1
        clear x0 x1 x2 x3 x4 x5 x6 x7 x8 y3' co ts wr2
        generalize (w8.setCell ⟨gs, an, none⟩ (.int .i64 (x - n))).drew = w9 at *
        have F9 : Hid (Fr (fun q => q = gs) w8 w9) := Fr.kp K9.out rfl
        have X9 : Hid (Wx w9 z (.int .i64 Y.turn) (.int .i64 Y.next) (.int .i64 Y.wide) (.int .i64 Y.high) (.slice a1 Y.gs.length h1) (.slice (some ⟨gs, 0, none⟩) Y.os.length h2) (.slice a3 Y.gold.length h3) (.slice (some ⟨gu, 0, none⟩) Y.us.length h4) (.slice a5 Y.qs.length h5)) := F9.out.wx X8.out (by have := GL.out.2.1; omega)
        have U9 : Hid (Ub w9 gu (Z.us.set q (loadU u (u.load + n))) ur) := (F9.out.block gu U8.out.lt (by have := GL.out.2.2; omega)).trans U8.out
        have F79 : Hid (Fr (fun q => q = gu ∨ q = gs) w7 w9) := (F8.out.mono (fun k hk => .inl hk)).trans (F9.out.mono (fun k hk => .inr hk))
        have E9 : Hid (Evo w9 (z + 1) (.slice ea es.length ec) es) := F79.out.own T7.out.e (fun b hb e => by have h9 := (T7.out.e.block b hb).1; have h8 := GL.out; omega)
        obtain ⟨y0, y1, y2, y3, y4, y5, y6, y7⟩ := U9.out.unc (i := q) (o := loadU u (u.load + n)) (by rw [List.getElem?_set_self (by have := (List.getElem?_eq_some_iff.1 UU.out.1).1; exact this)])
        have y0' : w9.cell? ⟨gu, q * 8, none⟩ = some (.int .i64 u.id) := y0
        have OA : Hid (Evo (w9.alloc (Obj.cells #[.int .i64 4, .int .i64 u.id, .int .i64 n] 120)) (z + 1) (.slice ea es.length ec) es) := E9.out.alloc _
        have RC : Hid (Evc (w9.alloc (Obj.cells #[.int .i64 4, .int .i64 u.id, .int .i64 n] 120)) ⟨w9.heap.size, 0, none⟩ ⟨4, u.id, n⟩) := Evc.mk' (w := w9) ⟨4, u.id, n⟩ rfl
        have BE : Hid (Below w9.heap.size w9 (w9.alloc (Obj.cells #[.int .i64 4, .int .i64 u.id, .int .i64 n] 120))) := (Below.refl _ _).alloc (Nat.le_refl _) _
        have SB : Hid (z + 1 ≤ (w9.alloc (Obj.cells #[.int .i64 4, .int .i64 u.id, .int .i64 n] 120)).heap.size) := Nat.le_trans X9.out.lt BE.out.size
        clear y0 y1 y2 y3 y4 y5 y6 y7
        go_wp2_with (at_builtin; refine app_ev _ rfl _ _ rfl (z + 1) _ es rfl OA.out w9.heap.size ⟨4, u.id, n⟩ rfl RC.out (by have := EL.out; omega) SB.out ?_)
        intro g cap wE o8 g8 a8 l8
        have EO : Hid (Evo wE (z + 1) (.slice (some ⟨g, 0, none⟩) (es.length + 1) cap) (es ++ [⟨4, u.id, n⟩])) := o8
        have FE : Hid (Fr (fun q => (.slice ea es.length ec : Value).ownBlock = some q) w9 wE) := (Fr.below BE.out).trans (Fr.gb g8 (fun k hk => hk))
        have FA : Hid (Fr (fun q => q = gu ∨ q = gs ∨ (.slice ea es.length ec : Value).ownBlock = some q) w7 wE) := (F79.out.mono (fun k hk => by rcases hk with h | h; exact .inl h; exact .inr (.inl h))).trans (FE.out.mono (fun k hk => .inr (.inr hk)))
        have NE : Hid (∀ k, k ≤ z → ¬ (.slice ea es.length ec : Value).ownBlock = some k) := fun k hk e => by have := (E9.out.block k e).1; omega
        have UE : Hid (Ub wE gu (Z.us.set q (loadU u (u.load + n))) ur) := (FE.out.block gu U9.out.lt (NE.out gu (by have := GL.out.1; omega))).trans U9.out
        have BK : Hid (Bk wE gs (Z.os.set an (x - n)) sr) := (FE.out.block gs B9.out.lt (NE.out gs (by have := GL.out.2.1; omega))).trans B9.out
        have XE : Hid (Wx wE z (.int .i64 Y.turn) (.int .i64 Y.next) (.int .i64 Y.wide) (.int .i64 Y.high) (.slice a1 Y.gs.length h1) (.slice (some ⟨gs, 0, none⟩) Y.os.length h2) (.slice a3 Y.gold.length h3) (.slice (some ⟨gu, 0, none⟩) Y.us.length h4) (.slice a5 Y.qs.length h5)) := FE.out.wx X9.out (NE.out z (Nat.le_refl _))
        have EW : Hid ((takeW Z q u n).os = Z.os.set an (x - n)) := by
          unfold Hid takeW
          simp only [UU.out.2.2.2.1, Int.toNat_natCast, List.getD_eq_getElem?_getD, UU.out.2.2.2.2, Option.getD_some]
        have TE : Hid (TkS ks Y (takeW Z q u n) (es ++ [⟨4, u.id, n⟩]) b1 (z + 1) w1 (.slice a1 Y.gs.length h1) (.slice (some ⟨gs, 0, none⟩) Y.os.length h2) (.slice a3 Y.gold.length h3) (.slice (some ⟨gu, 0, none⟩) Y.us.length h4) (.slice a5 Y.qs.length h5) (.slice (some ⟨g, 0, none⟩) (es.length + 1) cap) wE) := by
          have h9 := T7.out.take (V' := wE) (i := q) (u := u) (ur := ur) (sr := sr) (ev' := .slice (some ⟨g, 0, none⟩) (es.length + 1) cap) S1.out (fun y hy k hk => by have := LW.out y hy k hk; have := HZ.out; omega) GB.out.1 GB.out.2.1 GB.out.2.2.1 GB.out.2.2.2.1 GB.out.2.2.2.2.1 GB.out.2.2.2.2.2.1 GB.out.2.2.2.2.2.2.1 GB.out.2.2.2.2.2.2.2 UU.out.1 (by rw [HN.out]; exact hp) (by rw [HN.out]; exact UE.out) (by rw [HN.out, EW.out]; exact BK.out) (by rw [HN.out]; exact EO.out) FA.out
          rw [HN.out] at h9
          exact h9
        clear o8 g8 a8 l8 y0'
        go_wp2
        go_round
        case rel => exact ⟨q + 1, by omega, by go_num, XE.out, by rw [NX.out]; exact TE.out⟩
        case measure => simp [intOf]; omega
      · have NX : Hid (tk ks Y (q + 1) = (Z, es)) := by
          have h9 := tk_no (ks := ks) (Y := Y) (q := q) (u := u) (by rw [HQ.out.1]; exact UU.out.1) (by rw [HQ.out.1, HN.out]; exact hp)
          unfold Hid
          rw [h9, ← HQ.out.1, ← HQ.out.2]
        go_wp2
        go_round
        case rel => exact ⟨q + 1, by omega, by go_num, X7.out, by rw [NX.out]; exact T7.out⟩
        case measure => simp [intOf]; omega
end Go.Proofs.YtoabhfipikkkeaaGreatDoor

namespace Go.Proofs.YtoabhfipikkkeaaGreatDoor
open Go.RowKit
set_option linter.unusedVariables false

set_option maxHeartbeats 1000000 in
theorem idxi_any (u : Value) (v : Int) (xs : List Int) (w : World) (hu : Ro w u xs) :
    Calls Tryz.prog 186 #[u, .int .i64 v] w fun e w' => ∃ r : Int, e = .returned (.int .i64 r) ∧ Fst (fun x => decide (v = x)) xs r ∧ w' = w := by
  obtain ⟨a, c, rfl, c1, c2, ca⟩ := hu
  have Ca : Hid (Cells w a xs) := ca
  clear ca
  go_enter Tryz.func186, Tryz.ntmps186
  go_wp2
  go_loopw [8] (fun i W' => ∃ k : Nat, k ≤ xs.length ∧ i = .int .i64 (k : Nat) ∧ (xs.take k).any (fun x => decide (v = x)) = false ∧ W' = w) (fun i _ => xs.length - (intOf i).toNat)
  case atStart => exact ⟨0, Nat.zero_le _, rfl, by simp, rfl⟩
  case round =>
    obtain ⟨k, hk, rfl, ht, rfl⟩ := hrel
    have Ht : Hid ((xs.take k).any (fun x => decide (v = x)) = false) := ht
    clear ht
    by_cases h0 : k = xs.length
    · subst h0
      go_wp2
      go_ret
      refine ⟨_, rfl, .inl ⟨rfl, ?_⟩, rfl⟩
      have := Ht.out
      rw [List.take_of_length_le (Nat.le_refl _)] at this
      exact this
    · have hkx : k < xs.length := by omega
      obtain ⟨x, rfl, -, hx⟩ := Ca.out (by intro h; rw [h] at hkx; simp at hkx)
      have cx := hx k xs[k] (List.getElem?_eq_getElem hkx)
      have Hs : Hid _ := any_next (p := fun x => decide (v = x)) hkx
      have Hm : Hid (xs[k]? = some xs[k]) := List.getElem?_eq_getElem hkx
      generalize xs[k] = y at *
      clear hx
      by_cases hy : v = y
      · have Hy : Hid (decide (v = y) = true) := decide_eq_true hy
        go_wp2
        go_ret
        exact ⟨_, rfl, .inr ⟨k, y, rfl, Hm, Hy, Ht⟩, rfl⟩
      · have Hy : Hid (decide (v = y) = false) := decide_eq_false hy
        go_wp2
        go_round
        case rel => exact ⟨k + 1, by omega, by go_num, by have := Hs.out; rw [Ht.out, Hy.out] at this; exact this, trivial⟩
        case measure => simp [intOf]; omega
set_option maxHeartbeats 1000000 in
theorem hasi_any (u : Value) (v : Int) (xs : List Int) (w : World) (hu : Ro w u xs) :
    Calls Tryz.prog 151 #[u, .int .i64 v] w fun e w' => e = .returned (.bool (xs.any (fun x => decide (v = x)))) ∧ w' = w := by
  have H : Hid _ := idxi_any u v xs w hu
  obtain ⟨a, c, rfl, -⟩ := hu
  go_enter Tryz.func151, Tryz.ntmps151
  go_wp2_with fail
  refine Calls.mono H.out ?_
  rintro e w1 ⟨r, rfl, hr, rfl⟩
  have Hr : Hid (decide (0 ≤ r) = xs.any (fun x => decide (v = x))) := hr.has
  clear hr
  go_wp2
  go_ret
  exact ⟨by show Ending.returned (.bool (decide (0 ≤ r))) = _; rw [Hr.out], rfl⟩
end Go.Proofs.YtoabhfipikkkeaaGreatDoor

