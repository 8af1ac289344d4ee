/- Behind training a world is right; who is trained comes once. Plain mathematics. · Moves: behind a move a world is right; what the events tell. Plain mathematics. · Fight: behind a fight a world is right; what the events tell. Plain mathematics. · turn.Step as mathematics: phase by phase. · What stays from phase to phase of a turn. · turn: the unit that is asked; isOne; send. · turn.mayBe. · turn.hire. · The program's orders: what is wrong with one. · orders.Check, unitOf, lastOnes. · slices.swapRangeCmpFunc of orders, by places. · slices.rotateCmpFunc of orders, by places. -/
import Derived.Test.YteieikgkmfglaaaGreatDoorZTurnGives13
import Derived.Test.YteieikgkmfglaaaGreatDoorZTurnGives15
import Derived.Test.YteieikgkmfglaaaGreatDoorZTurnGives4
import Derived.Test.YteieikgkmfglaaaGreatDoorZTurnGives22
import Derived.Test.YteieikgkmfglaaaGreatDoorZTurnGives10
import Derived.Test.YteieikgkmfglaaaGreatDoorZTurnGives5
import Derived.Test.YteieikgkmfglaaaGreatDoorZTurnGives1
import Derived.Deep.DeepCutAuto
import Derived.Test.YteieikgkmfglaaaGreatDoorZTurnGives9
import Derived.Test.YteieikgkmfglaaaGreatDoorZTurnGives7
import Derived.Laws.Closers25
import Derived.IntWalk
import Derived.BigRegion
import Derived.Test.YteieikgkmfglaaaGreatDoorZTurnGives16
import Derived.Test.YteieikgkmfglaaaGreatDoorZTurnGives2
import Derived.Test.YteieikgkmfglaaaGreatDoorZTurnGives6
import Derived.LoopN
namespace Go.Proofs.YteieikgkmfglaaaGreatDoor
set_option linter.unusedVariables false

theorem Tr.count {ks : List KV} {X : WV} {q : Nat} {Y : WV} {es : List EvV} {qs : List JbV} (t : Tr ks X q Y es qs) : Y.us.length = X.us.length + es.length ∧ Y.next = X.next + (es.length : Int) ∧ qs.length + es.length = q := by
  induction t with
  | zero => simp
  | wait _ _ _ ih => obtain ⟨i1, i2, i3⟩ := ih; exact ⟨i1, i2, by simp; omega⟩
  | come _ _ _ _ ih =>
    obtain ⟨i1, i2, i3⟩ := ih
    refine ⟨?_, ?_, by simp; omega⟩
    · simp only [Wd.put, List.length_append, List.length_cons, List.length_nil]
      omega
    · simp only [Wd.put, List.length_append, List.length_cons, List.length_nil, i2]
      omega
  | stay _ _ _ _ ih => obtain ⟨i1, i2, i3⟩ := ih; exact ⟨i1, i2, by simp; omega⟩
/-- a job that is left is one that was, with Left from 1 on. -/
def FromJ (X : WV) (j : JbV) : Prop := ∃ o ∈ X.qs, j.player = o.player ∧ j.unit = o.unit ∧ j.kind = o.kind ∧ j.left ≠ 0 ∧ (j.left = 1 ∨ j.left = o.left ∨ j.left = o.left - 1)
theorem Tr.from {ks : List KV} {X : WV} {q : Nat} {Y : WV} {es : List EvV} {qs : List JbV} (t : Tr ks X q Y es qs) : ∀ j ∈ qs, FromJ X j := by
  induction t with
  | zero => intro j hj; cases hj
  | @wait q Y es qs o _ ho hl ih =>
    intro j hj
    rcases List.mem_append.1 hj with hj | hj
    · exact ih j hj
    · simp only [List.mem_singleton] at hj
      subst hj
      refine ⟨o, List.mem_of_getElem? ho, ?_⟩
      unfold dec1 at hl ⊢
      split
      · rename_i h
        rw [if_pos h] at hl
        exact ⟨rfl, rfl, rfl, hl, .inr (.inr rfl)⟩
      · rename_i h
        rw [if_neg h] at hl
        exact ⟨rfl, rfl, rfl, hl, .inr (.inl rfl)⟩
  | come _ _ _ _ ih => exact ih
  | @stay q Y es qs o _ ho _ _ ih =>
    intro j hj
    rcases List.mem_append.1 hj with hj | hj
    · exact ih j hj
    · simp only [List.mem_singleton] at hj
      subst hj
      exact ⟨o, List.mem_of_getElem? ho, rfl, rfl, rfl, (by show (1 : Int) ≠ 0; decide), .inl rfl⟩
/-- behind training a world is right. -/
theorem tr_right {ks : List KV} {X : WV} (h : WRight ks X) {Y : WV} {es : List EvV} {qs : List JbV} (t : Tr ks X X.qs.length Y es qs) : Wd.wfault ks { Y with qs := qs } = 0 := by
  obtain ⟨R, eq, -, hq, -⟩ := t.keep h
  have hf := t.from
  obtain ⟨Wn, Hn, e1, e2, G⟩ := R.good
  refine Wd.wfault_zero R.kinds (by show Fd.fault Y.wide Y.high Y.gs Y.os = 0; rw [e1, e2]; exact Fd.fault_good G) R.nums R.ul (fun i u hu => ?_) (by show qs.length ≤ 12; have := h.ql; omega) (fun j hj => ?_)
  · obtain ⟨k, F⟩ := R.fine hu
    exact ⟨k, F.id1, F.id2, F.up, F.p, F.k0, F.kk, F.life, F.load, F.task, F.at_, F.goal, F.opn, F.rest⟩
  · obtain ⟨o, ho, p1, p2, p3, p4, p5⟩ := hf j hj
    have h1 := R.job (j := o) (by rw [eq]; exact ho)
    unfold Wd.jobFault at h1 ⊢
    show (match Y.us.find? (fun u => u.id == j.unit) with | none => 6 | some u => _) = (0 : Int)
    rw [p2]
    cases hu : Y.us.find? (fun u => u.id == o.unit) with
    | none => rw [hu] at h1; exact h1
    | some u =>
      rw [hu] at h1
      simp only at h1 ⊢
      cases hk : ks[u.kind.toNat]? with
      | none => rw [hk] at h1; exact h1
      | some k =>
        rw [hk] at h1
        simp only at h1 ⊢
        rw [p1, p3]
        split at h1
        · cases h1
        · rename_i c1
          rw [if_neg c1]
          split at h1
          · cases h1
          · rename_i c2
            rw [if_neg]
            simp only [Bool.or_eq_true, Bool.not_eq_true', decide_eq_false_iff_not, not_or, Classical.not_not, Bool.not_eq_false] at c2 ⊢
            refine ⟨c2.1, ?_⟩
            have := c2.2
            rcases p5 with e | e | e <;> omega
end Go.Proofs.YteieikgkmfglaaaGreatDoor

namespace Go.Proofs.YteieikgkmfglaaaGreatDoor
open Wy
set_option linter.unusedVariables false

/-- what a unit keeps. -/
structure Stat (u v : UnV) : Prop where
  id : v.id = u.id
  player : v.player = u.player
  kind : v.kind = u.kind
  life : v.life = u.life
  load : v.load = u.load
  todo : (v.task = u.task ∧ v.goal = u.goal) ∨ (v.task = 0 ∧ v.goal = 0)
  rest : u.task = 0 → v = u
/-- what holds of all units while they move. -/
structure MInv (ks : List KV) (X : WV) (Wn Hn : Nat) (us : List UnV) : Prop where
  len : us.length = X.us.length
  unit : ∀ (j : Nat) (v : UnV), us[j]? = some v → ∃ u k gg, X.us[j]? = some u ∧ Stat u v ∧ ks[v.kind.toNat]? = some k ∧ 0 ≤ v.at_ ∧ v.at_ < (Wn * Hn : Nat) ∧ X.gs[v.at_.toNat]? = some gg ∧ 0 < Fd.onto gg k.f
  dist : ∀ (i j : Nat) (a b : UnV), us[i]? = some a → us[j]? = some b → a.at_ = b.at_ → i = j
theorem open_parts {gs : List Int} {ahead : List UnV} {a : Int} {fl : Bool} (h : Wd.open_ gs ahead a fl = true) : 0 < Fd.onto (gs.getD a.toNat 0) fl ∧ ∀ u ∈ ahead, u.at_ ≠ a := by
  unfold Wd.open_ at h
  rw [Bool.and_eq_true] at h
  refine ⟨of_decide_eq_true h.1, fun u hu e => ?_⟩
  have h2 := h.2
  rw [Bool.not_eq_true', List.any_eq_false] at h2
  exact h2 u hu (by simp [e])
theorem minv_start {ks : List KV} {X : WV} {Wn Hn : Nat} (h : WRight ks X) (G : Fd.Good Wn Hn X.gs X.os) : MInv ks X Wn Hn X.us := by
  refine ⟨rfl, fun j v hv => ?_, ?_⟩
  · obtain ⟨k, f⟩ := h.fine hv
    have ha := f.at_
    have hgl := G.gl
    have hl : v.at_.toNat < X.gs.length := by omega
    refine ⟨v, k, X.gs[v.at_.toNat], hv, ⟨rfl, rfl, rfl, rfl, rfl, .inl ⟨rfl, rfl⟩, fun _ => rfl⟩, f.kk, ha.1, by rw [← G.gl]; exact ha.2, List.getElem?_eq_getElem hl, ?_⟩
    have := (open_parts f.opn).1
    rw [List.getD_eq_getElem?_getD, List.getElem?_eq_getElem hl] at this
    exact this
  · have key : ∀ (i j : Nat) (a b : UnV), i < j → X.us[i]? = some a → X.us[j]? = some b → a.at_ ≠ b.at_ := fun i j a b hij ha hb => by
      obtain ⟨k, f⟩ := h.fine hb
      exact (open_parts f.opn).2 a (List.mem_of_getElem? (by rw [List.getElem?_take, if_pos hij]; exact ha))
    intro i j a b ha hb e
    rcases Nat.lt_trichotomy i j with hl | hl | hl
    · exact absurd e (key i j a b hl ha hb)
    · exact hl
    · exact absurd e.symm (key j i b a hl hb ha)
theorem minv_set {ks : List KV} {X : WV} {Wn Hn : Nat} {us : List UnV} {i : Nat} {u v : UnV} (h : MInv ks X Wn Hn us) (hu : us[i]? = some u) (hs : ∀ u0, X.us[i]? = some u0 → Stat u0 u → Stat u0 v)
    (ha : (v.at_ = u.at_) ∨ (∃ k gg, ks[v.kind.toNat]? = some k ∧ 0 ≤ v.at_ ∧ v.at_ < (Wn * Hn : Nat) ∧ X.gs[v.at_.toNat]? = some gg ∧ 0 < Fd.onto gg k.f ∧ us.any (fun o => o.at_ == v.at_) = false)) (hk : v.kind = u.kind) : MInv ks X Wn Hn (us.set i v) := by
  have hil : i < us.length := (List.getElem?_eq_some_iff.1 hu).1
  refine ⟨by rw [List.length_set]; exact h.len, fun j x hx => ?_, fun a b p q hp hq e => ?_⟩
  · by_cases hij : i = j
    · subst hij
      rw [List.getElem?_set_self hil] at hx
      injection hx with hx
      subst hx
      obtain ⟨u0, k0, g0, h1, h2, h3, h4, h5, h6, h7⟩ := h.unit i u hu
      rcases ha with ha | ⟨k, gg, a1, a2, a3, a4, a5, -⟩
      · exact ⟨u0, k0, g0, h1, hs u0 h1 h2, by rw [hk]; exact h3, by rw [ha]; exact h4, by rw [ha]; exact h5, by rw [ha]; exact h6, h7⟩
      · exact ⟨u0, k, gg, h1, hs u0 h1 h2, a1, a2, a3, a4, a5⟩
    · rw [List.getElem?_set_ne hij] at hx
      exact h.unit j x hx
  · have other : ∀ (j : Nat) (o : UnV), i ≠ j → us[j]? = some o → o.at_ ≠ v.at_ := fun j o hne ho e => by
      rcases ha with ha | ⟨k, gg, -, -, -, -, -, a6⟩
      · exact hne (h.dist i j u o hu ho (by rw [← ha, e]))
      · have := List.any_eq_false.1 a6 o (List.mem_of_getElem? ho)
        simp [e] at this
    by_cases hia : i = a
    · by_cases hib : i = b
      · omega
      · rw [List.getElem?_set_ne hib] at hq
        subst hia
        rw [List.getElem?_set_self hil] at hp
        injection hp with hp
        subst hp
        exact absurd e.symm (other b q hib hq)
    · rw [List.getElem?_set_ne hia] at hp
      by_cases hib : i = b
      · subst hib
        rw [List.getElem?_set_self hil] at hq
        injection hq with hq
        subst hq
        exact absurd e (other a p hia hp)
      · rw [List.getElem?_set_ne hib] at hq
        exact h.dist a b p q hp hq e
theorem minv_goes {ks : List KV} {X : WV} {Wn Hn : Nat} {k : KV} {i : Nat} {us us' : List UnV} {left : Int} {cells : List Int} (G : Fd.Good Wn Hn X.gs X.os) (h : Goes ks X Wn Hn k i us left cells us') : ∀ u, us[i]? = some u → ks[u.kind.toNat]? = some k → MInv ks X Wn Hn us → MInv ks X Wn Hn us' := by
  induction h with
  | stop => intro u _ _ h; exact h
  | @step us us' left u0 c gg cells hu hw hg h1 h2 h3 ih =>
    intro u hu' hk hm
    rw [hu] at hu'
    injection hu' with hu'
    subst hu'
    have hil : i < us.length := (List.getElem?_eq_some_iff.1 hu).1
    have hne : u0.at_ ≠ (c : Nat) := by
      have := List.any_eq_false.1 h2 u0 (List.mem_of_getElem? hu)
      simpa using this
    have hcl : c < Wn * Hn := by rw [← G.gl]; exact (List.getElem?_eq_some_iff.1 hg).1
    refine ih { u0 with at_ := (c : Nat) } (List.getElem?_set_self hil) hk (minv_set hm hu (fun u1 _ hs => ?_) (.inr ⟨k, gg, hk, by show (0 : Int) ≤ (c : Nat); omega, by show ((c : Nat) : Int) < _; omega, by show X.gs[((c : Nat) : Int).toNat]? = some gg; rw [Int.toNat_natCast]; exact hg, wish_pos hw hg hne, h2⟩) rfl)
    refine ⟨hs.id, hs.player, hs.kind, hs.life, hs.load, hs.todo, fun ht => ?_⟩
    have hr : u0.task = 0 := by rw [hs.rest ht]; exact ht
    exact absurd (wish_rest hw hr) hne
theorem goes_len {ks : List KV} {X : WV} {Wn Hn : Nat} {k : KV} {i : Nat} {us us' : List UnV} {left : Int} {cells : List Int} (h : Goes ks X Wn Hn k i us left cells us') : ∀ u, us[i]? = some u → ∃ v, us'[i]? = some v ∧ v.id = u.id ∧ v.kind = u.kind := by
  induction h with
  | stop => intro u hu; exact ⟨u, hu, rfl, rfl⟩
  | @step us us' left u0 c gg cells hu hw hg h1 h2 h3 ih =>
    intro u hu'
    rw [hu] at hu'
    injection hu' with hu'
    subst hu'
    exact ih { u0 with at_ := (c : Nat) } (List.getElem?_set_self (List.getElem?_eq_some_iff.1 hu).1)
theorem ends_stat {u v : UnV} (h : Stat u v) : Stat u (ends v) := by
  unfold ends
  split
  · rename_i hc
    refine ⟨h.id, h.player, h.kind, h.life, h.load, .inr ⟨rfl, rfl⟩, fun ht => ?_⟩
    have := h.rest ht
    rw [this, ht] at hc
    exact absurd hc.1 (by decide)
  · exact h
theorem ends_at (u : UnV) : (ends u).at_ = u.at_ ∧ (ends u).kind = u.kind := by
  unfold ends
  split <;> exact ⟨rfl, rfl⟩
theorem minv_moves {ks : List KV} {X : WV} {Wn Hn : Nat} {n : Nat} {us us' : List UnV} {evs : List EvV} (G : Fd.Good Wn Hn X.gs X.os) (h : Moves ks X Wn Hn n us evs us') : MInv ks X Wn Hn us → MInv ks X Wn Hn us' := by
  induction h with
  | done h => intro hm; exact hm
  | unit hu hk hg h1 hm ih =>
    intro hi
    have h2 := minv_goes G hg _ hu hk hi
    exact ih (minv_set h2 h1 (fun u0 _ hs => ends_stat hs) (.inl (ends_at _).1) (ends_at _).2)
theorem minv_right {ks : List KV} {X : WV} {Wn Hn : Nat} {us : List UnV} (h : WRight ks X) (G : Fd.Good Wn Hn X.gs X.os) (e1 : X.wide = (Wn : Nat)) (e2 : X.high = (Hn : Nat)) (hm : MInv ks X Wn Hn us) : Wd.wfault ks { X with us := us } = 0 := by
  have hgp : 0 < X.gs.length := by rw [G.gl]; exact Nat.mul_pos G.w1 G.h1
  refine Wd.wfault_zero h.kinds (by show Fd.fault X.wide X.high X.gs X.os = 0; rw [e1, e2]; exact Fd.fault_good G) h.nums (by show us.length ≤ 40; rw [hm.len]; exact h.ul) ?_ h.ql ?_
  · intro i v hv
    have hv' : us[i]? = some v := hv
    obtain ⟨u, k, gg, hu, hs, hk, ha0, ha1, hgg, hon⟩ := hm.unit i v hv'
    obtain ⟨k0, f⟩ := h.fine hu
    obtain rfl : k0 = k := by
      have := f.kk
      rw [← hs.kind, hk] at this
      injection this with this
      exact this.symm
    refine ⟨k0, by rw [hs.id]; exact f.id1, by rw [hs.id]; exact f.id2, ?_, by rw [hs.player]; exact f.p, by rw [hs.kind]; exact f.k0, hk, by rw [hs.life]; exact f.life, by rw [hs.load]; exact f.load, ?_, ⟨ha0, by show v.at_ < (X.gs.length : Int); rw [G.gl]; exact ha1⟩, ?_, ?_, ?_⟩
    · show Wd.notAbove us i v = false
      have hup := f.up
      cases i with
      | zero => rfl
      | succ i =>
        simp only [Wd.notAbove] at hup ⊢
        cases hx : us[i]? with
        | none => rfl
        | some x =>
          obtain ⟨x0, -, -, hx0, hsx, -⟩ := hm.unit i x hx
          rw [hx0] at hup
          show decide (v.id ≤ x.id) = false
          rw [hs.id, hsx.id]
          exact hup
    · rcases hs.todo with ⟨t1, -⟩ | ⟨t1, -⟩
      · rw [t1]; exact f.task
      · rw [t1]; exact ⟨Int.le_refl _, by decide⟩
    · show 0 ≤ v.goal ∧ v.goal < (X.gs.length : Int)
      rcases hs.todo with ⟨-, t1⟩ | ⟨-, t1⟩
      · rw [t1]; exact f.goal
      · rw [t1]; exact ⟨Int.le_refl _, Int.ofNat_lt.2 hgp⟩
    · show Wd.open_ X.gs (us.take i) v.at_ k0.f = true
      unfold Wd.open_
      rw [Bool.and_eq_true]
      refine ⟨decide_eq_true (by rw [List.getD_eq_getElem?_getD, hgg]; exact hon), ?_⟩
      rw [Bool.not_eq_true', List.any_eq_false]
      intro p hp e
      obtain ⟨j, hj⟩ := List.mem_iff_getElem?.1 hp
      have hjl : j < i := by
        have := (List.getElem?_eq_some_iff.1 hj).1
        rw [List.length_take] at this
        omega
      rw [List.getElem?_take, if_pos hjl] at hj
      have := hm.dist j i p v hj hv' (by simpa using e)
      omega
    · rcases hs.todo with ⟨t1, t2⟩ | ⟨-, t2⟩
      · rw [t1, t2]; exact f.rest
      · exact .inl t2
  · intro j hj
    have hx := h.job hj
    cases hf : X.us.find? (fun u => u.id == j.unit) with
    | none =>
      unfold Wd.jobFault at hx
      rw [hf] at hx
      cases hx
    | some u1 =>
      have hm1 := List.mem_of_find?_eq_some hf
      have hi1 : u1.id = j.unit := by simpa using List.find?_some hf
      obtain ⟨j1, hj1⟩ := List.mem_iff_getElem?.1 hm1
      have hl1 : j1 < us.length := by rw [hm.len]; exact (List.getElem?_eq_some_iff.1 hj1).1
      obtain ⟨v1, hv1⟩ : ∃ v, us[j1]? = some v := ⟨_, List.getElem?_eq_getElem hl1⟩
      obtain ⟨x1, -, -, hx1, hs1, -⟩ := hm.unit j1 v1 hv1
      rw [hj1] at hx1
      injection hx1 with hx1
      subst hx1
      have hsome : (us.find? (fun u => u.id == j.unit)).isSome = true := List.find?_isSome.2 ⟨v1, List.mem_of_getElem? hv1, by simp [hs1.id, hi1]⟩
      obtain ⟨y0, hy0⟩ := Option.isSome_iff_exists.1 hsome
      obtain ⟨j0, hj0⟩ := List.mem_iff_getElem?.1 (List.mem_of_find?_eq_some hy0)
      have hi0 : y0.id = j.unit := by simpa using List.find?_some hy0
      obtain ⟨x0, -, -, hx0, hs0, -⟩ := hm.unit j0 y0 hj0
      have := id_one h hx0 hj1 (by rw [← hs0.id, hi0, hi1])
      subst this
      rw [hx0] at hj1
      injection hj1 with hj1
      subst hj1
      unfold Wd.jobFault at hx ⊢
      rw [hf] at hx
      have hy1 : ({ X with us := us } : WV).us.find? (fun u => u.id == j.unit) = some y0 := hy0
      rw [hy1]
      simp only [hs0.kind, hs0.player]
      exact hx

/-- the events, one behind the other: what is left, where all are. -/
inductive Track (ks : List KV) (X : WV) (Wn Hn : Nat) : List Int → List Int → List EvV → List Int → Prop where
  | nil {l a : List Int} : Track ks X Wn Hn l a [] a
  | cons {l a a' : List Int} {e : EvV} {evs : List EvV} {n an c : Nat} {u : UnV} {k : KV} {gg ln : Int} (hu : X.us[n]? = some u) (hi : u.id = e.unit) (hw : e.what = 1) (hk : ks[u.kind.toNat]? = some k) (ha : a[n]? = some (an : Int)) (han : an < Wn * Hn) (he : e.arg = (c : Nat)) (hn : (c : Int) ∈ Fd.near Wn Hn an) (hg : X.gs[c]? = some gg) (hs : 1 ≤ Fd.onto gg k.f) (hl : l[n]? = some ln) (h0 : 0 ≤ ln - Fd.onto gg k.f ∧ ln ≤ 4) (h : Track ks X Wn Hn (l.set n (ln - Fd.onto gg k.f)) (a.set n (c : Nat)) evs a') : Track ks X Wn Hn l a (e :: evs) a'
theorem wish_near {ks : List KV} {X : WV} {Wn Hn : Nat} {u : UnV} {k : KV} {c : Nat} (h : WishSays ks X Wn Hn u k c) (hc : u.at_ ≠ (c : Nat)) : (c : Int) ∈ Fd.near Wn Hn u.at_.toNat := by
  obtain ⟨an, bn, l, ha, -, -, -, hh⟩ := h
  rw [ha, Int.toNat_natCast]
  rcases hh with ⟨-, rfl⟩ | ⟨-, h⟩
  · exact absurd ha hc
  · rcases h with ⟨-, rfl⟩ | ⟨-, h⟩
    · exact absurd ha hc
    · exact h.is.1
theorem map_at_set {us : List UnV} {i : Nat} {u : UnV} {c : Int} : (us.set i { u with at_ := c }).map UnV.at_ = (us.map UnV.at_).set i c := by
  rw [List.map_set]
theorem goes_track {ks : List KV} {X : WV} {Wn Hn : Nat} {k : KV} {i : Nat} {us us' : List UnV} {left : Int} {cells : List Int} (G : Fd.Good Wn Hn X.gs X.os) (h : Goes ks X Wn Hn k i us left cells us') : ∀ (u : UnV) (l : List Int) (evs : List EvV) (a' : List Int), us[i]? = some u → ks[u.kind.toNat]? = some k → MInv ks X Wn Hn us → l[i]? = some left → left ≤ 4 → (∀ x, Track ks X Wn Hn (l.set i x) (us'.map UnV.at_) evs a') → Track ks X Wn Hn l (us.map UnV.at_) (cells.map (fun c => (⟨1, u.id, c⟩ : EvV)) ++ evs) a' := by
  induction h with
  | @stop us left u c gg hu hw hg h =>
    intro u l evs a' hu hk hm hl h4 ht
    have := ht left
    rw [show l.set i left = l by
      obtain ⟨h2, h3⟩ := List.getElem?_eq_some_iff.1 hl
      rw [← h3, List.set_getElem_self]] at this
    exact this
  | @step us us' left u0 c gg cells hu hw hg h1 h2 h3 ih =>
    intro u l evs a' hu' hk hm hl h4 ht
    rw [hu] at hu'
    injection hu' with hu'
    subst hu'
    have hil : i < us.length := (List.getElem?_eq_some_iff.1 hu).1
    have hll : i < l.length := (List.getElem?_eq_some_iff.1 hl).1
    have hne : u0.at_ ≠ (c : Nat) := by
      have := List.any_eq_false.1 h2 u0 (List.mem_of_getElem? hu)
      simpa using this
    have hpos := wish_pos hw hg hne
    obtain ⟨x0, k0, g0, hx0, hs0, hk0, ha0, ha1, -, -⟩ := hm.unit i u0 hu
    have hm2 : MInv ks X Wn Hn (us.set i { u0 with at_ := (c : Nat) }) := by
      have hcl : c < Wn * Hn := by rw [← G.gl]; exact (List.getElem?_eq_some_iff.1 hg).1
      refine minv_set hm hu (fun u1 _ hs => ?_) (.inr ⟨k, gg, hk, by show (0 : Int) ≤ (c : Nat); omega, by show ((c : Nat) : Int) < _; omega, by show X.gs[((c : Nat) : Int).toNat]? = some gg; rw [Int.toNat_natCast]; exact hg, hpos, h2⟩) rfl
      refine ⟨hs.id, hs.player, hs.kind, hs.life, hs.load, hs.todo, fun ht => ?_⟩
      have hr : u0.task = 0 := by rw [hs.rest ht]; exact ht
      exact absurd (wish_rest hw hr) hne
    have hr := ih { u0 with at_ := (c : Nat) } (l.set i (left - Fd.onto gg k.f)) evs a' (List.getElem?_set_self hil) hk hm2 (List.getElem?_set_self hll) (by omega) (fun x => by rw [List.set_set]; exact ht x)
    rw [map_at_set] at hr
    have han : u0.at_.toNat < Wn * Hn := by omega
    refine .cons (e := ⟨1, u0.id, (c : Nat)⟩) (n := i) (an := u0.at_.toNat) (c := c) (u := x0) (k := k) (gg := gg) (ln := left) hx0 hs0.id.symm rfl (by rw [← hs0.kind]; exact hk) ?_ han rfl (wish_near hw hne) hg (by omega) hl ⟨by omega, h4⟩ hr
    rw [List.getElem?_map, hu]
    show some u0.at_ = some ((u0.at_.toNat : Nat) : Int)
    rw [Int.toNat_of_nonneg ha0]
/-- how far a unit gets. -/
def spdOf (ks : List KV) (u : UnV) : Int := match ks[u.kind.toNat]? with
  | none => 0
  | some k => k.n4
theorem moves_track {ks : List KV} {X : WV} {Wn Hn : Nat} {n : Nat} {us us' : List UnV} {evs : List EvV} (G : Fd.Good Wn Hn X.gs X.os) (hkn : Kd.kindsFault (ks.map KV.k) = 0) (h : Moves ks X Wn Hn n us evs us') : ∀ (l : List Int), MInv ks X Wn Hn us → l.length = us.length → (∀ (j : Nat) (u : UnV), n ≤ j → us[j]? = some u → l[j]? = some (spdOf ks u)) → Track ks X Wn Hn l (us.map UnV.at_) evs (us'.map UnV.at_) := by
  induction h with
  | done h => intro l _ _ _; exact .nil
  | @unit n us us1 us' u u1 k cells evs hu hk hg h1 hm ih =>
    intro l hi hl hs
    have hln := hs n u (Nat.le_refl _) hu
    have hsp : spdOf ks u = k.n4 := by unfold spdOf; rw [hk]
    rw [hsp] at hln
    have hm1 := minv_goes G hg _ hu hk hi
    have hm2 := minv_set hm1 h1 (fun u0 _ hs => ends_stat hs) (.inl (ends_at u1).1) (ends_at u1).2
    have hnum := kind_nums hkn (List.mem_of_getElem? hk)
    refine goes_track G hg u l evs _ hu hk hi hln (by omega) (fun x => ?_)
    have hself : (us1.set n (ends u1)).map UnV.at_ = us1.map UnV.at_ := by
      rw [List.map_set, (ends_at u1).1]
      apply List.ext_getElem?
      intro j
      by_cases hj : n = j
      · subst hj
        rw [List.getElem?_set_self (by rw [List.length_map]; exact (List.getElem?_eq_some_iff.1 h1).1), List.getElem?_map, h1]
        rfl
      · rw [List.getElem?_set_ne hj]
    have := ih (l.set n x) hm2 (by rw [List.length_set, List.length_set, hl, hi.len, hm1.len]) (fun j v hj hv => ?_)
    · rw [hself] at this
      exact this
    · have hnj : n ≠ j := by omega
      rw [List.getElem?_set_ne hnj] at hv ⊢
      obtain ⟨x0, -, -, hx0, hs0, -⟩ := hm1.unit j v hv
      have hjl : j < us.length := by rw [hi.len]; exact (List.getElem?_eq_some_iff.1 hx0).1
      obtain ⟨v0, hv0⟩ : ∃ v, us[j]? = some v := ⟨_, List.getElem?_eq_getElem hjl⟩
      obtain ⟨x0', -, -, hx0', hs0', -⟩ := hi.unit j v0 hv0
      rw [hx0] at hx0'
      injection hx0' with hx0'
      subst hx0'
      rw [hs j v0 (by omega) hv0]
      unfold spdOf
      rw [hs0.kind, hs0'.kind]
end Go.Proofs.YteieikgkmfglaaaGreatDoor

namespace Go.Proofs.YteieikgkmfglaaaGreatDoor
set_option linter.unusedVariables false

theorem filter_at {α : Type} {p : α → Bool} : ∀ (l : List α) (i : Nat) (x : α), (l.filter p)[i]? = some x → ∃ j, l[j]? = some x ∧ p x = true ∧ (l.filter p).take i = (l.take j).filter p
  | [], i, x, h => by simp at h
  | a :: l, i, x, h => by
    cases hp : p a with
    | true =>
      rw [List.filter_cons_of_pos hp] at h ⊢
      cases i with
      | zero =>
        simp at h
        subst h
        exact ⟨0, rfl, hp, rfl⟩
      | succ i =>
        rw [List.getElem?_cons_succ] at h
        obtain ⟨j, h1, h2, h3⟩ := filter_at l i x h
        exact ⟨j + 1, by rw [List.getElem?_cons_succ]; exact h1, h2, by rw [List.take_succ_cons, List.take_succ_cons, List.filter_cons_of_pos hp, h3]⟩
    | false =>
      have hn : ¬ p a = true := by rw [hp]; simp
      rw [List.filter_cons_of_neg hn] at h ⊢
      obtain ⟨j, h1, h2, h3⟩ := filter_at l i x h
      exact ⟨j + 1, by rw [List.getElem?_cons_succ]; exact h1, h2, by rw [List.take_succ_cons, List.filter_cons_of_neg hn, h3]⟩
theorem hurt_from {us : List UnV} {lost : List Int} {j : Nat} {y : UnV} (h : (hurt us lost)[j]? = some y) : ∃ u x, us[j]? = some u ∧ lost[j]? = some x ∧ y = { u with life := u.life - x } := by
  unfold hurt at h
  rw [List.getElem?_zipWith] at h
  cases hu : us[j]? with
  | none => rw [hu] at h; simp at h
  | some u =>
    cases hx : lost[j]? with
    | none => rw [hu, hx] at h; simp at h
    | some x =>
      rw [hu, hx] at h
      simp at h
      exact ⟨u, x, rfl, rfl, h.symm⟩
theorem hurt_take {us : List UnV} {lost : List Int} {j : Nat} {y : UnV} (h : y ∈ (hurt us lost).take j) : ∃ i u x, i < j ∧ us[i]? = some u ∧ lost[i]? = some x ∧ y = { u with life := u.life - x } := by
  obtain ⟨i, hi⟩ := List.mem_iff_getElem?.1 h
  have hl : i < j := by
    have := (List.getElem?_eq_some_iff.1 hi).1
    rw [List.length_take] at this
    omega
  rw [List.getElem?_take, if_pos hl] at hi
  obtain ⟨u, x, h1, h2, h3⟩ := hurt_from hi
  exact ⟨i, u, x, hl, h1, h2, h3⟩
theorem lost_upto {ks : List KV} {Wn : Nat} {X : WV} (h : WRight ks X) : Upto 40000 (strikes ks Wn X.us X.us).1 := by
  have := strikes_upto (W := Wn) (us := X.us) h.kinds X.us.length (Nat.le_refl _)
  rw [List.take_of_length_le (Nat.le_refl _)] at this
  intro x hx
  have := this x hx
  have := h.ul
  omega
theorem stay_from {ks : List KV} {Wn : Nat} {X : WV} (h : WRight ks X) {i : Nat} {y : UnV} (hy : (stays ks Wn X)[i]? = some y) :
    ∃ j u x, X.us[j]? = some u ∧ (strikes ks Wn X.us X.us).1[j]? = some x ∧ y = { u with life := u.life - x } ∧ 1 ≤ u.life - x ∧ 0 ≤ x ∧ (stays ks Wn X).take i = ((struck ks Wn X).take j).filter (fun u => !fallenU u) := by
  obtain ⟨j, h1, h2, h3⟩ := filter_at (struck ks Wn X) i y hy
  obtain ⟨u, x, hu, hx, rfl⟩ := hurt_from h1
  have hl : 1 ≤ u.life - x := by
    unfold fallenU at h2
    simp at h2
    omega
  exact ⟨j, u, x, hu, hx, rfl, hl, (lost_upto h x (List.mem_of_getElem? hx)).1, h3⟩
theorem fought_right {ks : List KV} {Wn : Nat} {X : WV} (h : WRight ks X) : Wd.wfault ks (fought ks Wn X) = 0 := by
  obtain ⟨Wm, Hm, e1, e2, G⟩ := h.good
  refine Wd.wfault_zero h.kinds (by show Fd.fault X.wide X.high X.gs X.os = 0; rw [e1, e2]; exact Fd.fault_good G) h.nums ?_ ?_ ?_ ?_
  · show (stays ks Wn X).length ≤ 40
    have h1 : (stays ks Wn X).length ≤ (struck ks Wn X).length := List.length_filter_le _ _
    have h2 : (struck ks Wn X).length = X.us.length := by unfold struck; exact hurt_len strikes_len'
    have := h.ul
    omega
  · intro i y hy
    have hy' : (stays ks Wn X)[i]? = some y := hy
    obtain ⟨j, u, x, hu, hx, rfl, hl, hx0, ht⟩ := stay_from h hy'
    obtain ⟨k, f⟩ := h.fine hu
    have AH : ∀ p ∈ (stays ks Wn X).take i, ∃ j' u' x', j' < j ∧ X.us[j']? = some u' ∧ p = { u' with life := u'.life - x' } := fun p hp => by
      rw [ht] at hp
      obtain ⟨j', u', x', a1, a2, -, a3⟩ := hurt_take (List.mem_filter.1 hp).1
      exact ⟨j', u', x', a1, a2, a3⟩
    refine ⟨k, f.id1, f.id2, ?_, f.p, f.k0, f.kk, ⟨hl, by have := f.life.2; show u.life - x ≤ k.n0; omega⟩, f.load, f.task, f.at_, f.goal, ?_, f.rest⟩
    · show Wd.notAbove (stays ks Wn X) i _ = false
      cases i with
      | zero => rfl
      | succ i =>
        have hil : i < (stays ks Wn X).length := by have := (List.getElem?_eq_some_iff.1 hy').1; omega
        obtain ⟨p, hp⟩ : ∃ p, (stays ks Wn X)[i]? = some p := ⟨_, List.getElem?_eq_getElem hil⟩
        simp only [Wd.notAbove, hp, decide_eq_false_iff_not]
        obtain ⟨j', u', x', a1, a2, rfl⟩ := AH p (List.mem_of_getElem? (by rw [List.getElem?_take, if_pos (Nat.lt_succ_self _)]; exact hp))
        have := ids_rise h (j - j' - 1) j' u' u a2 (by rw [show j' + (j - j' - 1) + 1 = j by omega]; exact hu)
        show ¬ u.id ≤ u'.id
        omega
    · have ho := f.opn
      unfold Wd.open_ at ho
      rw [Bool.and_eq_true] at ho
      show Wd.open_ X.gs ((stays ks Wn X).take i) u.at_ k.f = true
      unfold Wd.open_
      rw [Bool.and_eq_true]
      refine ⟨ho.1, ?_⟩
      rw [Bool.not_eq_true', List.any_eq_false]
      intro p hp
      obtain ⟨j', u', x', a1, a2, rfl⟩ := AH p hp
      have h1 := ho.2
      rw [Bool.not_eq_true', List.any_eq_false] at h1
      exact h1 u' (List.mem_of_getElem? (by rw [List.getElem?_take, if_pos a1]; exact a2))
  · show (X.qs.filter _).length ≤ 12
    have := List.length_filter_le (fun j => !orphanJ (stays ks Wn X) j) X.qs
    have := h.ql
    omega
  · intro j hj
    have hj' : j ∈ X.qs.filter (fun j => !orphanJ (stays ks Wn X) j) := hj
    obtain ⟨hjm, hjo⟩ := List.mem_filter.1 hj'
    have hx := h.job hjm
    unfold orphanJ at hjo
    rw [Bool.not_not, List.any_eq_true] at hjo
    obtain ⟨y, hy, hyi⟩ := hjo
    have hfs : ((stays ks Wn X).find? (fun u => u.id == j.unit)).isSome = true := List.find?_isSome.2 ⟨y, hy, hyi⟩
    obtain ⟨y0, hy0⟩ := Option.isSome_iff_exists.1 hfs
    have hm0 := List.mem_of_find?_eq_some hy0
    have hi0 := List.find?_some hy0
    obtain ⟨i0, hi0'⟩ := List.mem_iff_getElem?.1 hm0
    obtain ⟨j0, u0, x0, hu0, -, rfl, -, -, -⟩ := stay_from h hi0'
    have hid0 : u0.id = j.unit := by simpa using hi0
    cases hf : X.us.find? (fun u => u.id == j.unit) with
    | none =>
      unfold Wd.jobFault at hx
      rw [hf] at hx
      cases hx
    | some u1 =>
      have hm1 := List.mem_of_find?_eq_some hf
      have hi1 : u1.id = j.unit := by simpa using List.find?_some hf
      obtain ⟨j1, hj1⟩ := List.mem_iff_getElem?.1 hm1
      have := id_one h hu0 hj1 (by rw [hid0, hi1])
      subst this
      rw [hu0] at hj1
      injection hj1 with hj1
      subst hj1
      unfold Wd.jobFault at hx ⊢
      rw [hf] at hx
      have hy1 : (fought ks Wn X).us.find? (fun u => u.id == j.unit) = some { u0 with life := u0.life - x0 } := hy0
      rw [hy1]
      exact hx

/-- what an event adds to the hits. -/
def evHit (ks : List KV) (us : List UnV) (h : List Int) (e : EvV) : List Int :=
  if e.what = 2 then h.set (fsti (fun u => u.id == e.arg) us).toNat (h.getD (fsti (fun u => u.id == e.arg) us).toNat 0 + (us[(fsti (fun u => u.id == e.unit) us).toNat]?.map (hitOf ks)).getD 0) else h
def hitsOf (ks : List KV) (us : List UnV) (l : List EvV) : List Int := l.foldl (evHit ks us) (List.replicate us.length 0)
theorem hitsOf_next {ks : List KV} {us : List UnV} {l : List EvV} {n : Nat} {e : EvV} (h : l[n]? = some e) : hitsOf ks us (l.take (n + 1)) = evHit ks us (hitsOf ks us (l.take n)) e := by
  obtain ⟨hi, e'⟩ := List.getElem?_eq_some_iff.1 h
  unfold hitsOf
  rw [List.take_succ_eq_append_getElem hi, List.foldl_append, e']
  rfl
theorem tgt_says (W : Nat) (u : UnV) (k : KV) (us : List UnV) : TgSays W u k us (tgt W u k us) := by
  unfold tgt
  by_cases h1 : k.n1 = 0
  · rw [if_pos h1]; exact .inl ⟨h1, rfl⟩
  · rw [if_neg h1]
    cases hf : foesU W u k.n2 us with
    | nil => exact .inr (.inl ⟨h1, hf, rfl⟩)
    | cons x0 tl => exact .inr (.inr ⟨h1, x0, tl, hf, fsti_fst _ _⟩)
/-- an event as it should be. -/
def EvOk (ks : List KV) (us : List UnV) (e : EvV) : Prop :=
  (e.what = 2 ∧ ∃ (i j : Nat) (u x : UnV) (k : KV), us[i]? = some u ∧ us[j]? = some x ∧ u.id = e.unit ∧ x.id = e.arg ∧ u.player ≠ x.player ∧ ks[u.kind.toNat]? = some k ∧ 1 ≤ k.n1) ∨ (e.what = 3 ∧ ∃ (i : Nat) (u : UnV), us[i]? = some u ∧ u.id = e.unit)
theorem hit_at {ks : List KV} {X : WV} (h : WRight ks X) {l : List Int} {e : EvV} {i j : Nat} {u x : UnV} {k : KV} (he : e.what = 2) (hu : X.us[i]? = some u) (hx : X.us[j]? = some x) (h1 : u.id = e.unit) (h2 : x.id = e.arg) (hk : ks[u.kind.toNat]? = some k) : evHit ks X.us l e = l.set j (l.getD j 0 + k.n1) := by
  unfold evHit
  rw [if_pos he, fst_is h hx h2 (fsti_fst _ _), fst_is h hu h1 (fsti_fst _ _), Int.toNat_natCast, Int.toNat_natCast, hu]
  simp [hitOf_some hk]
theorem strikes_told {ks : List KV} {Wn : Nat} {X : WV} (h : WRight ks X) : ∀ (n : Nat), n ≤ X.us.length → (strikes ks Wn X.us (X.us.take n)).2.foldl (evHit ks X.us) (List.replicate X.us.length 0) = (strikes ks Wn X.us (X.us.take n)).1 ∧ ∀ e ∈ (strikes ks Wn X.us (X.us.take n)).2, EvOk ks X.us e
  | 0, _ => ⟨rfl, fun e he => by cases he⟩
  | n + 1, hn => by
    obtain ⟨u, hu⟩ : ∃ u, X.us[n]? = some u := ⟨_, List.getElem?_eq_getElem (by omega)⟩
    obtain ⟨ih1, ih2⟩ := strikes_told (Wn := Wn) h n (by omega)
    rw [strikes_next hu]
    obtain ⟨k, f⟩ := h.fine hu
    have ht := tgtOf_some (W := Wn) (us := X.us) f.kk
    have hw := tg_who h (tgt_says Wn u k X.us)
    rw [← ht] at hw
    unfold stk
    rcases hw with ⟨h1, -⟩ | ⟨h1, tn, x, f0, tl, h2, hx, hfo, hm⟩
    · rw [if_pos h1]; exact ⟨ih1, ih2⟩
    · rw [if_neg (by omega), h2, Int.toNat_natCast, hx]
      have hfm := minU_mem (keyU Wn u) tl f0
      rw [← hfo, ← hm] at hfm
      have hfe := (foe_iff.1 hfm).2.1
      have hk1 : 1 ≤ k.n1 := by have := (kind_nums h.kinds (List.mem_of_getElem? f.kk)).2.2.2.2.1; omega
      refine ⟨?_, fun e he => ?_⟩
      · show (_ ++ [(⟨2, u.id, x.id⟩ : EvV)]).foldl _ _ = _
        rw [List.foldl_append, ih1]
        show evHit ks X.us _ ⟨2, u.id, x.id⟩ = _
        rw [hit_at h rfl hu hx rfl rfl f.kk, hitOf_some f.kk]
      · rcases List.mem_append.1 he with he | he
        · exact ih2 e he
        · have he' : e ∈ [(⟨2, u.id, x.id⟩ : EvV)] := he
          simp at he'
          subst he'
          exact .inl ⟨rfl, n, tn, u, x, k, hu, hx, rfl, rfl, fun e => hfe e.symm, f.kk, hk1⟩
theorem hitsOf_all {ks : List KV} {Wn : Nat} {X : WV} (h : WRight ks X) : hitsOf ks X.us (fevents ks Wn X) = (strikes ks Wn X.us X.us).1 ∧ ∀ e ∈ fevents ks Wn X, EvOk ks X.us e := by
  have h0 := strikes_told (Wn := Wn) h X.us.length (Nat.le_refl _)
  rw [List.take_of_length_le (Nat.le_refl _)] at h0
  have hfell : ∀ (l : List UnV) (s : List Int), (l.map fellE).foldl (evHit ks X.us) s = s := by
    intro l
    induction l with
    | nil => intro s; rfl
    | cons a l ih => intro s; rw [List.map_cons, List.foldl_cons]; exact ih s
  refine ⟨?_, fun e he => ?_⟩
  · unfold hitsOf fevents
    rw [List.foldl_append, h0.1, hfell]
  · unfold fevents at he
    rcases List.mem_append.1 he with he | he
    · exact h0.2 e he
    · obtain ⟨y, hy, rfl⟩ := List.mem_map.1 he
      obtain ⟨j, hj⟩ := List.mem_iff_getElem?.1 (List.mem_filter.1 hy).1
      obtain ⟨u, x, hu, -, rfl⟩ := hurt_from hj
      exact .inr ⟨rfl, j, u, hu, rfl⟩
theorem evHit_len {ks : List KV} {us : List UnV} {l : List Int} {e : EvV} : (evHit ks us l e).length = l.length := by
  unfold evHit
  split <;> simp
theorem hitsOf_len {ks : List KV} {us : List UnV} {l : List EvV} : (hitsOf ks us l).length = us.length := by
  have : ∀ (l : List EvV) (s : List Int), (l.foldl (evHit ks us) s).length = s.length := by
    intro l
    induction l with
    | nil => intro s; rfl
    | cons a l ih => intro s; rw [List.foldl_cons, ih, evHit_len]
  unfold hitsOf
  rw [this]
  simp
theorem hits_upto {ks : List KV} {X : WV} (h : WRight ks X) {l : List EvV} : ∀ (n : Nat), n ≤ l.length → Upto (1000 * (n : Int)) (hitsOf ks X.us (l.take n))
  | 0, _ => by
    intro x hx
    have : x ∈ List.replicate X.us.length (0 : Int) := hx
    have := List.eq_of_mem_replicate this
    omega
  | n + 1, hn => by
    obtain ⟨e, he⟩ : ∃ e, l[n]? = some e := ⟨_, List.getElem?_eq_getElem (by omega)⟩
    rw [hitsOf_next he]
    have ih := hits_upto (ks := ks) h (l := l) n (by omega)
    unfold evHit
    split
    · intro x hx
      have h0 := ih.at_ (by omega) (fsti (fun u => u.id == e.arg) X.us).toNat
      have h1 : 0 ≤ (X.us[(fsti (fun u => u.id == e.unit) X.us).toNat]?.map (hitOf ks)).getD 0 ∧ (X.us[(fsti (fun u => u.id == e.unit) X.us).toNat]?.map (hitOf ks)).getD 0 ≤ 1000 := by
        cases hc : X.us[(fsti (fun u => u.id == e.unit) X.us).toNat]? with
        | none => simp
        | some v => simp; exact hit_in h.kinds v
      rcases List.mem_or_eq_of_mem_set hx with hx | hx
      · have := ih x hx
        omega
      · omega
    · intro x hx
      have := ih x hx
      omega
/-- where one that was there is now. -/
theorem stay_find {ks : List KV} {Wn : Nat} {X : WV} (h : WRight ks X) {i : Nat} {u : UnV} {x r : Int} (hu : X.us[i]? = some u) (hx : (strikes ks Wn X.us X.us).1[i]? = some x) (hr : FstU (fun o => o.id == u.id) (stays ks Wn X) r) :
    (r = -1 ∧ u.life ≤ x) ∨ ∃ k : Nat, r = k ∧ (stays ks Wn X)[k]? = some { u with life := u.life - x } ∧ 1 ≤ u.life - x := by
  rcases hr with ⟨h1, h2⟩ | ⟨k, y, h1, h2, h3, -⟩
  · refine .inl ⟨h1, ?_⟩
    by_cases hc : u.life ≤ x
    · exact hc
    · have hh : { u with life := u.life - x } ∈ stays ks Wn X := by
        unfold stays
        rw [List.mem_filter]
        refine ⟨List.mem_of_getElem? (hurt_at hu hx), ?_⟩
        unfold fallenU
        simp
        omega
      have := List.any_eq_false.1 h2 _ hh
      simp at this
  · obtain ⟨j, u', x', a1, a2, rfl, a3, -, -⟩ := stay_from h h2
    have hid : u'.id = u.id := by simpa using h3
    have := id_one h a1 hu hid
    subst this
    rw [a1] at hu
    injection hu with hu
    subst hu
    rw [a2] at hx
    injection hx with hx
    subst hx
    exact .inr ⟨k, h1, h2, a3⟩
end Go.Proofs.YteieikgkmfglaaaGreatDoor

namespace Go.Proofs.YteieikgkmfglaaaGreatDoor
open Go.RowKit Go.Proofs.YteieikgkmfglaaaGreatDoor.So
set_option linter.unusedVariables false

theorem goes_count {ks : List KV} {X : WV} {Wn Hn : Nat} {k : KV} {i : Nat} {us us' : List UnV} {left : Int} {cells : List Int} (h : Goes ks X Wn Hn k i us left cells us') : us'.length = us.length ∧ cells.length ≤ left.toNat := by
  induction h with
  | stop => exact ⟨rfl, by simp⟩
  | @step us us' left u c gg cells hu hw hg h1 h2 h3 ih =>
    have hp : 0 < Fd.onto gg k.f := by
      refine wish_pos hw hg (fun e => ?_)
      rw [List.any_eq_false] at h2
      exact h2 u (List.mem_of_getElem? hu) (by rw [e]; simp)
    obtain ⟨i1, i2⟩ := ih
    refine ⟨by rw [i1]; simp, ?_⟩
    simp only [List.length_cons]
    omega
theorem moves_count {ks : List KV} {X : WV} {Wn Hn n : Nat} {us us' : List UnV} {evs : List EvV} (hk : ∀ k ∈ ks, k.n4 ≤ 1000) (h : Moves ks X Wn Hn n us evs us') : evs.length ≤ 1000 * (us.length - n) := by
  induction h with
  | done => simp
  | @unit n us us1 us' u u1 k cells evs hu hkk hg h1 hm ih =>
    obtain ⟨g1, g2⟩ := goes_count hg
    have hn : n < us.length := (List.getElem?_eq_some_iff.1 hu).1
    have hs := hk k (List.mem_of_getElem? hkk)
    rw [List.length_set, g1] at ih
    rw [List.length_append, List.length_map]
    have : us.length - n = (us.length - (n + 1)) + 1 := by omega
    rw [this]
    omega
theorem kinds_speed {ks : List KV} (h : Kd.kindsFault (ks.map KV.k) = 0) : ∀ k ∈ ks, k.n4 ≤ 1000 := by
  intro k hk
  unfold Kd.kindsFault at h
  split at h
  · omega
  · have h2 := kgo_nums h k.k (List.mem_map.2 ⟨k, hk, rfl⟩)
    unfold Kd.numsFault at h2
    split at h2
    · omega
    · rename_i h3
      rw [Bool.not_eq_true, List.any_eq_false] at h3
      have := h3 k.n4 (by simp [KV.k])
      simp only [decide_eq_true_eq] at this
      omega
/-- the first n of the four phases have happened to A. -/
inductive Ph (ks : List KV) (Wn Hn : Nat) (A : WV) : Nat → WV → List EvV → Prop
  | zero : Ph ks Wn Hn A 0 A []
  | one {T : WV} {es : List EvV} {qs : List JbV} : Tr ks A A.qs.length T es qs → Ph ks Wn Hn A 1 { T with qs := qs } es
  | two {B : WV} {es evs : List EvV} {us : List UnV} : Ph ks Wn Hn A 1 B es → Moves ks B Wn Hn 0 B.us evs us → Ph ks Wn Hn A 2 { B with us := us } (es ++ evs)
  | three {C : WV} {es : List EvV} : Ph ks Wn Hn A 2 C es → Ph ks Wn Hn A 3 (dug ks Wn Hn C) (es ++ dugEv ks Wn Hn C)
  | four {D : WV} {es : List EvV} : Ph ks Wn Hn A 3 D es → Ph ks Wn Hn A 4 (fought ks Wn D) (es ++ fevents ks Wn D)
/-- through each phase a world is right, and as great. -/
theorem Ph.keep {ks : List KV} {Wn Hn : Nat} {A : WV} (h : WRight ks A) (e1 : A.wide = (Wn : Nat)) (e2 : A.high = (Hn : Nat)) {n : Nat} {Y : WV} {es : List EvV} (p : Ph ks Wn Hn A n Y es) : WRight ks Y ∧ Y.wide = (Wn : Nat) ∧ Y.high = (Hn : Nat) ∧ Y.turn = A.turn ∧ es.length ≤ 50000 * n := by
  induction p with
  | zero => exact ⟨h, e1, e2, rfl, by simp⟩
  | @one T es qs t =>
    obtain ⟨-, -, k3, -, k5, k6, k7, -⟩ := t.keep h
    refine ⟨wright_of (tr_right h t), by show T.wide = _; rw [k6, e1], by show T.high = _; rw [k7, e2], k5, ?_⟩
    have := h.ql
    omega
  | @two B es evs us p0 m ih =>
    obtain ⟨r, w1, w2, w3, w4⟩ := ih
    obtain ⟨Wm, Hm, f1, f2, G⟩ := r.good
    obtain rfl : Wm = Wn := by omega
    obtain rfl : Hm = Hn := by omega
    refine ⟨wright_of (minv_right r G w1 w2 (minv_moves G m (minv_start r G))), w1, w2, w3, ?_⟩
    have hm := moves_count (kinds_speed r.kinds) m
    have hu := r.ul
    rw [List.length_append]
    omega
  | @three C es p0 ih =>
    obtain ⟨r, w1, w2, w3, w4⟩ := ih
    obtain ⟨k0, k1, -, k3, k4, -⟩ := dug_keep (ks := ks) (Wn := Wn) (Hn := Hn) r
    refine ⟨wright_of k0, by rw [← w1]; exact k3, by rw [← w2]; exact k4, by rw [← w3]; exact k1, ?_⟩
    have a1 := tk_evs (ks := ks) (Y := C) C.us.length
    have a2 := br_evs (ks := ks) (Wn := Wn) (Hn := Hn) (Y := (tk ks C C.us.length).1) (tk ks C C.us.length).1.us.length
    have a3 : (tk ks C C.us.length).1.us.length = C.us.length := (tk_keep C.us.length).2.2.2.2.2.2.2.1
    have hu := r.ul
    rw [List.length_append]
    unfold dugEv
    rw [List.length_append]
    omega
  | @four D es p0 ih =>
    obtain ⟨r, w1, w2, w3, w4⟩ := ih
    refine ⟨wright_of (fought_right r), w1, w2, w3, ?_⟩
    have a1 := strikes_evlen (ks := ks) (W := Wn) (us := D.us) D.us (List.replicate D.us.length 0, [])
    have a2 : ((struck ks Wn D).filter fallenU).length ≤ D.us.length := by
      have h1 : (struck ks Wn D).length = D.us.length := by unfold struck; exact hurt_len strikes_len'
      have h2 := List.length_filter_le fallenU (struck ks Wn D)
      omega
    have hu := r.ul
    rw [List.length_append]
    unfold fevents strikes
    rw [List.length_append, List.length_map]
    simp at a1
    unfold strikes at *
    omega
theorem given_same {ks : List KV} {Y Z : WV} {o : OrV} (hg : given1 ks Y o = some Z) : Z.turn = Y.turn ∧ Z.wide = Y.wide ∧ Z.high = Y.high := by
  unfold given1 at hg
  split at hg
  · cases hg
  · split at hg
    · cases hg
    · split at hg
      · cases hg
      · split at hg
        · injection hg with hg
          subst hg
          split <;> exact ⟨rfl, rfl, rfl⟩
        · cases hg
theorem gv_same {ks : List KV} {Y : WV} {out : List OrV} : ∀ q, (gv ks Y out q).1.turn = Y.turn ∧ (gv ks Y out q).1.wide = Y.wide ∧ (gv ks Y out q).1.high = Y.high
  | 0 => ⟨rfl, rfl, rfl⟩
  | q + 1 => by
    have ih := gv_same (ks := ks) (Y := Y) (out := out) q
    cases hq : out[q]? with
    | none => rw [gv]; simp only [hq]; exact ih
    | some o =>
      cases hg : given1 ks (gv ks Y out q).1 o with
      | some Z =>
        rw [gv_yes hq hg]
        obtain ⟨a, b, c⟩ := given_same hg
        exact ⟨a.trans ih.1, b.trans ih.2.1, c.trans ih.2.2⟩
      | none => rw [gv_no hq hg]; exact ih
def stepFault (ks : List KV) (X : WV) (l : List OrV) : Int := if Wd.wfault ks X ≠ 0 then Wd.wfault ks X else if 1000000 ≤ X.turn then 4 else Od.faults l
/-- what comes of a turn. -/
def StepR (ks : List KV) (X : WV) (l : List OrV) (Y : WV) (es : List EvV) : Prop := ∃ (out : List OrV) (Wn Hn : Nat) (Z : WV), LastSays l out ∧ X.wide = (Wn : Nat) ∧ X.high = (Hn : Nat) ∧ Ph ks Wn Hn (gv ks X out out.length).1 4 Z es ∧ Y = { Z with turn := Z.turn + 1 }
end Go.Proofs.YteieikgkmfglaaaGreatDoor

namespace Go.Proofs.YteieikgkmfglaaaGreatDoor
open Go.RowKit
set_option linter.unusedVariables false

/-- the world in its box, its lists, what was told. -/
structure StS (Y : WV) (es : List EvV) (z b1 be : Nat) (w5 : World) (u1 u2 u3 u4 u5 ev : Value) (V : World) : Prop where
  x : Wx V z (.int .i64 Y.turn) (.int .i64 Y.next) (.int .i64 Y.wide) (.int .i64 Y.high) u1 u2 u3 u4 u5
  o1 : Ow V b1 u1 Y.gs
  o2 : Ow V b1 u2 Y.os
  o3 : Ow V b1 u3 Y.gold
  o4 : Uno V b1 u4 Y.us
  o5 : Jbo V b1 u5 Y.qs
  e : Evo V be ev es
  f : Fr (fun k => k = z) w5 V
  n : z < b1 ∧ b1 ≤ be ∧ w5.heap.size = be
section
variable {Y : WV} {es : List EvV} {z b1 be : Nat} {w5 : World} {u1 u2 u3 u4 u5 ev : Value} {V V' : World}
theorem StS.below (h : StS Y es z b1 be w5 u1 u2 u3 u4 u5 ev V) (hb : Below V.heap.size V V') : StS Y es z b1 be w5 u1 u2 u3 u4 u5 ev V' :=
  ⟨h.x.below hb h.x.lt, h.o1.below hb, h.o2.below hb, h.o3.below hb, h.o4.below hb, h.o5.below hb, h.e.below hb, h.f.trans (Fr.below hb), h.n⟩
theorem StS.wl (h : StS Y es z b1 be w5 u1 u2 u3 u4 u5 ev V) : Wl V (.agg #[.int .i64 Y.turn, .int .i64 Y.next, .int .i64 Y.wide, .int .i64 Y.high, u1, u2, u3, u4, u5]) Y :=
  ⟨u1, u2, u3, u4, u5, rfl, h.o1.ro, h.o2.ro, h.o3.ro, h.o4.l, h.o5.l⟩
/-- more that was told. -/
theorem StS.told (h : StS Y es z b1 be w5 u1 u2 u3 u4 u5 ev V) {fs : List EvV} {ev' : Value} (g : V.grownBy V' ev.ownBlock) (he : Evo V' be ev' (es ++ fs)) : StS Y (es ++ fs) z b1 be w5 u1 u2 u3 u4 u5 ev' V' := by
  have hn := h.n
  have hf : Fr (fun q => ev.ownBlock = some q) V V' := Fr.gb g (fun k hk => hk)
  have ne : ∀ k, ev.ownBlock = some k → be ≤ k := fun k hk => (h.e.block k hk).1
  refine ⟨hf.wx h.x (fun e => by have := ne z e; omega), hf.own h.o1 (own_two h.o1 h.e (by decide)), hf.own h.o2 (own_two h.o2 h.e (by decide)), hf.own h.o3 (own_two h.o3 h.e (by decide)), hf.own h.o4 (own_two h.o4 h.e (by decide)), hf.own h.o5 (own_two h.o5 h.e (by decide)), he, ?_, h.n⟩
  refine ⟨hf.os.trans h.f.os, hf.tape.trans h.f.tape, hf.output.trans h.f.output, Nat.le_trans h.f.size hf.size, fun q hq hm => (hf.block q (Nat.lt_of_lt_of_le hq h.f.size) (fun e => ?_)).trans (h.f.block q hq hm)⟩
  have := ne q e
  omega
/-- another world in the box. -/
theorem StS.puts (h : StS Y es z b1 be w5 u1 u2 u3 u4 u5 ev V) {Z : WV} {k1 k2 k3 k4 k5 : Value} (hk : Kp z V V') (hx : Wx V' z (.int .i64 Z.turn) (.int .i64 Z.next) (.int .i64 Z.wide) (.int .i64 Z.high) k1 k2 k3 k4 k5)
    (p1 : Ow V b1 k1 Z.gs) (p2 : Ow V b1 k2 Z.os) (p3 : Ow V b1 k3 Z.gold) (p4 : Uno V b1 k4 Z.us) (p5 : Jbo V b1 k5 Z.qs) : StS Z es z b1 be w5 k1 k2 k3 k4 k5 ev V' := by
  have hn := h.n
  have hf : Fr (fun q => q = z) V V' := Fr.kp hk rfl
  exact ⟨hx, hf.own p1 (fun k hk => by have := (p1.block k hk).1; omega), hf.own p2 (fun k hk => by have := (p2.block k hk).1; omega), hf.own p3 (fun k hk => by have := (p3.block k hk).1; omega), hf.own p4 (fun k hk => by have := (p4.block k hk).1; omega), hf.own p5 (fun k hk => by have := (p5.block k hk).1; omega), hf.own h.e (fun k hk => by have := (h.e.block k hk).1; omega), h.f.trans hf, h.n⟩
end
end Go.Proofs.YteieikgkmfglaaaGreatDoor

namespace Go.Proofs.YteieikgkmfglaaaGreatDoor
open Go.RowKit
set_option linter.unusedVariables false

set_option maxHeartbeats 2000000 in
theorem ask_fn (o : OrV) (u : UnV) (b : Nat) (w : World) (x0 : w.cell? ⟨b, 0, none⟩ = some (.int .i64 o.player)) (x1 : w.cell? ⟨b, 1, none⟩ = some (.int .i64 o.unit)) :
    Calls Tryz.prog 70 #[u.val, .pointer (some ⟨b, 0, none⟩)] w fun e w' => e = .returned (.bool (askU o u)) ∧ Below w.heap.size w w' := by
  have BB : Hid (∀ ob, Below w.heap.size w (w.alloc ob)) := fun ob => (Below.refl _ _).alloc (Nat.le_refl _) _
  have hb : b < w.heap.size := cell_lt x0
  have hne : b ≠ w.heap.size := by omega
  have y0 : ∀ ob, (w.alloc ob).cell? ⟨b, 0, none⟩ = some (.int .i64 o.player) := fun ob => by rw [(BB.out ob).cell (p := ⟨b, 0, none⟩) hb]; exact x0
  have y1 : ∀ ob, (w.alloc ob).cell? ⟨b, 1, none⟩ = some (.int .i64 o.unit) := fun ob => by rw [(BB.out ob).cell (p := ⟨b, 1, none⟩) hb]; exact x1
  unfold UnV.val
  by_cases h1 : u.id = o.unit
  · by_cases h2 : u.player = o.player
    · have E : Hid (askU o u = true) := decide_eq_true ⟨h1, h2⟩
      clear hne hb x0 x1
      go_enter Tryz.func70, Tryz.ntmps70
      go_wp2
      go_ret
      exact ⟨by rw [E.out]; rfl, BB.out _⟩
    · have E : Hid (askU o u = false) := decide_eq_false (fun h => h2 h.2)
      have h2b : (u.player == o.player) = false := beq_eq_false_iff_ne.2 h2
      clear hne hb x0 x1
      go_enter Tryz.func70, Tryz.ntmps70
      go_wp2
      go_ret
      exact ⟨by rw [E.out]; rfl, BB.out _⟩
  · have E : Hid (askU o u = false) := decide_eq_false (fun h => h1 h.1)
    have h1b : (u.id == o.unit) = false := beq_eq_false_iff_ne.2 h1
    clear hne hb x0 x1
    go_enter Tryz.func70, Tryz.ntmps70
    go_wp2
    go_ret
    exact ⟨by rw [E.out]; rfl, BB.out _⟩
set_option maxHeartbeats 2000000 in
theorem one_ints (a : Option Addr) (n c : Nat) (i : Nat) (w : World) (hn : n ≤ 9223372036854775807) : Calls Tryz.prog 107 #[.slice a n c, .int .i64 (i : Nat)] w fun e w' => e = .returned (.bool (decide (i < n))) ∧ w' = w := by
  by_cases h : i < n
  · have hi : ((i : Nat) : Int) < (n : Nat) := by omega
    have E : Hid (decide (i < n) = true) := decide_eq_true h
    have h0 : (0 : Int) ≤ ((i : Nat) : Int) := by omega
    go_enter Tryz.func107, Tryz.ntmps107
    go_wp2
    go_ret
    exact ⟨by first | (rw [E.out]; rfl) | rfl, rfl⟩
  · have hi : ¬ ((i : Nat) : Int) < (n : Nat) := by omega
    have E : Hid (decide (i < n) = false) := decide_eq_false h
    have h0 : (0 : Int) ≤ ((i : Nat) : Int) := by omega
    go_enter Tryz.func107, Tryz.ntmps107
    go_wp2
    go_ret
    exact ⟨by first | (rw [E.out]; rfl) | rfl, rfl⟩
set_option maxHeartbeats 2000000 in
theorem one_kinds (a : Option Addr) (n c : Nat) (i : Nat) (w : World) (hn : n ≤ 9223372036854775807) : Calls Tryz.prog 108 #[.slice a n c, .int .i64 (i : Nat)] w fun e w' => e = .returned (.bool (decide (i < n))) ∧ w' = w := by
  by_cases h : i < n
  · have hi : ((i : Nat) : Int) < (n : Nat) := by omega
    have E : Hid (decide (i < n) = true) := decide_eq_true h
    have h0 : (0 : Int) ≤ ((i : Nat) : Int) := by omega
    go_enter Tryz.func108, Tryz.ntmps108
    go_wp2
    go_ret
    exact ⟨by first | (rw [E.out]; rfl) | rfl, rfl⟩
  · have hi : ¬ ((i : Nat) : Int) < (n : Nat) := by omega
    have E : Hid (decide (i < n) = false) := decide_eq_false h
    have h0 : (0 : Int) ≤ ((i : Nat) : Int) := by omega
    go_enter Tryz.func108, Tryz.ntmps108
    go_wp2
    go_ret
    exact ⟨by first | (rw [E.out]; rfl) | rfl, rfl⟩
theorem ub_two {w : World} {g i : Nat} {us : List UnV} {rest : List Value} {u : UnV} (h : Ub w g us rest) (hu : us[i]? = some u) (o : OrV) : Ub ((w.setCell ⟨g, i * 8 + 6, none⟩ (.int .i64 o.what)).setCell ⟨g, i * 8 + 7, none⟩ (.int .i64 o.arg)) g (us.set i (sentU o u)) rest := by
  have hi : i < us.length := (List.getElem?_eq_some_iff.1 hu).1
  have h1 := h.set6 hu o.what
  have h2 := h1.set7 (i := i) (o := { u with task := o.what }) (by simp [hi]) o.arg
  simpa [sentU] using h2
set_option maxRecDepth 100000 in
set_option maxHeartbeats 4000000 in
theorem send_any (g i : Nat) (us : List UnV) (rest : List Value) (u : UnV) (o : OrV) (w : World) (h : Ub w g us rest) (hu : us[i]? = some u) (ho : o.what = 0 ∧ o.arg = 0 ∨ o.what = 1 ∨ o.what = 2) :
    Calls Tryz.prog 73 #[.pointer (some ⟨g, i * 8, none⟩), o.val] w fun e w' => e = .returned (.tuple #[]) ∧ Ub w' g (us.set i (sentU o u)) rest ∧ Kp g w w' := by
  have U0 : Hid (Ub w g us rest) := h
  have HU : Hid (us[i]? = some u) := hu
  have gl := h.lt
  clear h hu
  have W1 : Hid (Kp g w (w.alloc (Obj.cells #[.int .i64 o.player, .int .i64 o.unit, .int .i64 o.what, .int .i64 o.arg] 89))) := Kp.of ((Below.refl _ _).alloc (Nat.le_refl _) _)
  have U1 : Hid (Ub (w.alloc (Obj.cells #[.int .i64 o.player, .int .i64 o.unit, .int .i64 o.what, .int .i64 o.arg] 89)) g us rest) := U0.out.below ((Below.refl _ _).alloc (Nat.le_refl _) _) gl
  have X1 : Hid (Orc (w.alloc (Obj.cells #[.int .i64 o.player, .int .i64 o.unit, .int .i64 o.what, .int .i64 o.arg] 89)) ⟨w.heap.size, 0, none⟩ o) := Orc.mk' (w := w) o rfl
  unfold OrV.val
  go_enter Tryz.func73, Tryz.ntmps73
  go_upto_region 1 with fail
  obtain ⟨z, hz⟩ : ∃ z, w.heap.size = z := ⟨_, rfl⟩
  rw [hz] at X1 ⊢
  have zg : Hid (z ≠ g) := by unfold Hid; omega
  clear hz gl
  generalize w.alloc (Obj.cells #[.int .i64 o.player, .int .i64 o.unit, .int .i64 o.what, .int .i64 o.arg] 89) = w1 at *
  obtain ⟨x0, x1, x2, x3⟩ := X1.out
  simp only [Nat.zero_add] at x1 x2 x3
  have UC := U1.out.unc HU.out
  have c6 := UC.c6
  have c7 := UC.c7
  have t6 := U1.out.thaw (i * 8 + 6)
  have t7 := U1.out.thaw (i * 8 + 7)
  have FIN : Hid (Ub ((w1.setCell ⟨g, i * 8 + 6, none⟩ (.int .i64 o.what)).setCell ⟨g, i * 8 + 7, none⟩ (.int .i64 o.arg)) g (us.set i (sentU o u)) rest ∧ Kp g w ((w1.setCell ⟨g, i * 8 + 6, none⟩ (.int .i64 o.what)).setCell ⟨g, i * 8 + 7, none⟩ (.int .i64 o.arg))) := ⟨ub_two U1.out HU.out o, (W1.out.trans (Kp.set _ _ _)).trans (Kp.set _ _ _)⟩
  simp only at c6 c7
  have zg' : ¬ z = g := zg.out
  clear UC
  rcases ho with ⟨h0, ha⟩ | h0 | h0
  · rw [h0] at x2
    rw [ha] at x3
    rw [h0, ha] at FIN
    clear h0 ha
    go_wp2
    go_end0
    exact ⟨rfl, FIN.out.1, FIN.out.2⟩
  · rw [h0] at x2
    rw [h0] at FIN
    clear h0
    go_wp2_with fail
    go_region
    go_wp2
    go_end0
    exact ⟨rfl, FIN.out.1.below ((Below.refl _ _).drew) FIN.out.1.lt, FIN.out.2.trans (Kp.of (Below.refl _ _).drew)⟩
  · rw [h0] at x2
    rw [h0] at FIN
    clear h0
    go_wp2_with fail
    go_region
    go_wp2
    go_end0
    exact ⟨rfl, FIN.out.1.below ((Below.refl _ _).drew) FIN.out.1.lt, FIN.out.2.trans (Kp.of (Below.refl _ _).drew)⟩
end Go.Proofs.YteieikgkmfglaaaGreatDoor

namespace Go.Proofs.YteieikgkmfglaaaGreatDoor
open Go.RowKit
set_option linter.unusedVariables false

set_option maxRecDepth 100000 in
set_option maxHeartbeats 8000000 in
theorem maybe_any (vk vw : Value) (ks : List KV) (Y : WV) (k : KV) (o : OrV) (w : World) (hk : Kl w vk ks) (hw : Wl w vw Y) (F : GFit ks Y) (ob : ¬ Od.bad o) (hp : o.player.toNat < Y.gold.length) :
    Calls Tryz.prog 71 #[vk, vw, k.val, o.val] w fun e w' => e = .returned (.bool (mayB ks Y k o)) ∧ Below w.heap.size w w' := by
  have K : Hid (Kl w vk ks) := hk
  have H : Hid (Wl w vw Y) := hw
  have FF : Hid (GFit ks Y) := F
  have OK := Od.ok_of ob
  obtain ⟨p1, q1, p2, q2, p3, q3, p4, q4, p5, q5, rfl⟩ := wl_shape9 hw
  obtain ⟨pk, qk, rfl, ck1, ck2, kc⟩ := hk
  obtain ⟨an, han⟩ : ∃ an : Nat, o.arg = an := ⟨o.arg.toNat, by omega⟩
  obtain ⟨pn, hpn⟩ : ∃ pn : Nat, o.player = pn := ⟨o.player.toNat, by omega⟩
  have HAN : Hid (o.arg = (an : Nat) ∧ o.player = (pn : Nat)) := ⟨han, hpn⟩
  have hpl : pn < Y.gold.length := by rw [hpn] at hp; simpa using hp
  have MB : Hid (∀ b, mayB ks Y k o = b → Value.bool (mayB ks Y k o) = .bool b) := fun b h => by rw [h]
  have WH : o.what = 0 ∨ o.what = 1 ∨ o.what = 2 ∨ o.what = 3 := by omega
  have MD : Hid (mayB ks Y k o = if o.what = 1 then decide (o.arg < (Y.gs.length : Int) ∧ 0 < Fd.onto (Y.gs.getD o.arg.toNat 0) k.f) else if o.what = 2 then decide (o.arg < (Y.os.length : Int) ∧ 0 < Y.os.getD o.arg.toNat 0 ∧ 0 < k.n7) else if o.what = 3 then decide (k.t = true ∧ o.arg < (ks.length : Int) ∧ priceOf ks o.arg ≤ Y.gold.getD o.player.toNat 0 ∧ Y.qs.length < 12) else true) := rfl
  generalize mayB ks Y k o = ans at *
  clear MB hw F ob hp kc OK han hpn
  unfold KV.val OrV.val
  go_enter Tryz.func71, Tryz.ntmps71
  go_upto_region 1 with fail
  have BA : Hid (Below w.heap.size w (w.alloc (Obj.cells #[.int .i64 Y.turn, .int .i64 Y.next, .int .i64 Y.wide, .int .i64 Y.high, .slice p1 Y.gs.length q1, .slice p2 Y.os.length q2, .slice p3 Y.gold.length q3, .slice p4 Y.us.length q4, .slice p5 Y.qs.length q5] 29))) := (Below.refl _ _).alloc (Nat.le_refl _) _
  have BB : Hid (Below (w.alloc (Obj.cells #[.int .i64 Y.turn, .int .i64 Y.next, .int .i64 Y.wide, .int .i64 Y.high, .slice p1 Y.gs.length q1, .slice p2 Y.os.length q2, .slice p3 Y.gold.length q3, .slice p4 Y.us.length q4, .slice p5 Y.qs.length q5] 29)).heap.size (w.alloc (Obj.cells #[.int .i64 Y.turn, .int .i64 Y.next, .int .i64 Y.wide, .int .i64 Y.high, .slice p1 Y.gs.length q1, .slice p2 Y.os.length q2, .slice p3 Y.gold.length q3, .slice p4 Y.us.length q4, .slice p5 Y.qs.length q5] 29)) ((w.alloc (Obj.cells #[.int .i64 Y.turn, .int .i64 Y.next, .int .i64 Y.wide, .int .i64 Y.high, .slice p1 Y.gs.length q1, .slice p2 Y.os.length q2, .slice p3 Y.gold.length q3, .slice p4 Y.us.length q4, .slice p5 Y.qs.length q5] 29)).alloc (Obj.cells #[.string k.b, .int .i64 k.n0, .int .i64 k.n1, .int .i64 k.n2, .int .i64 k.n3, .int .i64 k.n4, .int .i64 k.n5, .int .i64 k.n6, .int .i64 k.n7, .bool k.f, .bool k.t] 68))) := (Below.refl _ _).alloc (Nat.le_refl _) _
  have BC : Hid (Below ((w.alloc (Obj.cells #[.int .i64 Y.turn, .int .i64 Y.next, .int .i64 Y.wide, .int .i64 Y.high, .slice p1 Y.gs.length q1, .slice p2 Y.os.length q2, .slice p3 Y.gold.length q3, .slice p4 Y.us.length q4, .slice p5 Y.qs.length q5] 29)).alloc (Obj.cells #[.string k.b, .int .i64 k.n0, .int .i64 k.n1, .int .i64 k.n2, .int .i64 k.n3, .int .i64 k.n4, .int .i64 k.n5, .int .i64 k.n6, .int .i64 k.n7, .bool k.f, .bool k.t] 68)).heap.size ((w.alloc (Obj.cells #[.int .i64 Y.turn, .int .i64 Y.next, .int .i64 Y.wide, .int .i64 Y.high, .slice p1 Y.gs.length q1, .slice p2 Y.os.length q2, .slice p3 Y.gold.length q3, .slice p4 Y.us.length q4, .slice p5 Y.qs.length q5] 29)).alloc (Obj.cells #[.string k.b, .int .i64 k.n0, .int .i64 k.n1, .int .i64 k.n2, .int .i64 k.n3, .int .i64 k.n4, .int .i64 k.n5, .int .i64 k.n6, .int .i64 k.n7, .bool k.f, .bool k.t] 68)) (((w.alloc (Obj.cells #[.int .i64 Y.turn, .int .i64 Y.next, .int .i64 Y.wide, .int .i64 Y.high, .slice p1 Y.gs.length q1, .slice p2 Y.os.length q2, .slice p3 Y.gold.length q3, .slice p4 Y.us.length q4, .slice p5 Y.qs.length q5] 29)).alloc (Obj.cells #[.string k.b, .int .i64 k.n0, .int .i64 k.n1, .int .i64 k.n2, .int .i64 k.n3, .int .i64 k.n4, .int .i64 k.n5, .int .i64 k.n6, .int .i64 k.n7, .bool k.f, .bool k.t] 68)).alloc (Obj.cells #[.int .i64 o.player, .int .i64 o.unit, .int .i64 o.what, .int .i64 o.arg] 89))) := (Below.refl _ _).alloc (Nat.le_refl _) _
  have X1 : Hid (Wx (((w.alloc (Obj.cells #[.int .i64 Y.turn, .int .i64 Y.next, .int .i64 Y.wide, .int .i64 Y.high, .slice p1 Y.gs.length q1, .slice p2 Y.os.length q2, .slice p3 Y.gold.length q3, .slice p4 Y.us.length q4, .slice p5 Y.qs.length q5] 29)).alloc (Obj.cells #[.string k.b, .int .i64 k.n0, .int .i64 k.n1, .int .i64 k.n2, .int .i64 k.n3, .int .i64 k.n4, .int .i64 k.n5, .int .i64 k.n6, .int .i64 k.n7, .bool k.f, .bool k.t] 68)).alloc (Obj.cells #[.int .i64 o.player, .int .i64 o.unit, .int .i64 o.what, .int .i64 o.arg] 89)) w.heap.size (.int .i64 Y.turn) (.int .i64 Y.next) (.int .i64 Y.wide) (.int .i64 Y.high) (.slice p1 Y.gs.length q1) (.slice p2 Y.os.length q2) (.slice p3 Y.gold.length q3) (.slice p4 Y.us.length q4) (.slice p5 Y.qs.length q5)) := ((Wx.new (w := w) _ _ _ _ _ _ _ _ _ rfl).below BB.out (by simp)).below BC.out (by simp; omega)
  have KC1 : Hid (Kc (((w.alloc (Obj.cells #[.int .i64 Y.turn, .int .i64 Y.next, .int .i64 Y.wide, .int .i64 Y.high, .slice p1 Y.gs.length q1, .slice p2 Y.os.length q2, .slice p3 Y.gold.length q3, .slice p4 Y.us.length q4, .slice p5 Y.qs.length q5] 29)).alloc (Obj.cells #[.string k.b, .int .i64 k.n0, .int .i64 k.n1, .int .i64 k.n2, .int .i64 k.n3, .int .i64 k.n4, .int .i64 k.n5, .int .i64 k.n6, .int .i64 k.n7, .bool k.f, .bool k.t] 68)).alloc (Obj.cells #[.int .i64 o.player, .int .i64 o.unit, .int .i64 o.what, .int .i64 o.arg] 89)) ⟨w.heap.size + 1, 0, none⟩ k) := (kind_new (w := w.alloc (Obj.cells #[.int .i64 Y.turn, .int .i64 Y.next, .int .i64 Y.wide, .int .i64 Y.high, .slice p1 Y.gs.length q1, .slice p2 Y.os.length q2, .slice p3 Y.gold.length q3, .slice p4 Y.us.length q4, .slice p5 Y.qs.length q5] 29)) k (by simp)).below BC.out (by simp)
  have OC1 : Hid (Orc (((w.alloc (Obj.cells #[.int .i64 Y.turn, .int .i64 Y.next, .int .i64 Y.wide, .int .i64 Y.high, .slice p1 Y.gs.length q1, .slice p2 Y.os.length q2, .slice p3 Y.gold.length q3, .slice p4 Y.us.length q4, .slice p5 Y.qs.length q5] 29)).alloc (Obj.cells #[.string k.b, .int .i64 k.n0, .int .i64 k.n1, .int .i64 k.n2, .int .i64 k.n3, .int .i64 k.n4, .int .i64 k.n5, .int .i64 k.n6, .int .i64 k.n7, .bool k.f, .bool k.t] 68)).alloc (Obj.cells #[.int .i64 o.player, .int .i64 o.unit, .int .i64 o.what, .int .i64 o.arg] 89)) ⟨w.heap.size + 1 + 1, 0, none⟩ o) := Orc.mk' (w := (w.alloc (Obj.cells #[.int .i64 Y.turn, .int .i64 Y.next, .int .i64 Y.wide, .int .i64 Y.high, .slice p1 Y.gs.length q1, .slice p2 Y.os.length q2, .slice p3 Y.gold.length q3, .slice p4 Y.us.length q4, .slice p5 Y.qs.length q5] 29)).alloc (Obj.cells #[.string k.b, .int .i64 k.n0, .int .i64 k.n1, .int .i64 k.n2, .int .i64 k.n3, .int .i64 k.n4, .int .i64 k.n5, .int .i64 k.n6, .int .i64 k.n7, .bool k.f, .bool k.t] 68)) o (by simp)
  have B1 : Hid (Below w.heap.size w (((w.alloc (Obj.cells #[.int .i64 Y.turn, .int .i64 Y.next, .int .i64 Y.wide, .int .i64 Y.high, .slice p1 Y.gs.length q1, .slice p2 Y.os.length q2, .slice p3 Y.gold.length q3, .slice p4 Y.us.length q4, .slice p5 Y.qs.length q5] 29)).alloc (Obj.cells #[.string k.b, .int .i64 k.n0, .int .i64 k.n1, .int .i64 k.n2, .int .i64 k.n3, .int .i64 k.n4, .int .i64 k.n5, .int .i64 k.n6, .int .i64 k.n7, .bool k.f, .bool k.t] 68)).alloc (Obj.cells #[.int .i64 o.player, .int .i64 o.unit, .int .i64 o.what, .int .i64 o.arg] 89))) := BA.out.trans ((BB.out.trans (BC.out.mono BB.out.size)).mono BA.out.size)
  clear BA BB BC
  generalize (((w.alloc (Obj.cells #[.int .i64 Y.turn, .int .i64 Y.next, .int .i64 Y.wide, .int .i64 Y.high, .slice p1 Y.gs.length q1, .slice p2 Y.os.length q2, .slice p3 Y.gold.length q3, .slice p4 Y.us.length q4, .slice p5 Y.qs.length q5] 29)).alloc (Obj.cells #[.string k.b, .int .i64 k.n0, .int .i64 k.n1, .int .i64 k.n2, .int .i64 k.n3, .int .i64 k.n4, .int .i64 k.n5, .int .i64 k.n6, .int .i64 k.n7, .bool k.f, .bool k.t] 68)).alloc (Obj.cells #[.int .i64 o.player, .int .i64 o.unit, .int .i64 o.what, .int .i64 o.arg] 89)) = w1 at *
  have H1 : Hid (Wl w1 (.agg #[.int .i64 Y.turn, .int .i64 Y.next, .int .i64 Y.wide, .int .i64 Y.high, .slice p1 Y.gs.length q1, .slice p2 Y.os.length q2, .slice p3 Y.gold.length q3, .slice p4 Y.us.length q4, .slice p5 Y.qs.length q5]) Y) := H.out.below B1.out
  obtain ⟨x0, x1, x2, x3, x4, x5, x6, x7, x8⟩ := X1.out.cells
  obtain ⟨k0, k1, k2, k3, k4, k5, k6, k7, k8, k9, k10⟩ := KC1.out
  obtain ⟨o0, o1, o2, o3⟩ := OC1.out
  simp only [Nat.zero_add] at k1 k2 k3 k4 k5 k6 k7 k8 k9 k10 o1 o2 o3
  rw [HAN.out.1] at o3
  rw [HAN.out.2] at o0
  clear X1 KC1 OC1
  rcases WH with h | h | h | h
  · have E : Hid (ans = true) := by have h9 := MD.out; unfold Hid; rw [h9, h, if_neg (by decide), if_neg (by decide), if_neg (by decide)]
    rw [h] at o2
    clear MD h
    go_wp2
    go_ret
    exact ⟨by rw [E.out]; rfl, B1.out⟩
  · have E : Hid (ans = decide ((an : Int) < (Y.gs.length : Int) ∧ 0 < Fd.onto (Y.gs.getD an 0) k.f)) := by have h9 := MD.out; unfold Hid; rw [h9, h, if_pos rfl, HAN.out.1]; simp only [Int.toNat_natCast]
    rw [h] at o2
    obtain ⟨Wn, Hn, e1, e2, G⟩ := FF.out.good
    have GG : Hid (Fd.Good Wn Hn Y.gs Y.os) := G
    have FL := fl_of H1.out
    rw [e1, e2] at FL
    have FL' : Hid (Fl w1 (.agg #[.int .i64 (Wn : Nat), .int .i64 (Hn : Nat), .slice p1 Y.gs.length q1, .slice p2 Y.os.length q2]) Wn Hn Y.gs Y.os) := FL
    have gl := G.gl
    rw [e1] at x2
    rw [e2] at x3
    by_cases ha : an < Y.gs.length
    · obtain ⟨g, hg⟩ : ∃ g, Y.gs[an]? = some g := ⟨_, List.getElem?_eq_getElem ha⟩
      have ST : Hid (Calls Tryz.prog 106 #[.agg #[.int .i64 (Wn : Nat), .int .i64 (Hn : Nat), .slice p1 Y.gs.length q1, .slice p2 Y.os.length q2], .int .i64 (an : Nat), .bool k.f] w1 fun e w' => e = .returned (.tuple #[.int .i64 (Fd.onto g k.f), .nilIface]) ∧ Below w1.heap.size w1 w') := Step_ok _ Wn Hn Y.gs Y.os an g k.f w1 FL'.out GG.out (by omega) hg
      have E2 : Hid (ans = decide (0 < Fd.onto g k.f)) := by
        unfold Hid
        rw [E.out]
        congr 1
        rw [List.getD_eq_getElem?_getD, hg]
        exact propext ⟨fun h => h.2, fun h => ⟨by omega, h⟩⟩
      clear MD E h e1 e2 G FL FL' gl hg H1
      generalize Fd.onto g k.f = st at *
      go_wp2_with fail
      refine ST.out.mono ?_
      rintro e w2 ⟨rfl, b2⟩
      have B2 : Hid (Below w.heap.size w w2) := B1.out.trans (b2.mono B1.out.size)
      clear b2 ST x0 x1 x2 x3 x4 x5 x6 x7 x8 k0 k1 k2 k3 k4 k5 k6 k7 k8 k9 k10 o0 o1 o2 o3
      go_wp2
      go_ret
      exact ⟨by rw [E2.out]; rfl, B2.out⟩
    · have hF : Fd.askFault (Fd.fault (Wn : Nat) (Hn : Nat) Y.gs Y.os) Y.gs.length [((an : Nat) : Int)] ≠ 0 := fun h0 => by
        have := (ask1_zero h0).2.2
        omega
      obtain ⟨ff, hff⟩ : ∃ f, Fd.askFault (Fd.fault (Wn : Nat) (Hn : Nat) Y.gs Y.os) Y.gs.length [((an : Nat) : Int)] = f := ⟨_, rfl⟩
      have ST : Hid (Calls Tryz.prog 106 #[.agg #[.int .i64 (Wn : Nat), .int .i64 (Hn : Nat), .slice p1 Y.gs.length q1, .slice p2 Y.os.length q2], .int .i64 (an : Nat), .bool k.f] w1 fun e w' => e = .returned (.tuple #[.int .i64 0, .iface 77 (.int .i64 ff)]) ∧ Below w1.heap.size w1 w') := Step_bad _ _ _ _ _ _ ff k.f w1 FL'.out hff (by rw [← hff]; exact hF)
      have E2 : Hid (ans = false) := by
        unfold Hid
        rw [E.out]
        exact decide_eq_false (fun h => ha (by omega))
      clear MD E h e1 e2 G FL FL' gl H1 hF hff
      go_wp2_with fail
      refine ST.out.mono ?_
      rintro e w2 ⟨rfl, b2⟩
      have B2 : Hid (Below w.heap.size w w2) := B1.out.trans (b2.mono B1.out.size)
      clear b2 ST x0 x1 x2 x3 x4 x5 x6 x7 x8 k0 k1 k2 k3 k4 k5 k6 k7 k8 k9 k10 o0 o1 o2 o3
      go_wp2
      go_ret
      exact ⟨by rw [E2.out]; rfl, B2.out⟩
  · have E : Hid (ans = decide ((an : Int) < (Y.os.length : Int) ∧ 0 < Y.os.getD an 0 ∧ 0 < k.n7)) := by have h9 := MD.out; unfold Hid; rw [h9, h, if_neg (by decide), if_pos rfl, HAN.out.1]; simp only [Int.toNat_natCast]
    rw [h] at o2
    have RO := H1.out.slices.2.1
    obtain ⟨a2, c2, e2, r1, r2, r3⟩ := RO
    injection e2 with e21 e22 e23
    subst e21 e23
    have OI := one_ints p2 Y.os.length q2 an
    by_cases ha : an < Y.os.length
    · obtain ⟨g, hg⟩ : ∃ g, Y.os[an]? = some g := ⟨_, List.getElem?_eq_getElem ha⟩
      obtain ⟨xo, rfl, -, hxo⟩ := r3 (by rintro hn; rw [hn] at ha; simp at ha)
      have co := hxo an g hg
      have OC : Hid (Calls Tryz.prog 107 #[.slice (some xo) Y.os.length q2, .int .i64 (an : Nat)] w1 fun e w' => e = .returned (.bool true) ∧ w' = w1) := by have := OI w1 (by omega); rw [decide_eq_true ha] at this; exact this
      have E2 : Hid (ans = decide (0 < g ∧ 0 < k.n7)) := by
        unfold Hid
        rw [E.out]
        congr 1
        rw [List.getD_eq_getElem?_getD, hg]
        exact propext ⟨fun h => h.2, fun h => ⟨by omega, h⟩⟩
      have hai : ((an : Nat) : Int) < (Y.os.length : Nat) := by omega
      clear MD E h H1 OI hg hxo r3 e22
      by_cases h1 : 0 < g
      · by_cases h2 : 0 < k.n7
        · have E3 : Hid (ans = true) := by unfold Hid; rw [E2.out]; exact decide_eq_true ⟨h1, h2⟩
          go_wp2_with fail
          refine OC.out.mono ?_
          rintro e w' ⟨rfl, rfl⟩
          go_wp2
          go_ret
          exact ⟨by rw [E3.out]; rfl, B1.out⟩
        · have E3 : Hid (ans = false) := by unfold Hid; rw [E2.out]; exact decide_eq_false (fun h => h2 h.2)
          have H2 : Hid (decide (0 < k.n7) = false) := decide_eq_false h2
          go_wp2_with fail
          refine OC.out.mono ?_
          rintro e w' ⟨rfl, rfl⟩
          go_wp2
          go_ret
          exact ⟨by rw [E3.out]; first | rfl | (show Ending.returned (Value.bool (decide (0 < k.n7))) = _; rw [H2.out]), B1.out⟩
      · have E3 : Hid (ans = false) := by unfold Hid; rw [E2.out]; exact decide_eq_false (fun h => h1 h.1)
        have h1d : decide (0 < g) = false := decide_eq_false h1
        go_wp2_with fail
        refine OC.out.mono ?_
        rintro e w' ⟨rfl, rfl⟩
        go_wp2
        go_ret
        exact ⟨by rw [E3.out]; rfl, B1.out⟩
    · have OC : Hid (Calls Tryz.prog 107 #[.slice p2 Y.os.length q2, .int .i64 (an : Nat)] w1 fun e w' => e = .returned (.bool false) ∧ w' = w1) := by have := OI w1 (by omega); rw [decide_eq_false ha] at this; exact this
      have E3 : Hid (ans = false) := by unfold Hid; rw [E.out]; exact decide_eq_false (fun h => ha (by omega))
      clear MD E h H1 OI r3 e22
      go_wp2_with fail
      refine OC.out.mono ?_
      rintro e w' ⟨rfl, rfl⟩
      go_wp2
      go_ret
      exact ⟨by rw [E3.out]; rfl, B1.out⟩
  · have E : Hid (ans = decide (k.t = true ∧ (an : Int) < (ks.length : Int) ∧ priceOf ks an ≤ Y.gold.getD pn 0 ∧ Y.qs.length < 12)) := by have h9 := MD.out; unfold Hid; rw [h9, h, if_neg (by decide), if_neg (by decide), if_pos rfl, HAN.out.1, HAN.out.2]; simp only [Int.toNat_natCast]
    rw [h] at o2
    have kl := FF.out.kinds.1
    have OI := one_kinds pk ks.length qk an
    have BD : Hid (∀ n, Below w.heap.size w (w1.drewN n)) := fun n => ⟨B1.out.os, B1.out.tape, B1.out.output, B1.out.size, B1.out.block⟩
    cases hkt : k.t with
    | false =>
      have E3 : Hid (ans = false) := by unfold Hid; rw [E.out]; exact decide_eq_false (fun h => by rw [hkt] at h; simp at h)
      rw [hkt] at k10
      clear MD E h H1 OI hkt
      go_upto_region 8 with fail
      go_quiet (fail)
      go_wp2
      go_ret
      exact ⟨by rw [E3.out]; rfl, BD.out _⟩
    | true =>
      rw [hkt] at k10
      by_cases ha : an < ks.length
      · obtain ⟨kk, hkk⟩ : ∃ kk, ks[an]? = some kk := ⟨_, List.getElem?_eq_getElem ha⟩
        obtain ⟨g, hg⟩ : ∃ g, Y.gold[pn]? = some g := ⟨_, List.getElem?_eq_getElem hpl⟩
        have OC : Hid (∀ W, Calls Tryz.prog 108 #[.slice pk ks.length qk, .int .i64 (an : Nat)] W fun e w' => e = .returned (.bool true) ∧ w' = W) := fun W => by have := OI W (by omega); rw [decide_eq_true ha] at this; exact this
        have K1 := K.out.below B1.out
        obtain ⟨a', c', e', -, -, hx⟩ := K1
        injection e' with e1' e2' e3'
        subst e1' e3'
        obtain ⟨xk, rfl, -, hxk⟩ := hx (by rintro hn; rw [hn] at ha; simp at ha)
        have c6 := (hxk an kk hkk).c6
        obtain ⟨a3, c3, e3, r1, r2, r3⟩ := H1.out.slices.2.2.1
        injection e3 with e31 e32 e33
        subst e31 e33
        obtain ⟨xg, rfl, -, hxg⟩ := r3 (by rintro hn; rw [hn] at hpl; simp at hpl)
        have cg := hxg pn g hg
        have hai : ((an : Nat) : Int) < (ks.length : Nat) := by omega
        have hpi : ((pn : Nat) : Int) < (Y.gold.length : Nat) := by omega
        have E2 : Hid (ans = decide (kk.n5 ≤ g ∧ Y.qs.length < 12)) := by
          unfold Hid
          rw [E.out]
          congr 1
          rw [List.getD_eq_getElem?_getD, hg]
          have e9 : priceOf ks an = kk.n5 := by unfold priceOf; rw [Int.toNat_natCast, hkk]
          rw [e9]
          exact propext ⟨fun h => h.2.2, fun h => ⟨hkt, by omega, h.1, h.2⟩⟩
        clear MD E h H1 OI hkt hkk hg hxk hxg hx r3 e2' e32
        by_cases h1 : kk.n5 ≤ g
        · have h1d : decide (kk.n5 ≤ g) = true := decide_eq_true h1
          by_cases h2 : Y.qs.length < 12
          · have E3 : Hid (ans = true) := by unfold Hid; rw [E2.out]; exact decide_eq_true ⟨h1, h2⟩
            have h2i : ((Y.qs.length : Nat) : Int) < 12 := by omega
            go_upto_region 8 with fail
            go_quiet ((go_at_call 108; exact Calls.quiet_of_same (OC.out _)))
            go_wp2
            go_ret
            exact ⟨by rw [E3.out]; rfl, BD.out _⟩
          · have E3 : Hid (ans = false) := by unfold Hid; rw [E2.out]; exact decide_eq_false (fun h => h2 h.2)
            have h2i : ¬ ((Y.qs.length : Nat) : Int) < 12 := by omega
            have h2d : decide (((Y.qs.length : Nat) : Int) < 12) = false := decide_eq_false h2i
            go_upto_region 8 with fail
            go_quiet ((go_at_call 108; exact Calls.quiet_of_same (OC.out _)))
            go_wp2
            go_ret
            exact ⟨by rw [E3.out]; rfl, BD.out _⟩
        · have h1d : decide (kk.n5 ≤ g) = false := decide_eq_false h1
          have E3 : Hid (ans = false) := by unfold Hid; rw [E2.out]; exact decide_eq_false (fun h => h1 h.1)
          go_upto_region 8 with fail
          go_quiet ((go_at_call 108; exact Calls.quiet_of_same (OC.out _)))
          go_wp2
          go_ret
          exact ⟨by rw [E3.out]; rfl, BD.out _⟩
      · have OC : Hid (∀ W, Calls Tryz.prog 108 #[.slice pk ks.length qk, .int .i64 (an : Nat)] W fun e w' => e = .returned (.bool false) ∧ w' = W) := fun W => by have := OI W (by omega); rw [decide_eq_false ha] at this; exact this
        have E3 : Hid (ans = false) := by unfold Hid; rw [E.out]; exact decide_eq_false (fun h => ha (by omega))
        clear MD E h H1 OI hkt
        go_upto_region 8 with fail
        go_quiet ((go_at_call 108; exact Calls.quiet_of_same (OC.out _)))
        go_wp2
        go_ret
        exact ⟨by rw [E3.out]; rfl, BD.out _⟩
end Go.Proofs.YteieikgkmfglaaaGreatDoor

namespace Go.Proofs.YteieikgkmfglaaaGreatDoor
open Go.RowKit
set_option linter.unusedVariables false

set_option maxRecDepth 100000 in
set_option maxHeartbeats 8000000 in
theorem hire_any (z gg n cg b1 : Nat) (c0 c1 c2 c3 c4 c5 c7 : Value) (gold : List Int) (rest : Array Value) (a8 : Option Addr) (h8 : Nat) (qs : List JbV) (k : KV) (o : OrV) (pn : Nat) (g : Int) (w : World)
    (X : Wx w z c0 c1 c2 c3 c4 c5 (.slice (some ⟨gg, 0, none⟩) n cg) c7 (.slice a8 qs.length h8)) (B : Bk w gg gold rest) (J : Jbo w b1 (.slice a8 qs.length h8) qs) (hp : o.player = (pn : Nat)) (hpn : pn < n) (hg : gold[pn]? = some g) (g0 : 0 ≤ g ∧ g ≤ 1000000) (k5 : 0 ≤ k.n5 ∧ k.n5 ≤ 1000) (k6 : 0 ≤ k.n6 ∧ k.n6 ≤ 1000) (hq : qs.length ≤ 12)
    (hz : z < b1) (hgb : b1 ≤ gg) (hb : b1 ≤ w.heap.size) (hd : (Value.slice a8 qs.length h8).ownBlock ≠ some gg) :
    Calls Tryz.prog 72 #[.pointer (some ⟨z, 0, none⟩), k.val, o.val] w fun e w' => e = .returned (.tuple #[]) ∧ ∃ a8' h8', Wx w' z c0 c1 c2 c3 c4 c5 (.slice (some ⟨gg, 0, none⟩) n cg) c7 (.slice a8' (qs.length + 1) h8') ∧ Bk w' gg (gold.set pn (g - k.n5)) rest ∧ Jbo w' b1 (.slice a8' (qs.length + 1) h8') (qs ++ [⟨o.player, o.unit, o.arg, max k.n6 1⟩]) ∧ Fr (fun q => q = z ∨ q = gg ∨ (Value.slice a8 qs.length h8).ownBlock = some q) w w' ∧ ((Value.slice a8' (qs.length + 1) h8').ownBlock = (Value.slice a8 qs.length h8).ownBlock ∨ ∃ q, (Value.slice a8' (qs.length + 1) h8').ownBlock = some q ∧ w.heap.size ≤ q) := by
  have X0 : Hid (Wx w z c0 c1 c2 c3 c4 c5 (.slice (some ⟨gg, 0, none⟩) n cg) c7 (.slice a8 qs.length h8)) := X
  have B0 : Hid (Bk w gg gold rest) := B
  have J0 : Hid (Jbo w b1 (.slice a8 qs.length h8) qs) := J
  have NN : Hid (o.player = (pn : Nat) ∧ gold[pn]? = some g ∧ z < b1 ∧ b1 ≤ gg ∧ b1 ≤ w.heap.size ∧ (Value.slice a8 qs.length h8).ownBlock ≠ some gg ∧ pn < n) := ⟨hp, hg, hz, hgb, hb, hd, hpn⟩
  have ggl := B.lt
  have JL : Hid (∀ q, (Value.slice a8 qs.length h8).ownBlock = some q → q < w.heap.size) := fun q hq => (J.block q hq).2
  have zl := X.lt
  have TT : ∃ tt, max k.n6 1 = tt ∧ 1 ≤ tt ∧ tt ≤ 1000 := ⟨_, rfl, by omega, by omega⟩
  obtain ⟨tt, htt, tt1, tt2⟩ := TT
  have HT : Hid (max k.n6 1 = tt) := htt
  have zg : ¬ z = gg := by omega
  have zs : ¬ z = w.heap.size := by omega
  have zs1 : ¬ z = w.heap.size + 1 := by omega
  have gs' : ¬ gg = w.heap.size := by omega
  have gs1 : ¬ gg = w.heap.size + 1 := by omega
  have pni : ((pn : Nat) : Int) < (n : Nat) := by omega
  rw [htt]
  clear X B J hp hg hd htt hz hgb hb
  unfold KV.val OrV.val
  go_enter Tryz.func72, Tryz.ntmps72
  go_upto_region 1 with fail
  have BA : Hid (Below w.heap.size w (w.alloc (Obj.cells #[.string k.b, .int .i64 k.n0, .int .i64 k.n1, .int .i64 k.n2, .int .i64 k.n3, .int .i64 k.n4, .int .i64 k.n5, .int .i64 k.n6, .int .i64 k.n7, .bool k.f, .bool k.t] 68))) := (Below.refl _ _).alloc (Nat.le_refl _) _
  have BB : Hid (Below (w.alloc (Obj.cells #[.string k.b, .int .i64 k.n0, .int .i64 k.n1, .int .i64 k.n2, .int .i64 k.n3, .int .i64 k.n4, .int .i64 k.n5, .int .i64 k.n6, .int .i64 k.n7, .bool k.f, .bool k.t] 68)).heap.size (w.alloc (Obj.cells #[.string k.b, .int .i64 k.n0, .int .i64 k.n1, .int .i64 k.n2, .int .i64 k.n3, .int .i64 k.n4, .int .i64 k.n5, .int .i64 k.n6, .int .i64 k.n7, .bool k.f, .bool k.t] 68)) ((w.alloc (Obj.cells #[.string k.b, .int .i64 k.n0, .int .i64 k.n1, .int .i64 k.n2, .int .i64 k.n3, .int .i64 k.n4, .int .i64 k.n5, .int .i64 k.n6, .int .i64 k.n7, .bool k.f, .bool k.t] 68)).alloc (Obj.cells #[.int .i64 o.player, .int .i64 o.unit, .int .i64 o.what, .int .i64 o.arg] 89))) := (Below.refl _ _).alloc (Nat.le_refl _) _
  have B1 : Hid (Below w.heap.size w ((w.alloc (Obj.cells #[.string k.b, .int .i64 k.n0, .int .i64 k.n1, .int .i64 k.n2, .int .i64 k.n3, .int .i64 k.n4, .int .i64 k.n5, .int .i64 k.n6, .int .i64 k.n7, .bool k.f, .bool k.t] 68)).alloc (Obj.cells #[.int .i64 o.player, .int .i64 o.unit, .int .i64 o.what, .int .i64 o.arg] 89))) := BA.out.trans (BB.out.mono BA.out.size)
  have KC1 : Hid (Kc ((w.alloc (Obj.cells #[.string k.b, .int .i64 k.n0, .int .i64 k.n1, .int .i64 k.n2, .int .i64 k.n3, .int .i64 k.n4, .int .i64 k.n5, .int .i64 k.n6, .int .i64 k.n7, .bool k.f, .bool k.t] 68)).alloc (Obj.cells #[.int .i64 o.player, .int .i64 o.unit, .int .i64 o.what, .int .i64 o.arg] 89)) ⟨w.heap.size, 0, none⟩ k) := (kind_new (w := w) k rfl).below BB.out (by simp)
  have OC1 : Hid (Orc ((w.alloc (Obj.cells #[.string k.b, .int .i64 k.n0, .int .i64 k.n1, .int .i64 k.n2, .int .i64 k.n3, .int .i64 k.n4, .int .i64 k.n5, .int .i64 k.n6, .int .i64 k.n7, .bool k.f, .bool k.t] 68)).alloc (Obj.cells #[.int .i64 o.player, .int .i64 o.unit, .int .i64 o.what, .int .i64 o.arg] 89)) ⟨w.heap.size + 1, 0, none⟩ o) := Orc.mk' (w := w.alloc (Obj.cells #[.string k.b, .int .i64 k.n0, .int .i64 k.n1, .int .i64 k.n2, .int .i64 k.n3, .int .i64 k.n4, .int .i64 k.n5, .int .i64 k.n6, .int .i64 k.n7, .bool k.f, .bool k.t] 68)) o (by simp)
  clear BA BB
  obtain ⟨y, hy⟩ : ∃ y, w.heap.size = y := ⟨_, rfl⟩
  have HY : Hid (w.heap.size = y) := hy
  rw [hy] at KC1 OC1 zs zs1 gs' gs1 ⊢
  clear hy
  generalize ((w.alloc (Obj.cells #[.string k.b, .int .i64 k.n0, .int .i64 k.n1, .int .i64 k.n2, .int .i64 k.n3, .int .i64 k.n4, .int .i64 k.n5, .int .i64 k.n6, .int .i64 k.n7, .bool k.f, .bool k.t] 68)).alloc (Obj.cells #[.int .i64 o.player, .int .i64 o.unit, .int .i64 o.what, .int .i64 o.arg] 89)) = w1 at *
  have X1 : Hid (Wx w1 z c0 c1 c2 c3 c4 c5 (.slice (some ⟨gg, 0, none⟩) n cg) c7 (.slice a8 qs.length h8)) := X0.out.below B1.out zl
  have G1 : Hid (Bk w1 gg gold rest) := B0.out.below B1.out
  have J1 : Hid (Jbo w1 b1 (.slice a8 qs.length h8) qs) := J0.out.below B1.out
  obtain ⟨x0, x1, x2, x3, x4, x5, x6, x7, x8⟩ := X1.out.cells
  obtain ⟨k0, k1, k2, k3, k4, k5', k6', k7', k8, k9, k10⟩ := KC1.out
  obtain ⟨o0, o1, o2, o3⟩ := OC1.out
  simp only [Nat.zero_add] at k1 k2 k3 k4 k5' k6' k7' k8 k9 k10 o1 o2 o3
  rw [NN.out.1] at o0
  have cg' := G1.out.cell NN.out.2.1
  have tg := G1.out.thaw pn
  have wr : IntKind.i64.wrap (g - k.n5) = g - k.n5 := by rw [IntKind.wrap_i64]; omega
  clear X0 B0 J0
  go_region
  have KZ : Hid (Kp gg w1 (w1.setCell ⟨gg, pn, none⟩ (.int .i64 (g - k.n5))).drew) := (Kp.set _ _ _).trans (Kp.of (Below.refl _ _).drew)
  have G2 : Hid (Bk (w1.setCell ⟨gg, pn, none⟩ (.int .i64 (g - k.n5))).drew gg (gold.set pn (g - k.n5)) rest) := G1.out.set pn _ (List.getElem?_eq_some_iff.1 NN.out.2.1).1
  clear x0 x1 x2 x3 x4 x5 x6 x7 x8 k0 k1 k2 k3 k4 k5' k6' k7' k8 k9 k10 o0 o1 o2 o3 cg' tg wr
  generalize (w1.setCell ⟨gg, pn, none⟩ (.int .i64 (g - k.n5))).drew = w2 at *
  have F2 : Hid (Fr (fun q => q = gg) w1 w2) := Fr.kp KZ.out rfl
  have X2 : Hid (Wx w2 z c0 c1 c2 c3 c4 c5 (.slice (some ⟨gg, 0, none⟩) n cg) c7 (.slice a8 qs.length h8)) := F2.out.wx X1.out zg
  have J2 : Hid (Jbo w2 b1 (.slice a8 qs.length h8) qs) := F2.out.own J1.out (fun q hq e => NN.out.2.2.2.2.2.1 (by rw [hq, e]))
  have KC2 : Hid (Kc w2 ⟨y, 0, none⟩ k) := KC1.out.kp9 KZ.out (fun e => gs' e.symm)
  have OC2 : Hid (w2.cell? ⟨y + 1, 0, none⟩ = some (.int .i64 (pn : Nat)) ∧ w2.cell? ⟨y + 1, 1, none⟩ = some (.int .i64 o.unit) ∧ w2.cell? ⟨y + 1, 3, none⟩ = some (.int .i64 o.arg)) := by
    obtain ⟨q0, q1, q2, q3⟩ := OC1.out
    simp only [Nat.zero_add] at q1 q2 q3
    rw [NN.out.1] at q0
    exact ⟨F2.out.cell q0 (fun e => gs1 e.symm), F2.out.cell q1 (fun e => gs1 e.symm), F2.out.cell q3 (fun e => gs1 e.symm)⟩
  have QB : Hid (∀ q, (Value.slice a8 qs.length h8).ownBlock = some q → b1 ≤ q ∧ q < y) := fun q hq => by
    refine ⟨(J2.out.block q hq).1, ?_⟩
    rw [← HY.out]
    exact JL.out q hq
  have CB : Hid (∀ V, Fr (fun q => (Value.slice a8 qs.length h8).ownBlock = some q) w2 V → (V.cell? ⟨z, 8, none⟩ = some (.slice a8 qs.length h8) ∧ V.cell? ⟨y + 1, 0, none⟩ = some (.int .i64 (pn : Nat)) ∧ V.cell? ⟨y + 1, 1, none⟩ = some (.int .i64 o.unit) ∧ V.cell? ⟨y + 1, 3, none⟩ = some (.int .i64 o.arg) ∧ V.cell? ⟨y, 7, none⟩ = some (.int .i64 k.n6))) := fun V hV => by
    have hy1 : ¬ (Value.slice a8 qs.length h8).ownBlock = some (y + 1) := fun e => by have := (QB.out _ e).2; omega
    have hy0 : ¬ (Value.slice a8 qs.length h8).ownBlock = some y := fun e => by have := (QB.out _ e).2; omega
    have hzq : ¬ (Value.slice a8 qs.length h8).ownBlock = some z := fun e => by have := (QB.out _ e).1; have := NN.out.2.2.1; omega
    obtain ⟨-, -, -, -, -, -, -, -, x8⟩ := X2.out.cells
    have c7 := KC2.out.c7
    simp only [Nat.zero_add] at c7
    exact ⟨hV.cell x8 hzq, hV.cell OC2.out.1 hy1, hV.cell OC2.out.2.1 hy1, hV.cell OC2.out.2.2 hy1, hV.cell c7 hy0⟩
  go_upto_region 2 with fail
  refine wp_region_two [(true, 0), (true, 1), (true, 2), (true, 3), (true, 4), (true, 5), (true, 6), (true, 7), (true, 8), (true, 9), (true, 10), (true, 11), (true, 12), (true, 13), (true, 14), (false, 15), (false, 16), (true, 17), (true, 18)] [(false, 19)] (fun V => V.cell? ⟨z, 8, none⟩ = some (.slice a8 qs.length h8) ∧ V.cell? ⟨y + 1, 0, none⟩ = some (.int .i64 (pn : Nat)) ∧ V.cell? ⟨y + 1, 1, none⟩ = some (.int .i64 o.unit) ∧ V.cell? ⟨y + 1, 3, none⟩ = some (.int .i64 o.arg) ∧ V.cell? ⟨y, 7, none⟩ = some (.int .i64 k.n6)) (by kernel_rfl) (by kernel_rfl) (by kernel_rfl) (by decide +kernel) (by decide +kernel) (CB.out _ (Fr.below (Below.refl _ _).drew)) ?_
  have D3 : Hid (Below w2.heap.size w2 { w2 with drawn := w2.drawn + 1 }) := (Below.refl _ _).drew
  generalize ({ w2 with drawn := w2.drawn + 1 } : World) = w3 at *
  refine headT_read rfl (.pointer (some ⟨z, 0, none⟩)) (by go_simp) (fun V hV => by go_simp) ?_
  go_simp
  refine headT_read rfl (.pointer (some ⟨z, 0, none⟩)) (by go_simp) (fun V hV => by go_simp) ?_
  go_simp
  refine headT_read rfl (.pointer (some ⟨z, 0, none⟩)) (by go_simp) (fun V hV => by go_simp) ?_
  go_simp
  refine headT_read rfl (.pointer (some ⟨z, 8, none⟩)) (by go_simp) (fun V hV => by go_simp) ?_
  go_simp
  refine headT_read rfl (.slice a8 qs.length h8) (by go_simp) (fun V hV => by obtain ⟨d1, d2, d3, d4, d5⟩ := hV; go_simp) ?_
  go_simp
  refine headT_read rfl (.pointer (some ⟨y + 1, 0, none⟩)) (by go_simp) (fun V hV => by go_simp) ?_
  go_simp
  refine headT_read rfl (.int .i64 (pn : Nat)) (by go_simp) (fun V hV => by obtain ⟨d1, d2, d3, d4, d5⟩ := hV; go_simp) ?_
  go_simp
  refine headT_read rfl (.pointer (some ⟨y + 1, 1, none⟩)) (by go_simp) (fun V hV => by go_simp) ?_
  go_simp
  refine headT_read rfl (.int .i64 o.unit) (by go_simp) (fun V hV => by obtain ⟨d1, d2, d3, d4, d5⟩ := hV; go_simp) ?_
  go_simp
  refine headT_read rfl (.pointer (some ⟨y + 1, 3, none⟩)) (by go_simp) (fun V hV => by go_simp) ?_
  go_simp
  refine headT_read rfl (.int .i64 o.arg) (by go_simp) (fun V hV => by obtain ⟨d1, d2, d3, d4, d5⟩ := hV; go_simp) ?_
  go_simp
  refine headT_read rfl (.pointer (some ⟨y, 7, none⟩)) (by go_simp) (fun V hV => by go_simp) ?_
  go_simp
  refine headT_read rfl (.int .i64 k.n6) (by go_simp) (fun V hV => by obtain ⟨d1, d2, d3, d4, d5⟩ := hV; go_simp) ?_
  go_simp
  refine headT_read rfl (.int .i64 tt) (by go_simp) (fun V hV => by have h9 := HT.out; first | (go_simp; done) | (go_simp; rw [h9]) | (simp [h9]; go_simp)) ?_
  go_simp
  refine headT_read rfl (.agg #[.int .i64 (pn : Nat), .int .i64 o.unit, .int .i64 o.arg, .int .i64 tt]) (by go_simp) (fun V hV => by go_simp) ?_
  go_simp
  have BA : Hid (Below w3.heap.size w3 (w3.alloc (Obj.cells #[.int .i64 (pn : Nat), .int .i64 o.unit, .int .i64 o.arg, .int .i64 tt] 71))) := (Below.refl _ _).alloc (Nat.le_refl _) _
  have EC : Hid (Jbc (w3.alloc (Obj.cells #[.int .i64 (pn : Nat), .int .i64 o.unit, .int .i64 o.arg, .int .i64 tt] 71)) ⟨w3.heap.size, 0, none⟩ ⟨(pn : Nat), o.unit, o.arg, tt⟩) := Jbc.mk' (w := w3) ⟨(pn : Nat), o.unit, o.arg, tt⟩ rfl
  refine headT_value rfl (.slice (some ⟨w3.heap.size, 0, none⟩) 1 1) (w3.alloc (Obj.cells #[.int .i64 (pn : Nat), .int .i64 o.unit, .int .i64 o.arg, .int .i64 tt] 71)) (by go_simp) (by go_simp) (CB.out _ (Fr.below (D3.out.trans (BA.out.mono D3.out.size)))) ?_
  go_simp
  generalize (w3.alloc (Obj.cells #[.int .i64 (pn : Nat), .int .i64 o.unit, .int .i64 o.arg, .int .i64 tt] 71)) = w4 at *
  have D4 : Hid (Below w2.heap.size w2 w4) := D3.out.trans (BA.out.mono D3.out.size)
  have J4 : Hid (Jbo w4 b1 (.slice a8 qs.length h8) qs) := J2.out.below D4.out
  have S4 : Hid (b1 ≤ w4.heap.size ∧ w.heap.size ≤ w4.heap.size) := by have h1 := D4.out.size; have h2 := F2.out.size; have h3 := B1.out.size; have h4 := NN.out.2.2.2.2.1; exact ⟨by omega, by omega⟩
  obtain ⟨gq, gc, w5, hr, ho5, hg5, hw5, -⟩ := run_jb w4 27 b1 _ qs J4.out _ _ EC.out (by omega) S4.out.1
  have FQ : Hid (Fr (fun q => (Value.slice a8 qs.length h8).ownBlock = some q) w2 w5) := (Fr.below D4.out).trans (Fr.gb hg5 (fun q hq => hq))
  refine headT_value rfl (.slice (some ⟨gq, 0, none⟩) (qs.length + 1) gc) w5 (by go_simp) (exec_append _ _ _ _ rfl _ _ (by go_simp) (by go_simp) hr) (CB.out _ FQ.out) ?_
  go_simp
  refine headT_read rfl (.pointer (some ⟨z, 0, none⟩)) (by go_simp) (fun V hV => by go_simp) ?_
  go_simp
  refine headT_read rfl (.pointer (some ⟨z, 8, none⟩)) (by go_simp) (fun V hV => by go_simp) ?_
  go_simp
  unfold wpHeadT
  have X5 : Hid (Wx w5 z c0 c1 c2 c3 c4 c5 (.slice (some ⟨gg, 0, none⟩) n cg) c7 (.slice a8 qs.length h8)) := FQ.out.wx X2.out (fun e => by have := (QB.out _ e).1; have := NN.out.2.2.1; omega)
  have t8 := X5.out.thaw 8
  obtain ⟨-, -, -, -, -, -, -, -, x8⟩ := X5.out.cells
  have KX : Hid (Kp z w5 (w5.setCell ⟨z, 8, none⟩ (.slice (some ⟨gq, 0, none⟩) (qs.length + 1) gc))) := Kp.set _ _ _
  have X6 : Hid (Wx (w5.setCell ⟨z, 8, none⟩ (.slice (some ⟨gq, 0, none⟩) (qs.length + 1) gc)) z c0 c1 c2 c3 c4 c5 (.slice (some ⟨gg, 0, none⟩) n cg) c7 (.slice (some ⟨gq, 0, none⟩) (qs.length + 1) gc)) := X5.out.set8 _
  have J5 : Hid (Jbo w5 b1 (.slice (some ⟨gq, 0, none⟩) (qs.length + 1) gc) (qs ++ [⟨(pn : Nat), o.unit, o.arg, tt⟩])) := ho5
  have GQ : Hid ((Value.slice (some ⟨gq, 0, none⟩) (qs.length + 1) gc).ownBlock = (Value.slice a8 qs.length h8).ownBlock ∨ ∃ q, (Value.slice (some ⟨gq, 0, none⟩) (qs.length + 1) gc).ownBlock = some q ∧ w.heap.size ≤ q) := by
    rcases hw5 with h | h
    · exact .inl h.symm
    · exact .inr ⟨gq, rfl, by rw [h]; exact S4.out.2⟩
  clear hr ho5 hg5 hw5
  refine sched_skip rfl (w5.setCell ⟨z, 8, none⟩ (.slice (some ⟨gq, 0, none⟩) (qs.length + 1) gc)) (by go_simp) (by go_simp) trivial ?_
  go_simp
  clear t8 x8
  generalize (w5.setCell ⟨z, 8, none⟩ (.slice (some ⟨gq, 0, none⟩) (qs.length + 1) gc)) = w6 at *
  unfold wpSched
  have FA : Hid (Fr (fun q => q = z ∨ q = gg ∨ (Value.slice a8 qs.length h8).ownBlock = some q) w w6) := (((Fr.below B1.out).trans (F2.out.mono (fun q h => .inr (.inl h)))).trans (FQ.out.mono (fun q h => .inr (.inr h)))).trans (Fr.kp KX.out (.inl rfl))
  have G6 : Hid (Bk w6 gg (gold.set pn (g - k.n5)) rest) := by
    have h5 : Bk w5 gg (gold.set pn (g - k.n5)) rest := (FQ.out.block gg G2.out.lt NN.out.2.2.2.2.2.1).trans G2.out
    exact (KX.out.block gg (lt_of_block h5) (fun e => zg e.symm)).trans h5
  have J6 : Hid (Jbo w6 b1 (.slice (some ⟨gq, 0, none⟩) (qs.length + 1) gc) (qs ++ [⟨o.player, o.unit, o.arg, tt⟩])) := by
    have h5 := J5.out
    rw [← NN.out.1] at h5
    exact h5.kp KX.out NN.out.2.2.1
  go_wp2
  go_end0
  exact ⟨rfl, _, _, X6.out, G6.out, J6.out, FA.out, GQ.out⟩
end Go.Proofs.YteieikgkmfglaaaGreatDoor

namespace Go.Proofs.YteieikgkmfglaaaGreatDoor
open Go.RowKit
set_option linter.unusedVariables false

set_option maxHeartbeats 400000 in
theorem owin_any (x b : Int) (w : World) :
    Calls Tryz.prog 152 #[.int .i64 x, .int .i64 b] w fun e w' => e = .returned (.bool (decide (0 ≤ x ∧ x ≤ b))) ∧ w' = w := by
  by_cases h1 : 0 ≤ x
  · by_cases h2 : x ≤ b
    · go_enter Tryz.func152, Tryz.ntmps152
      go_wp2
      go_ret
      exact ⟨by simp [h1, h2], rfl⟩
    · go_enter Tryz.func152, Tryz.ntmps152
      go_wp2
      go_ret
      exact ⟨by simp; omega, rfl⟩
  · go_enter Tryz.func152, Tryz.ntmps152
    go_wp2
    go_ret
    exact ⟨by simp; omega, rfl⟩
theorem owin_is (x b : Int) (r : Bool) (h : decide (0 ≤ x ∧ x ≤ b) = r) : Hid (∀ w, Calls Tryz.prog 152 #[.int .i64 x, .int .i64 b] w fun e w' => e = .returned (.bool r) ∧ w' = w) :=
  fun w => (owin_any x b w).mono fun e w' ⟨h', hw⟩ => ⟨by rw [h', h], hw⟩

def OrdSays (o : OrV) (w : World) (e : Ending) (w' : World) : Prop := ∃ v, e = .returned v ∧ Er v (Od.fault o) ∧ Below w.heap.size w w'
set_option maxRecDepth 100000 in
set_option maxHeartbeats 4000000 in
theorem checkOrder_any (o : OrV) (w : World) : Calls Tryz.prog 129 #[o.val] w (OrdSays o w) := by
  obtain ⟨p, u, n, a⟩ := o
  have BB : Hid (Below w.heap.size w (w.alloc (Obj.cells #[.int .i64 p, .int .i64 u, .int .i64 n, .int .i64 a] 89))) := (Below.refl _ _).alloc (Nat.le_refl _) _
  have bad1 : Od.bad ⟨p, u, n, a⟩ → ∀ w', Hid (Below w.heap.size w w') → OrdSays ⟨p, u, n, a⟩ w (.returned (.iface 77 (.int .i64 1))) w' := fun hb w' hB => ⟨_, rfl, by rw [Od.fault_bad hb]; exact Er.no (by decide), hB⟩
  have B1 : Hid (Od.bad ⟨p, u, n, a⟩ → ∀ w', Hid (Below w.heap.size w w') → OrdSays ⟨p, u, n, a⟩ w (.returned (.iface 77 (.int .i64 1))) w') := bad1
  clear bad1
  unfold OrV.val
  simp only
  by_cases h1 : 0 ≤ p ∧ p ≤ 3
  · have W1 := owin_is p 3 true (decide_eq_true h1)
    by_cases h2 : 0 ≤ u ∧ u ≤ 1000000
    · have W2 := owin_is u 1000000 true (decide_eq_true h2)
      by_cases h3 : 0 ≤ a ∧ a ≤ 1000000
      · have W3 := owin_is a 1000000 true (decide_eq_true h3)
        by_cases h4 : 0 ≤ n ∧ n ≤ 3
        · have W4 := owin_is n 3 true (decide_eq_true h4)
          by_cases h5 : n = 0
          · subst h5
            by_cases h6 : a = 0
            · subst h6
              go_enter Tryz.func129, Tryz.ntmps129
              go_wp2_with fail
              refine (W1.out _).mono ?_
              rintro e w' ⟨rfl, rfl⟩
              go_wp2_with fail
              refine (W2.out _).mono ?_
              rintro e w' ⟨rfl, rfl⟩
              go_wp2_with fail
              refine (W3.out _).mono ?_
              rintro e w' ⟨rfl, rfl⟩
              go_wp2_with fail
              refine (W4.out _).mono ?_
              rintro e w' ⟨rfl, rfl⟩
              go_wp2
              go_ret
              exact ⟨_, rfl, by rw [Od.fault_ok (by unfold Od.bad; simp only; omega)]; exact Er.nil, BB⟩
            · have h6b : (a == 0) = false := beq_eq_false_iff_ne.2 h6
              go_enter Tryz.func129, Tryz.ntmps129
              go_wp2_with fail
              refine (W1.out _).mono ?_
              rintro e w' ⟨rfl, rfl⟩
              go_wp2_with fail
              refine (W2.out _).mono ?_
              rintro e w' ⟨rfl, rfl⟩
              go_wp2_with fail
              refine (W3.out _).mono ?_
              rintro e w' ⟨rfl, rfl⟩
              go_wp2_with fail
              refine (W4.out _).mono ?_
              rintro e w' ⟨rfl, rfl⟩
              go_wp2
              go_ret
              exact B1.out (.inr (.inr (.inr (.inr (.inr (.inr (.inr (.inr ⟨rfl, h6⟩)))))))) _ BB
          · have h5b : (n == 0) = false := beq_eq_false_iff_ne.2 h5
            go_enter Tryz.func129, Tryz.ntmps129
            go_wp2_with fail
            refine (W1.out _).mono ?_
            rintro e w' ⟨rfl, rfl⟩
            go_wp2_with fail
            refine (W2.out _).mono ?_
            rintro e w' ⟨rfl, rfl⟩
            go_wp2_with fail
            refine (W3.out _).mono ?_
            rintro e w' ⟨rfl, rfl⟩
            go_wp2_with fail
            refine (W4.out _).mono ?_
            rintro e w' ⟨rfl, rfl⟩
            go_wp2
            go_ret
            exact ⟨_, rfl, by rw [Od.fault_ok (by unfold Od.bad; simp only; omega)]; exact Er.nil, BB⟩
        · have W4 := owin_is n 3 false (decide_eq_false h4)
          go_enter Tryz.func129, Tryz.ntmps129
          go_wp2_with fail
          refine (W1.out _).mono ?_
          rintro e w' ⟨rfl, rfl⟩
          go_wp2_with fail
          refine (W2.out _).mono ?_
          rintro e w' ⟨rfl, rfl⟩
          go_wp2_with fail
          refine (W3.out _).mono ?_
          rintro e w' ⟨rfl, rfl⟩
          go_wp2_with fail
          refine (W4.out _).mono ?_
          rintro e w' ⟨rfl, rfl⟩
          go_wp2
          go_ret
          exact B1.out (by unfold Od.bad; simp only; omega) _ BB
      · have W3 := owin_is a 1000000 false (decide_eq_false h3)
        go_enter Tryz.func129, Tryz.ntmps129
        go_wp2_with fail
        refine (W1.out _).mono ?_
        rintro e w' ⟨rfl, rfl⟩
        go_wp2_with fail
        refine (W2.out _).mono ?_
        rintro e w' ⟨rfl, rfl⟩
        go_wp2_with fail
        refine (W3.out _).mono ?_
        rintro e w' ⟨rfl, rfl⟩
        go_wp2
        go_ret
        exact B1.out (by unfold Od.bad; simp only; omega) _ BB
    · have W2 := owin_is u 1000000 false (decide_eq_false h2)
      go_enter Tryz.func129, Tryz.ntmps129
      go_wp2_with fail
      refine (W1.out _).mono ?_
      rintro e w' ⟨rfl, rfl⟩
      go_wp2_with fail
      refine (W2.out _).mono ?_
      rintro e w' ⟨rfl, rfl⟩
      go_wp2
      go_ret
      exact B1.out (by unfold Od.bad; simp only; omega) _ BB
  · have W1 := owin_is p 3 false (decide_eq_false h1)
    go_enter Tryz.func129, Tryz.ntmps129
    go_wp2_with fail
    refine (W1.out _).mono ?_
    rintro e w' ⟨rfl, rfl⟩
    go_wp2
    go_ret
    exact B1.out (by unfold Od.bad; simp only; omega) _ BB
end Go.Proofs.YteieikgkmfglaaaGreatDoor

namespace Go.Proofs.YteieikgkmfglaaaGreatDoor
open Go.RowKit Go.Proofs.YteieikgkmfglaaaGreatDoor.So
set_option linter.unusedVariables false

theorem Um.mono {w : World} {b n n' : Nat} {f : Int → Int → Int} (h : Um w b n f) (hn : n ≤ n') : Um w b n' f := by
  obtain ⟨D, h1, h2⟩ := h
  exact ⟨D, h1.mono hn, h2⟩
def OcI (ks : List OrV) (w : World) (j : Value) (W' : World) : Prop := ∃ q : Nat, q ≤ ks.length ∧ j = .int .i64 (q : Nat) ∧ (∀ (i : Nat) o, i < q → ks[i]? = some o → ¬ Od.bad o) ∧ Below w.heap.size w W'
set_option maxRecDepth 100000 in
set_option maxHeartbeats 4000000 in
theorem ocheck_any (v : Value) (ks : List OrV) (w : World) (h : Orl w v ks) :
    Calls Tryz.prog 101 #[v] w fun e w' => ∃ u, e = .returned u ∧ Er u (Od.faults ks) ∧ Below w.heap.size w w' := by
  have K0 : Hid (Orl w v ks) := h
  obtain ⟨R, hR⟩ : ∃ R, Od.faults ks = R := ⟨_, rfl⟩
  have HR : Hid (Od.faults ks = R) := hR
  rw [hR]
  clear hR
  obtain ⟨a, c, rfl, c1, c2, -⟩ := h
  by_cases h8 : 60 < ks.length
  · have E : Hid (R = 4) := by unfold Hid; rw [← HR.out]; unfold Od.faults; rw [if_pos h8]
    have h8' : (60 : Int) < (ks.length : Int) := by omega
    go_enter Tryz.func101, Tryz.ntmps101
    go_wp2
    go_ret
    exact ⟨_, rfl, by rw [E.out]; exact Er.no (by decide), Below.refl _ _⟩
  · have h8' : ¬ (60 : Int) < (ks.length : Int) := by omega
    have LE : Hid (ks.length ≤ 60) := by unfold Hid; omega
    go_enter Tryz.func101, Tryz.ntmps101
    go_wp2_with fail
    go_loopw [12] (fun j W' => OcI ks w j W') (fun j _ => ks.length - (intOf j).toNat)
    case atStart => exact ⟨0, Nat.zero_le _, rfl, fun i o hi => by omega, Below.refl _ _⟩
    case round =>
      obtain ⟨q, hq, rfl, hg, hb⟩ := hrel
      have Gq : Hid (∀ (i : Nat) o, i < q → ks[i]? = some o → ¬ Od.bad o) := hg
      have B : Hid (Below w.heap.size w wr) := hb
      clear hg hb
      by_cases hql : q = ks.length
      · have E : Hid (R = 0) := by
          unfold Hid
          rw [← HR.out]
          refine Od.faults_of LE.out fun o ho => ?_
          obtain ⟨i, hi⟩ := List.mem_iff_getElem?.1 ho
          exact Gq.out i o (by rw [hql]; exact (List.getElem?_eq_some_iff.1 hi).1) hi
        subst hql
        go_wp2
        go_ret
        exact ⟨_, rfl, by rw [E.out]; exact Er.nil, B⟩
      · have hqk : q < ks.length := by omega
        obtain ⟨k, hk⟩ : ∃ k, ks[q]? = some k := ⟨_, List.getElem?_eq_getElem hqk⟩
        have HK : Hid (ks[q]? = some k) := hk
        have K1 := K0.out.below B.out
        have CK : Hid (∀ W : World, Calls Tryz.prog 129 #[k.val] W (OrdSays k W)) := fun W => checkOrder_any k W
        obtain ⟨F, hF⟩ : ∃ F, Od.fault k = F := ⟨_, rfl⟩
        have HF : Hid (Od.fault k = F) := hF
        clear hF
        obtain ⟨a', c', e, -, -, h3⟩ := K1
        injection e with e1 e2 e3
        subst e1 e3
        obtain ⟨x, rfl, hx1, hx⟩ := h3 (by rintro rfl; simp at hqk)
        have Yc := hx q k hk
        clear hx h3 e2 hk
        obtain ⟨q0, q1, q2, q3⟩ := Yc
        unfold OrV.val at CK
        go_upto_region 6 with fail
        have B1 : Hid (Below wr.heap.size wr (wr.alloc (Obj.cells #[.int .i64 k.player, .int .i64 k.unit, .int .i64 k.what, .int .i64 k.arg] 89))) := (Below.refl _ _).alloc (Nat.le_refl _) _
        have X1 := Orc.mk' (w := wr) k rfl
        clear q0 q1 q2 q3
        generalize wr.alloc (Obj.cells #[.int .i64 k.player, .int .i64 k.unit, .int .i64 k.what, .int .i64 k.arg] 89) = w1 at *
        obtain ⟨x0, x1, x2, x3⟩ := X1
        simp only [Nat.zero_add] at x1 x2 x3
        go_wp2_with fail
        refine Calls.mono (CK.out w1) ?_
        rintro e w2 ⟨u, rfl, hu, b2⟩
        rw [HF.out] at hu
        have B3 : Hid (Below w.heap.size w w2) := B.out.trans ((B1.out.trans (b2.mono B1.out.size)).mono B.out.size)
        clear b2 CK x0 x1 x2 x3 B1
        rcases hu with ⟨hF, rfl⟩ | ⟨hF, rfl⟩
        · have G2 : Hid (∀ (i : Nat) o, i < q + 1 → ks[i]? = some o → ¬ Od.bad o) := fun i o hi ho => by
            by_cases e : i = q
            · subst e
              rw [HK.out] at ho
              obtain rfl := Option.some.inj ho
              intro hbad
              have := HF.out
              rw [Od.fault_bad hbad] at this
              omega
            · exact Gq.out i o (by omega) ho
          go_wp2
          go_round
          case rel => exact ⟨q + 1, by omega, by go_num, G2, B3⟩
          case measure => simp [intOf]; omega
        · have E : Hid (R = F ∧ F ≠ 0) := by
            have hbad : Od.bad k := by
              rcases Classical.em (Od.bad k) with h | h
              · exact h
              · exact absurd (HF.out.symm.trans (Od.fault_ok h)) hF
            refine ⟨?_, hF⟩
            rw [← HR.out, ← HF.out, Od.fault_bad hbad]
            unfold Od.faults
            rw [if_neg (by have := LE.out; omega), if_pos (List.any_eq_true.2 ⟨k, List.mem_of_getElem? HK.out, decide_eq_true hbad⟩)]
          clear hF
          go_wp2
          go_ret
          exact ⟨_, rfl, by rw [E.out.1]; exact Er.no E.out.2, B3⟩
set_option maxHeartbeats 1000000 in
theorem unitOf_any (o : OrV) (w : World) : Calls Tryz.prog 103 #[o.val] w fun e w' => e = .returned (.agg #[.int .i64 o.player, .int .i64 o.unit]) ∧ Below w.heap.size w w' := by
  unfold OrV.val
  go_enter Tryz.func103, Tryz.ntmps103
  go_wp2
  refine bodyPost_ret (v := .agg #[.int .i64 o.player, .int .i64 o.unit]) (by simp [results, Tryz.results103, go_sem]) rfl ⟨rfl, ?_⟩
  exact ((Below.refl _ _).alloc (Nat.le_refl _) _).alloc (by simp) _
def LoI (ks : List OrV) (w : World) (j : Value) (W' : World) : Prop := ∃ q : Nat, q ≤ ks.length ∧ j = .int .i64 (q : Nat) ∧ Um W' w.heap.size q (lf ks q) ∧ Below w.heap.size w W'
set_option maxRecDepth 100000 in
set_option maxHeartbeats 4000000 in
theorem lastOnes_any (v : Value) (ks : List OrV) (w : World) (h : Orl w v ks) (hl : ks.length ≤ 60) (hb : ∀ o ∈ ks, ¬ Od.bad o) :
    Calls Tryz.prog 102 #[v] w fun e w' => ∃ b n, e = .returned (.map (some b)) ∧ Um w' b n (lf ks ks.length) ∧ w.heap.size ≤ b ∧ Below w.heap.size w w' := by
  have K0 : Hid (Orl w v ks) := h
  have HB : Hid (∀ o ∈ ks, ¬ Od.bad o) := hb
  have LE : Hid (ks.length ≤ 60) := hl
  obtain ⟨a, c, rfl, c1, c2, -⟩ := h
  have hmm := @run_makeMap Tryz.prog
  clear hb
  go_enter Tryz.func102, Tryz.ntmps102
  go_wp2_with fail
  go_loopw [9] (fun j W' => LoI ks w j W') (fun j _ => ks.length - (intOf j).toNat)
  case atStart => exact ⟨0, Nat.zero_le _, rfl, um_made w, (Below.refl _ _).alloc (Nat.le_refl _) _⟩
  case round =>
    obtain ⟨q, hq, rfl, hg, hb⟩ := hrel
    have Gq : Hid (Um wr w.heap.size q (lf ks q)) := hg
    have B : Hid (Below w.heap.size w wr) := hb
    clear hg hb
    by_cases hql : q = ks.length
    · subst hql
      go_wp2
      go_ret
      exact ⟨_, _, rfl, Gq, Nat.le_refl _, B⟩
    · have hqk : q < ks.length := by omega
      obtain ⟨k, hk⟩ : ∃ k, ks[q]? = some k := ⟨_, List.getElem?_eq_getElem hqk⟩
      have HK : Hid (ks[q]? = some k) := hk
      have OK := Od.ok_of (HB.out k (List.mem_of_getElem? hk))
      have WF : Hid ((Lit.int .i64 k.player).wf = true ∧ (Lit.int .i64 k.unit).wf = true ∧ (Lit.int .i64 ((q : Nat) : Int)).wf = true) := ⟨wf64 (by omega) (by omega), wf64 (by omega) (by omega), wf64 (by omega) (by omega)⟩
      have K1 := K0.out.below B.out
      obtain ⟨a', c', e, -, -, h3⟩ := K1
      injection e with e1 e2 e3
      subst e1 e3
      obtain ⟨x, rfl, hx1, hx⟩ := h3 (by rintro rfl; simp at hqk)
      have Yc := hx q k hk
      clear hx h3 e2 hk OK
      obtain ⟨q0, q1, q2, q3⟩ := Yc
      go_upto_region 5 with fail
      have B1 : Hid (Below wr.heap.size wr (wr.alloc (Obj.cells #[.int .i64 k.player, .int .i64 k.unit, .int .i64 k.what, .int .i64 k.arg] 89))) := (Below.refl _ _).alloc (Nat.le_refl _) _
      have X1 := Orc.mk' (w := wr) k rfl
      clear q0 q1 q2 q3
      generalize wr.alloc (Obj.cells #[.int .i64 k.player, .int .i64 k.unit, .int .i64 k.what, .int .i64 k.arg] 89) = w1 at *
      have G1 : Hid (Um w1 w.heap.size q (lf ks q)) := Gq.out.below B1.out
      have B2 : Hid (Below w.heap.size w w1) := B.out.trans (B1.out.mono B.out.size)
      obtain ⟨x0, x1, x2, x3⟩ := X1
      simp only [Nat.zero_add] at x1 x2 x3
      by_cases h3 : k.what = 3
      · have NX : Hid (Um w1 w.heap.size (q + 1) (lf ks (q + 1))) := by unfold Hid; rw [lf_train HK.out h3]; exact G1.out.mono (by omega)
        go_wp2
        go_round
        case rel => exact ⟨q + 1, by omega, by go_num, NX, B2⟩
        case measure => simp [intOf]; omega
      · have h3b : (k.what == 3) = false := beq_eq_false_iff_ne.2 h3
        go_wp2_with fail
        refine Calls.mono (unitOf_any k w1) ?_
        rintro e w2 ⟨rfl, b2⟩
        have B3 : Hid (Below w.heap.size w w2) := B2.out.trans (b2.mono B2.out.size)
        have G2 : Hid (Um w2 w.heap.size q (lf ks q)) := G1.out.below b2
        obtain ⟨w3, r3, o3, g3⟩ := G2.out.put (by have := LE.out; unfold maxLen; omega) WF.out.1 WF.out.2.1 WF.out.2.2
        have NX : Hid (Um w3 w.heap.size (q + 1) (lf ks (q + 1))) := by unfold Hid; rw [lf_other HK.out h3]; exact o3
        have B4 : Hid (Below w.heap.size w w3) := B3.out.grown g3 B3.out.size (fun k hk => by cases hk; exact Nat.le_refl _)
        clear b2 o3 g3 x0 x1 x2 x3
        go_wp2
        go_round
        case rel => exact ⟨q + 1, by omega, by go_num, NX, B4⟩
        case measure => simp [intOf]; omega
end Go.Proofs.YteieikgkmfglaaaGreatDoor

namespace Go.Proofs.YteieikgkmfglaaaGreatDoor
open Go.RowKit Go.Proofs.YteieikgkmfglaaaGreatDoor.So
set_option linter.unusedVariables false

theorem swap_far {α : Type} : ∀ (U V Z : List α) (x y : α), ((U ++ x :: (V ++ y :: Z)).set U.length y).set (U.length + 1 + V.length) x = U ++ y :: (V ++ x :: Z)
  | [], V, Z, x, y => by
    have : ∀ (V : List α), (V ++ y :: Z).set V.length x = V ++ x :: Z := fun V => by simp
    simp only [List.nil_append, List.length_nil, List.set_cons_zero, Nat.zero_add]
    rw [Nat.add_comm, List.set_cons_succ, this]
  | u :: U, V, Z, x, y => by
    have h := swap_far U V Z x y
    have e : (u :: U).length + 1 + V.length = (U.length + 1 + V.length) + 1 := by simp; omega
    rw [e]
    simp only [List.cons_append, List.length_cons, List.set_cons_succ]
    rw [h]
theorem at_far {α : Type} (U V Z : List α) (x y : α) : (U ++ x :: (V ++ y :: Z))[U.length]? = some x ∧ (U ++ x :: (V ++ y :: Z))[U.length + 1 + V.length]? = some y := by
  refine ⟨by simp, ?_⟩
  rw [List.getElem?_append_right (by omega)]
  have : U.length + 1 + V.length - U.length = V.length + 1 := by omega
  rw [this]
  simp
/-- between two rounds of swapRange's loop. -/
def SwI (P X M Y Q : List OrV) (g : Nat) (rest : List Value) (w : World) (n : Nat) (iv : Value) (W : World) : Prop := ∃ (X1 X2 Y1 Y2 : List OrV), iv = .int .i64 (X1.length : Nat) ∧ X1 ++ X2 = X ∧ Y1 ++ Y2 = Y ∧ X1.length = Y1.length ∧ X1.length ≤ n ∧ Rb W g (P ++ Y1 ++ (X2 ++ (M ++ X1) ++ (Y2 ++ Q))) rest ∧ Kp g w W
set_option maxRecDepth 100000 in
set_option maxHeartbeats 8000000 in
theorem swaps_any (P X M Y Q : List OrV) (fv : Value) (g cap L a b n : Nat) (rest : List Value) (w : World) (hr : Rb w g (P ++ X ++ M ++ Y ++ Q) rest) (hL : (P ++ X ++ M ++ Y ++ Q).length = L) (hn : L ≤ 1000) (hX : X.length = n) (hY : Y.length = n) (ha : P.length = a) (hb : (P ++ X ++ M).length = b) :
    Calls Tryz.prog 179 #[.slice (some ⟨g, 0, none⟩) L cap, .int .i64 (a : Nat), .int .i64 (b : Nat), .int .i64 (n : Nat), fv] w
      (fun e w' => e = .returned (.tuple #[]) ∧ Rb w' g (P ++ Y ++ M ++ X ++ Q) rest ∧ Kp g w w') := by
  have R0 : Hid (Rb w g (P ++ X ++ M ++ Y ++ Q) rest) := hr
  have HL : Hid ((P ++ X ++ M ++ Y ++ Q).length = L) := hL
  have HX : Hid (X.length = n) := hX
  have HY : Hid (Y.length = n) := hY
  have Ha : Hid (P.length = a) := ha
  have Hb : Hid (a + n + M.length = b) := by unfold Hid; rw [← hb, ← ha, ← hX]; simp; omega
  have HL2 : Hid (b + n ≤ L) := by unfold Hid; rw [← hL, ← hb, ← hY]; simp; omega
  clear hr hL hX hY ha hb
  have HA2 : Hid (a + n ≤ b) := by unfold Hid; have := Hb.out; omega
  go_enter Tryz.func179, Tryz.ntmps179
  go_wp2
  go_loopw [10] (fun iv W => SwI P X M Y Q g rest w n iv W) (fun iv _ => n - (intOf iv).toNat)
  case atStart =>
    refine ⟨[], X, [], Y, rfl, rfl, rfl, rfl, by simp, ?_, Kp.refl _ _⟩
    have := R0.out
    simpa using this
  case round =>
    obtain ⟨X1, X2, Y1, Y2, rfl, hx, hy, hxy, hle, hrb, hk⟩ := hrel
    have RB : Hid (Rb wr g (P ++ Y1 ++ (X2 ++ (M ++ X1) ++ (Y2 ++ Q))) rest) := hrb
    have K1 : Hid (Kp g w wr) := hk
    have H1 : Hid (X1 ++ X2 = X ∧ Y1 ++ Y2 = Y ∧ X1.length = Y1.length) := ⟨hx, hy, hxy⟩
    have l1 : X1.length + X2.length = n := by have := congrArg List.length hx; simp at this; rw [this]; exact HX.out
    have l2 : Y1.length + Y2.length = n := by have := congrArg List.length hy; simp at this; rw [this]; exact HY.out
    obtain ⟨i, hi⟩ : ∃ i, X1.length = i := ⟨_, rfl⟩
    have Hi : Hid (X1.length = i) := hi
    rw [hi] at l1 hxy hle
    rw [hi]
    clear hrb hk hx hy hi
    by_cases he : i = n
    · have hlt : ¬ ((i : Nat) : Int) < ((n : Nat) : Int) := by omega
      have FIN : Hid (Rb wr g (P ++ (Y ++ (M ++ (X ++ Q)))) rest) := by
        unfold Hid
        have e1 : X2 = [] := List.length_eq_zero_iff.1 (by omega)
        have e2 : Y2 = [] := List.length_eq_zero_iff.1 (by omega)
        obtain ⟨q1, q2, q3⟩ := H1.out
        have := RB.out
        rw [e1] at q1 this
        rw [e2] at q2 this
        simp only [List.append_nil] at q1 q2
        rw [q1, q2] at this
        simpa using this
      clear l1 l2 hxy he
      go_wp2
      go_end0
      exact ⟨rfl, FIN.out, K1.out⟩
    · have hlt : ((i : Nat) : Int) < ((n : Nat) : Int) := by omega
      obtain ⟨x, X3, hx3⟩ : ∃ x X3, X2 = x :: X3 := by
        cases X2 with
        | nil => simp at l1; omega
        | cons x X3 => exact ⟨x, X3, rfl⟩
      obtain ⟨y, Y3, hy3⟩ : ∃ y Y3, Y2 = y :: Y3 := by
        cases Y2 with
        | nil => simp at l2; omega
        | cons y Y3 => exact ⟨y, Y3, rfl⟩
      subst hx3 hy3
      have l3 : i + X3.length + 1 = n := by simp at l1; omega
      obtain ⟨p, hp⟩ : ∃ p, a + i = p := ⟨_, rfl⟩
      obtain ⟨r, hr⟩ : ∃ r, b + i = r := ⟨_, rfl⟩
      have hpr : p < r := by have := HA2.out; omega
      have hrL : r < L := by have := HL2.out; omega
      have ep : (P ++ Y1).length = p := by rw [← hp, List.length_append, Ha.out, hxy]
      have er : (P ++ Y1).length + 1 + (X3 ++ (M ++ X1)).length = r := by
        have h1 := Hb.out
        have h2 := Hi.out
        rw [ep]
        simp
        omega
      have EL : Hid (P ++ Y1 ++ (x :: X3 ++ (M ++ X1) ++ (y :: Y3 ++ Q)) = (P ++ Y1) ++ x :: ((X3 ++ (M ++ X1)) ++ y :: (Y3 ++ Q))) := by unfold Hid; simp
      have RC : Hid (Rb wr g ((P ++ Y1) ++ x :: ((X3 ++ (M ++ X1)) ++ y :: (Y3 ++ Q))) rest) := by unfold Hid; rw [← EL.out]; exact RB.out
      have AF := at_far (P ++ Y1) (X3 ++ (M ++ X1)) (Y3 ++ Q) x y
      rw [er, ep] at AF
      obtain ⟨x0, x1, x2, x3⟩ := RC.out.cells AF.1
      obtain ⟨y0, y1, y2, y3⟩ := RC.out.cells AF.2
      have SW := swap_far (P ++ Y1) (X3 ++ (M ++ X1)) (Y3 ++ Q) x y
      rw [er, ep] at SW
      have HSW : Hid (_ = _) := SW
      have f0 := RC.out.thaw (p * 4)
      have f1 := RC.out.thaw (p * 4 + 1)
      have f2 := RC.out.thaw (p * 4 + 2)
      have f3 := RC.out.thaw (p * 4 + 3)
      have f4 := RC.out.thaw (r * 4)
      have f5 := RC.out.thaw (r * 4 + 1)
      have f6 := RC.out.thaw (r * 4 + 2)
      have f7 := RC.out.thaw (r * 4 + 3)
      have sp : ((a : Nat) : Int) + (i : Int) = p := by omega
      have sr : ((b : Nat) : Int) + (i : Int) = r := by omega
      have pw : IntKind.i64.wrap ((p : Nat) : Int) = p := by rw [IntKind.wrap_i64]; omega
      have rw' : IntKind.i64.wrap ((r : Nat) : Int) = r := by rw [IntKind.wrap_i64]; omega
      have hpL : ((p : Nat) : Int) < (L : Int) := by omega
      have hrL' : ((r : Nat) : Int) < (L : Int) := by omega
      have n1 : ¬ p * 4 = r * 4 := by omega
      have LL : Hid (((P ++ Y1) ++ x :: ((X3 ++ (M ++ X1)) ++ y :: (Y3 ++ Q))).length = L) := by
        have h1 := HL.out
        have h2 := congrArg List.length H1.out.1
        have h3 := congrArg List.length H1.out.2.1
        unfold Hid
        simp at h1 h2 h3 ⊢
        omega
      have HP : Hid (p < r ∧ r < L) := ⟨hpr, hrL⟩
      have HM : Hid (i + 1 ≤ n ∧ i < n ∧ i = Y1.length) := ⟨by omega, by omega, hxy⟩
      clear SW AF EL ep er l1 l2 l3 hxy RB hp hr
      go_wp2_with fail
      go_region
      have rr := (RC.out.put (i := p) (by rw [LL.out]; have := HP.out; omega) y).put (i := r) (by rw [List.length_set, LL.out]; exact HP.out.2) x
      rw [HSW.out] at rr
      have RR : Hid (Rb _ g ((P ++ Y1) ++ y :: ((X3 ++ (M ++ X1)) ++ x :: (Y3 ++ Q))) rest) := rr
      have KR : Hid (Kp g w _) := (((((((K1.out.trans (Kp.set wr (p * 4) (.int .i64 y.player))).trans (Kp.set _ (p * 4 + 1) (.int .i64 y.unit))).trans (Kp.set _ (p * 4 + 2) (.int .i64 y.what))).trans (Kp.set _ (p * 4 + 3) (.int .i64 y.arg))).trans (Kp.set _ (r * 4) (.int .i64 x.player))).trans (Kp.set _ (r * 4 + 1) (.int .i64 x.unit))).trans (Kp.set _ (r * 4 + 2) (.int .i64 x.what))).trans (Kp.set _ (r * 4 + 3) (.int .i64 x.arg))
      clear rr
      go_wp2
      go_roundw
      case rel =>
        have h1 := H1.out
        have h2 := Hi.out
        have h3 := HM.out
        refine ⟨X1 ++ [x], X3, Y1 ++ [y], Y3, by simp [h2], by rw [← h1.1]; simp, by rw [← h1.2.1]; simp, by simp; omega, by simp; omega, ?_, KR.out.trans (Kp.of (Below.refl _ _).drew)⟩
        have h4 := RR.out.below (Below.refl _ _).drew RR.out.lt
        have e : P ++ (Y1 ++ [y]) ++ (X3 ++ (M ++ (X1 ++ [x])) ++ (Y3 ++ Q)) = (P ++ Y1) ++ y :: ((X3 ++ (M ++ X1)) ++ x :: (Y3 ++ Q)) := by simp
        rw [e]
        exact h4
      case measure => have := HM.out; simp [intOf]; omega
end Go.Proofs.YteieikgkmfglaaaGreatDoor

namespace Go.Proofs.YteieikgkmfglaaaGreatDoor
open Go.RowKit Go.Proofs.YteieikgkmfglaaaGreatDoor.So
set_option linter.unusedVariables false

/-- between two rounds of rotate's loop. -/
def RoI (P u v Q : List OrV) (g : Nat) (rest : List Value) (w : World) (iv jv : Value) (W : World) : Prop := ∃ (F u' v' E : List OrV), iv = .int .i64 (u'.length : Nat) ∧ jv = .int .i64 (v'.length : Nat) ∧ u' ≠ [] ∧ v' ≠ [] ∧ F ++ (v' ++ u') ++ E = v ++ u ∧ F.length + u'.length = u.length ∧ Rb W g (P ++ F ++ u' ++ v' ++ (E ++ Q)) rest ∧ Kp g w W
set_option maxRecDepth 100000 in
set_option maxHeartbeats 8000000 in
theorem rotate_any (P u v Q : List OrV) (fv : Value) (g cap L a m b : Nat) (rest : List Value) (w : World) (hr : Rb w g (P ++ u ++ v ++ Q) rest) (hL : (P ++ u ++ v ++ Q).length = L) (hn : L ≤ 1000) (hu : u ≠ []) (hv : v ≠ []) (ha : P.length = a) (hm : a + u.length = m) (hb : m + v.length = b) :
    Calls Tryz.prog 168 #[.slice (some ⟨g, 0, none⟩) L cap, .int .i64 (a : Nat), .int .i64 (m : Nat), .int .i64 (b : Nat), fv] w
      (fun e w' => e = .returned (.tuple #[]) ∧ Rb w' g (P ++ v ++ u ++ Q) rest ∧ Kp g w w') := by
  have R0 : Hid (Rb w g (P ++ u ++ v ++ Q) rest) := hr
  have HL : Hid (a + u.length + v.length + Q.length = L) := by unfold Hid; rw [← hL, ← ha]; simp; omega
  have Ha : Hid (P.length = a) := ha
  have Hm : Hid (a + u.length = m) := hm
  have Hb : Hid (m + v.length = b) := hb
  have Hne : Hid (u ≠ [] ∧ v ≠ []) := ⟨hu, hv⟩
  have hbL : b ≤ L := by have := HL.out; omega
  have smi : ((m : Nat) : Int) - (a : Int) = (u.length : Nat) := by omega
  have sbm : ((b : Nat) : Int) - (m : Int) = (v.length : Nat) := by omega
  have wmi : IntKind.i64.wrap ((u.length : Nat) : Int) = (u.length : Nat) := by rw [IntKind.wrap_i64]; omega
  have wbm : IntKind.i64.wrap ((v.length : Nat) : Int) = (v.length : Nat) := by rw [IntKind.wrap_i64]; omega
  clear hr hL hu hv ha hm hb
  go_enter Tryz.func168, Tryz.ntmps168
  go_wp2
  go_loopw [10, 11] (fun iv jv W => RoI P u v Q g rest w iv jv W) (fun iv jv _ => (intOf iv).toNat + (intOf jv).toNat)
  case atStart =>
    refine ⟨[], u, v, [], rfl, rfl, Hne.out.1, Hne.out.2, by simp, by simp, ?_, Kp.refl _ _⟩
    have := R0.out
    simpa using this
  case round =>
    obtain ⟨F, u', v', E, rfl, rfl, hu, hv, hF, hlen, hrb, hk⟩ := hrel
    have RB : Hid (Rb wr g (P ++ F ++ u' ++ v' ++ (E ++ Q)) rest) := hrb
    have K1 : Hid (Kp g w wr) := hk
    have HF : Hid (F ++ (v' ++ u') ++ E = v ++ u) := hF
    have HFl : Hid (F.length + u'.length = u.length) := hlen
    have hlF : F.length + v'.length + u'.length + E.length = v.length + u.length := by have := congrArg List.length hF; simp at this; omega
    obtain ⟨i, hi⟩ : ∃ i, u'.length = i := ⟨_, rfl⟩
    obtain ⟨j, hj⟩ : ∃ j, v'.length = j := ⟨_, rfl⟩
    have Hi : Hid (u'.length = i) := hi
    have Hj : Hid (v'.length = j) := hj
    have i1 : 1 ≤ i := by rw [← hi]; exact List.length_pos_iff.2 hu
    have j1 : 1 ≤ j := by rw [← hj]; exact List.length_pos_iff.2 hv
    obtain ⟨c, hc⟩ : ∃ c, a + F.length = c := ⟨_, rfl⟩
    have Hc : Hid ((P ++ F).length = c) := by unfold Hid; rw [← hc, List.length_append, Ha.out]
    have hci : c + i = m := by have := Hm.out; omega
    have hjb : m + j ≤ b := by have := Hm.out; have := Hb.out; omega
    have HLL : Hid ((P ++ F ++ u' ++ v' ++ (E ++ Q)).length = L) := by
      have h1 := HL.out
      have h2 := Ha.out
      unfold Hid
      simp
      omega
    rw [hi, hj]
    have smc : ((m : Nat) : Int) - (i : Int) = (c : Nat) := by omega
    have wc : IntKind.i64.wrap ((c : Nat) : Int) = (c : Nat) := by rw [IntKind.wrap_i64]; omega
    clear hrb hk hF hlen hlF hu hv hc smi sbm wmi wbm
    by_cases he : i = j
    · subst he
      have CL := swaps_any (P ++ F) u' [] v' (E ++ Q) fv g cap L c m i rest wr (by simpa using RB.out) (by simpa using HLL.out) hn Hi.out Hj.out Hc.out (by have := Hc.out; have := Hi.out; simp at *; omega)
      have hne : ¬ ((i : Nat) : Int) ≠ (i : Int) := by simp
      clear hi hj
      go_wp2_with fail
      refine Calls.mono CL ?_
      rintro e w1 ⟨rfl, hr1, hk1⟩
      have R1 : Hid (Rb w1 g (P ++ F ++ v' ++ [] ++ u' ++ (E ++ Q)) rest) := hr1
      have K2 : Hid (Kp g wr w1) := hk1
      clear hr1 hk1
      go_wp2
      go_end0
      refine ⟨rfl, ?_, K1.out.trans K2.out⟩
      have h := R1.out
      have e : P ++ F ++ v' ++ [] ++ u' ++ (E ++ Q) = P ++ (v ++ u) ++ Q := by rw [← HF.out]; simp
      rw [e] at h
      simpa using h
    · by_cases hgt : j < i
      · obtain ⟨x, y, hxy, hx⟩ : ∃ x y, u' = x ++ y ∧ x.length = j := ⟨u'.take j, u'.drop j, (List.take_append_drop _ _).symm, by rw [List.length_take]; omega⟩
        have hy : y.length = i - j := by have := congrArg List.length hxy; simp at this; omega
        subst hxy
        have CL := swaps_any (P ++ F) x y v' (E ++ Q) fv g cap L c m j rest wr (by simpa using RB.out) (by have := HLL.out; simp at this ⊢; omega) hn hx Hj.out Hc.out (by have := Hc.out; have := Hi.out; simp at *; omega)
        have HXY : Hid (x.length = j ∧ y.length = i - j) := ⟨hx, hy⟩
        have hne : ¬ ((i : Nat) : Int) = (j : Int) := by omega
        have hgi : ((j : Nat) : Int) < (i : Int) := by omega
        obtain ⟨d, hd⟩ : ∃ d, i - j = d := ⟨_, rfl⟩
        have Hd : Hid (1 ≤ d ∧ d + j = i ∧ y.length = d) := ⟨by omega, by omega, by omega⟩
        have sij : ((i : Nat) : Int) - (j : Int) = (d : Nat) := by omega
        have wd : IntKind.i64.wrap ((d : Nat) : Int) = (d : Nat) := by rw [IntKind.wrap_i64]; omega
        clear hi hj hx hy hd
        go_wp2_with fail
        refine Calls.mono CL ?_
        rintro e w1 ⟨rfl, hr1, hk1⟩
        have R1 : Hid (Rb w1 g (P ++ F ++ v' ++ y ++ x ++ (E ++ Q)) rest) := hr1
        have K2 : Hid (Kp g wr w1) := hk1
        clear hr1 hk1
        go_wp2
        go_roundw
        case rel =>
          obtain ⟨d1, d2, d3⟩ := Hd.out
          obtain ⟨e1, e2⟩ := HXY.out
          have e3 := Hj.out
          have e4 := HFl.out
          refine ⟨F ++ v', y, x, E, by rw [d3], by rw [e1], by intro h; rw [h] at d3; simp at d3; omega, by intro h; rw [h] at e1; simp at e1; omega, by rw [← HF.out]; simp, ?_, ?_, K1.out.trans K2.out⟩
          · simp at e4 ⊢; omega
          · have h := R1.out
            simpa using h
        case measure => have := Hd.out; simp [intOf]; omega
      · obtain ⟨x, y, hxy, hx⟩ : ∃ x y, v' = x ++ y ∧ x.length = j - i := ⟨v'.take (j - i), v'.drop (j - i), (List.take_append_drop _ _).symm, by rw [List.length_take]; omega⟩
        have hy : y.length = i := by have := congrArg List.length hxy; simp at this; omega
        subst hxy
        obtain ⟨d, hd⟩ : ∃ d, j - i = d := ⟨_, rfl⟩
        obtain ⟨t, ht⟩ : ∃ t, m + d = t := ⟨_, rfl⟩
        have CL := swaps_any (P ++ F) u' x y (E ++ Q) fv g cap L c t i rest wr (by simpa using RB.out) (by have := HLL.out; simp at this ⊢; omega) hn Hi.out hy Hc.out (by have := Hc.out; have := Hi.out; simp at *; omega)
        have HXY : Hid (x.length = d ∧ y.length = i) := ⟨by omega, hy⟩
        have hne : ¬ ((i : Nat) : Int) = (j : Int) := by omega
        have hgi : ¬ ((j : Nat) : Int) < (i : Int) := by omega
        have Hd : Hid (1 ≤ d ∧ d + i = j ∧ 1 ≤ i) := ⟨by omega, by omega, i1⟩
        obtain ⟨mj, hmj⟩ : ∃ mj, m + j = mj := ⟨_, rfl⟩
        have smj : ((m : Nat) : Int) + (j : Int) = (mj : Nat) := by omega
        have wmj : IntKind.i64.wrap ((mj : Nat) : Int) = (mj : Nat) := by rw [IntKind.wrap_i64]; omega
        have smt : ((mj : Nat) : Int) - (i : Int) = (t : Nat) := by omega
        have wt : IntKind.i64.wrap ((t : Nat) : Int) = (t : Nat) := by rw [IntKind.wrap_i64]; omega
        have sij : ((j : Nat) : Int) - (i : Int) = (d : Nat) := by omega
        have wd : IntKind.i64.wrap ((d : Nat) : Int) = (d : Nat) := by rw [IntKind.wrap_i64]; omega
        clear hi hj hx hy hd ht hmj
        go_wp2_with fail
        refine Calls.mono CL ?_
        rintro e w1 ⟨rfl, hr1, hk1⟩
        have R1 : Hid (Rb w1 g (P ++ F ++ y ++ x ++ u' ++ (E ++ Q)) rest) := hr1
        have K2 : Hid (Kp g wr w1) := hk1
        clear hr1 hk1
        go_wp2
        go_roundw
        case rel =>
          obtain ⟨d1, d2, d3⟩ := Hd.out
          obtain ⟨e1, e2⟩ := HXY.out
          have e3 := Hi.out
          have e4 := HFl.out
          refine ⟨F, y, x, u' ++ E, by rw [e2], by rw [e1], by intro h; rw [h] at e2; simp at e2; omega, by intro h; rw [h] at e1; simp at e1; omega, by rw [← HF.out]; simp, ?_, ?_, K1.out.trans K2.out⟩
          · omega
          · have h := R1.out
            simpa using h
        case measure => have := Hd.out; simp [intOf]; omega
end Go.Proofs.YteieikgkmfglaaaGreatDoor

