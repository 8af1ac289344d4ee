/- A world's ids rise: each is one unit's. Plain mathematics. · Moves: behind a move a world is right; what the events tell. Plain mathematics. · Ways: who flies gets there no later; a way's steps; two small fields. Plain mathematics. · MoveKeeps: the fact. Plain mathematics. · A fact's small world. · Worlds: the reference's Find. · MoveKeeps: right; the fact's answer. -/
import Derived.Test.YtplnhgllbhdfjaaDoorZMoveWishes5
import Derived.Test.YtplnhgllbhdfjaaDoorZMoveWishes4
import Derived.Test.YtplnhgllbhdfjaaDoorZMoveWishes6
import Derived.Test.YtplnhgllbhdfjaaDoorZMoveWishes2
import Derived.Test.YtplnhgllbhdfjaaDoorZMoveWishes7
import Derived.Test.YtplnhgllbhdfjaaDoorZMoveWishes3
import Derived.Deep.DeepCutAuto
import Derived.Test.YtplnhgllbhdfjaaDoorZMoveWishes9
namespace Go.Proofs.YtplnhgllbhdfjaaDoor
set_option linter.unusedVariables false

theorem ids_next {ks : List KV} {X : WV} (h : WRight ks X) {i : Nat} {a b : UnV} (ha : X.us[i]? = some a) (hb : X.us[i + 1]? = some b) : a.id < b.id := by
  obtain ⟨k, f⟩ := h.fine hb
  have := f.up
  simp only [Wd.notAbove, ha, decide_eq_false_iff_not] at this
  omega
theorem ids_rise {ks : List KV} {X : WV} (h : WRight ks X) : ∀ (d i : Nat) (a b : UnV), X.us[i]? = some a → X.us[i + d + 1]? = some b → a.id < b.id
  | 0, i, a, b, ha, hb => ids_next h ha hb
  | d + 1, i, a, b, ha, hb => by
    have hl : i + d + 1 < X.us.length := by have := (List.getElem?_eq_some_iff.1 hb).1; omega
    have h1 := ids_rise h d i a _ ha (List.getElem?_eq_getElem hl)
    have h2 := ids_next h (List.getElem?_eq_getElem hl) (show X.us[i + d + 1 + 1]? = some b from hb)
    omega
theorem id_one {ks : List KV} {X : WV} (h : WRight ks X) {i j : Nat} {a b : UnV} (ha : X.us[i]? = some a) (hb : X.us[j]? = some b) (e : a.id = b.id) : i = j := by
  rcases Nat.lt_trichotomy i j with hl | hl | hl
  · have := ids_rise h (j - i - 1) i a b ha (by rw [show i + (j - i - 1) + 1 = j by omega]; exact hb)
    omega
  · exact hl
  · have := ids_rise h (i - j - 1) j b a hb (by rw [show j + (i - j - 1) + 1 = i by omega]; exact ha)
    omega
theorem fst_is {ks : List KV} {X : WV} (h : WRight ks X) {n : Nat} {u : UnV} {id r : Int} (hu : X.us[n]? = some u) (hi : u.id = id) (hr : FstU (fun o => o.id == id) X.us r) : r = n := by
  rcases hr with ⟨-, hr⟩ | ⟨k, y, rfl, hk, hy, -⟩
  · have := List.any_eq_false.1 hr u (List.mem_of_getElem? hu)
    simp [hi] at this
  · have hyi : y.id = id := by simpa using hy
    rw [id_one h hk hu (by rw [hyi, hi])]
end Go.Proofs.YtplnhgllbhdfjaaDoor

namespace Go.Proofs.YtplnhgllbhdfjaaDoor
open Wy
set_option linter.unusedVariables false

/-- what a unit keeps. -/
structure Stat (u v : UnV) : Prop where
  id : v.id = u.id
  player : v.player = u.player
  kind : v.kind = u.kind
  life : v.life = u.life
  load : v.load = u.load
  todo : (v.task = u.task ∧ v.goal = u.goal) ∨ (v.task = 0 ∧ v.goal = 0)
  rest : u.task = 0 → v = u
/-- what holds of all units while they move. -/
structure MInv (ks : List KV) (X : WV) (Wn Hn : Nat) (us : List UnV) : Prop where
  len : us.length = X.us.length
  unit : ∀ (j : Nat) (v : UnV), us[j]? = some v → ∃ u k gg, X.us[j]? = some u ∧ Stat u v ∧ ks[v.kind.toNat]? = some k ∧ 0 ≤ v.at_ ∧ v.at_ < (Wn * Hn : Nat) ∧ X.gs[v.at_.toNat]? = some gg ∧ 0 < Fd.onto gg k.f
  dist : ∀ (i j : Nat) (a b : UnV), us[i]? = some a → us[j]? = some b → a.at_ = b.at_ → i = j
theorem open_parts {gs : List Int} {ahead : List UnV} {a : Int} {fl : Bool} (h : Wd.open_ gs ahead a fl = true) : 0 < Fd.onto (gs.getD a.toNat 0) fl ∧ ∀ u ∈ ahead, u.at_ ≠ a := by
  unfold Wd.open_ at h
  rw [Bool.and_eq_true] at h
  refine ⟨of_decide_eq_true h.1, fun u hu e => ?_⟩
  have h2 := h.2
  rw [Bool.not_eq_true', List.any_eq_false] at h2
  exact h2 u hu (by simp [e])
theorem minv_start {ks : List KV} {X : WV} {Wn Hn : Nat} (h : WRight ks X) (G : Fd.Good Wn Hn X.gs X.os) : MInv ks X Wn Hn X.us := by
  refine ⟨rfl, fun j v hv => ?_, ?_⟩
  · obtain ⟨k, f⟩ := h.fine hv
    have ha := f.at_
    have hgl := G.gl
    have hl : v.at_.toNat < X.gs.length := by omega
    refine ⟨v, k, X.gs[v.at_.toNat], hv, ⟨rfl, rfl, rfl, rfl, rfl, .inl ⟨rfl, rfl⟩, fun _ => rfl⟩, f.kk, ha.1, by rw [← G.gl]; exact ha.2, List.getElem?_eq_getElem hl, ?_⟩
    have := (open_parts f.opn).1
    rw [List.getD_eq_getElem?_getD, List.getElem?_eq_getElem hl] at this
    exact this
  · have key : ∀ (i j : Nat) (a b : UnV), i < j → X.us[i]? = some a → X.us[j]? = some b → a.at_ ≠ b.at_ := fun i j a b hij ha hb => by
      obtain ⟨k, f⟩ := h.fine hb
      exact (open_parts f.opn).2 a (List.mem_of_getElem? (by rw [List.getElem?_take, if_pos hij]; exact ha))
    intro i j a b ha hb e
    rcases Nat.lt_trichotomy i j with hl | hl | hl
    · exact absurd e (key i j a b hl ha hb)
    · exact hl
    · exact absurd e.symm (key j i b a hl hb ha)
theorem minv_set {ks : List KV} {X : WV} {Wn Hn : Nat} {us : List UnV} {i : Nat} {u v : UnV} (h : MInv ks X Wn Hn us) (hu : us[i]? = some u) (hs : ∀ u0, X.us[i]? = some u0 → Stat u0 u → Stat u0 v)
    (ha : (v.at_ = u.at_) ∨ (∃ k gg, ks[v.kind.toNat]? = some k ∧ 0 ≤ v.at_ ∧ v.at_ < (Wn * Hn : Nat) ∧ X.gs[v.at_.toNat]? = some gg ∧ 0 < Fd.onto gg k.f ∧ us.any (fun o => o.at_ == v.at_) = false)) (hk : v.kind = u.kind) : MInv ks X Wn Hn (us.set i v) := by
  have hil : i < us.length := (List.getElem?_eq_some_iff.1 hu).1
  refine ⟨by rw [List.length_set]; exact h.len, fun j x hx => ?_, fun a b p q hp hq e => ?_⟩
  · by_cases hij : i = j
    · subst hij
      rw [List.getElem?_set_self hil] at hx
      injection hx with hx
      subst hx
      obtain ⟨u0, k0, g0, h1, h2, h3, h4, h5, h6, h7⟩ := h.unit i u hu
      rcases ha with ha | ⟨k, gg, a1, a2, a3, a4, a5, -⟩
      · exact ⟨u0, k0, g0, h1, hs u0 h1 h2, by rw [hk]; exact h3, by rw [ha]; exact h4, by rw [ha]; exact h5, by rw [ha]; exact h6, h7⟩
      · exact ⟨u0, k, gg, h1, hs u0 h1 h2, a1, a2, a3, a4, a5⟩
    · rw [List.getElem?_set_ne hij] at hx
      exact h.unit j x hx
  · have other : ∀ (j : Nat) (o : UnV), i ≠ j → us[j]? = some o → o.at_ ≠ v.at_ := fun j o hne ho e => by
      rcases ha with ha | ⟨k, gg, -, -, -, -, -, a6⟩
      · exact hne (h.dist i j u o hu ho (by rw [← ha, e]))
      · have := List.any_eq_false.1 a6 o (List.mem_of_getElem? ho)
        simp [e] at this
    by_cases hia : i = a
    · by_cases hib : i = b
      · omega
      · rw [List.getElem?_set_ne hib] at hq
        subst hia
        rw [List.getElem?_set_self hil] at hp
        injection hp with hp
        subst hp
        exact absurd e.symm (other b q hib hq)
    · rw [List.getElem?_set_ne hia] at hp
      by_cases hib : i = b
      · subst hib
        rw [List.getElem?_set_self hil] at hq
        injection hq with hq
        subst hq
        exact absurd e (other a p hia hp)
      · rw [List.getElem?_set_ne hib] at hq
        exact h.dist a b p q hp hq e
theorem minv_goes {ks : List KV} {X : WV} {Wn Hn : Nat} {k : KV} {i : Nat} {us us' : List UnV} {left : Int} {cells : List Int} (G : Fd.Good Wn Hn X.gs X.os) (h : Goes ks X Wn Hn k i us left cells us') : ∀ u, us[i]? = some u → ks[u.kind.toNat]? = some k → MInv ks X Wn Hn us → MInv ks X Wn Hn us' := by
  induction h with
  | stop => intro u _ _ h; exact h
  | @step us us' left u0 c gg cells hu hw hg h1 h2 h3 ih =>
    intro u hu' hk hm
    rw [hu] at hu'
    injection hu' with hu'
    subst hu'
    have hil : i < us.length := (List.getElem?_eq_some_iff.1 hu).1
    have hne : u0.at_ ≠ (c : Nat) := by
      have := List.any_eq_false.1 h2 u0 (List.mem_of_getElem? hu)
      simpa using this
    have hcl : c < Wn * Hn := by rw [← G.gl]; exact (List.getElem?_eq_some_iff.1 hg).1
    refine ih { u0 with at_ := (c : Nat) } (List.getElem?_set_self hil) hk (minv_set hm hu (fun u1 _ hs => ?_) (.inr ⟨k, gg, hk, by show (0 : Int) ≤ (c : Nat); omega, by show ((c : Nat) : Int) < _; omega, by show X.gs[((c : Nat) : Int).toNat]? = some gg; rw [Int.toNat_natCast]; exact hg, wish_pos hw hg hne, h2⟩) rfl)
    refine ⟨hs.id, hs.player, hs.kind, hs.life, hs.load, hs.todo, fun ht => ?_⟩
    have hr : u0.task = 0 := by rw [hs.rest ht]; exact ht
    exact absurd (wish_rest hw hr) hne
theorem goes_len {ks : List KV} {X : WV} {Wn Hn : Nat} {k : KV} {i : Nat} {us us' : List UnV} {left : Int} {cells : List Int} (h : Goes ks X Wn Hn k i us left cells us') : ∀ u, us[i]? = some u → ∃ v, us'[i]? = some v ∧ v.id = u.id ∧ v.kind = u.kind := by
  induction h with
  | stop => intro u hu; exact ⟨u, hu, rfl, rfl⟩
  | @step us us' left u0 c gg cells hu hw hg h1 h2 h3 ih =>
    intro u hu'
    rw [hu] at hu'
    injection hu' with hu'
    subst hu'
    exact ih { u0 with at_ := (c : Nat) } (List.getElem?_set_self (List.getElem?_eq_some_iff.1 hu).1)
theorem ends_stat {u v : UnV} (h : Stat u v) : Stat u (ends v) := by
  unfold ends
  split
  · rename_i hc
    refine ⟨h.id, h.player, h.kind, h.life, h.load, .inr ⟨rfl, rfl⟩, fun ht => ?_⟩
    have := h.rest ht
    rw [this, ht] at hc
    exact absurd hc.1 (by decide)
  · exact h
theorem ends_at (u : UnV) : (ends u).at_ = u.at_ ∧ (ends u).kind = u.kind := by
  unfold ends
  split <;> exact ⟨rfl, rfl⟩
theorem minv_moves {ks : List KV} {X : WV} {Wn Hn : Nat} {n : Nat} {us us' : List UnV} {evs : List EvV} (G : Fd.Good Wn Hn X.gs X.os) (h : Moves ks X Wn Hn n us evs us') : MInv ks X Wn Hn us → MInv ks X Wn Hn us' := by
  induction h with
  | done h => intro hm; exact hm
  | unit hu hk hg h1 hm ih =>
    intro hi
    have h2 := minv_goes G hg _ hu hk hi
    exact ih (minv_set h2 h1 (fun u0 _ hs => ends_stat hs) (.inl (ends_at _).1) (ends_at _).2)
theorem minv_right {ks : List KV} {X : WV} {Wn Hn : Nat} {us : List UnV} (h : WRight ks X) (G : Fd.Good Wn Hn X.gs X.os) (e1 : X.wide = (Wn : Nat)) (e2 : X.high = (Hn : Nat)) (hm : MInv ks X Wn Hn us) : Wd.wfault ks { X with us := us } = 0 := by
  have hgp : 0 < X.gs.length := by rw [G.gl]; exact Nat.mul_pos G.w1 G.h1
  refine Wd.wfault_zero h.kinds (by show Fd.fault X.wide X.high X.gs X.os = 0; rw [e1, e2]; exact Fd.fault_good G) h.nums (by show us.length ≤ 40; rw [hm.len]; exact h.ul) ?_ h.ql ?_
  · intro i v hv
    have hv' : us[i]? = some v := hv
    obtain ⟨u, k, gg, hu, hs, hk, ha0, ha1, hgg, hon⟩ := hm.unit i v hv'
    obtain ⟨k0, f⟩ := h.fine hu
    obtain rfl : k0 = k := by
      have := f.kk
      rw [← hs.kind, hk] at this
      injection this with this
      exact this.symm
    refine ⟨k0, by rw [hs.id]; exact f.id1, by rw [hs.id]; exact f.id2, ?_, by rw [hs.player]; exact f.p, by rw [hs.kind]; exact f.k0, hk, by rw [hs.life]; exact f.life, by rw [hs.load]; exact f.load, ?_, ⟨ha0, by show v.at_ < (X.gs.length : Int); rw [G.gl]; exact ha1⟩, ?_, ?_, ?_⟩
    · show Wd.notAbove us i v = false
      have hup := f.up
      cases i with
      | zero => rfl
      | succ i =>
        simp only [Wd.notAbove] at hup ⊢
        cases hx : us[i]? with
        | none => rfl
        | some x =>
          obtain ⟨x0, -, -, hx0, hsx, -⟩ := hm.unit i x hx
          rw [hx0] at hup
          show decide (v.id ≤ x.id) = false
          rw [hs.id, hsx.id]
          exact hup
    · rcases hs.todo with ⟨t1, -⟩ | ⟨t1, -⟩
      · rw [t1]; exact f.task
      · rw [t1]; exact ⟨Int.le_refl _, by decide⟩
    · show 0 ≤ v.goal ∧ v.goal < (X.gs.length : Int)
      rcases hs.todo with ⟨-, t1⟩ | ⟨-, t1⟩
      · rw [t1]; exact f.goal
      · rw [t1]; exact ⟨Int.le_refl _, Int.ofNat_lt.2 hgp⟩
    · show Wd.open_ X.gs (us.take i) v.at_ k0.f = true
      unfold Wd.open_
      rw [Bool.and_eq_true]
      refine ⟨decide_eq_true (by rw [List.getD_eq_getElem?_getD, hgg]; exact hon), ?_⟩
      rw [Bool.not_eq_true', List.any_eq_false]
      intro p hp e
      obtain ⟨j, hj⟩ := List.mem_iff_getElem?.1 hp
      have hjl : j < i := by
        have := (List.getElem?_eq_some_iff.1 hj).1
        rw [List.length_take] at this
        omega
      rw [List.getElem?_take, if_pos hjl] at hj
      have := hm.dist j i p v hj hv' (by simpa using e)
      omega
    · rcases hs.todo with ⟨t1, t2⟩ | ⟨-, t2⟩
      · rw [t1, t2]; exact f.rest
      · exact .inl t2
  · intro j hj
    have hx := h.job hj
    cases hf : X.us.find? (fun u => u.id == j.unit) with
    | none =>
      unfold Wd.jobFault at hx
      rw [hf] at hx
      cases hx
    | some u1 =>
      have hm1 := List.mem_of_find?_eq_some hf
      have hi1 : u1.id = j.unit := by simpa using List.find?_some hf
      obtain ⟨j1, hj1⟩ := List.mem_iff_getElem?.1 hm1
      have hl1 : j1 < us.length := by rw [hm.len]; exact (List.getElem?_eq_some_iff.1 hj1).1
      obtain ⟨v1, hv1⟩ : ∃ v, us[j1]? = some v := ⟨_, List.getElem?_eq_getElem hl1⟩
      obtain ⟨x1, -, -, hx1, hs1, -⟩ := hm.unit j1 v1 hv1
      rw [hj1] at hx1
      injection hx1 with hx1
      subst hx1
      have hsome : (us.find? (fun u => u.id == j.unit)).isSome = true := List.find?_isSome.2 ⟨v1, List.mem_of_getElem? hv1, by simp [hs1.id, hi1]⟩
      obtain ⟨y0, hy0⟩ := Option.isSome_iff_exists.1 hsome
      obtain ⟨j0, hj0⟩ := List.mem_iff_getElem?.1 (List.mem_of_find?_eq_some hy0)
      have hi0 : y0.id = j.unit := by simpa using List.find?_some hy0
      obtain ⟨x0, -, -, hx0, hs0, -⟩ := hm.unit j0 y0 hj0
      have := id_one h hx0 hj1 (by rw [← hs0.id, hi0, hi1])
      subst this
      rw [hx0] at hj1
      injection hj1 with hj1
      subst hj1
      unfold Wd.jobFault at hx ⊢
      rw [hf] at hx
      have hy1 : ({ X with us := us } : WV).us.find? (fun u => u.id == j.unit) = some y0 := hy0
      rw [hy1]
      simp only [hs0.kind, hs0.player]
      exact hx

/-- the events, one behind the other: what is left, where all are. -/
inductive Track (ks : List KV) (X : WV) (Wn Hn : Nat) : List Int → List Int → List EvV → List Int → Prop where
  | nil {l a : List Int} : Track ks X Wn Hn l a [] a
  | cons {l a a' : List Int} {e : EvV} {evs : List EvV} {n an c : Nat} {u : UnV} {k : KV} {gg ln : Int} (hu : X.us[n]? = some u) (hi : u.id = e.unit) (hw : e.what = 1) (hk : ks[u.kind.toNat]? = some k) (ha : a[n]? = some (an : Int)) (han : an < Wn * Hn) (he : e.arg = (c : Nat)) (hn : (c : Int) ∈ Fd.near Wn Hn an) (hg : X.gs[c]? = some gg) (hs : 1 ≤ Fd.onto gg k.f) (hl : l[n]? = some ln) (h0 : 0 ≤ ln - Fd.onto gg k.f ∧ ln ≤ 4) (h : Track ks X Wn Hn (l.set n (ln - Fd.onto gg k.f)) (a.set n (c : Nat)) evs a') : Track ks X Wn Hn l a (e :: evs) a'
theorem wish_near {ks : List KV} {X : WV} {Wn Hn : Nat} {u : UnV} {k : KV} {c : Nat} (h : WishSays ks X Wn Hn u k c) (hc : u.at_ ≠ (c : Nat)) : (c : Int) ∈ Fd.near Wn Hn u.at_.toNat := by
  obtain ⟨an, bn, l, ha, -, -, -, hh⟩ := h
  rw [ha, Int.toNat_natCast]
  rcases hh with ⟨-, rfl⟩ | ⟨-, h⟩
  · exact absurd ha hc
  · rcases h with ⟨-, rfl⟩ | ⟨-, h⟩
    · exact absurd ha hc
    · exact h.is.1
theorem map_at_set {us : List UnV} {i : Nat} {u : UnV} {c : Int} : (us.set i { u with at_ := c }).map UnV.at_ = (us.map UnV.at_).set i c := by
  rw [List.map_set]
theorem goes_track {ks : List KV} {X : WV} {Wn Hn : Nat} {k : KV} {i : Nat} {us us' : List UnV} {left : Int} {cells : List Int} (G : Fd.Good Wn Hn X.gs X.os) (h : Goes ks X Wn Hn k i us left cells us') : ∀ (u : UnV) (l : List Int) (evs : List EvV) (a' : List Int), us[i]? = some u → ks[u.kind.toNat]? = some k → MInv ks X Wn Hn us → l[i]? = some left → left ≤ 4 → (∀ x, Track ks X Wn Hn (l.set i x) (us'.map UnV.at_) evs a') → Track ks X Wn Hn l (us.map UnV.at_) (cells.map (fun c => (⟨1, u.id, c⟩ : EvV)) ++ evs) a' := by
  induction h with
  | @stop us left u c gg hu hw hg h =>
    intro u l evs a' hu hk hm hl h4 ht
    have := ht left
    rw [show l.set i left = l by
      obtain ⟨h2, h3⟩ := List.getElem?_eq_some_iff.1 hl
      rw [← h3, List.set_getElem_self]] at this
    exact this
  | @step us us' left u0 c gg cells hu hw hg h1 h2 h3 ih =>
    intro u l evs a' hu' hk hm hl h4 ht
    rw [hu] at hu'
    injection hu' with hu'
    subst hu'
    have hil : i < us.length := (List.getElem?_eq_some_iff.1 hu).1
    have hll : i < l.length := (List.getElem?_eq_some_iff.1 hl).1
    have hne : u0.at_ ≠ (c : Nat) := by
      have := List.any_eq_false.1 h2 u0 (List.mem_of_getElem? hu)
      simpa using this
    have hpos := wish_pos hw hg hne
    obtain ⟨x0, k0, g0, hx0, hs0, hk0, ha0, ha1, -, -⟩ := hm.unit i u0 hu
    have hm2 : MInv ks X Wn Hn (us.set i { u0 with at_ := (c : Nat) }) := by
      have hcl : c < Wn * Hn := by rw [← G.gl]; exact (List.getElem?_eq_some_iff.1 hg).1
      refine minv_set hm hu (fun u1 _ hs => ?_) (.inr ⟨k, gg, hk, by show (0 : Int) ≤ (c : Nat); omega, by show ((c : Nat) : Int) < _; omega, by show X.gs[((c : Nat) : Int).toNat]? = some gg; rw [Int.toNat_natCast]; exact hg, hpos, h2⟩) rfl
      refine ⟨hs.id, hs.player, hs.kind, hs.life, hs.load, hs.todo, fun ht => ?_⟩
      have hr : u0.task = 0 := by rw [hs.rest ht]; exact ht
      exact absurd (wish_rest hw hr) hne
    have hr := ih { u0 with at_ := (c : Nat) } (l.set i (left - Fd.onto gg k.f)) evs a' (List.getElem?_set_self hil) hk hm2 (List.getElem?_set_self hll) (by omega) (fun x => by rw [List.set_set]; exact ht x)
    rw [map_at_set] at hr
    have han : u0.at_.toNat < Wn * Hn := by omega
    refine .cons (e := ⟨1, u0.id, (c : Nat)⟩) (n := i) (an := u0.at_.toNat) (c := c) (u := x0) (k := k) (gg := gg) (ln := left) hx0 hs0.id.symm rfl (by rw [← hs0.kind]; exact hk) ?_ han rfl (wish_near hw hne) hg (by omega) hl ⟨by omega, h4⟩ hr
    rw [List.getElem?_map, hu]
    show some u0.at_ = some ((u0.at_.toNat : Nat) : Int)
    rw [Int.toNat_of_nonneg ha0]
/-- how far a unit gets. -/
def spdOf (ks : List KV) (u : UnV) : Int := match ks[u.kind.toNat]? with
  | none => 0
  | some k => k.n4
theorem moves_track {ks : List KV} {X : WV} {Wn Hn : Nat} {n : Nat} {us us' : List UnV} {evs : List EvV} (G : Fd.Good Wn Hn X.gs X.os) (hkn : Kd.kindsFault (ks.map KV.k) = 0) (h : Moves ks X Wn Hn n us evs us') : ∀ (l : List Int), MInv ks X Wn Hn us → l.length = us.length → (∀ (j : Nat) (u : UnV), n ≤ j → us[j]? = some u → l[j]? = some (spdOf ks u)) → Track ks X Wn Hn l (us.map UnV.at_) evs (us'.map UnV.at_) := by
  induction h with
  | done h => intro l _ _ _; exact .nil
  | @unit n us us1 us' u u1 k cells evs hu hk hg h1 hm ih =>
    intro l hi hl hs
    have hln := hs n u (Nat.le_refl _) hu
    have hsp : spdOf ks u = k.n4 := by unfold spdOf; rw [hk]
    rw [hsp] at hln
    have hm1 := minv_goes G hg _ hu hk hi
    have hm2 := minv_set hm1 h1 (fun u0 _ hs => ends_stat hs) (.inl (ends_at u1).1) (ends_at u1).2
    have hnum := kind_nums hkn (List.mem_of_getElem? hk)
    refine goes_track G hg u l evs _ hu hk hi hln (by omega) (fun x => ?_)
    have hself : (us1.set n (ends u1)).map UnV.at_ = us1.map UnV.at_ := by
      rw [List.map_set, (ends_at u1).1]
      apply List.ext_getElem?
      intro j
      by_cases hj : n = j
      · subst hj
        rw [List.getElem?_set_self (by rw [List.length_map]; exact (List.getElem?_eq_some_iff.1 h1).1), List.getElem?_map, h1]
        rfl
      · rw [List.getElem?_set_ne hj]
    have := ih (l.set n x) hm2 (by rw [List.length_set, List.length_set, hl, hi.len, hm1.len]) (fun j v hj hv => ?_)
    · rw [hself] at this
      exact this
    · have hnj : n ≠ j := by omega
      rw [List.getElem?_set_ne hnj] at hv ⊢
      obtain ⟨x0, -, -, hx0, hs0, -⟩ := hm1.unit j v hv
      have hjl : j < us.length := by rw [hi.len]; exact (List.getElem?_eq_some_iff.1 hx0).1
      obtain ⟨v0, hv0⟩ : ∃ v, us[j]? = some v := ⟨_, List.getElem?_eq_getElem hjl⟩
      obtain ⟨x0', -, -, hx0', hs0', -⟩ := hi.unit j v0 hv0
      rw [hx0] at hx0'
      injection hx0' with hx0'
      subst hx0'
      rw [hs j v0 (by omega) hv0]
      unfold spdOf
      rw [hs0.kind, hs0'.kind]
end Go.Proofs.YtplnhgllbhdfjaaDoor

namespace Go.Proofs.YtplnhgllbhdfjaaDoor.Wy

theorem onto_air {g : Int} {fl : Bool} (h : 0 < Fd.onto g fl) : 0 < Fd.onto g true ∧ Fd.onto g true ≤ Fd.onto g fl := by
  unfold Fd.onto at *
  by_cases h1 : g = 1
  · simp [h1] at h
  · by_cases h2 : g = 2
    · cases fl
      · simp [h2] at h
      · simp [h2]
    · by_cases h3 : g = 3
      · cases fl
        · simp [h3]
        · simp [h3]
      · simp [h1, h2, h3]
theorem ss_air {gs : List Int} {fl : Bool} {j : Nat} (h : 0 < (gs.map fun g => Fd.onto g fl).getD j 0) : 0 < (gs.map fun g => Fd.onto g true).getD j 0 ∧ (gs.map fun g => Fd.onto g true).getD j 0 ≤ (gs.map fun g => Fd.onto g fl).getD j 0 := by
  rw [List.getD_eq_getElem?_getD, List.getElem?_map] at *
  rw [List.getD_eq_getElem?_getD, List.getElem?_map]
  cases hg : gs[j]? with
  | none => rw [hg] at h; simp at h
  | some g => rw [hg] at h; exact onto_air h
theorem way_air {nb : Nat → List Int} {gs : List Int} {fl : Bool} {t i : Nat} {d : Int} (h : Way nb (fun _ j => (gs.map fun g => Fd.onto g fl).getD j 0) t i d) : ∃ d', d' ≤ d ∧ Way nb (fun _ j => (gs.map fun g => Fd.onto g true).getD j 0) t i d' := by
  induction h with
  | here => exact ⟨0, by omega, .here⟩
  | @step i j d h1 h2 h3 ih =>
    obtain ⟨d', hd, hw⟩ := ih
    have k := ss_air h2
    exact ⟨_, by omega, .step h1 k.1 hw⟩
theorem least_get {nb : Nat → List Int} {st : Nat → Nat → Int} {t n i : Nat} {l : List Int} (h : IsFar nb st t n l) (hi : i < n) : Least nb st t i (l.getD i 0) := by
  have e : l[i]? = some (l.getD i 0) := by rw [List.getD_eq_getElem?_getD, List.getElem?_eq_getElem (by rw [h.1]; exact hi)]; rfl
  exact h.2 i _ e
theorem far_air {nb : Nat → List Int} {gs : List Int} {fl : Bool} {t n i : Nat} {l l' : List Int} (h : IsFar nb (fun _ j => (gs.map fun g => Fd.onto g fl).getD j 0) t n l) (h' : IsFar nb (fun _ j => (gs.map fun g => Fd.onto g true).getD j 0) t n l') (hi : i < n) (h0 : 0 ≤ l.getD i 0) : 0 ≤ l'.getD i 0 ∧ l'.getD i 0 ≤ l.getD i 0 := by
  rcases least_get h hi with ⟨e, _⟩ | ⟨hw, _⟩
  · omega
  · obtain ⟨d', hd, hw'⟩ := way_air hw
    rcases least_get h' hi with ⟨_, k⟩ | ⟨k1, k2⟩
    · exact absurd hw' (k _)
    · have := k2 _ hw'
      have := k1.nonneg
      omega

/-- two cells of a way, one behind the other. -/
theorem Pth.two {nb : Nat → List Int} {ss l : List Int} {t i : Nat} {p : List Int} (h : Pth nb ss l t i p) : ∀ k, k + 1 < p.length → ∃ x y : Nat, p[k]? = some (x : Int) ∧ p[k + 1]? = some (y : Int) ∧ Nx nb ss l x y := by
  induction h with
  | here => intro k hk; simp at hk
  | @step i j p h1 h2 h3 ih =>
    intro k hk
    cases k with
    | zero => exact ⟨i, j, rfl, by simpa using h3.head, h2⟩
    | succ k =>
      obtain ⟨x, y, a1, a2, a3⟩ := ih k (by simpa using hk)
      exact ⟨x, y, by simpa using a1, by simpa using a2, a3⟩
theorem Pth.pos {nb : Nat → List Int} {ss l : List Int} {t i : Nat} {p : List Int} (h : Pth nb ss l t i p) : 0 < p.length := by
  cases h <;> simp
/-- all cells of a way are cells. -/
theorem Pth.cells {nb : Nat → List Int} {ss l : List Int} {t i n : Nat} {p : List Int} (hn : ∀ (i j : Nat), i < n → (j : Int) ∈ nb i → j < n) (h : Pth nb ss l t i p) (hi : i < n) : ∀ (k : Nat) (x : Int), p[k]? = some x → ∃ y : Nat, x = y ∧ y < n := by
  induction h with
  | here =>
    intro k x hx
    cases k with
    | zero => simp at hx; exact ⟨t, hx.symm, hi⟩
    | succ k => simp at hx
  | @step i j p h1 h2 h3 ih =>
    intro k x hx
    cases k with
    | zero => simp at hx; exact ⟨i, hx.symm, hi⟩
    | succ k => exact ih (hn i j hi h2.is.1) k x (by simpa using hx)

/-! two small fields. -/
/-- Shut, asked of a list. -/
def chk (nb : Nat → List Int) (st : Nat → Nat → Int) (l : List Int) (n : Nat) : Bool := (List.range n).all fun i => (nb i).all fun x => decide (¬ (0 < st i x.toNat ∧ 0 ≤ l.getD x.toNat 0) ∨ (0 ≤ l.getD i 0 ∧ l.getD i 0 ≤ st i x.toNat + l.getD x.toNat 0))
theorem chk_shut {nb : Nat → List Int} {st : Nat → Nat → Int} {l : List Int} {n : Nat} (h : chk nb st l n = true) : ∀ i, i < n → Shut nb st l i := by
  intro i hi j x y hx hy hj h0 y0
  unfold chk at h
  rw [List.all_eq_true] at h
  have h1 := h i (List.mem_range.2 hi)
  rw [List.all_eq_true] at h1
  have h2 := of_decide_eq_true (h1 j hj)
  rw [Int.toNat_natCast, getD_of hx, getD_of hy] at h2
  rcases h2 with h2 | h2
  · exact absurd ⟨h0, y0⟩ h2
  · exact h2

def s6 : Nat → Nat → Int := fun _ j => (([0, 1, 0, 0, 3, 0] : List Int).map fun g => Fd.onto g false).getD j 0
theorem six : IsFar (Fd.near 3 2) s6 2 6 [5, 1, 0, 4, 2, 1] := by
  have w2 : Way (Fd.near 3 2) s6 2 2 0 := .here
  have w5 : Way (Fd.near 3 2) s6 2 5 1 := Way.step (nb := Fd.near 3 2) (st := s6) (i := 5) (j := 2) (by decide) (by decide) w2
  have w1 : Way (Fd.near 3 2) s6 2 1 1 := Way.step (nb := Fd.near 3 2) (st := s6) (i := 1) (j := 2) (by decide) (by decide) w2
  have w4 : Way (Fd.near 3 2) s6 2 4 2 := Way.step (nb := Fd.near 3 2) (st := s6) (i := 4) (j := 5) (by decide) (by decide) w5
  have w3 : Way (Fd.near 3 2) s6 2 3 4 := Way.step (nb := Fd.near 3 2) (st := s6) (i := 3) (j := 4) (by decide) (by decide) w4
  have w0 : Way (Fd.near 3 2) s6 2 0 5 := Way.step (nb := Fd.near 3 2) (st := s6) (i := 0) (j := 3) (by decide) (by decide) w3
  refine far_of rfl ?_ rfl ?_ (chk_shut (by decide))
  · intro i j hi hj
    obtain ⟨t, h1, h2, -⟩ := Fd.near_cell (W := 3) (H := 2) (by decide) hi hj
    omega
  · intro i x hx
    match i, hx with
    | 0, hx => simp at hx; subst hx; exact .inr w0
    | 1, hx => simp at hx; subst hx; exact .inr w1
    | 2, hx => simp at hx; subst hx; exact .inr w2
    | 3, hx => simp at hx; subst hx; exact .inr w3
    | 4, hx => simp at hx; subst hx; exact .inr w4
    | 5, hx => simp at hx; subst hx; exact .inr w5
    | i + 6, hx => simp at hx
def s3 : Nat → Nat → Int := fun i _ => (([0, 3, 0] : List Int).map fun g => Fd.onto g false).getD i 0
theorem three : IsFar (Fd.near 3 1) s3 0 3 [0, 2, 3] := by
  have w0 : Way (Fd.near 3 1) s3 0 0 0 := .here
  have w1 : Way (Fd.near 3 1) s3 0 1 2 := Way.step (nb := Fd.near 3 1) (st := s3) (i := 1) (j := 0) (by decide) (by decide) w0
  have w2 : Way (Fd.near 3 1) s3 0 2 3 := Way.step (nb := Fd.near 3 1) (st := s3) (i := 2) (j := 1) (by decide) (by decide) w1
  refine far_of rfl ?_ rfl ?_ (chk_shut (by decide))
  · intro i j hi hj
    obtain ⟨t, h1, h2, -⟩ := Fd.near_cell (W := 3) (H := 1) (by decide) hi hj
    omega
  · intro i x hx
    match i, hx with
    | 0, hx => simp at hx; subst hx; exact .inr w0
    | 1, hx => simp at hx; subst hx; exact .inr w1
    | 2, hx => simp at hx; subst hx; exact .inr w2
    | i + 3, hx => simp at hx
end Go.Proofs.YtplnhgllbhdfjaaDoor.Wy

namespace Go.Proofs.YtplnhgllbhdfjaaDoor
open Wy
set_option linter.unusedVariables false

def t8 : Nat → Nat → Int := fun _ j => (SG.map fun g => Fd.onto g false).getD j 0
theorem two8 : IsFar (Fd.near 4 2) t8 2 8 [2, 1, 0, 1, 3, 2, 1, 2] := by
  have w2 : Wy.Way (Fd.near 4 2) t8 2 2 0 := .here
  have w1 : Wy.Way (Fd.near 4 2) t8 2 1 1 := Wy.Way.step (nb := Fd.near 4 2) (st := t8) (i := 1) (j := 2) (by decide) (by decide) w2
  have w3 : Wy.Way (Fd.near 4 2) t8 2 3 1 := Wy.Way.step (nb := Fd.near 4 2) (st := t8) (i := 3) (j := 2) (by decide) (by decide) w2
  have w6 : Wy.Way (Fd.near 4 2) t8 2 6 1 := Wy.Way.step (nb := Fd.near 4 2) (st := t8) (i := 6) (j := 2) (by decide) (by decide) w2
  have w0 : Wy.Way (Fd.near 4 2) t8 2 0 2 := Wy.Way.step (nb := Fd.near 4 2) (st := t8) (i := 0) (j := 1) (by decide) (by decide) w1
  have w5 : Wy.Way (Fd.near 4 2) t8 2 5 2 := Wy.Way.step (nb := Fd.near 4 2) (st := t8) (i := 5) (j := 1) (by decide) (by decide) w1
  have w7 : Wy.Way (Fd.near 4 2) t8 2 7 2 := Wy.Way.step (nb := Fd.near 4 2) (st := t8) (i := 7) (j := 3) (by decide) (by decide) w3
  have w4 : Wy.Way (Fd.near 4 2) t8 2 4 3 := Wy.Way.step (nb := Fd.near 4 2) (st := t8) (i := 4) (j := 0) (by decide) (by decide) w0
  refine far_of rfl ?_ rfl ?_ (chk_shut (by decide))
  · intro i j hi hj
    obtain ⟨t, h1, h2, -⟩ := Fd.near_cell (W := 4) (H := 2) (by decide) hi hj
    omega
  · intro i x hx
    refine .inr ?_
    match i, hx with
    | 0, hx => simp at hx; subst hx; exact w0
    | 1, hx => simp at hx; subst hx; exact w1
    | 2, hx => simp at hx; subst hx; exact w2
    | 3, hx => simp at hx; subst hx; exact w3
    | 4, hx => simp at hx; subst hx; exact w4
    | 5, hx => simp at hx; subst hx; exact w5
    | 6, hx => simp at hx; subst hx; exact w6
    | 7, hx => simp at hx; subst hx; exact w7
/-- the small world, a fighter that marches. -/
def SQ : WV := ⟨0, 4, 4, 2, SG, SO, [100, 100], [⟨1, 0, 0, 0, 50, 0, 0, 0⟩, ⟨2, 0, 1, 1, 10, 0, 0, 0⟩, ⟨3, 1, 2, 3, 20, 0, 1, 2⟩], []⟩
def SK2 : KV := ⟨⟨#[102, 105, 103, 104, 116, 101, 114]⟩, 20, 4, 1, 4, 2, 20, 3, 0, false, false⟩
theorem sq_fault : Wd.wfault SK SQ = 0 := by decide +kernel
theorem moves_inv {ks : List KV} {X : WV} {Wn Hn : Nat} {n : Nat} {us us' : List UnV} {evs : List EvV} (h : Moves ks X Wn Hn n us evs us') : (n = us.length ∧ evs = [] ∧ us' = us) ∨ ∃ u k cells us1 u1 evs1, us[n]? = some u ∧ ks[u.kind.toNat]? = some k ∧ Goes ks X Wn Hn k n us k.n4 cells us1 ∧ us1[n]? = some u1 ∧ Moves ks X Wn Hn (n + 1) (us1.set n (ends u1)) evs1 us' ∧ evs = cells.map (fun c => (⟨1, u.id, c⟩ : EvV)) ++ evs1 := by
  cases h with
  | done h => exact .inl ⟨h, rfl, rfl⟩
  | unit hu hk hg h1 hm => exact .inr ⟨_, _, _, _, _, _, hu, hk, hg, h1, hm, rfl⟩
theorem goes_inv {ks : List KV} {X : WV} {Wn Hn : Nat} {k : KV} {i : Nat} {us us' : List UnV} {left : Int} {cells : List Int} (h : Goes ks X Wn Hn k i us left cells us') : ∃ u c gg, us[i]? = some u ∧ WishSays ks { X with us := us } Wn Hn u k c ∧ X.gs[c]? = some gg ∧ ((cells = [] ∧ us' = us ∧ (left < Fd.onto gg k.f ∨ us.any (fun o => o.at_ == (c : Int)) = true)) ∨ (∃ cells1, us.any (fun o => o.at_ == (c : Int)) = false ∧ Goes ks X Wn Hn k i (us.set i { u with at_ := (c : Nat) }) (left - Fd.onto gg k.f) cells1 us' ∧ cells = (c : Int) :: cells1)) := by
  cases h with
  | stop hu hw hg h => exact ⟨_, _, _, hu, hw, hg, .inl ⟨rfl, rfl, h⟩⟩
  | step hu hw hg h1 h2 h3 => exact ⟨_, _, _, hu, hw, hg, .inr ⟨_, h2, h3, rfl⟩⟩
/-- where a fighter that marches to 2 wishes. -/
theorem sq_wish {us : List UnV} {a : Nat} {c : Nat} (h : WishSays SK { SQ with us := us } 4 2 ⟨3, 1, 2, (a : Nat), 20, 0, 1, 2⟩ SK2 c) (ha : a = 3 ∨ a = 2) : c = 2 := by
  obtain ⟨an, bn, l, h1, haim, -, hl, hh⟩ := h
  have h1' : ((a : Nat) : Int) = (an : Nat) := h1
  obtain rfl : a = an := by omega
  have hb : (bn : Int) = 2 := by
    rcases haim with ⟨h, -⟩ | ⟨-, -, h⟩ | ⟨h, -⟩
    · cases h
    · exact h
    · cases h
  obtain rfl : bn = 2 := by omega
  obtain rfl : l = [2, 1, 0, 1, 3, 2, 1, 2] := IsFar.uniq (nb := Fd.near 4 2) (st := t8) hl.1 two8
  rcases ha with rfl | rfl
  · rcases hh with ⟨h, -⟩ | ⟨-, h⟩
    · exact absurd h (by decide)
    · rcases h with ⟨h, -⟩ | ⟨-, h⟩
      · cases h
      · have hx : Nx (Fd.near 4 2) (SG.map fun g => Fd.onto g false) [2, 1, 0, 1, 3, 2, 1, 2] 3 2 := ⟨0, by decide, by decide, by decide⟩
        exact Nx.uniq h hx
  · rcases hh with ⟨h, -⟩ | ⟨-, h⟩
    · exact absurd h (by decide)
    · rcases h with ⟨-, h⟩ | ⟨h, -⟩
      · exact h
      · exact absurd rfl h
theorem sq_moves {evs : List EvV} {us' : List UnV} (h : Moves SK SQ 4 2 0 SQ.us evs us') : evs.length = 1 ∧ us' = [⟨1, 0, 0, 0, 50, 0, 0, 0⟩, ⟨2, 0, 1, 1, 10, 0, 0, 0⟩, ⟨3, 1, 2, 2, 20, 0, 0, 0⟩] := by
  rcases moves_inv h with ⟨h, -⟩ | ⟨u, k, cells, us1, u1, evs1, hu, hk, hg, h1, hm, rfl⟩
  · cases h
  obtain rfl : (⟨1, 0, 0, 0, 50, 0, 0, 0⟩ : UnV) = u := Option.some.inj hu
  obtain ⟨rfl, rfl⟩ := goes_rest hu rfl hg
  obtain rfl : (⟨1, 0, 0, 0, 50, 0, 0, 0⟩ : UnV) = u1 := Option.some.inj h1
  have hm' : Moves SK SQ 4 2 1 SQ.us evs1 us' := hm
  rcases moves_inv hm' with ⟨h, -⟩ | ⟨u, k, cells, us1, u1, evs2, hu, hk, hg, h1, hm, rfl⟩
  · cases h
  obtain rfl : (⟨2, 0, 1, 1, 10, 0, 0, 0⟩ : UnV) = u := Option.some.inj hu
  obtain ⟨rfl, rfl⟩ := goes_rest hu rfl hg
  obtain rfl : (⟨2, 0, 1, 1, 10, 0, 0, 0⟩ : UnV) = u1 := Option.some.inj h1
  have hm' : Moves SK SQ 4 2 2 SQ.us evs2 us' := hm
  rcases moves_inv hm' with ⟨h, -⟩ | ⟨u, k, cells, us1, u1, evs3, hu, hk, hg, h1, hm, rfl⟩
  · cases h
  obtain rfl : (⟨3, 1, 2, 3, 20, 0, 1, 2⟩ : UnV) = u := Option.some.inj hu
  obtain rfl : SK2 = k := Option.some.inj hk
  obtain ⟨u, c, gg, hu, hw, hgg, hc⟩ := goes_inv hg
  obtain rfl : (⟨3, 1, 2, 3, 20, 0, 1, 2⟩ : UnV) = u := Option.some.inj hu
  obtain rfl : c = 2 := sq_wish (a := 3) hw (.inl rfl)
  obtain rfl : (0 : Int) = gg := Option.some.inj hgg
  rcases hc with ⟨-, -, h | h⟩ | ⟨cells1, -, hg2, rfl⟩
  · exact absurd h (by decide)
  · exact absurd h (by decide)
  have hg3 : Goes SK SQ 4 2 SK2 2 [⟨1, 0, 0, 0, 50, 0, 0, 0⟩, ⟨2, 0, 1, 1, 10, 0, 0, 0⟩, ⟨3, 1, 2, 2, 20, 0, 1, 2⟩] 1 cells1 us1 := hg2
  obtain ⟨u, c, gg, hu, hw, hgg, hc⟩ := goes_inv hg3
  obtain rfl : (⟨3, 1, 2, 2, 20, 0, 1, 2⟩ : UnV) = u := Option.some.inj hu
  obtain rfl : c = 2 := sq_wish (a := 2) hw (.inr rfl)
  rcases hc with ⟨rfl, rfl, -⟩ | ⟨cells2, h, -⟩
  · obtain rfl : (⟨3, 1, 2, 2, 20, 0, 1, 2⟩ : UnV) = u1 := Option.some.inj h1
    have hm' : Moves SK SQ 4 2 3 [⟨1, 0, 0, 0, 50, 0, 0, 0⟩, ⟨2, 0, 1, 1, 10, 0, 0, 0⟩, ⟨3, 1, 2, 2, 20, 0, 0, 0⟩] evs3 us' := hm
    rcases moves_inv hm' with ⟨-, rfl, rfl⟩ | ⟨u, k, cells, us1, u1, evs4, hu, -⟩
    · exact ⟨rfl, rfl⟩
    · cases hu
  · exact absurd h (by decide)
end Go.Proofs.YtplnhgllbhdfjaaDoor

namespace Go.Proofs.YtplnhgllbhdfjaaDoor
open Go.RowKit
set_option linter.unusedVariables false

theorem kl_mk {w : World} {z : Nat} (hz : w.heap.size = z) : Kl (w.alloc (.cells #[.string ⟨#[98, 97, 115, 101]⟩, .int .i64 50, .int .i64 0, .int .i64 0, .int .i64 4, .int .i64 0, .int .i64 50, .int .i64 5, .int .i64 0, .bool false, .bool true, .string ⟨#[100, 105, 103, 103, 101, 114]⟩, .int .i64 10, .int .i64 0, .int .i64 0, .int .i64 3, .int .i64 2, .int .i64 10, .int .i64 2, .int .i64 20, .bool false, .bool false, .string ⟨#[102, 105, 103, 104, 116, 101, 114]⟩, .int .i64 20, .int .i64 4, .int .i64 1, .int .i64 4, .int .i64 2, .int .i64 20, .int .i64 3, .int .i64 0, .bool false, .bool false] 42)) (.slice (some ⟨z, 0, none⟩) 3 3) SK := by
  subst hz
  refine ⟨_, 3, rfl, Nat.le_refl _, by omega, fun _ => ⟨_, rfl, by simp, fun i k hi => ?_⟩⟩
  have hl : i < 3 := (List.getElem?_eq_some_iff.1 hi).1
  rw [Addr.add_lit, Nat.zero_add]
  match i, hl, hi with
  | 0, _, hi => injection hi with hi; subst hi; constructor <;> simp
  | 1, _, hi => injection hi with hi; subst hi; constructor <;> simp
  | 2, _, hi => injection hi with hi; subst hi; constructor <;> simp
set_option maxRecDepth 100000 in
set_option maxHeartbeats 2000000 in
theorem sorts_any (w : World) : Calls Tryd.prog 12 #[] w fun e w' => ∃ u, e = .returned u ∧ Kl w' u SK ∧ Below w.heap.size w w' := by
  have KL : Hid (Kl (w.alloc (.cells #[.string ⟨#[98, 97, 115, 101]⟩, .int .i64 50, .int .i64 0, .int .i64 0, .int .i64 4, .int .i64 0, .int .i64 50, .int .i64 5, .int .i64 0, .bool false, .bool true, .string ⟨#[100, 105, 103, 103, 101, 114]⟩, .int .i64 10, .int .i64 0, .int .i64 0, .int .i64 3, .int .i64 2, .int .i64 10, .int .i64 2, .int .i64 20, .bool false, .bool false, .string ⟨#[102, 105, 103, 104, 116, 101, 114]⟩, .int .i64 20, .int .i64 4, .int .i64 1, .int .i64 4, .int .i64 2, .int .i64 20, .int .i64 3, .int .i64 0, .bool false, .bool false] 42)) (.slice (some ⟨w.heap.size, 0, none⟩) 3 3) SK ∧ Below w.heap.size w (w.alloc (.cells #[.string ⟨#[98, 97, 115, 101]⟩, .int .i64 50, .int .i64 0, .int .i64 0, .int .i64 4, .int .i64 0, .int .i64 50, .int .i64 5, .int .i64 0, .bool false, .bool true, .string ⟨#[100, 105, 103, 103, 101, 114]⟩, .int .i64 10, .int .i64 0, .int .i64 0, .int .i64 3, .int .i64 2, .int .i64 10, .int .i64 2, .int .i64 20, .bool false, .bool false, .string ⟨#[102, 105, 103, 104, 116, 101, 114]⟩, .int .i64 20, .int .i64 4, .int .i64 1, .int .i64 4, .int .i64 2, .int .i64 20, .int .i64 3, .int .i64 0, .bool false, .bool false] 42))) := ⟨kl_mk rfl, (Below.refl _ _).alloc (Nat.le_refl _) _⟩
  go_enter Tryd.func12, Tryd.ntmps12
  go_wp2
  go_ret
  exact ⟨_, rfl, KL.out.1, KL.out.2⟩
/-- u does not lie in block z. -/
def Nz (z : Nat) (u : Value) : Prop := ∀ b, u.ownBlock = some b → b ≠ z
/-- how far the small world is: it lies in a block of its own, which v points to. -/
def SmI (w : World) (Y : WV) (v : Value) (V : World) : Prop := ∃ z u1 u2 u3 u4 u5, v = .pointer (some ⟨z, 0, none⟩) ∧ w.heap.size < z ∧ Below w.heap.size w V ∧ Wx V w.heap.size (.int .i64 0) (.int .i64 0) (.int .i64 0) (.int .i64 0) (.slice none 0 0) (.slice none 0 0) (.slice none 0 0) (.slice none 0 0) (.slice none 0 0) ∧ Wx V z (.int .i64 Y.turn) (.int .i64 Y.next) (.int .i64 Y.wide) (.int .i64 Y.high) u1 u2 u3 u4 u5 ∧ (Ow V (w.heap.size + 1) u1 Y.gs ∧ Ow V (w.heap.size + 1) u2 Y.os ∧ Ow V (w.heap.size + 1) u3 Y.gold ∧ Uno V (w.heap.size + 1) u4 Y.us ∧ Jbo V (w.heap.size + 1) u5 Y.qs) ∧ Nz z u1 ∧ Nz z u2 ∧ Nz z u3 ∧ Nz z u4 ∧ Nz z u5
theorem s0_eqs : S0.turn = 0 ∧ S0.next = 1 ∧ S0.wide = 4 ∧ S0.high = 2 ∧ S0.gs.length = 8 ∧ S0.os.length = 8 ∧ S0.gold.length = 2 ∧ S0.us.length = 0 ∧ S0.qs.length = 0 := ⟨rfl, rfl, rfl, rfl, rfl, rfl, rfl, rfl, rfl⟩
theorem s1_eqs : S1.turn = 0 ∧ S1.next = 2 ∧ S1.wide = 4 ∧ S1.high = 2 ∧ S1.gs.length = 8 ∧ S1.os.length = 8 ∧ S1.gold.length = 2 ∧ S1.us.length = 1 ∧ S1.qs.length = 0 := ⟨rfl, rfl, rfl, rfl, rfl, rfl, rfl, rfl, rfl⟩
theorem s2_eqs : S2.turn = 0 ∧ S2.next = 3 ∧ S2.wide = 4 ∧ S2.high = 2 ∧ S2.gs.length = 8 ∧ S2.os.length = 8 ∧ S2.gold.length = 2 ∧ S2.us.length = 2 ∧ S2.qs.length = 0 := ⟨rfl, rfl, rfl, rfl, rfl, rfl, rfl, rfl, rfl⟩
theorem s3_eqs : S3.turn = 0 ∧ S3.next = 4 ∧ S3.wide = 4 ∧ S3.high = 2 ∧ S3.gs.length = 8 ∧ S3.os.length = 8 ∧ S3.gold.length = 2 ∧ S3.us.length = 3 ∧ S3.qs.length = 0 := ⟨rfl, rfl, rfl, rfl, rfl, rfl, rfl, rfl, rfl⟩
theorem er_zero {r : Value} (h : Er r 0) : r = .nilIface := by
  rcases h with ⟨-, h⟩ | ⟨h, -⟩
  · exact h
  · exact absurd rfl h
theorem bx_kp {w w' : World} {y z : Nat} {a b : Int} {u1 u2 : Value} (h : Bx w y a b u1 u2) (k : Kp z w w') (hn : y ≠ z) : Bx w' y a b u1 u2 := by
  have hc : ∀ i, w'.cell? ⟨y, i, none⟩ = w.cell? ⟨y, i, none⟩ := fun i => by
    have := k.block y h.lt hn
    simp only [World.cell?, this]
  exact ⟨by rw [hc]; exact h.c0, by rw [hc]; exact h.c1, by rw [hc]; exact h.c2, by rw [hc]; exact h.c3⟩
theorem owns_nz {z : Nat} {w w' : World} {base : Nat} {T : TypeId} {size : Nat} {u : Value} {n : Nat} {cs : List Value} (h : w.ownsRow base T size u n cs) (k : Kp z w w') (hz : Nz z u) : w'.ownsRow base T size u n cs := by
  refine ⟨h.1, ?_⟩
  rcases h.2 with h1 | ⟨g, cap, cur, h1, h2, h3, h4⟩
  · exact .inl h1
  · exact .inr ⟨g, cap, cur, h1, h2, (k.block g (lt_of_block h3) (hz g (by rw [h1]; rfl))).trans h3, h4⟩
theorem smi_put {w V : World} {z : Nat} {Y : WV} {u1 u2 u3 u4 u5 d0 d1 d2 d3 d4 d5 d6 d7 d8 : Value} (hz : w.heap.size < z) (B : Below w.heap.size w V) (R : Wx V w.heap.size (.int .i64 0) (.int .i64 0) (.int .i64 0) (.int .i64 0) (.slice none 0 0) (.slice none 0 0) (.slice none 0 0) (.slice none 0 0) (.slice none 0 0)) (Z : Wx V z d0 d1 d2 d3 d4 d5 d6 d7 d8)
    (O : Ow V (w.heap.size + 1) u1 Y.gs ∧ Ow V (w.heap.size + 1) u2 Y.os ∧ Ow V (w.heap.size + 1) u3 Y.gold ∧ Uno V (w.heap.size + 1) u4 Y.us ∧ Jbo V (w.heap.size + 1) u5 Y.qs) (N : Nz z u1 ∧ Nz z u2 ∧ Nz z u3 ∧ Nz z u4 ∧ Nz z u5) :
    SmI w Y (.pointer (some ⟨z, 0, none⟩)) (((((((((V.setCell ⟨z, 0, none⟩ (.int .i64 Y.turn)).setCell ⟨z, 1, none⟩ (.int .i64 Y.next)).setCell ⟨z, 2, none⟩ (.int .i64 Y.wide)).setCell ⟨z, 3, none⟩ (.int .i64 Y.high)).setCell ⟨z, 4, none⟩ u1).setCell ⟨z, 5, none⟩ u2).setCell ⟨z, 6, none⟩ u3).setCell ⟨z, 7, none⟩ u4).setCell ⟨z, 8, none⟩ u5) := by
  have K := put_kp V z (.int .i64 Y.turn) (.int .i64 Y.next) (.int .i64 Y.wide) (.int .i64 Y.high) u1 u2 u3 u4 u5
  exact ⟨z, u1, u2, u3, u4, u5, rfl, hz, K.below B B.size (Nat.le_of_lt hz), R.kp K (by omega), Z.put _ _ _ _ _ _ _ _ _, ⟨owns_nz O.1 K N.1, owns_nz O.2.1 K N.2.1, owns_nz O.2.2.1 K N.2.2.1, owns_nz O.2.2.2.1 K N.2.2.2.1, owns_nz O.2.2.2.2 K N.2.2.2.2⟩, N⟩
theorem sl_wo {w : World} {base : Nat} {u : Value} {Y : WV} (h : Wo w base u Y) : ∃ p1 q1 p2 q2 p3 q3 p4 q4 p5 q5, u = .agg #[.int .i64 Y.turn, .int .i64 Y.next, .int .i64 Y.wide, .int .i64 Y.high, .slice p1 Y.gs.length q1, .slice p2 Y.os.length q2, .slice p3 Y.gold.length q3, .slice p4 Y.us.length q4, .slice p5 Y.qs.length q5] := by
  obtain ⟨u1, u2, u3, u4, u5, rfl, h1, h2, h3, h4, h5⟩ := h
  obtain ⟨p1, q1, rfl⟩ := h1.len
  obtain ⟨p2, q2, rfl⟩ := h2.len
  obtain ⟨p3, q3, rfl⟩ := h3.len
  obtain ⟨p4, q4, rfl⟩ := h4.len
  obtain ⟨p5, q5, rfl⟩ := h5.len
  exact ⟨_, _, _, _, _, _, _, _, _, _, rfl⟩
set_option maxRecDepth 100000 in
set_option maxHeartbeats 8000000 in
theorem small_any (w : World) : Calls Tryd.prog 11 #[] w fun e w' => ∃ u, e = .returned (.tuple #[u, .bool true]) ∧ Wo w' w.heap.size u S3 ∧ Below w.heap.size w w' := by
  go_enter Tryd.func11, Tryd.ntmps11
  go_upto_region 1 with fail
  have B0 : Hid (Below w.heap.size w (w.alloc (.cells #[.int .i64 0, .int .i64 0, .int .i64 0, .int .i64 0, .slice none 0 0, .slice none 0 0, .slice none 0 0, .slice none 0 0, .slice none 0 0] 29))) := (Below.refl _ _).alloc (Nat.le_refl _) _
  have R0 : Hid (Wx (w.alloc (.cells #[.int .i64 0, .int .i64 0, .int .i64 0, .int .i64 0, .slice none 0 0, .slice none 0 0, .slice none 0 0, .slice none 0 0, .slice none 0 0] 29)) w.heap.size (.int .i64 0) (.int .i64 0) (.int .i64 0) (.int .i64 0) (.slice none 0 0) (.slice none 0 0) (.slice none 0 0) (.slice none 0 0) (.slice none 0 0)) := Wx.new _ _ _ _ _ _ _ _ _ rfl
  generalize (w.alloc (.cells #[.int .i64 0, .int .i64 0, .int .i64 0, .int .i64 0, .slice none 0 0, .slice none 0 0, .slice none 0 0, .slice none 0 0, .slice none 0 0] 29)) = w0 at *
  go_wp2_with fail
  refine (parse_any ⟨#[46, 46, 46, 46, 10, 46, 46, 51, 46, 10]⟩ w0 (by decide)).mono ?_
  rintro e w1 ⟨hs, hb⟩
  have hp : Fd.parse (⟨#[46, 46, 46, 46, 10, 46, 46, 51, 46, 10]⟩ : ByteArray).data.toList = .inr ⟨0, 4, 2, SG, SO⟩ := sm_parse
  rcases hs with ⟨i, f, h1, -⟩ | ⟨st, u1, u2, h1, h2, r1, r2⟩
  · rw [hp] at h1; cases h1
  rw [hp] at h1
  injection h1 with h1
  subst h1
  subst h2
  have RO : Hid (Ro w1 u1 SG ∧ Ro w1 u2 SO) := ⟨r1, r2⟩
  obtain ⟨p1, q1, rfl, -⟩ := r1
  obtain ⟨p2, q2, rfl, -⟩ := r2
  have B1 : Hid (Below w.heap.size w w1) := B0.out.trans (hb.mono B0.out.size)
  have R1 : Hid (Wx w1 w.heap.size (.int .i64 0) (.int .i64 0) (.int .i64 0) (.int .i64 0) (.slice none 0 0) (.slice none 0 0) (.slice none 0 0) (.slice none 0 0) (.slice none 0 0)) := R0.out.below hb R0.out.lt
  clear hb hp B0 R0
  have l8 : SG.length = 8 := rfl
  have l8' : SO.length = 8 := rfl
  rw [l8, l8'] at *
  clear l8 l8'
  go_upto_region 2 with fail
  have BA : Hid (Below w1.heap.size w1 (w1.alloc (.cells #[.int .i64 4, .int .i64 2, .slice p1 8 q1, .slice p2 8 q2] 25))) := (Below.refl _ _).alloc (Nat.le_refl _) _
  have X2 : Hid (Bx (w1.alloc (.cells #[.int .i64 4, .int .i64 2, .slice p1 8 q1, .slice p2 8 q2] 25)) w1.heap.size 4 2 (.slice p1 8 q1) (.slice p2 8 q2)) := Bx.mk' _ _ _ _ rfl
  have FL : Hid (Fl (w1.alloc (.cells #[.int .i64 4, .int .i64 2, .slice p1 8 q1, .slice p2 8 q2] 25)) (.agg #[.int .i64 4, .int .i64 2, .slice p1 8 q1, .slice p2 8 q2]) 4 2 SG SO) := ⟨_, _, rfl, RO.out.1.below BA.out, RO.out.2.below BA.out⟩
  have R2 : Hid (Wx (w1.alloc (.cells #[.int .i64 4, .int .i64 2, .slice p1 8 q1, .slice p2 8 q2] 25)) w.heap.size (.int .i64 0) (.int .i64 0) (.int .i64 0) (.int .i64 0) (.slice none 0 0) (.slice none 0 0) (.slice none 0 0) (.slice none 0 0) (.slice none 0 0)) := R1.out.below BA.out R1.out.lt
  have B2 : Hid (Below w.heap.size w (w1.alloc (.cells #[.int .i64 4, .int .i64 2, .slice p1 8 q1, .slice p2 8 q2] 25))) := B1.out.trans (BA.out.mono B1.out.size)
  generalize (w1.alloc (.cells #[.int .i64 4, .int .i64 2, .slice p1 8 q1, .slice p2 8 q2] 25)) = w2 at *
  clear BA B1 R1 RO
  have N2 : Hid (w.heap.size < w2.heap.size) := by have := R2.out.lt; exact this
  go_cut [5, 6] (fun v5 v6 V => v6 = .nilIface ∧ SmI w S0 v5 V)
  case first =>
    refine wp_region_float 6 [(true, 1), (false, 0), (false, 2), (true, 3), (true, 4), (true, 5)] [(false, 7)] [(false, 8)] (fun V => Bx V w1.heap.size 4 2 (.slice p1 8 q1) (.slice p2 8 q2)) (by kernel_rfl) (by kernel_rfl) (by kernel_rfl) (by decide +kernel) (by decide +kernel) (X2.out.below (Below.refl _ _).drew X2.out.lt) ?_
    have X3 : Hid (Bx { w2 with drawn := w2.drawn + 1 } w1.heap.size 4 2 (.slice p1 8 q1) (.slice p2 8 q2)) := X2.out.below (Below.refl _ _).drew X2.out.lt
    have F3 : Hid (Fl { w2 with drawn := w2.drawn + 1 } (.agg #[.int .i64 4, .int .i64 2, .slice p1 8 q1, .slice p2 8 q2]) 4 2 SG SO) := FL.out.below (Below.refl _ _).drew
    have R3 : Hid (Wx { w2 with drawn := w2.drawn + 1 } w.heap.size (.int .i64 0) (.int .i64 0) (.int .i64 0) (.int .i64 0) (.slice none 0 0) (.slice none 0 0) (.slice none 0 0) (.slice none 0 0) (.slice none 0 0)) := R2.out
    have B3 : Hid (Below w.heap.size w { w2 with drawn := w2.drawn + 1 }) := B2.out.drew
    generalize ({ w2 with drawn := w2.drawn + 1 } : World) = w3 at *
    clear X2 FL R2 B2
    refine headA_read rfl (.agg #[.int .i64 4, .int .i64 2, .slice p1 8 q1, .slice p2 8 q2]) (by go_simp) (fun V hV => by obtain ⟨f0, f1, f2, f3⟩ := hV; go_simp) ?_
    go_simp
    refine headA_call rfl 12 #[] (by go_simp) (by go_simp) ?_ rfl (.pointer (some ⟨w3.heap.size, 0, none⟩)) (w3.alloc (.cells #[.int .i64 0, .int .i64 0, .int .i64 0, .int .i64 0, .slice none 0 0, .slice none 0 0, .slice none 0 0, .slice none 0 0, .slice none 0 0] 29)) (by go_simp) (by go_simp) (X3.out.below ((Below.refl _ _).alloc (Nat.le_refl _) _) X3.out.lt) ?_
    · refine (sorts_any w3).mono ?_
      rintro e w4 ⟨ku, rfl, hk, hb⟩
      have K4 : Hid (Kl w4 ku SK) := hk
      have X4 : Hid (Bx w4 w1.heap.size 4 2 (.slice p1 8 q1) (.slice p2 8 q2)) := X3.out.below hb X3.out.lt
      have F4 : Hid (Fl w4 (.agg #[.int .i64 4, .int .i64 2, .slice p1 8 q1, .slice p2 8 q2]) 4 2 SG SO) := F3.out.below hb
      have R4 : Hid (Wx w4 w.heap.size (.int .i64 0) (.int .i64 0) (.int .i64 0) (.int .i64 0) (.slice none 0 0) (.slice none 0 0) (.slice none 0 0) (.slice none 0 0) (.slice none 0 0)) := R3.out.below hb R3.out.lt
      have B4 : Hid (Below w.heap.size w w4) := B3.out.trans (hb.mono B3.out.size)
      clear hk hb X3 F3 R3 B3
      refine ⟨_, rfl, X4.out, ?_⟩
      go_simp
      refine headA_call rfl 20 #[ku, .agg #[.int .i64 4, .int .i64 2, .slice p1 8 q1, .slice p2 8 q2], .int .i64 2, .int .i64 100] (by go_simp) (by go_simp) ?_ rfl (.pointer (some ⟨w4.heap.size, 0, none⟩)) (w4.alloc (.cells #[.int .i64 0, .int .i64 0, .int .i64 0, .int .i64 0, .slice none 0 0, .slice none 0 0, .slice none 0 0, .slice none 0 0, .slice none 0 0] 29)) (by go_simp) (by go_simp) (X4.out.below ((Below.refl _ _).alloc (Nat.le_refl _) _) X4.out.lt) ?_
      · refine (new_any ku _ SK 4 2 SG SO 2 100 w4 K4.out sm_names F4.out).mono ?_
        rintro e w5 ⟨u, r, rfl, hr, ho, hb⟩
        rw [sm_f0] at hr
        rw [sm_0] at ho
        obtain rfl := er_zero hr
        have X5 : Hid (Bx w5 w1.heap.size 4 2 (.slice p1 8 q1) (.slice p2 8 q2)) := X4.out.below hb X4.out.lt
        have R5 : Hid (Wx w5 w.heap.size (.int .i64 0) (.int .i64 0) (.int .i64 0) (.int .i64 0) (.slice none 0 0) (.slice none 0 0) (.slice none 0 0) (.slice none 0 0) (.slice none 0 0)) := R4.out.below hb R4.out.lt
        have B5 : Hid (Below w.heap.size w w5) := B4.out.trans (hb.mono B4.out.size)
        obtain ⟨v1, v2, v3, v4, v5, rfl, o1, o2, o3, o4, o5⟩ := ho
        obtain ⟨a1, b1, rfl⟩ := o1.len
        obtain ⟨a2, b2, rfl⟩ := o2.len
        obtain ⟨a3, b3, rfl⟩ := o3.len
        obtain ⟨a4, b4, rfl⟩ := o4.len
        obtain ⟨a5, b5, rfl⟩ := o5.len
        obtain ⟨g1, g2, g3, g4, g5, g6, g7, g8, g9⟩ := s0_eqs
        simp only [g5] at o1
        simp only [g6] at o2
        simp only [g7] at o3
        simp only [g8] at o4
        simp only [g9] at o5
        simp only [g1, g2, g3, g4, g5, g6, g7, g8, g9]
        clear g1 g2 g3 g4 g5 g6 g7 g8 g9
        have O5 : Hid (Ow w5 (w.heap.size + 1) (.slice a1 8 b1) S0.gs ∧ Ow w5 (w.heap.size + 1) (.slice a2 8 b2) S0.os ∧ Ow w5 (w.heap.size + 1) (.slice a3 2 b3) S0.gold ∧ Uno w5 (w.heap.size + 1) (.slice a4 0 b4) S0.us ∧ Jbo w5 (w.heap.size + 1) (.slice a5 0 b5) S0.qs) := ⟨o1.mono R4.out.lt, o2.mono R4.out.lt, o3.mono R4.out.lt, o4.mono R4.out.lt, o5.mono R4.out.lt⟩
        clear hr hb o1 o2 o3 o4 o5 K4 X4 F4 R4 B4
        refine ⟨_, rfl, X5.out, ?_⟩
        go_simp
        refine headA_read rfl (.tuple #[.agg #[.int .i64 0, .int .i64 1, .int .i64 4, .int .i64 2, .slice a1 8 b1, .slice a2 8 b2, .slice a3 2 b3, .slice a4 0 b4, .slice a5 0 b5], .nilIface]) (by go_simp) (fun V hV => by go_simp) ?_
        go_simp
        refine headA_read rfl (.agg #[.int .i64 0, .int .i64 1, .int .i64 4, .int .i64 2, .slice a1 8 b1, .slice a2 8 b2, .slice a3 2 b3, .slice a4 0 b4, .slice a5 0 b5]) (by go_simp) (fun V hV => by go_simp) ?_
        go_simp
        refine headA_read rfl .nilIface (by go_simp) (fun V hV => by go_simp) ?_
        go_simp
        have NZ : Hid (Nz w5.heap.size (.slice a1 8 b1) ∧ Nz w5.heap.size (.slice a2 8 b2) ∧ Nz w5.heap.size (.slice a3 2 b3) ∧ Nz w5.heap.size (.slice a4 0 b4) ∧ Nz w5.heap.size (.slice a5 0 b5)) := ⟨fun b hb => by have := (O5.out.1.block b hb).2; omega, fun b hb => by have := (O5.out.2.1.block b hb).2; omega, fun b hb => by have := (O5.out.2.2.1.block b hb).2; omega, fun b hb => by have := (O5.out.2.2.2.1.block b hb).2; omega, fun b hb => by have := (O5.out.2.2.2.2.block b hb).2; omega⟩
        have BQ : Hid (Below w5.heap.size w5 (w5.alloc (.cells #[.int .i64 0, .int .i64 0, .int .i64 0, .int .i64 0, .slice none 0 0, .slice none 0 0, .slice none 0 0, .slice none 0 0, .slice none 0 0] 29))) := (Below.refl _ _).alloc (Nat.le_refl _) _
        have Z6 : Hid (Wx (w5.alloc (.cells #[.int .i64 0, .int .i64 0, .int .i64 0, .int .i64 0, .slice none 0 0, .slice none 0 0, .slice none 0 0, .slice none 0 0, .slice none 0 0] 29)) w5.heap.size (.int .i64 0) (.int .i64 0) (.int .i64 0) (.int .i64 0) (.slice none 0 0) (.slice none 0 0) (.slice none 0 0) (.slice none 0 0) (.slice none 0 0)) := Wx.new _ _ _ _ _ _ _ _ _ rfl
        refine headA_last rfl (.pointer (some ⟨w5.heap.size, 0, none⟩)) (w5.alloc (.cells #[.int .i64 0, .int .i64 0, .int .i64 0, .int .i64 0, .slice none 0 0, .slice none 0 0, .slice none 0 0, .slice none 0 0, .slice none 0 0] 29)) (by go_simp) (by go_simp) (X5.out.below BQ.out X5.out.lt) ?_
        obtain ⟨z, hz⟩ : ∃ z, w5.heap.size = z := ⟨_, rfl⟩
        have HZ : Hid (w.heap.size < z) := by rw [← hz]; exact R5.out.lt
        rw [hz] at NZ Z6 BQ ⊢
        go_simp
        generalize (w5.alloc (.cells #[.int .i64 0, .int .i64 0, .int .i64 0, .int .i64 0, .slice none 0 0, .slice none 0 0, .slice none 0 0, .slice none 0 0, .slice none 0 0] 29)) = w6 at *
        have X6 : Hid (Bx w6 w1.heap.size 4 2 (.slice p1 8 q1) (.slice p2 8 q2)) := X5.out.below BQ.out (by have := X5.out.lt; omega)
        have R6 : Hid (Wx w6 w.heap.size (.int .i64 0) (.int .i64 0) (.int .i64 0) (.int .i64 0) (.slice none 0 0) (.slice none 0 0) (.slice none 0 0) (.slice none 0 0) (.slice none 0 0)) := R5.out.below BQ.out HZ.out
        have B6 : Hid (Below w.heap.size w w6) := B5.out.trans (BQ.out.mono (by have := HZ.out; omega))
        have O6 : Hid (Ow w6 (w.heap.size + 1) (.slice a1 8 b1) S0.gs ∧ Ow w6 (w.heap.size + 1) (.slice a2 8 b2) S0.os ∧ Ow w6 (w.heap.size + 1) (.slice a3 2 b3) S0.gold ∧ Uno w6 (w.heap.size + 1) (.slice a4 0 b4) S0.us ∧ Jbo w6 (w.heap.size + 1) (.slice a5 0 b5) S0.qs) := ⟨O5.out.1.below (by rw [hz]; exact BQ.out), O5.out.2.1.below (by rw [hz]; exact BQ.out), O5.out.2.2.1.below (by rw [hz]; exact BQ.out), O5.out.2.2.2.1.below (by rw [hz]; exact BQ.out), O5.out.2.2.2.2.below (by rw [hz]; exact BQ.out)⟩
        have XZ : Hid (w1.heap.size ≠ z) := by have := X5.out.lt; unfold Hid; omega
        clear X5 R5 B5 O5 BQ hz
        have KW : Hid (Kp z w6 (((((((((w6.setCell ⟨z, 0, none⟩ (.int .i64 0)).setCell ⟨z, 1, none⟩ (.int .i64 1)).setCell ⟨z, 2, none⟩ (.int .i64 4)).setCell ⟨z, 3, none⟩ (.int .i64 2)).setCell ⟨z, 4, none⟩ (.slice a1 8 b1)).setCell ⟨z, 5, none⟩ (.slice a2 8 b2)).setCell ⟨z, 6, none⟩ (.slice a3 2 b3)).setCell ⟨z, 7, none⟩ (.slice a4 0 b4)).setCell ⟨z, 8, none⟩ (.slice a5 0 b5))) := put_kp _ _ _ _ _ _ _ _ _ _ _
        have FIN : Hid (SmI w S0 (.pointer (some ⟨z, 0, none⟩)) (((((((((w6.setCell ⟨z, 0, none⟩ (.int .i64 0)).setCell ⟨z, 1, none⟩ (.int .i64 1)).setCell ⟨z, 2, none⟩ (.int .i64 4)).setCell ⟨z, 3, none⟩ (.int .i64 2)).setCell ⟨z, 4, none⟩ (.slice a1 8 b1)).setCell ⟨z, 5, none⟩ (.slice a2 8 b2)).setCell ⟨z, 6, none⟩ (.slice a3 2 b3)).setCell ⟨z, 7, none⟩ (.slice a4 0 b4)).setCell ⟨z, 8, none⟩ (.slice a5 0 b5))) := smi_put HZ.out B6.out R6.out Z6.out O6.out NZ.out
        obtain ⟨x0, x1, x2, x3, x4, x5, x6, x7, x8⟩ := Z6.out.cells
        obtain ⟨t0, t1, t2, t3, t4, t5, t6, t7, t8⟩ := Z6.out.thaws
        refine headT_skip rfl (((((((((w6.setCell ⟨z, 0, none⟩ (.int .i64 0)).setCell ⟨z, 1, none⟩ (.int .i64 1)).setCell ⟨z, 2, none⟩ (.int .i64 4)).setCell ⟨z, 3, none⟩ (.int .i64 2)).setCell ⟨z, 4, none⟩ (.slice a1 8 b1)).setCell ⟨z, 5, none⟩ (.slice a2 8 b2)).setCell ⟨z, 6, none⟩ (.slice a3 2 b3)).setCell ⟨z, 7, none⟩ (.slice a4 0 b4)).setCell ⟨z, 8, none⟩ (.slice a5 0 b5)) (by go_simp) (by go_simp) (bx_kp X6.out KW.out XZ.out) ?_
        go_simp
        clear x0 x1 x2 x3 x4 x5 x6 x7 x8 t0 t1 t2 t3 t4 t5 t6 t7 t8
        generalize (((((((((w6.setCell ⟨z, 0, none⟩ (.int .i64 0)).setCell ⟨z, 1, none⟩ (.int .i64 1)).setCell ⟨z, 2, none⟩ (.int .i64 4)).setCell ⟨z, 3, none⟩ (.int .i64 2)).setCell ⟨z, 4, none⟩ (.slice a1 8 b1)).setCell ⟨z, 5, none⟩ (.slice a2 8 b2)).setCell ⟨z, 6, none⟩ (.slice a3 2 b3)).setCell ⟨z, 7, none⟩ (.slice a4 0 b4)).setCell ⟨z, 8, none⟩ (.slice a5 0 b5)) = w7 at *
        unfold wpHeadT
        refine sched_value rfl .nilIface w7 (by go_simp) (by go_simp) trivial ?_
        go_simp
        unfold wpSched
        go_wp2_with fail
        go_meet
        case rel => exact ⟨rfl, FIN.out⟩
      · -- the memory is made behind the kinds
        have BQ : Hid (Below w4.heap.size w4 (w4.alloc (.cells #[.int .i64 0, .int .i64 0, .int .i64 0, .int .i64 0, .slice none 0 0, .slice none 0 0, .slice none 0 0, .slice none 0 0, .slice none 0 0] 29))) := (Below.refl _ _).alloc (Nat.le_refl _) _
        have ZQ : Hid (Wx (w4.alloc (.cells #[.int .i64 0, .int .i64 0, .int .i64 0, .int .i64 0, .slice none 0 0, .slice none 0 0, .slice none 0 0, .slice none 0 0, .slice none 0 0] 29)) w4.heap.size (.int .i64 0) (.int .i64 0) (.int .i64 0) (.int .i64 0) (.slice none 0 0) (.slice none 0 0) (.slice none 0 0) (.slice none 0 0) (.slice none 0 0)) := Wx.new _ _ _ _ _ _ _ _ _ rfl
        obtain ⟨z, hz⟩ : ∃ z, w4.heap.size = z := ⟨_, rfl⟩
        have HZ : Hid (w.heap.size < z) := by rw [← hz]; exact R4.out.lt
        have XZ : Hid (w1.heap.size ≠ z) := by have := X4.out.lt; unfold Hid; omega
        rw [hz] at ZQ ⊢
        go_simp
        generalize (w4.alloc (.cells #[.int .i64 0, .int .i64 0, .int .i64 0, .int .i64 0, .slice none 0 0, .slice none 0 0, .slice none 0 0, .slice none 0 0, .slice none 0 0] 29)) = w4' at *
        have K4' : Hid (Kl w4' ku SK) := K4.out.below BQ.out
        have X4' : Hid (Bx w4' w1.heap.size 4 2 (.slice p1 8 q1) (.slice p2 8 q2)) := X4.out.below BQ.out X4.out.lt
        have F4' : Hid (Fl w4' (.agg #[.int .i64 4, .int .i64 2, .slice p1 8 q1, .slice p2 8 q2]) 4 2 SG SO) := F4.out.below BQ.out
        have R4' : Hid (Wx w4' w.heap.size (.int .i64 0) (.int .i64 0) (.int .i64 0) (.int .i64 0) (.slice none 0 0) (.slice none 0 0) (.slice none 0 0) (.slice none 0 0) (.slice none 0 0)) := R4.out.below BQ.out R4.out.lt
        have B4' : Hid (Below w.heap.size w w4') := B4.out.trans (BQ.out.mono B4.out.size)
        clear K4 X4 F4 R4 B4 BQ hz
        refine headT_call rfl 20 #[ku, .agg #[.int .i64 4, .int .i64 2, .slice p1 8 q1, .slice p2 8 q2], .int .i64 2, .int .i64 100] (by go_simp) (by go_simp) ?_
        refine (new_any ku _ SK 4 2 SG SO 2 100 w4' K4'.out sm_names F4'.out).mono ?_
        rintro e w5 ⟨u, r, rfl, hr, ho, hb⟩
        rw [sm_f0] at hr
        rw [sm_0] at ho
        obtain rfl := er_zero hr
        have X5 : Hid (Bx w5 w1.heap.size 4 2 (.slice p1 8 q1) (.slice p2 8 q2)) := X4'.out.below hb X4'.out.lt
        have R5 : Hid (Wx w5 w.heap.size (.int .i64 0) (.int .i64 0) (.int .i64 0) (.int .i64 0) (.slice none 0 0) (.slice none 0 0) (.slice none 0 0) (.slice none 0 0) (.slice none 0 0)) := R4'.out.below hb R4'.out.lt
        have B5 : Hid (Below w.heap.size w w5) := B4'.out.trans (hb.mono B4'.out.size)
        have Z5 : Hid (Wx w5 z (.int .i64 0) (.int .i64 0) (.int .i64 0) (.int .i64 0) (.slice none 0 0) (.slice none 0 0) (.slice none 0 0) (.slice none 0 0) (.slice none 0 0)) := ZQ.out.below hb ZQ.out.lt
        have ZL : Hid (z < w4'.heap.size) := ZQ.out.lt
        obtain ⟨v1, v2, v3, v4, v5, rfl, o1, o2, o3, o4, o5⟩ := ho
        obtain ⟨a1, b1, rfl⟩ := o1.len
        obtain ⟨a2, b2, rfl⟩ := o2.len
        obtain ⟨a3, b3, rfl⟩ := o3.len
        obtain ⟨a4, b4, rfl⟩ := o4.len
        obtain ⟨a5, b5, rfl⟩ := o5.len
        obtain ⟨g1, g2, g3, g4, g5, g6, g7, g8, g9⟩ := s0_eqs
        simp only [g5] at o1
        simp only [g6] at o2
        simp only [g7] at o3
        simp only [g8] at o4
        simp only [g9] at o5
        simp only [g1, g2, g3, g4, g5, g6, g7, g8, g9]
        clear g1 g2 g3 g4 g5 g6 g7 g8 g9
        have NZ : Hid (Nz z (.slice a1 8 b1) ∧ Nz z (.slice a2 8 b2) ∧ Nz z (.slice a3 2 b3) ∧ Nz z (.slice a4 0 b4) ∧ Nz z (.slice a5 0 b5)) := ⟨fun b hb => by have := (o1.block b hb).1; have := ZL.out; omega, fun b hb => by have := (o2.block b hb).1; have := ZL.out; omega, fun b hb => by have := (o3.block b hb).1; have := ZL.out; omega, fun b hb => by have := (o4.block b hb).1; have := ZL.out; omega, fun b hb => by have := (o5.block b hb).1; have := ZL.out; omega⟩
        have O5 : Hid (Ow w5 (w.heap.size + 1) (.slice a1 8 b1) S0.gs ∧ Ow w5 (w.heap.size + 1) (.slice a2 8 b2) S0.os ∧ Ow w5 (w.heap.size + 1) (.slice a3 2 b3) S0.gold ∧ Uno w5 (w.heap.size + 1) (.slice a4 0 b4) S0.us ∧ Jbo w5 (w.heap.size + 1) (.slice a5 0 b5) S0.qs) := ⟨o1.mono R4'.out.lt, o2.mono R4'.out.lt, o3.mono R4'.out.lt, o4.mono R4'.out.lt, o5.mono R4'.out.lt⟩
        clear hr hb o1 o2 o3 o4 o5 K4' X4' F4' R4' B4' ZQ ZL
        refine ⟨_, rfl, X5.out, ?_⟩
        go_simp
        refine headT_read rfl (.tuple #[.agg #[.int .i64 0, .int .i64 1, .int .i64 4, .int .i64 2, .slice a1 8 b1, .slice a2 8 b2, .slice a3 2 b3, .slice a4 0 b4, .slice a5 0 b5], .nilIface]) (by go_simp) (fun V hV => by go_simp) ?_
        go_simp
        generalize w5 = w6 at *
        have X6 := X5
        have R6 := R5
        have B6 := B5
        have O6 := O5
        have Z6 := Z5
        clear X5 R5 B5 O5 Z5
        refine headT_read rfl (.agg #[.int .i64 0, .int .i64 1, .int .i64 4, .int .i64 2, .slice a1 8 b1, .slice a2 8 b2, .slice a3 2 b3, .slice a4 0 b4, .slice a5 0 b5]) (by go_simp) (fun V hV => by go_simp) ?_
        go_simp
        refine headT_read rfl .nilIface (by go_simp) (fun V hV => by go_simp) ?_
        go_simp
        have KW : Hid (Kp z w6 (((((((((w6.setCell ⟨z, 0, none⟩ (.int .i64 0)).setCell ⟨z, 1, none⟩ (.int .i64 1)).setCell ⟨z, 2, none⟩ (.int .i64 4)).setCell ⟨z, 3, none⟩ (.int .i64 2)).setCell ⟨z, 4, none⟩ (.slice a1 8 b1)).setCell ⟨z, 5, none⟩ (.slice a2 8 b2)).setCell ⟨z, 6, none⟩ (.slice a3 2 b3)).setCell ⟨z, 7, none⟩ (.slice a4 0 b4)).setCell ⟨z, 8, none⟩ (.slice a5 0 b5))) := put_kp _ _ _ _ _ _ _ _ _ _ _
        have FIN : Hid (SmI w S0 (.pointer (some ⟨z, 0, none⟩)) (((((((((w6.setCell ⟨z, 0, none⟩ (.int .i64 0)).setCell ⟨z, 1, none⟩ (.int .i64 1)).setCell ⟨z, 2, none⟩ (.int .i64 4)).setCell ⟨z, 3, none⟩ (.int .i64 2)).setCell ⟨z, 4, none⟩ (.slice a1 8 b1)).setCell ⟨z, 5, none⟩ (.slice a2 8 b2)).setCell ⟨z, 6, none⟩ (.slice a3 2 b3)).setCell ⟨z, 7, none⟩ (.slice a4 0 b4)).setCell ⟨z, 8, none⟩ (.slice a5 0 b5))) := smi_put HZ.out B6.out R6.out Z6.out O6.out NZ.out
        obtain ⟨x0, x1, x2, x3, x4, x5, x6, x7, x8⟩ := Z6.out.cells
        obtain ⟨t0, t1, t2, t3, t4, t5, t6, t7, t8⟩ := Z6.out.thaws
        refine headT_skip rfl (((((((((w6.setCell ⟨z, 0, none⟩ (.int .i64 0)).setCell ⟨z, 1, none⟩ (.int .i64 1)).setCell ⟨z, 2, none⟩ (.int .i64 4)).setCell ⟨z, 3, none⟩ (.int .i64 2)).setCell ⟨z, 4, none⟩ (.slice a1 8 b1)).setCell ⟨z, 5, none⟩ (.slice a2 8 b2)).setCell ⟨z, 6, none⟩ (.slice a3 2 b3)).setCell ⟨z, 7, none⟩ (.slice a4 0 b4)).setCell ⟨z, 8, none⟩ (.slice a5 0 b5)) (by go_simp) (by go_simp) (bx_kp X6.out KW.out XZ.out) ?_
        go_simp
        clear x0 x1 x2 x3 x4 x5 x6 x7 x8 t0 t1 t2 t3 t4 t5 t6 t7 t8
        generalize (((((((((w6.setCell ⟨z, 0, none⟩ (.int .i64 0)).setCell ⟨z, 1, none⟩ (.int .i64 1)).setCell ⟨z, 2, none⟩ (.int .i64 4)).setCell ⟨z, 3, none⟩ (.int .i64 2)).setCell ⟨z, 4, none⟩ (.slice a1 8 b1)).setCell ⟨z, 5, none⟩ (.slice a2 8 b2)).setCell ⟨z, 6, none⟩ (.slice a3 2 b3)).setCell ⟨z, 7, none⟩ (.slice a4 0 b4)).setCell ⟨z, 8, none⟩ (.slice a5 0 b5)) = w7 at *
        unfold wpHeadT
        refine sched_value rfl .nilIface w7 (by go_simp) (by go_simp) trivial ?_
        go_simp
        unfold wpSched
        go_wp2_with fail
        go_meet
        case rel => exact ⟨rfl, FIN.out⟩
    · -- the memory is made first
      have BQ : Hid (Below w3.heap.size w3 (w3.alloc (.cells #[.int .i64 0, .int .i64 0, .int .i64 0, .int .i64 0, .slice none 0 0, .slice none 0 0, .slice none 0 0, .slice none 0 0, .slice none 0 0] 29))) := (Below.refl _ _).alloc (Nat.le_refl _) _
      have ZQ : Hid (Wx (w3.alloc (.cells #[.int .i64 0, .int .i64 0, .int .i64 0, .int .i64 0, .slice none 0 0, .slice none 0 0, .slice none 0 0, .slice none 0 0, .slice none 0 0] 29)) w3.heap.size (.int .i64 0) (.int .i64 0) (.int .i64 0) (.int .i64 0) (.slice none 0 0) (.slice none 0 0) (.slice none 0 0) (.slice none 0 0) (.slice none 0 0)) := Wx.new _ _ _ _ _ _ _ _ _ rfl
      obtain ⟨z, hz⟩ : ∃ z, w3.heap.size = z := ⟨_, rfl⟩
      have HZ : Hid (w.heap.size < z) := by rw [← hz]; exact R3.out.lt
      have XZ : Hid (w1.heap.size ≠ z) := by have := X3.out.lt; unfold Hid; omega
      rw [hz] at ZQ ⊢
      go_simp
      generalize (w3.alloc (.cells #[.int .i64 0, .int .i64 0, .int .i64 0, .int .i64 0, .slice none 0 0, .slice none 0 0, .slice none 0 0, .slice none 0 0, .slice none 0 0] 29)) = w3' at *
      have X3' : Hid (Bx w3' w1.heap.size 4 2 (.slice p1 8 q1) (.slice p2 8 q2)) := X3.out.below BQ.out X3.out.lt
      have F3' : Hid (Fl w3' (.agg #[.int .i64 4, .int .i64 2, .slice p1 8 q1, .slice p2 8 q2]) 4 2 SG SO) := F3.out.below BQ.out
      have R3' : Hid (Wx w3' w.heap.size (.int .i64 0) (.int .i64 0) (.int .i64 0) (.int .i64 0) (.slice none 0 0) (.slice none 0 0) (.slice none 0 0) (.slice none 0 0) (.slice none 0 0)) := R3.out.below BQ.out R3.out.lt
      have B3' : Hid (Below w.heap.size w w3') := B3.out.trans (BQ.out.mono B3.out.size)
      clear X3 F3 R3 B3 BQ hz
      refine headT_call rfl 12 #[] (by go_simp) (by go_simp) ?_
      refine (sorts_any w3').mono ?_
      rintro e w4' ⟨ku, rfl, hk, hb⟩
      have K4' : Hid (Kl w4' ku SK) := hk
      have X4' : Hid (Bx w4' w1.heap.size 4 2 (.slice p1 8 q1) (.slice p2 8 q2)) := X3'.out.below hb X3'.out.lt
      have F4' : Hid (Fl w4' (.agg #[.int .i64 4, .int .i64 2, .slice p1 8 q1, .slice p2 8 q2]) 4 2 SG SO) := F3'.out.below hb
      have R4' : Hid (Wx w4' w.heap.size (.int .i64 0) (.int .i64 0) (.int .i64 0) (.int .i64 0) (.slice none 0 0) (.slice none 0 0) (.slice none 0 0) (.slice none 0 0) (.slice none 0 0)) := R3'.out.below hb R3'.out.lt
      have B4' : Hid (Below w.heap.size w w4') := B3'.out.trans (hb.mono B3'.out.size)
      have ZQ' : Hid (Wx w4' z (.int .i64 0) (.int .i64 0) (.int .i64 0) (.int .i64 0) (.slice none 0 0) (.slice none 0 0) (.slice none 0 0) (.slice none 0 0) (.slice none 0 0)) := ZQ.out.below hb ZQ.out.lt
      clear hk hb X3' F3' R3' B3' ZQ
      have ZQ := ZQ'
      clear ZQ'
      refine ⟨_, rfl, X4'.out, ?_⟩
      go_simp
      refine headT_call rfl 20 #[ku, .agg #[.int .i64 4, .int .i64 2, .slice p1 8 q1, .slice p2 8 q2], .int .i64 2, .int .i64 100] (by go_simp) (by go_simp) ?_
      refine (new_any ku _ SK 4 2 SG SO 2 100 w4' K4'.out sm_names F4'.out).mono ?_
      rintro e w5 ⟨u, r, rfl, hr, ho, hb⟩
      rw [sm_f0] at hr
      rw [sm_0] at ho
      obtain rfl := er_zero hr
      have X5 : Hid (Bx w5 w1.heap.size 4 2 (.slice p1 8 q1) (.slice p2 8 q2)) := X4'.out.below hb X4'.out.lt
      have R5 : Hid (Wx w5 w.heap.size (.int .i64 0) (.int .i64 0) (.int .i64 0) (.int .i64 0) (.slice none 0 0) (.slice none 0 0) (.slice none 0 0) (.slice none 0 0) (.slice none 0 0)) := R4'.out.below hb R4'.out.lt
      have B5 : Hid (Below w.heap.size w w5) := B4'.out.trans (hb.mono B4'.out.size)
      have Z5 : Hid (Wx w5 z (.int .i64 0) (.int .i64 0) (.int .i64 0) (.int .i64 0) (.slice none 0 0) (.slice none 0 0) (.slice none 0 0) (.slice none 0 0) (.slice none 0 0)) := ZQ.out.below hb ZQ.out.lt
      have ZL : Hid (z < w4'.heap.size) := ZQ.out.lt
      obtain ⟨v1, v2, v3, v4, v5, rfl, o1, o2, o3, o4, o5⟩ := ho
      obtain ⟨a1, b1, rfl⟩ := o1.len
      obtain ⟨a2, b2, rfl⟩ := o2.len
      obtain ⟨a3, b3, rfl⟩ := o3.len
      obtain ⟨a4, b4, rfl⟩ := o4.len
      obtain ⟨a5, b5, rfl⟩ := o5.len
      obtain ⟨g1, g2, g3, g4, g5, g6, g7, g8, g9⟩ := s0_eqs
      simp only [g5] at o1
      simp only [g6] at o2
      simp only [g7] at o3
      simp only [g8] at o4
      simp only [g9] at o5
      simp only [g1, g2, g3, g4, g5, g6, g7, g8, g9]
      clear g1 g2 g3 g4 g5 g6 g7 g8 g9
      have NZ : Hid (Nz z (.slice a1 8 b1) ∧ Nz z (.slice a2 8 b2) ∧ Nz z (.slice a3 2 b3) ∧ Nz z (.slice a4 0 b4) ∧ Nz z (.slice a5 0 b5)) := ⟨fun b hb => by have := (o1.block b hb).1; have := ZL.out; omega, fun b hb => by have := (o2.block b hb).1; have := ZL.out; omega, fun b hb => by have := (o3.block b hb).1; have := ZL.out; omega, fun b hb => by have := (o4.block b hb).1; have := ZL.out; omega, fun b hb => by have := (o5.block b hb).1; have := ZL.out; omega⟩
      have O5 : Hid (Ow w5 (w.heap.size + 1) (.slice a1 8 b1) S0.gs ∧ Ow w5 (w.heap.size + 1) (.slice a2 8 b2) S0.os ∧ Ow w5 (w.heap.size + 1) (.slice a3 2 b3) S0.gold ∧ Uno w5 (w.heap.size + 1) (.slice a4 0 b4) S0.us ∧ Jbo w5 (w.heap.size + 1) (.slice a5 0 b5) S0.qs) := ⟨o1.mono R4'.out.lt, o2.mono R4'.out.lt, o3.mono R4'.out.lt, o4.mono R4'.out.lt, o5.mono R4'.out.lt⟩
      clear hr hb o1 o2 o3 o4 o5 K4' X4' F4' R4' B4' ZQ ZL
      refine ⟨_, rfl, X5.out, ?_⟩
      go_simp
      refine headT_read rfl (.tuple #[.agg #[.int .i64 0, .int .i64 1, .int .i64 4, .int .i64 2, .slice a1 8 b1, .slice a2 8 b2, .slice a3 2 b3, .slice a4 0 b4, .slice a5 0 b5], .nilIface]) (by go_simp) (fun V hV => by go_simp) ?_
      go_simp
      generalize w5 = w6 at *
      have X6 := X5
      have R6 := R5
      have B6 := B5
      have O6 := O5
      have Z6 := Z5
      clear X5 R5 B5 O5 Z5
      refine headT_read rfl (.agg #[.int .i64 0, .int .i64 1, .int .i64 4, .int .i64 2, .slice a1 8 b1, .slice a2 8 b2, .slice a3 2 b3, .slice a4 0 b4, .slice a5 0 b5]) (by go_simp) (fun V hV => by go_simp) ?_
      go_simp
      refine headT_read rfl .nilIface (by go_simp) (fun V hV => by go_simp) ?_
      go_simp
      have KW : Hid (Kp z w6 (((((((((w6.setCell ⟨z, 0, none⟩ (.int .i64 0)).setCell ⟨z, 1, none⟩ (.int .i64 1)).setCell ⟨z, 2, none⟩ (.int .i64 4)).setCell ⟨z, 3, none⟩ (.int .i64 2)).setCell ⟨z, 4, none⟩ (.slice a1 8 b1)).setCell ⟨z, 5, none⟩ (.slice a2 8 b2)).setCell ⟨z, 6, none⟩ (.slice a3 2 b3)).setCell ⟨z, 7, none⟩ (.slice a4 0 b4)).setCell ⟨z, 8, none⟩ (.slice a5 0 b5))) := put_kp _ _ _ _ _ _ _ _ _ _ _
      have FIN : Hid (SmI w S0 (.pointer (some ⟨z, 0, none⟩)) (((((((((w6.setCell ⟨z, 0, none⟩ (.int .i64 0)).setCell ⟨z, 1, none⟩ (.int .i64 1)).setCell ⟨z, 2, none⟩ (.int .i64 4)).setCell ⟨z, 3, none⟩ (.int .i64 2)).setCell ⟨z, 4, none⟩ (.slice a1 8 b1)).setCell ⟨z, 5, none⟩ (.slice a2 8 b2)).setCell ⟨z, 6, none⟩ (.slice a3 2 b3)).setCell ⟨z, 7, none⟩ (.slice a4 0 b4)).setCell ⟨z, 8, none⟩ (.slice a5 0 b5))) := smi_put HZ.out B6.out R6.out Z6.out O6.out NZ.out
      obtain ⟨x0, x1, x2, x3, x4, x5, x6, x7, x8⟩ := Z6.out.cells
      obtain ⟨t0, t1, t2, t3, t4, t5, t6, t7, t8⟩ := Z6.out.thaws
      refine headT_skip rfl (((((((((w6.setCell ⟨z, 0, none⟩ (.int .i64 0)).setCell ⟨z, 1, none⟩ (.int .i64 1)).setCell ⟨z, 2, none⟩ (.int .i64 4)).setCell ⟨z, 3, none⟩ (.int .i64 2)).setCell ⟨z, 4, none⟩ (.slice a1 8 b1)).setCell ⟨z, 5, none⟩ (.slice a2 8 b2)).setCell ⟨z, 6, none⟩ (.slice a3 2 b3)).setCell ⟨z, 7, none⟩ (.slice a4 0 b4)).setCell ⟨z, 8, none⟩ (.slice a5 0 b5)) (by go_simp) (by go_simp) (bx_kp X6.out KW.out XZ.out) ?_
      go_simp
      clear x0 x1 x2 x3 x4 x5 x6 x7 x8 t0 t1 t2 t3 t4 t5 t6 t7 t8
      generalize (((((((((w6.setCell ⟨z, 0, none⟩ (.int .i64 0)).setCell ⟨z, 1, none⟩ (.int .i64 1)).setCell ⟨z, 2, none⟩ (.int .i64 4)).setCell ⟨z, 3, none⟩ (.int .i64 2)).setCell ⟨z, 4, none⟩ (.slice a1 8 b1)).setCell ⟨z, 5, none⟩ (.slice a2 8 b2)).setCell ⟨z, 6, none⟩ (.slice a3 2 b3)).setCell ⟨z, 7, none⟩ (.slice a4 0 b4)).setCell ⟨z, 8, none⟩ (.slice a5 0 b5)) = w7 at *
      unfold wpHeadT
      refine sched_value rfl .nilIface w7 (by go_simp) (by go_simp) trivial ?_
      go_simp
      unfold wpSched
      go_wp2_with fail
      go_meet
      case rel => exact ⟨rfl, FIN.out⟩
  case rest =>
    obtain ⟨rfl, hS⟩ := hcut
    obtain ⟨z, c1, c2, c3, c4, c5, rfl, hz, hB, hR, hX, hO, hN⟩ := hS
    have HZ : Hid (w.heap.size < z) := hz
    have BA0 : Hid (Below w.heap.size w wc) := hB
    have RA0 : Hid (Wx wc w.heap.size (.int .i64 0) (.int .i64 0) (.int .i64 0) (.int .i64 0) (.slice none 0 0) (.slice none 0 0) (.slice none 0 0) (.slice none 0 0) (.slice none 0 0)) := hR
    have XA0 : Hid (Wx wc z (.int .i64 S0.turn) (.int .i64 S0.next) (.int .i64 S0.wide) (.int .i64 S0.high) c1 c2 c3 c4 c5) := hX
    have OA0 : Hid (Ow wc (w.heap.size + 1) c1 S0.gs ∧ Ow wc (w.heap.size + 1) c2 S0.os ∧ Ow wc (w.heap.size + 1) c3 S0.gold ∧ Uno wc (w.heap.size + 1) c4 S0.us ∧ Jbo wc (w.heap.size + 1) c5 S0.qs) := hO
    clear hz hB hR hX hO hN X2 FL R2 B2 N2
    generalize wc = s0 at *
    go_upto_region 3 with fail
    refine wp_region_two [(true, 1), (false, 0), (false, 2), (true, 3)] [(true, 4), (true, 5), (false, 6), (false, 7)] (fun V => Wx V z (.int .i64 S0.turn) (.int .i64 S0.next) (.int .i64 S0.wide) (.int .i64 S0.high) c1 c2 c3 c4 c5) (by kernel_rfl) (by kernel_rfl) (by kernel_rfl) (by decide +kernel) (by decide +kernel) XA0.out.drew ?_
    have X1 : Hid (Wx { s0 with drawn := s0.drawn + 1 } z (.int .i64 S0.turn) (.int .i64 S0.next) (.int .i64 S0.wide) (.int .i64 S0.high) c1 c2 c3 c4 c5) := XA0.out
    have R1 : Hid (Wx { s0 with drawn := s0.drawn + 1 } w.heap.size (.int .i64 0) (.int .i64 0) (.int .i64 0) (.int .i64 0) (.slice none 0 0) (.slice none 0 0) (.slice none 0 0) (.slice none 0 0) (.slice none 0 0)) := RA0.out
    have B1 : Hid (Below w.heap.size w { s0 with drawn := s0.drawn + 1 }) := BA0.out.drew
    have D1 : Hid (Below s0.heap.size s0 { s0 with drawn := s0.drawn + 1 }) := (Below.refl _ _).drew
    generalize ({ s0 with drawn := s0.drawn + 1 } : World) = v3 at *
    have L1 : Hid (Wl v3 (.agg #[.int .i64 S0.turn, .int .i64 S0.next, .int .i64 S0.wide, .int .i64 S0.high, c1, c2, c3, c4, c5]) S0) := ⟨_, _, _, _, _, rfl, (OA0.out.1.below D1.out).ro, (OA0.out.2.1.below D1.out).ro, (OA0.out.2.2.1.below D1.out).ro, (OA0.out.2.2.2.1.below D1.out).l, (OA0.out.2.2.2.2.below D1.out).l⟩
    clear XA0 RA0 BA0 OA0 D1
    refine headT_read rfl (.agg #[.int .i64 S0.turn, .int .i64 S0.next, .int .i64 S0.wide, .int .i64 S0.high, c1, c2, c3, c4, c5]) (by go_simp) (fun V hV => by obtain ⟨x0, x1, x2, x3, x4, x5, x6, x7, x8⟩ := hV.cells; go_simp) ?_
    go_simp
    refine headT_call rfl 12 #[] (by go_simp) (by go_simp) ?_
    refine (sorts_any v3).mono ?_
    rintro e v4 ⟨ku, rfl, hk, hb⟩
    have K4 : Hid (Kl v4 ku SK) := hk
    have X4 : Hid (Wx v4 z (.int .i64 S0.turn) (.int .i64 S0.next) (.int .i64 S0.wide) (.int .i64 S0.high) c1 c2 c3 c4 c5) := X1.out.below hb X1.out.lt
    have R4 : Hid (Wx v4 w.heap.size (.int .i64 0) (.int .i64 0) (.int .i64 0) (.int .i64 0) (.slice none 0 0) (.slice none 0 0) (.slice none 0 0) (.slice none 0 0) (.slice none 0 0)) := R1.out.below hb R1.out.lt
    have B4 : Hid (Below w.heap.size w v4) := B1.out.trans (hb.mono B1.out.size)
    have L4 : Hid (Wl v4 (.agg #[.int .i64 S0.turn, .int .i64 S0.next, .int .i64 S0.wide, .int .i64 S0.high, c1, c2, c3, c4, c5]) S0) := L1.out.below hb
    clear hk hb X1 R1 B1 L1
    refine ⟨_, rfl, X4.out, ?_⟩
    go_simp
    refine headT_call rfl 21 #[ku, .agg #[.int .i64 S0.turn, .int .i64 S0.next, .int .i64 S0.wide, .int .i64 S0.high, c1, c2, c3, c4, c5], .int .i64 0, .int .i64 0, .int .i64 0] (by go_simp) (by go_simp) ?_
    refine (place_any ku _ SK S0 0 0 0 v4 K4.out sm_names L4.out).mono ?_
    rintro e v5 ⟨u, r, rfl, hr, ho, hb⟩
    rw [sm_f1] at hr
    rw [sm_1] at ho
    obtain rfl := er_zero hr
    have X5 : Hid (Wx v5 z (.int .i64 S0.turn) (.int .i64 S0.next) (.int .i64 S0.wide) (.int .i64 S0.high) c1 c2 c3 c4 c5) := X4.out.below hb X4.out.lt
    have R5 : Hid (Wx v5 w.heap.size (.int .i64 0) (.int .i64 0) (.int .i64 0) (.int .i64 0) (.slice none 0 0) (.slice none 0 0) (.slice none 0 0) (.slice none 0 0) (.slice none 0 0)) := R4.out.below hb R4.out.lt
    have B5 : Hid (Below w.heap.size w v5) := B4.out.trans (hb.mono B4.out.size)
    have ZL : Hid (z < v4.heap.size) := X4.out.lt
    obtain ⟨y1, y2, y3, y4, y5, rfl, o1, o2, o3, o4, o5⟩ := ho
    obtain ⟨m11, n11, rfl⟩ := o1.len
    obtain ⟨m12, n12, rfl⟩ := o2.len
    obtain ⟨m13, n13, rfl⟩ := o3.len
    obtain ⟨m14, n14, rfl⟩ := o4.len
    obtain ⟨m15, n15, rfl⟩ := o5.len
    obtain ⟨g1, g2, g3, g4, g5, g6, g7, g8, g9⟩ := s1_eqs
    simp only [g5] at o1
    simp only [g6] at o2
    simp only [g7] at o3
    simp only [g8] at o4
    simp only [g9] at o5
    simp only [g1, g2, g3, g4, g5, g6, g7, g8, g9]
    clear g1 g2 g3 g4 g5 g6 g7 g8 g9
    have NZ : Hid (Nz z (.slice m11 8 n11) ∧ Nz z (.slice m12 8 n12) ∧ Nz z (.slice m13 2 n13) ∧ Nz z (.slice m14 1 n14) ∧ Nz z (.slice m15 0 n15)) := ⟨fun b hb => by have := (o1.block b hb).1; have := ZL.out; omega, fun b hb => by have := (o2.block b hb).1; have := ZL.out; omega, fun b hb => by have := (o3.block b hb).1; have := ZL.out; omega, fun b hb => by have := (o4.block b hb).1; have := ZL.out; omega, fun b hb => by have := (o5.block b hb).1; have := ZL.out; omega⟩
    have O5 : Hid (Ow v5 (w.heap.size + 1) (.slice m11 8 n11) S1.gs ∧ Ow v5 (w.heap.size + 1) (.slice m12 8 n12) S1.os ∧ Ow v5 (w.heap.size + 1) (.slice m13 2 n13) S1.gold ∧ Uno v5 (w.heap.size + 1) (.slice m14 1 n14) S1.us ∧ Jbo v5 (w.heap.size + 1) (.slice m15 0 n15) S1.qs) := ⟨o1.mono R4.out.lt, o2.mono R4.out.lt, o3.mono R4.out.lt, o4.mono R4.out.lt, o5.mono R4.out.lt⟩
    clear hr hb o1 o2 o3 o4 o5 K4 X4 R4 B4 L4 ZL
    refine ⟨_, rfl, X5.out, ?_⟩
    go_simp
    refine headT_read rfl (.tuple #[.agg #[.int .i64 0, .int .i64 2, .int .i64 4, .int .i64 2, .slice m11 8 n11, .slice m12 8 n12, .slice m13 2 n13, .slice m14 1 n14, .slice m15 0 n15], .nilIface]) (by go_simp) (fun V hV => by go_simp) ?_
    go_simp
    unfold wpHeadT
    have KW : Hid (Kp z v5 (((((((((v5.setCell ⟨z, 0, none⟩ (.int .i64 0)).setCell ⟨z, 1, none⟩ (.int .i64 2)).setCell ⟨z, 2, none⟩ (.int .i64 4)).setCell ⟨z, 3, none⟩ (.int .i64 2)).setCell ⟨z, 4, none⟩ (.slice m11 8 n11)).setCell ⟨z, 5, none⟩ (.slice m12 8 n12)).setCell ⟨z, 6, none⟩ (.slice m13 2 n13)).setCell ⟨z, 7, none⟩ (.slice m14 1 n14)).setCell ⟨z, 8, none⟩ (.slice m15 0 n15))) := put_kp _ _ _ _ _ _ _ _ _ _ _
    have XA1 : Hid (Wx (((((((((v5.setCell ⟨z, 0, none⟩ (.int .i64 0)).setCell ⟨z, 1, none⟩ (.int .i64 2)).setCell ⟨z, 2, none⟩ (.int .i64 4)).setCell ⟨z, 3, none⟩ (.int .i64 2)).setCell ⟨z, 4, none⟩ (.slice m11 8 n11)).setCell ⟨z, 5, none⟩ (.slice m12 8 n12)).setCell ⟨z, 6, none⟩ (.slice m13 2 n13)).setCell ⟨z, 7, none⟩ (.slice m14 1 n14)).setCell ⟨z, 8, none⟩ (.slice m15 0 n15)) z (.int .i64 0) (.int .i64 2) (.int .i64 4) (.int .i64 2) (.slice m11 8 n11) (.slice m12 8 n12) (.slice m13 2 n13) (.slice m14 1 n14) (.slice m15 0 n15)) := X5.out.put (.int .i64 0) (.int .i64 2) (.int .i64 4) (.int .i64 2) (.slice m11 8 n11) (.slice m12 8 n12) (.slice m13 2 n13) (.slice m14 1 n14) (.slice m15 0 n15)
    obtain ⟨x0, x1, x2, x3, x4, x5, x6, x7, x8⟩ := X5.out.cells
    obtain ⟨t0, t1, t2, t3, t4, t5, t6, t7, t8⟩ := X5.out.thaws
    refine sched_read rfl (.agg #[.int .i64 0, .int .i64 2, .int .i64 4, .int .i64 2, .slice m11 8 n11, .slice m12 8 n12, .slice m13 2 n13, .slice m14 1 n14, .slice m15 0 n15]) (by go_simp) (fun V hV => by go_simp) ?_
    go_simp
    refine sched_read rfl .nilIface (by go_simp) (fun V hV => by go_simp) ?_
    go_simp
    refine sched_skip rfl (((((((((v5.setCell ⟨z, 0, none⟩ (.int .i64 0)).setCell ⟨z, 1, none⟩ (.int .i64 2)).setCell ⟨z, 2, none⟩ (.int .i64 4)).setCell ⟨z, 3, none⟩ (.int .i64 2)).setCell ⟨z, 4, none⟩ (.slice m11 8 n11)).setCell ⟨z, 5, none⟩ (.slice m12 8 n12)).setCell ⟨z, 6, none⟩ (.slice m13 2 n13)).setCell ⟨z, 7, none⟩ (.slice m14 1 n14)).setCell ⟨z, 8, none⟩ (.slice m15 0 n15)) (by go_simp) (by go_simp) trivial ?_
    go_simp
    clear x0 x1 x2 x3 x4 x5 x6 x7 x8 t0 t1 t2 t3 t4 t5 t6 t7 t8
    generalize (((((((((v5.setCell ⟨z, 0, none⟩ (.int .i64 0)).setCell ⟨z, 1, none⟩ (.int .i64 2)).setCell ⟨z, 2, none⟩ (.int .i64 4)).setCell ⟨z, 3, none⟩ (.int .i64 2)).setCell ⟨z, 4, none⟩ (.slice m11 8 n11)).setCell ⟨z, 5, none⟩ (.slice m12 8 n12)).setCell ⟨z, 6, none⟩ (.slice m13 2 n13)).setCell ⟨z, 7, none⟩ (.slice m14 1 n14)).setCell ⟨z, 8, none⟩ (.slice m15 0 n15)) = s1 at *
    have BA1 : Hid (Below w.heap.size w s1) := KW.out.below B5.out B5.out.size (Nat.le_of_lt HZ.out)
    have RA1 : Hid (Wx s1 w.heap.size (.int .i64 0) (.int .i64 0) (.int .i64 0) (.int .i64 0) (.slice none 0 0) (.slice none 0 0) (.slice none 0 0) (.slice none 0 0) (.slice none 0 0)) := R5.out.kp KW.out (Nat.ne_of_lt HZ.out)
    have OA1 : Hid (Ow s1 (w.heap.size + 1) (.slice m11 8 n11) S1.gs ∧ Ow s1 (w.heap.size + 1) (.slice m12 8 n12) S1.os ∧ Ow s1 (w.heap.size + 1) (.slice m13 2 n13) S1.gold ∧ Uno s1 (w.heap.size + 1) (.slice m14 1 n14) S1.us ∧ Jbo s1 (w.heap.size + 1) (.slice m15 0 n15) S1.qs) := ⟨owns_nz O5.out.1 KW.out NZ.out.1, owns_nz O5.out.2.1 KW.out NZ.out.2.1, owns_nz O5.out.2.2.1 KW.out NZ.out.2.2.1, owns_nz O5.out.2.2.2.1 KW.out NZ.out.2.2.2.1, owns_nz O5.out.2.2.2.2 KW.out NZ.out.2.2.2.2⟩
    clear X5 R5 B5 O5 NZ KW
    refine sched_value rfl .nilIface s1 (by go_simp) (by go_simp) trivial ?_
    go_simp
    unfold wpSched
    go_upto_region 4 with fail
    refine wp_region_two [(true, 1), (false, 0), (false, 2), (true, 3)] [(true, 4), (true, 5), (false, 6), (false, 7)] (fun V => Wx V z (.int .i64 S1.turn) (.int .i64 S1.next) (.int .i64 S1.wide) (.int .i64 S1.high) (.slice m11 8 n11) (.slice m12 8 n12) (.slice m13 2 n13) (.slice m14 1 n14) (.slice m15 0 n15)) (by kernel_rfl) (by kernel_rfl) (by kernel_rfl) (by decide +kernel) (by decide +kernel) XA1.out.drew ?_
    have X1 : Hid (Wx { s1 with drawn := s1.drawn + 1 } z (.int .i64 S1.turn) (.int .i64 S1.next) (.int .i64 S1.wide) (.int .i64 S1.high) (.slice m11 8 n11) (.slice m12 8 n12) (.slice m13 2 n13) (.slice m14 1 n14) (.slice m15 0 n15)) := XA1.out
    have R1 : Hid (Wx { s1 with drawn := s1.drawn + 1 } w.heap.size (.int .i64 0) (.int .i64 0) (.int .i64 0) (.int .i64 0) (.slice none 0 0) (.slice none 0 0) (.slice none 0 0) (.slice none 0 0) (.slice none 0 0)) := RA1.out
    have B1 : Hid (Below w.heap.size w { s1 with drawn := s1.drawn + 1 }) := BA1.out.drew
    have D1 : Hid (Below s1.heap.size s1 { s1 with drawn := s1.drawn + 1 }) := (Below.refl _ _).drew
    generalize ({ s1 with drawn := s1.drawn + 1 } : World) = v3 at *
    have L1 : Hid (Wl v3 (.agg #[.int .i64 S1.turn, .int .i64 S1.next, .int .i64 S1.wide, .int .i64 S1.high, .slice m11 8 n11, .slice m12 8 n12, .slice m13 2 n13, .slice m14 1 n14, .slice m15 0 n15]) S1) := ⟨_, _, _, _, _, rfl, (OA1.out.1.below D1.out).ro, (OA1.out.2.1.below D1.out).ro, (OA1.out.2.2.1.below D1.out).ro, (OA1.out.2.2.2.1.below D1.out).l, (OA1.out.2.2.2.2.below D1.out).l⟩
    clear XA1 RA1 BA1 OA1 D1
    refine headT_read rfl (.agg #[.int .i64 S1.turn, .int .i64 S1.next, .int .i64 S1.wide, .int .i64 S1.high, .slice m11 8 n11, .slice m12 8 n12, .slice m13 2 n13, .slice m14 1 n14, .slice m15 0 n15]) (by go_simp) (fun V hV => by obtain ⟨x0, x1, x2, x3, x4, x5, x6, x7, x8⟩ := hV.cells; go_simp) ?_
    go_simp
    refine headT_call rfl 12 #[] (by go_simp) (by go_simp) ?_
    refine (sorts_any v3).mono ?_
    rintro e v4 ⟨ku, rfl, hk, hb⟩
    have K4 : Hid (Kl v4 ku SK) := hk
    have X4 : Hid (Wx v4 z (.int .i64 S1.turn) (.int .i64 S1.next) (.int .i64 S1.wide) (.int .i64 S1.high) (.slice m11 8 n11) (.slice m12 8 n12) (.slice m13 2 n13) (.slice m14 1 n14) (.slice m15 0 n15)) := X1.out.below hb X1.out.lt
    have R4 : Hid (Wx v4 w.heap.size (.int .i64 0) (.int .i64 0) (.int .i64 0) (.int .i64 0) (.slice none 0 0) (.slice none 0 0) (.slice none 0 0) (.slice none 0 0) (.slice none 0 0)) := R1.out.below hb R1.out.lt
    have B4 : Hid (Below w.heap.size w v4) := B1.out.trans (hb.mono B1.out.size)
    have L4 : Hid (Wl v4 (.agg #[.int .i64 S1.turn, .int .i64 S1.next, .int .i64 S1.wide, .int .i64 S1.high, .slice m11 8 n11, .slice m12 8 n12, .slice m13 2 n13, .slice m14 1 n14, .slice m15 0 n15]) S1) := L1.out.below hb
    clear hk hb X1 R1 B1 L1
    refine ⟨_, rfl, X4.out, ?_⟩
    go_simp
    refine headT_call rfl 21 #[ku, .agg #[.int .i64 S1.turn, .int .i64 S1.next, .int .i64 S1.wide, .int .i64 S1.high, .slice m11 8 n11, .slice m12 8 n12, .slice m13 2 n13, .slice m14 1 n14, .slice m15 0 n15], .int .i64 0, .int .i64 1, .int .i64 1] (by go_simp) (by go_simp) ?_
    refine (place_any ku _ SK S1 0 1 1 v4 K4.out sm_names L4.out).mono ?_
    rintro e v5 ⟨u, r, rfl, hr, ho, hb⟩
    rw [sm_f2] at hr
    rw [sm_2] at ho
    obtain rfl := er_zero hr
    have X5 : Hid (Wx v5 z (.int .i64 S1.turn) (.int .i64 S1.next) (.int .i64 S1.wide) (.int .i64 S1.high) (.slice m11 8 n11) (.slice m12 8 n12) (.slice m13 2 n13) (.slice m14 1 n14) (.slice m15 0 n15)) := X4.out.below hb X4.out.lt
    have R5 : Hid (Wx v5 w.heap.size (.int .i64 0) (.int .i64 0) (.int .i64 0) (.int .i64 0) (.slice none 0 0) (.slice none 0 0) (.slice none 0 0) (.slice none 0 0) (.slice none 0 0)) := R4.out.below hb R4.out.lt
    have B5 : Hid (Below w.heap.size w v5) := B4.out.trans (hb.mono B4.out.size)
    have ZL : Hid (z < v4.heap.size) := X4.out.lt
    obtain ⟨y1, y2, y3, y4, y5, rfl, o1, o2, o3, o4, o5⟩ := ho
    obtain ⟨m21, n21, rfl⟩ := o1.len
    obtain ⟨m22, n22, rfl⟩ := o2.len
    obtain ⟨m23, n23, rfl⟩ := o3.len
    obtain ⟨m24, n24, rfl⟩ := o4.len
    obtain ⟨m25, n25, rfl⟩ := o5.len
    obtain ⟨g1, g2, g3, g4, g5, g6, g7, g8, g9⟩ := s2_eqs
    simp only [g5] at o1
    simp only [g6] at o2
    simp only [g7] at o3
    simp only [g8] at o4
    simp only [g9] at o5
    simp only [g1, g2, g3, g4, g5, g6, g7, g8, g9]
    clear g1 g2 g3 g4 g5 g6 g7 g8 g9
    have NZ : Hid (Nz z (.slice m21 8 n21) ∧ Nz z (.slice m22 8 n22) ∧ Nz z (.slice m23 2 n23) ∧ Nz z (.slice m24 2 n24) ∧ Nz z (.slice m25 0 n25)) := ⟨fun b hb => by have := (o1.block b hb).1; have := ZL.out; omega, fun b hb => by have := (o2.block b hb).1; have := ZL.out; omega, fun b hb => by have := (o3.block b hb).1; have := ZL.out; omega, fun b hb => by have := (o4.block b hb).1; have := ZL.out; omega, fun b hb => by have := (o5.block b hb).1; have := ZL.out; omega⟩
    have O5 : Hid (Ow v5 (w.heap.size + 1) (.slice m21 8 n21) S2.gs ∧ Ow v5 (w.heap.size + 1) (.slice m22 8 n22) S2.os ∧ Ow v5 (w.heap.size + 1) (.slice m23 2 n23) S2.gold ∧ Uno v5 (w.heap.size + 1) (.slice m24 2 n24) S2.us ∧ Jbo v5 (w.heap.size + 1) (.slice m25 0 n25) S2.qs) := ⟨o1.mono R4.out.lt, o2.mono R4.out.lt, o3.mono R4.out.lt, o4.mono R4.out.lt, o5.mono R4.out.lt⟩
    clear hr hb o1 o2 o3 o4 o5 K4 X4 R4 B4 L4 ZL
    refine ⟨_, rfl, X5.out, ?_⟩
    go_simp
    refine headT_read rfl (.tuple #[.agg #[.int .i64 0, .int .i64 3, .int .i64 4, .int .i64 2, .slice m21 8 n21, .slice m22 8 n22, .slice m23 2 n23, .slice m24 2 n24, .slice m25 0 n25], .nilIface]) (by go_simp) (fun V hV => by go_simp) ?_
    go_simp
    unfold wpHeadT
    have KW : Hid (Kp z v5 (((((((((v5.setCell ⟨z, 0, none⟩ (.int .i64 0)).setCell ⟨z, 1, none⟩ (.int .i64 3)).setCell ⟨z, 2, none⟩ (.int .i64 4)).setCell ⟨z, 3, none⟩ (.int .i64 2)).setCell ⟨z, 4, none⟩ (.slice m21 8 n21)).setCell ⟨z, 5, none⟩ (.slice m22 8 n22)).setCell ⟨z, 6, none⟩ (.slice m23 2 n23)).setCell ⟨z, 7, none⟩ (.slice m24 2 n24)).setCell ⟨z, 8, none⟩ (.slice m25 0 n25))) := put_kp _ _ _ _ _ _ _ _ _ _ _
    have XA2 : Hid (Wx (((((((((v5.setCell ⟨z, 0, none⟩ (.int .i64 0)).setCell ⟨z, 1, none⟩ (.int .i64 3)).setCell ⟨z, 2, none⟩ (.int .i64 4)).setCell ⟨z, 3, none⟩ (.int .i64 2)).setCell ⟨z, 4, none⟩ (.slice m21 8 n21)).setCell ⟨z, 5, none⟩ (.slice m22 8 n22)).setCell ⟨z, 6, none⟩ (.slice m23 2 n23)).setCell ⟨z, 7, none⟩ (.slice m24 2 n24)).setCell ⟨z, 8, none⟩ (.slice m25 0 n25)) z (.int .i64 0) (.int .i64 3) (.int .i64 4) (.int .i64 2) (.slice m21 8 n21) (.slice m22 8 n22) (.slice m23 2 n23) (.slice m24 2 n24) (.slice m25 0 n25)) := X5.out.put (.int .i64 0) (.int .i64 3) (.int .i64 4) (.int .i64 2) (.slice m21 8 n21) (.slice m22 8 n22) (.slice m23 2 n23) (.slice m24 2 n24) (.slice m25 0 n25)
    obtain ⟨x0, x1, x2, x3, x4, x5, x6, x7, x8⟩ := X5.out.cells
    obtain ⟨t0, t1, t2, t3, t4, t5, t6, t7, t8⟩ := X5.out.thaws
    refine sched_read rfl (.agg #[.int .i64 0, .int .i64 3, .int .i64 4, .int .i64 2, .slice m21 8 n21, .slice m22 8 n22, .slice m23 2 n23, .slice m24 2 n24, .slice m25 0 n25]) (by go_simp) (fun V hV => by go_simp) ?_
    go_simp
    refine sched_read rfl .nilIface (by go_simp) (fun V hV => by go_simp) ?_
    go_simp
    refine sched_skip rfl (((((((((v5.setCell ⟨z, 0, none⟩ (.int .i64 0)).setCell ⟨z, 1, none⟩ (.int .i64 3)).setCell ⟨z, 2, none⟩ (.int .i64 4)).setCell ⟨z, 3, none⟩ (.int .i64 2)).setCell ⟨z, 4, none⟩ (.slice m21 8 n21)).setCell ⟨z, 5, none⟩ (.slice m22 8 n22)).setCell ⟨z, 6, none⟩ (.slice m23 2 n23)).setCell ⟨z, 7, none⟩ (.slice m24 2 n24)).setCell ⟨z, 8, none⟩ (.slice m25 0 n25)) (by go_simp) (by go_simp) trivial ?_
    go_simp
    clear x0 x1 x2 x3 x4 x5 x6 x7 x8 t0 t1 t2 t3 t4 t5 t6 t7 t8
    generalize (((((((((v5.setCell ⟨z, 0, none⟩ (.int .i64 0)).setCell ⟨z, 1, none⟩ (.int .i64 3)).setCell ⟨z, 2, none⟩ (.int .i64 4)).setCell ⟨z, 3, none⟩ (.int .i64 2)).setCell ⟨z, 4, none⟩ (.slice m21 8 n21)).setCell ⟨z, 5, none⟩ (.slice m22 8 n22)).setCell ⟨z, 6, none⟩ (.slice m23 2 n23)).setCell ⟨z, 7, none⟩ (.slice m24 2 n24)).setCell ⟨z, 8, none⟩ (.slice m25 0 n25)) = s2 at *
    have BA2 : Hid (Below w.heap.size w s2) := KW.out.below B5.out B5.out.size (Nat.le_of_lt HZ.out)
    have RA2 : Hid (Wx s2 w.heap.size (.int .i64 0) (.int .i64 0) (.int .i64 0) (.int .i64 0) (.slice none 0 0) (.slice none 0 0) (.slice none 0 0) (.slice none 0 0) (.slice none 0 0)) := R5.out.kp KW.out (Nat.ne_of_lt HZ.out)
    have OA2 : Hid (Ow s2 (w.heap.size + 1) (.slice m21 8 n21) S2.gs ∧ Ow s2 (w.heap.size + 1) (.slice m22 8 n22) S2.os ∧ Ow s2 (w.heap.size + 1) (.slice m23 2 n23) S2.gold ∧ Uno s2 (w.heap.size + 1) (.slice m24 2 n24) S2.us ∧ Jbo s2 (w.heap.size + 1) (.slice m25 0 n25) S2.qs) := ⟨owns_nz O5.out.1 KW.out NZ.out.1, owns_nz O5.out.2.1 KW.out NZ.out.2.1, owns_nz O5.out.2.2.1 KW.out NZ.out.2.2.1, owns_nz O5.out.2.2.2.1 KW.out NZ.out.2.2.2.1, owns_nz O5.out.2.2.2.2 KW.out NZ.out.2.2.2.2⟩
    clear X5 R5 B5 O5 NZ KW
    refine sched_value rfl .nilIface s2 (by go_simp) (by go_simp) trivial ?_
    go_simp
    unfold wpSched
    go_upto_region 5 with fail
    refine wp_region_two [(true, 1), (false, 0), (false, 2), (true, 3)] [(true, 4), (true, 5), (false, 6), (false, 7)] (fun V => Wx V z (.int .i64 S2.turn) (.int .i64 S2.next) (.int .i64 S2.wide) (.int .i64 S2.high) (.slice m21 8 n21) (.slice m22 8 n22) (.slice m23 2 n23) (.slice m24 2 n24) (.slice m25 0 n25)) (by kernel_rfl) (by kernel_rfl) (by kernel_rfl) (by decide +kernel) (by decide +kernel) XA2.out.drew ?_
    have X1 : Hid (Wx { s2 with drawn := s2.drawn + 1 } z (.int .i64 S2.turn) (.int .i64 S2.next) (.int .i64 S2.wide) (.int .i64 S2.high) (.slice m21 8 n21) (.slice m22 8 n22) (.slice m23 2 n23) (.slice m24 2 n24) (.slice m25 0 n25)) := XA2.out
    have R1 : Hid (Wx { s2 with drawn := s2.drawn + 1 } w.heap.size (.int .i64 0) (.int .i64 0) (.int .i64 0) (.int .i64 0) (.slice none 0 0) (.slice none 0 0) (.slice none 0 0) (.slice none 0 0) (.slice none 0 0)) := RA2.out
    have B1 : Hid (Below w.heap.size w { s2 with drawn := s2.drawn + 1 }) := BA2.out.drew
    have D1 : Hid (Below s2.heap.size s2 { s2 with drawn := s2.drawn + 1 }) := (Below.refl _ _).drew
    generalize ({ s2 with drawn := s2.drawn + 1 } : World) = v3 at *
    have L1 : Hid (Wl v3 (.agg #[.int .i64 S2.turn, .int .i64 S2.next, .int .i64 S2.wide, .int .i64 S2.high, .slice m21 8 n21, .slice m22 8 n22, .slice m23 2 n23, .slice m24 2 n24, .slice m25 0 n25]) S2) := ⟨_, _, _, _, _, rfl, (OA2.out.1.below D1.out).ro, (OA2.out.2.1.below D1.out).ro, (OA2.out.2.2.1.below D1.out).ro, (OA2.out.2.2.2.1.below D1.out).l, (OA2.out.2.2.2.2.below D1.out).l⟩
    clear XA2 RA2 BA2 OA2 D1
    refine headT_read rfl (.agg #[.int .i64 S2.turn, .int .i64 S2.next, .int .i64 S2.wide, .int .i64 S2.high, .slice m21 8 n21, .slice m22 8 n22, .slice m23 2 n23, .slice m24 2 n24, .slice m25 0 n25]) (by go_simp) (fun V hV => by obtain ⟨x0, x1, x2, x3, x4, x5, x6, x7, x8⟩ := hV.cells; go_simp) ?_
    go_simp
    refine headT_call rfl 12 #[] (by go_simp) (by go_simp) ?_
    refine (sorts_any v3).mono ?_
    rintro e v4 ⟨ku, rfl, hk, hb⟩
    have K4 : Hid (Kl v4 ku SK) := hk
    have X4 : Hid (Wx v4 z (.int .i64 S2.turn) (.int .i64 S2.next) (.int .i64 S2.wide) (.int .i64 S2.high) (.slice m21 8 n21) (.slice m22 8 n22) (.slice m23 2 n23) (.slice m24 2 n24) (.slice m25 0 n25)) := X1.out.below hb X1.out.lt
    have R4 : Hid (Wx v4 w.heap.size (.int .i64 0) (.int .i64 0) (.int .i64 0) (.int .i64 0) (.slice none 0 0) (.slice none 0 0) (.slice none 0 0) (.slice none 0 0) (.slice none 0 0)) := R1.out.below hb R1.out.lt
    have B4 : Hid (Below w.heap.size w v4) := B1.out.trans (hb.mono B1.out.size)
    have L4 : Hid (Wl v4 (.agg #[.int .i64 S2.turn, .int .i64 S2.next, .int .i64 S2.wide, .int .i64 S2.high, .slice m21 8 n21, .slice m22 8 n22, .slice m23 2 n23, .slice m24 2 n24, .slice m25 0 n25]) S2) := L1.out.below hb
    clear hk hb X1 R1 B1 L1
    refine ⟨_, rfl, X4.out, ?_⟩
    go_simp
    refine headT_call rfl 21 #[ku, .agg #[.int .i64 S2.turn, .int .i64 S2.next, .int .i64 S2.wide, .int .i64 S2.high, .slice m21 8 n21, .slice m22 8 n22, .slice m23 2 n23, .slice m24 2 n24, .slice m25 0 n25], .int .i64 1, .int .i64 2, .int .i64 3] (by go_simp) (by go_simp) ?_
    refine (place_any ku _ SK S2 1 2 3 v4 K4.out sm_names L4.out).mono ?_
    rintro e v5 ⟨u, r, rfl, hr, ho, hb⟩
    rw [sm_f3] at hr
    rw [sm_3] at ho
    obtain rfl := er_zero hr
    have X5 : Hid (Wx v5 z (.int .i64 S2.turn) (.int .i64 S2.next) (.int .i64 S2.wide) (.int .i64 S2.high) (.slice m21 8 n21) (.slice m22 8 n22) (.slice m23 2 n23) (.slice m24 2 n24) (.slice m25 0 n25)) := X4.out.below hb X4.out.lt
    have R5 : Hid (Wx v5 w.heap.size (.int .i64 0) (.int .i64 0) (.int .i64 0) (.int .i64 0) (.slice none 0 0) (.slice none 0 0) (.slice none 0 0) (.slice none 0 0) (.slice none 0 0)) := R4.out.below hb R4.out.lt
    have B5 : Hid (Below w.heap.size w v5) := B4.out.trans (hb.mono B4.out.size)
    have ZL : Hid (z < v4.heap.size) := X4.out.lt
    obtain ⟨y1, y2, y3, y4, y5, rfl, o1, o2, o3, o4, o5⟩ := ho
    obtain ⟨m31, n31, rfl⟩ := o1.len
    obtain ⟨m32, n32, rfl⟩ := o2.len
    obtain ⟨m33, n33, rfl⟩ := o3.len
    obtain ⟨m34, n34, rfl⟩ := o4.len
    obtain ⟨m35, n35, rfl⟩ := o5.len
    obtain ⟨g1, g2, g3, g4, g5, g6, g7, g8, g9⟩ := s3_eqs
    simp only [g5] at o1
    simp only [g6] at o2
    simp only [g7] at o3
    simp only [g8] at o4
    simp only [g9] at o5
    simp only [g1, g2, g3, g4, g5, g6, g7, g8, g9]
    clear g1 g2 g3 g4 g5 g6 g7 g8 g9
    have NZ : Hid (Nz z (.slice m31 8 n31) ∧ Nz z (.slice m32 8 n32) ∧ Nz z (.slice m33 2 n33) ∧ Nz z (.slice m34 3 n34) ∧ Nz z (.slice m35 0 n35)) := ⟨fun b hb => by have := (o1.block b hb).1; have := ZL.out; omega, fun b hb => by have := (o2.block b hb).1; have := ZL.out; omega, fun b hb => by have := (o3.block b hb).1; have := ZL.out; omega, fun b hb => by have := (o4.block b hb).1; have := ZL.out; omega, fun b hb => by have := (o5.block b hb).1; have := ZL.out; omega⟩
    have O5 : Hid (Ow v5 (w.heap.size + 1) (.slice m31 8 n31) S3.gs ∧ Ow v5 (w.heap.size + 1) (.slice m32 8 n32) S3.os ∧ Ow v5 (w.heap.size + 1) (.slice m33 2 n33) S3.gold ∧ Uno v5 (w.heap.size + 1) (.slice m34 3 n34) S3.us ∧ Jbo v5 (w.heap.size + 1) (.slice m35 0 n35) S3.qs) := ⟨o1.mono R4.out.lt, o2.mono R4.out.lt, o3.mono R4.out.lt, o4.mono R4.out.lt, o5.mono R4.out.lt⟩
    clear hr hb o1 o2 o3 o4 o5 K4 X4 R4 B4 L4 ZL
    refine ⟨_, rfl, X5.out, ?_⟩
    go_simp
    refine headT_read rfl (.tuple #[.agg #[.int .i64 0, .int .i64 4, .int .i64 4, .int .i64 2, .slice m31 8 n31, .slice m32 8 n32, .slice m33 2 n33, .slice m34 3 n34, .slice m35 0 n35], .nilIface]) (by go_simp) (fun V hV => by go_simp) ?_
    go_simp
    unfold wpHeadT
    have KW : Hid (Kp z v5 (((((((((v5.setCell ⟨z, 0, none⟩ (.int .i64 0)).setCell ⟨z, 1, none⟩ (.int .i64 4)).setCell ⟨z, 2, none⟩ (.int .i64 4)).setCell ⟨z, 3, none⟩ (.int .i64 2)).setCell ⟨z, 4, none⟩ (.slice m31 8 n31)).setCell ⟨z, 5, none⟩ (.slice m32 8 n32)).setCell ⟨z, 6, none⟩ (.slice m33 2 n33)).setCell ⟨z, 7, none⟩ (.slice m34 3 n34)).setCell ⟨z, 8, none⟩ (.slice m35 0 n35))) := put_kp _ _ _ _ _ _ _ _ _ _ _
    have XA3 : Hid (Wx (((((((((v5.setCell ⟨z, 0, none⟩ (.int .i64 0)).setCell ⟨z, 1, none⟩ (.int .i64 4)).setCell ⟨z, 2, none⟩ (.int .i64 4)).setCell ⟨z, 3, none⟩ (.int .i64 2)).setCell ⟨z, 4, none⟩ (.slice m31 8 n31)).setCell ⟨z, 5, none⟩ (.slice m32 8 n32)).setCell ⟨z, 6, none⟩ (.slice m33 2 n33)).setCell ⟨z, 7, none⟩ (.slice m34 3 n34)).setCell ⟨z, 8, none⟩ (.slice m35 0 n35)) z (.int .i64 0) (.int .i64 4) (.int .i64 4) (.int .i64 2) (.slice m31 8 n31) (.slice m32 8 n32) (.slice m33 2 n33) (.slice m34 3 n34) (.slice m35 0 n35)) := X5.out.put (.int .i64 0) (.int .i64 4) (.int .i64 4) (.int .i64 2) (.slice m31 8 n31) (.slice m32 8 n32) (.slice m33 2 n33) (.slice m34 3 n34) (.slice m35 0 n35)
    obtain ⟨x0, x1, x2, x3, x4, x5, x6, x7, x8⟩ := X5.out.cells
    obtain ⟨t0, t1, t2, t3, t4, t5, t6, t7, t8⟩ := X5.out.thaws
    refine sched_read rfl (.agg #[.int .i64 0, .int .i64 4, .int .i64 4, .int .i64 2, .slice m31 8 n31, .slice m32 8 n32, .slice m33 2 n33, .slice m34 3 n34, .slice m35 0 n35]) (by go_simp) (fun V hV => by go_simp) ?_
    go_simp
    refine sched_read rfl .nilIface (by go_simp) (fun V hV => by go_simp) ?_
    go_simp
    refine sched_skip rfl (((((((((v5.setCell ⟨z, 0, none⟩ (.int .i64 0)).setCell ⟨z, 1, none⟩ (.int .i64 4)).setCell ⟨z, 2, none⟩ (.int .i64 4)).setCell ⟨z, 3, none⟩ (.int .i64 2)).setCell ⟨z, 4, none⟩ (.slice m31 8 n31)).setCell ⟨z, 5, none⟩ (.slice m32 8 n32)).setCell ⟨z, 6, none⟩ (.slice m33 2 n33)).setCell ⟨z, 7, none⟩ (.slice m34 3 n34)).setCell ⟨z, 8, none⟩ (.slice m35 0 n35)) (by go_simp) (by go_simp) trivial ?_
    go_simp
    clear x0 x1 x2 x3 x4 x5 x6 x7 x8 t0 t1 t2 t3 t4 t5 t6 t7 t8
    generalize (((((((((v5.setCell ⟨z, 0, none⟩ (.int .i64 0)).setCell ⟨z, 1, none⟩ (.int .i64 4)).setCell ⟨z, 2, none⟩ (.int .i64 4)).setCell ⟨z, 3, none⟩ (.int .i64 2)).setCell ⟨z, 4, none⟩ (.slice m31 8 n31)).setCell ⟨z, 5, none⟩ (.slice m32 8 n32)).setCell ⟨z, 6, none⟩ (.slice m33 2 n33)).setCell ⟨z, 7, none⟩ (.slice m34 3 n34)).setCell ⟨z, 8, none⟩ (.slice m35 0 n35)) = s3 at *
    have BA3 : Hid (Below w.heap.size w s3) := KW.out.below B5.out B5.out.size (Nat.le_of_lt HZ.out)
    have RA3 : Hid (Wx s3 w.heap.size (.int .i64 0) (.int .i64 0) (.int .i64 0) (.int .i64 0) (.slice none 0 0) (.slice none 0 0) (.slice none 0 0) (.slice none 0 0) (.slice none 0 0)) := R5.out.kp KW.out (Nat.ne_of_lt HZ.out)
    have OA3 : Hid (Ow s3 (w.heap.size + 1) (.slice m31 8 n31) S3.gs ∧ Ow s3 (w.heap.size + 1) (.slice m32 8 n32) S3.os ∧ Ow s3 (w.heap.size + 1) (.slice m33 2 n33) S3.gold ∧ Uno s3 (w.heap.size + 1) (.slice m34 3 n34) S3.us ∧ Jbo s3 (w.heap.size + 1) (.slice m35 0 n35) S3.qs) := ⟨owns_nz O5.out.1 KW.out NZ.out.1, owns_nz O5.out.2.1 KW.out NZ.out.2.1, owns_nz O5.out.2.2.1 KW.out NZ.out.2.2.1, owns_nz O5.out.2.2.2.1 KW.out NZ.out.2.2.2.1, owns_nz O5.out.2.2.2.2 KW.out NZ.out.2.2.2.2⟩
    clear X5 R5 B5 O5 NZ KW
    refine sched_value rfl .nilIface s3 (by go_simp) (by go_simp) trivial ?_
    go_simp
    unfold wpSched
    go_upto_region 6 with fail
    refine wp_region_two [(true, 0), (true, 1), (true, 2), (true, 3), (true, 4), (true, 5), (true, 6), (true, 7), (true, 8), (true, 9), (true, 10), (true, 11), (true, 12), (true, 13), (true, 14), (true, 15), (true, 16), (true, 17), (true, 18), (true, 19), (true, 20), (true, 21), (true, 22), (true, 23), (true, 24), (true, 25), (true, 26), (true, 27), (true, 28), (true, 29), (true, 30), (false, 31)] [(false, 32)] (fun V => Wx V z (.int .i64 0) (.int .i64 4) (.int .i64 4) (.int .i64 2) (.slice m31 8 n31) (.slice m32 8 n32) (.slice m33 2 n33) (.slice m34 3 n34) (.slice m35 0 n35)) (by kernel_rfl) (by kernel_rfl) (by kernel_rfl) (by decide +kernel) (by decide +kernel) XA3.out.drew ?_
    have X1 : Hid (Wx { s3 with drawn := s3.drawn + 1 } z (.int .i64 0) (.int .i64 4) (.int .i64 4) (.int .i64 2) (.slice m31 8 n31) (.slice m32 8 n32) (.slice m33 2 n33) (.slice m34 3 n34) (.slice m35 0 n35)) := XA3.out
    have R1 : Hid (Wx { s3 with drawn := s3.drawn + 1 } w.heap.size (.int .i64 0) (.int .i64 0) (.int .i64 0) (.int .i64 0) (.slice none 0 0) (.slice none 0 0) (.slice none 0 0) (.slice none 0 0) (.slice none 0 0)) := RA3.out
    have B1 : Hid (Below w.heap.size w { s3 with drawn := s3.drawn + 1 }) := BA3.out.drew
    have D1 : Hid (Below s3.heap.size s3 { s3 with drawn := s3.drawn + 1 }) := (Below.refl _ _).drew
    generalize ({ s3 with drawn := s3.drawn + 1 } : World) = v3 at *
    have O1 : Hid (Ow v3 (w.heap.size + 1) (.slice m31 8 n31) S3.gs ∧ Ow v3 (w.heap.size + 1) (.slice m32 8 n32) S3.os ∧ Ow v3 (w.heap.size + 1) (.slice m33 2 n33) S3.gold ∧ Uno v3 (w.heap.size + 1) (.slice m34 3 n34) S3.us ∧ Jbo v3 (w.heap.size + 1) (.slice m35 0 n35) S3.qs) := ⟨OA3.out.1.below D1.out, OA3.out.2.1.below D1.out, OA3.out.2.2.1.below D1.out, OA3.out.2.2.2.1.below D1.out, OA3.out.2.2.2.2.below D1.out⟩
    clear XA3 RA3 BA3 OA3 D1
    refine headT_read rfl (.agg #[.int .i64 0, .int .i64 4, .int .i64 4, .int .i64 2, .slice m31 8 n31, .slice m32 8 n32, .slice m33 2 n33, .slice m34 3 n34, .slice m35 0 n35]) (by go_simp) (fun V hV => by obtain ⟨x0, x1, x2, x3, x4, x5, x6, x7, x8⟩ := hV.cells; go_simp) ?_
    go_simp
    refine headT_read rfl (.nilIface) (by go_simp) (fun V hV => by go_simp) ?_
    go_simp
    refine headT_read rfl (.bool true) (by go_simp) (fun V hV => by go_simp) ?_
    go_simp
    refine headT_read rfl (.bool true) (by go_simp) (fun V hV => by go_simp) ?_
    go_simp
    refine headT_read rfl (.nilIface) (by go_simp) (fun V hV => by go_simp) ?_
    go_simp
    refine headT_read rfl (.bool true) (by go_simp) (fun V hV => by go_simp) ?_
    go_simp
    refine headT_read rfl (.bool true) (by go_simp) (fun V hV => by go_simp) ?_
    go_simp
    refine headT_read rfl (.bool true) (by go_simp) (fun V hV => by go_simp) ?_
    go_simp
    refine headT_read rfl (.nilIface) (by go_simp) (fun V hV => by go_simp) ?_
    go_simp
    refine headT_read rfl (.bool true) (by go_simp) (fun V hV => by go_simp) ?_
    go_simp
    refine headT_read rfl (.bool true) (by go_simp) (fun V hV => by go_simp) ?_
    go_simp
    refine headT_read rfl (.bool true) (by go_simp) (fun V hV => by go_simp) ?_
    go_simp
    refine headT_read rfl (.nilIface) (by go_simp) (fun V hV => by go_simp) ?_
    go_simp
    refine headT_read rfl (.bool true) (by go_simp) (fun V hV => by go_simp) ?_
    go_simp
    refine headT_read rfl (.bool true) (by go_simp) (fun V hV => by go_simp) ?_
    go_simp
    refine headT_read rfl (.bool true) (by go_simp) (fun V hV => by go_simp) ?_
    go_simp
    refine headT_read rfl (.nilIface) (by go_simp) (fun V hV => by go_simp) ?_
    go_simp
    refine headT_read rfl (.bool true) (by go_simp) (fun V hV => by go_simp) ?_
    go_simp
    refine headT_read rfl (.bool true) (by go_simp) (fun V hV => by go_simp) ?_
    go_simp
    refine headT_read rfl (.bool true) (by go_simp) (fun V hV => by go_simp) ?_
    go_simp
    refine headT_read rfl (.pointer (some ⟨z, 7, none⟩)) (by go_simp) (fun V hV => by go_simp) ?_
    go_simp
    refine headT_read rfl (.slice m34 3 n34) (by go_simp) (fun V hV => by obtain ⟨x0, x1, x2, x3, x4, x5, x6, x7, x8⟩ := hV.cells; go_simp) ?_
    go_simp
    refine headT_read rfl (.int .i64 3) (by go_simp) (fun V hV => by go_simp) ?_
    go_simp
    refine headT_read rfl (.bool true) (by go_simp) (fun V hV => by go_simp) ?_
    go_simp
    refine headT_read rfl (.bool true) (by go_simp) (fun V hV => by go_simp) ?_
    go_simp
    refine headT_read rfl (.bool true) (by go_simp) (fun V hV => by go_simp) ?_
    go_simp
    refine headT_read rfl (.pointer (some ⟨z, 6, none⟩)) (by go_simp) (fun V hV => by go_simp) ?_
    go_simp
    refine headT_read rfl (.slice m33 2 n33) (by go_simp) (fun V hV => by obtain ⟨x0, x1, x2, x3, x4, x5, x6, x7, x8⟩ := hV.cells; go_simp) ?_
    go_simp
    refine headT_read rfl (.int .i64 2) (by go_simp) (fun V hV => by go_simp) ?_
    go_simp
    refine headT_read rfl (.bool true) (by go_simp) (fun V hV => by go_simp) ?_
    go_simp
    refine headT_read rfl (.bool true) (by go_simp) (fun V hV => by go_simp) ?_
    go_simp
    have KW : Hid (Kp w.heap.size v3 (((((((((v3.setCell ⟨w.heap.size, 0, none⟩ (.int .i64 0)).setCell ⟨w.heap.size, 1, none⟩ (.int .i64 4)).setCell ⟨w.heap.size, 2, none⟩ (.int .i64 4)).setCell ⟨w.heap.size, 3, none⟩ (.int .i64 2)).setCell ⟨w.heap.size, 4, none⟩ (.slice m31 8 n31)).setCell ⟨w.heap.size, 5, none⟩ (.slice m32 8 n32)).setCell ⟨w.heap.size, 6, none⟩ (.slice m33 2 n33)).setCell ⟨w.heap.size, 7, none⟩ (.slice m34 3 n34)).setCell ⟨w.heap.size, 8, none⟩ (.slice m35 0 n35))) := put_kp _ _ _ _ _ _ _ _ _ _ _
    have XF : Hid (Wx (((((((((v3.setCell ⟨w.heap.size, 0, none⟩ (.int .i64 0)).setCell ⟨w.heap.size, 1, none⟩ (.int .i64 4)).setCell ⟨w.heap.size, 2, none⟩ (.int .i64 4)).setCell ⟨w.heap.size, 3, none⟩ (.int .i64 2)).setCell ⟨w.heap.size, 4, none⟩ (.slice m31 8 n31)).setCell ⟨w.heap.size, 5, none⟩ (.slice m32 8 n32)).setCell ⟨w.heap.size, 6, none⟩ (.slice m33 2 n33)).setCell ⟨w.heap.size, 7, none⟩ (.slice m34 3 n34)).setCell ⟨w.heap.size, 8, none⟩ (.slice m35 0 n35)) w.heap.size (.int .i64 0) (.int .i64 4) (.int .i64 4) (.int .i64 2) (.slice m31 8 n31) (.slice m32 8 n32) (.slice m33 2 n33) (.slice m34 3 n34) (.slice m35 0 n35)) := R1.out.put (.int .i64 0) (.int .i64 4) (.int .i64 4) (.int .i64 2) (.slice m31 8 n31) (.slice m32 8 n32) (.slice m33 2 n33) (.slice m34 3 n34) (.slice m35 0 n35)
    obtain ⟨x0, x1, x2, x3, x4, x5, x6, x7, x8⟩ := R1.out.cells
    obtain ⟨t0, t1, t2, t3, t4, t5, t6, t7, t8⟩ := R1.out.thaws
    refine headT_skip rfl (((((((((v3.setCell ⟨w.heap.size, 0, none⟩ (.int .i64 0)).setCell ⟨w.heap.size, 1, none⟩ (.int .i64 4)).setCell ⟨w.heap.size, 2, none⟩ (.int .i64 4)).setCell ⟨w.heap.size, 3, none⟩ (.int .i64 2)).setCell ⟨w.heap.size, 4, none⟩ (.slice m31 8 n31)).setCell ⟨w.heap.size, 5, none⟩ (.slice m32 8 n32)).setCell ⟨w.heap.size, 6, none⟩ (.slice m33 2 n33)).setCell ⟨w.heap.size, 7, none⟩ (.slice m34 3 n34)).setCell ⟨w.heap.size, 8, none⟩ (.slice m35 0 n35)) (by go_simp) (by go_simp) (X1.out.kp KW.out (Nat.ne_of_gt HZ.out)) ?_
    go_simp
    clear x0 x1 x2 x3 x4 x5 x6 x7 x8 t0 t1 t2 t3 t4 t5 t6 t7 t8
    generalize (((((((((v3.setCell ⟨w.heap.size, 0, none⟩ (.int .i64 0)).setCell ⟨w.heap.size, 1, none⟩ (.int .i64 4)).setCell ⟨w.heap.size, 2, none⟩ (.int .i64 4)).setCell ⟨w.heap.size, 3, none⟩ (.int .i64 2)).setCell ⟨w.heap.size, 4, none⟩ (.slice m31 8 n31)).setCell ⟨w.heap.size, 5, none⟩ (.slice m32 8 n32)).setCell ⟨w.heap.size, 6, none⟩ (.slice m33 2 n33)).setCell ⟨w.heap.size, 7, none⟩ (.slice m34 3 n34)).setCell ⟨w.heap.size, 8, none⟩ (.slice m35 0 n35)) = v4 at *
    unfold wpHeadT
    refine sched_value rfl (.bool true) v4 (by go_simp) (by go_simp) trivial ?_
    go_simp
    unfold wpSched
    obtain ⟨y0, y1, y2, y3, y4, y5, y6, y7, y8⟩ := XF.out.cells
    go_wp2
    refine bodyPost_ret (v := .tuple #[.agg #[.int .i64 0, .int .i64 4, .int .i64 4, .int .i64 2, .slice m31 8 n31, .slice m32 8 n32, .slice m33 2 n33, .slice m34 3 n34, .slice m35 0 n35], .bool true]) (by simp [results, Tryd.results11, go_sem, y0, y1, y2, y3, y4, y5, y6, y7, y8]) rfl ⟨_, rfl, ⟨_, _, _, _, _, rfl, Ow.mono (owns_kp O1.out.1 KW.out (by omega)) (by omega), Ow.mono (owns_kp O1.out.2.1 KW.out (by omega)) (by omega), Ow.mono (owns_kp O1.out.2.2.1 KW.out (by omega)) (by omega), Uno.mono (owns_kp O1.out.2.2.2.1 KW.out (by omega)) (by omega), Jbo.mono (owns_kp O1.out.2.2.2.2 KW.out (by omega)) (by omega)⟩, KW.out.below B1.out B1.out.size (Nat.le_refl _)⟩
end Go.Proofs.YtplnhgllbhdfjaaDoor

namespace Go.Proofs.YtplnhgllbhdfjaaDoor
open Go.RowKit
set_option linter.unusedVariables false

set_option maxRecDepth 100000 in
set_option maxHeartbeats 2000000 in
theorem rfind_any (v : Value) (W : WV) (id : Int) (w : World) (h : Wl w v W) :
    Calls Tryd.prog 14 #[v, .int .i64 id] w fun e w' => ∃ r : Int, e = .returned (.int .i64 r) ∧ FstU (fun u => u.id == id) W.us r ∧ Below w.heap.size w w' := by
  obtain ⟨u1, u2, u3, u4, u5, rfl, -, -, -, ⟨a, c, rfl, c1, c2, ca⟩, -⟩ := h
  have Ca : Hid (W.us ≠ [] → ∃ x, a = some x ∧ x.block < w.heap.size ∧ ∀ (i : Nat) k, W.us[i]? = some k → Unc w (x.add (i * 8)) k) := ca
  clear ca
  go_enter Tryd.func14, Tryd.ntmps14
  go_wp2
  have B0 : Hid (Below w.heap.size w (w.alloc (Obj.cells #[.int .i64 W.turn, .int .i64 W.next, .int .i64 W.wide, .int .i64 W.high, u1, u2, u3, .slice a W.us.length c, u5] 29))) := (Below.refl _ _).alloc (Nat.le_refl _) _
  have X0 : Hid (Bw (w.alloc (Obj.cells #[.int .i64 W.turn, .int .i64 W.next, .int .i64 W.wide, .int .i64 W.high, u1, u2, u3, .slice a W.us.length c, u5] 29)) w.heap.size W u1 u2 u3 (.slice a W.us.length c) u5) := Bw.mk' W _ _ _ _ _ rfl
  generalize w.alloc (Obj.cells #[.int .i64 W.turn, .int .i64 W.next, .int .i64 W.wide, .int .i64 W.high, u1, u2, u3, .slice a W.us.length c, u5] 29) = w0 at *
  go_loopw [5] (fun iv V => ∃ k : Nat, k ≤ W.us.length ∧ iv = .int .i64 (k : Nat) ∧ (W.us.take k).any (fun u => u.id == id) = false ∧ V = w0) (fun iv _ => W.us.length - (intOf iv).toNat)
  case atStart => exact ⟨0, Nat.zero_le _, rfl, rfl, rfl⟩
  case round =>
    obtain ⟨k, hk, rfl, hn, rfl⟩ := hrel
    have HN : Hid ((W.us.take k).any (fun u => u.id == id) = false) := hn
    have c7 := X0.out.c7
    clear hn
    by_cases hkl : k = W.us.length
    · have F : Hid (FstU (fun u => u.id == id) W.us (-1)) := .inl ⟨rfl, by have := HN.out; rwa [hkl, List.take_length] at this⟩
      subst hkl
      clear hk
      go_wp2
      go_ret
      exact ⟨-1, rfl, F.out, B0.out⟩
    · have hlt : k < W.us.length := by omega
      have hli : (k : Int) < (W.us.length : Int) := by omega
      obtain ⟨u, hu⟩ : ∃ u, W.us[k]? = some u := ⟨_, List.getElem?_eq_getElem hlt⟩
      obtain ⟨x, rfl, hx, hcell⟩ := Ca.out (by intro e; rw [e] at hlt; simp at hlt)
      obtain ⟨d0, -, -, -, -, -, -, -⟩ := (hcell k u hu).below B0.out (by rw [add_block]; exact hx)
      have HU : Hid (W.us[k]? = some u) := hu
      clear hcell hx hu hkl
      by_cases hid : u.id = id
      · have F : Hid (FstU (fun u => u.id == id) W.us (k : Nat)) := .inr ⟨k, u, rfl, HU.out, by simp [hid], HN.out⟩
        go_wp2
        go_ret
        exact ⟨_, rfl, F.out, B0.out⟩
      · have hidb : (u.id == id) = false := by simpa using hid
        have N2 : Hid ((W.us.take (k + 1)).any (fun u => u.id == id) = false) := by unfold Hid; rw [anyu_next HU.out, HN.out, hidb]; rfl
        clear hid
        go_wp2
        go_roundw
        case rel => exact ⟨k + 1, by omega, rfl, N2.out, trivial⟩
        case measure => simp [intOf]; omega
end Go.Proofs.YtplnhgllbhdfjaaDoor

namespace Go.Proofs.YtplnhgllbhdfjaaDoor
open Go.RowKit
set_option linter.unusedVariables false

set_option maxHeartbeats 1000000 in
theorem right_fw (vk vw : Value) (ks : List KV) (X : WV) (w : World) (hk : Kl w vk ks) (hb : ∀ k ∈ ks, k.b.size ≤ 9223372036854775807) (hw : Wl w vw X) (h0 : Wd.wfault ks X = 0) :
    Calls Tryd.prog 13 #[vk, vw] w fun e w' => e = .returned (.bool true) ∧ Below w.heap.size w w' := by
  have H : Hid (Wl w vw X ∧ Kl w vk ks ∧ (∀ k ∈ ks, k.b.size ≤ 9223372036854775807) ∧ Wd.wfault ks X = 0) := ⟨hw, hk, hb, h0⟩
  obtain ⟨p1, q1, p2, q2, p3, q3, p4, q4, p5, q5, rfl⟩ := wl_shape9 hw
  clear hk hb hw h0
  go_enter Tryd.func13, Tryd.ntmps13
  go_upto_region 1 with fail
  have B0 : Hid (Below w.heap.size w (w.alloc (Obj.cells #[.int .i64 X.turn, .int .i64 X.next, .int .i64 X.wide, .int .i64 X.high, .slice p1 X.gs.length q1, .slice p2 X.os.length q2, .slice p3 X.gold.length q3, .slice p4 X.us.length q4, .slice p5 X.qs.length q5] 29))) := (Below.refl _ _).alloc (Nat.le_refl _) _
  have X0 : Hid (Bw (w.alloc (Obj.cells #[.int .i64 X.turn, .int .i64 X.next, .int .i64 X.wide, .int .i64 X.high, .slice p1 X.gs.length q1, .slice p2 X.os.length q2, .slice p3 X.gold.length q3, .slice p4 X.us.length q4, .slice p5 X.qs.length q5] 29)) w.heap.size X (.slice p1 X.gs.length q1) (.slice p2 X.os.length q2) (.slice p3 X.gold.length q3) (.slice p4 X.us.length q4) (.slice p5 X.qs.length q5)) := Bw.mk' X _ _ _ _ _ rfl
  generalize (w.alloc (Obj.cells #[.int .i64 X.turn, .int .i64 X.next, .int .i64 X.wide, .int .i64 X.high, .slice p1 X.gs.length q1, .slice p2 X.os.length q2, .slice p3 X.gold.length q3, .slice p4 X.us.length q4, .slice p5 X.qs.length q5] 29)) = w0 at *
  obtain ⟨x0, x1, x2, x3, x4, x5, x6, x7, x8⟩ := X0.out
  go_wp2_with fail
  refine (wcheck_any _ _ ks X w0 (H.out.2.1.below B0.out) H.out.2.2.1 (H.out.1.below B0.out)).mono ?_
  rintro e w1 ⟨r, rfl, hr, hb⟩
  rw [H.out.2.2.2] at hr
  obtain rfl := er_zero hr
  have B1 : Hid (Below w.heap.size w w1) := B0.out.trans (hb.mono B0.out.size)
  clear hb hr x0 x1 x2 x3 x4 x5 x6 x7 x8
  go_wp2
  go_ret
  exact ⟨rfl, B1.out⟩
theorem own_ne {w : World} {base g : Nat} {T : TypeId} {size : Nat} {u : Value} {n : Nat} {cs : List Value} {us : List UnV} {rest : List Value} (h : w.ownsRow base T size u n cs) (hu : Ub w g us rest) (hT : T ≠ 38) : ∀ b, u.ownBlock = some b → some g ≠ some b := by
  intro b hb e
  rcases h.2 with ⟨h1, -⟩ | ⟨g', cap, cur, h1, -, h3, -⟩
  · rw [h1] at hb; cases hb
  · rw [h1] at hb
    have hb' : g' = b := by injection hb
    injection e with e
    unfold Ub at hu
    rw [hb', ← e, hu] at h3
    injection h3 with h3
    injection h3 with h4 h5
    exact hT h5.symm
/-- what the fact's move tells. -/
theorem sm_move {w w' : World} {v ev : Value} (h : MoveSays SK SQ w w' v ev) : ∃ f1 h1 f2 h2 f3 h3 gf h4 f5 h5 ge he, v = .agg #[.int .i64 0, .int .i64 4, .int .i64 4, .int .i64 2, .slice f1 8 h1, .slice f2 8 h2, .slice f3 2 h3, .slice (some ⟨gf, 0, none⟩) 3 h4, .slice f5 0 h5] ∧ ev = .slice (some ⟨ge, 0, none⟩) 1 he ∧ w.heap.size ≤ gf ∧ 3 ≤ h4 ∧ w'.cell? ⟨gf, 19, none⟩ = some (.int .i64 2) ∧ w'.cell? ⟨gf, 22, none⟩ = some (.int .i64 0) := by
  rcases h with ⟨h, -⟩ | ⟨-, Wn, Hn, hW, hH, -, us', evs, hm, -, ho, he⟩
  · exact absurd sq_fault h
  · obtain rfl : Wn = 4 := by
      have : (4 : Int) = (Wn : Nat) := hW
      omega
    obtain rfl : Hn = 2 := by
      have : (2 : Int) = (Hn : Nat) := hH
      omega
    obtain ⟨hl, rfl⟩ := sq_moves hm
    obtain ⟨u1, u2, u3, u4, u5, rfl, o1, o2, o3, o4, o5⟩ := ho
    obtain ⟨f1, h1, rfl⟩ := o1.len
    obtain ⟨f2, h2, rfl⟩ := o2.len
    obtain ⟨f3, h3, rfl⟩ := o3.len
    obtain ⟨f5, h5, rfl⟩ := o5.len
    have o4' : Uno w' w.heap.size u4 [⟨1, 0, 0, 0, 50, 0, 0, 0⟩, ⟨2, 0, 1, 1, 10, 0, 0, 0⟩, ⟨3, 1, 2, 2, 20, 0, 0, 0⟩] := o4
    rcases o4'.ub with ⟨-, h⟩ | ⟨gf, h4, rest, rfl, hgf, hc, -, -, hub⟩
    · cases h
    rcases he.2 with ⟨-, h⟩ | ⟨ge, ce, cur, rfl, -⟩
    · rw [hl] at h; cases h
    rw [hl]
    exact ⟨f1, h1, f2, h2, f3, h3, gf, h4, f5, h5, ge, ce, rfl, rfl, hgf, hc, (hub.unc (i := 2) (o := ⟨3, 1, 2, 2, 20, 0, 0, 0⟩) rfl).c3, (hub.unc (i := 2) (o := ⟨3, 1, 2, 2, 20, 0, 0, 0⟩) rfl).c6⟩
/-- a list that is filled from its beginning on. -/
def fil (f : List Int) (n : Nat) : List Int := f.take n ++ List.replicate (f.length - n) 0
theorem fil_zero (f : List Int) : fil f 0 = List.replicate f.length 0 := by simp [fil]
theorem fil_all (f : List Int) : fil f f.length = f := by simp [fil]
theorem fil_len (f : List Int) {n : Nat} (hn : n ≤ f.length) : (fil f n).length = f.length := by
  unfold fil
  rw [List.length_append, List.length_take, List.length_replicate]
  omega
theorem fil_at {f : List Int} {n : Nat} (hn : n < f.length) : (fil f n)[n]? = some 0 := by
  unfold fil
  rw [List.getElem?_append_right (by rw [List.length_take]; omega), List.length_take, Nat.min_eq_left (by omega), Nat.sub_self, List.getElem?_replicate, if_pos (by omega)]
theorem fil_next {f : List Int} {n : Nat} {x : Int} (hx : f[n]? = some x) : (fil f n).set n x = fil f (n + 1) := by
  obtain ⟨hn, e⟩ := List.getElem?_eq_some_iff.1 hx
  have hl : (f.take n).length = n := by rw [List.length_take]; omega
  unfold fil
  rw [List.set_append_right _ _ (by omega), hl, Nat.sub_self, show f.length - n = (f.length - (n + 1)) + 1 by omega, List.replicate_succ, List.set_cons_zero, List.take_succ_eq_append_getElem hn, e, List.append_assoc]
  rfl
end Go.Proofs.YtplnhgllbhdfjaaDoor

