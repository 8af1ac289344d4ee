/- Where a new one comes: how near it is. Plain mathematics. · The reference's Spot as mathematics: the nearest free cell, the first of equals. · The reference's Train as mathematics: what a job of a right world asks. · What stays while jobs are looked at. · The reference's Train: what stays while jobs are looked at. · path.From: how far it is from a cell to each. · slices.DeleteFunc of units. · slices.MinFunc of units. · move.home's two functions; move.isDone. · slices.Clone of units. · A region that draws its order, in which one operation (A: what makes memory for an answer) may come at any time beside calls in one order and what reads. · move.home: the cell of the nearest unit of its player that trains. · move.isDone and move.aim. · Lands: how far it is to a cell, and from one. · Lands: the next cell on a way. · The calls of package path: the way. · move.wish, move.Wish, move.isTaken. · move.walk: as far as its Speed goes. -/
import Derived.Test.YteieikgkmfglaaaGreatDoorZWorksDo8
import Derived.Test.YteieikgkmfglaaaGreatDoorZWorksDo4
import Derived.Test.YteieikgkmfglaaaGreatDoorZWorksDo3
import Derived.Test.YteieikgkmfglaaaGreatDoorZWorksDo2
import Derived.Laws.CopyRow
import Derived.Lib.SliceRun
import Derived.Deep.DeepCutAuto
import Derived.Test.YteieikgkmfglaaaGreatDoorZWorksDo1
import Derived.BigQuiet
import Derived.Test.YteieikgkmfglaaaGreatDoorZWorksDo5
namespace Go.Proofs.YteieikgkmfglaaaGreatDoor
open Wy
set_option linter.unusedVariables false
/-- where a new one comes: a cell that its kind steps on, from one step to three from who trains it. -/
theorem spot_near {W H an : Nat} {gs os l : List Int} {fl : Bool} {us : List UnV} {c : Int} (G : Fd.Good W H gs os) (ha : an < W * H) (hl : IsFar (Fd.near W H) (fun i _ => (gs.map fun g => Fd.onto g fl).getD i 0) an (W * H) l)
  (ht : us.any (fun u => u.at_ == (an : Int)) = true) (h : NearSays l (W * H) (freeAt us) c 0) : ∃ (cn : Nat) (g : Int), c = cn ∧ cn < W * H ∧ gs[cn]? = some g ∧ 0 < Fd.onto g fl ∧ us.any (fun u => u.at_ == c) = false ∧ 0 < l.getD cn 0 ∧ l.getD cn 0 ≤ 3 := by
 rcases h with ⟨h, -⟩ | ⟨-, m, j, hm, hj, hp, -, -⟩
 ·cases h
 obtain ⟨cn, rfl, hcn, h0, h1⟩ := rch_mem.1 (List.mem_of_getElem? hj)
 have hgl : cn < gs.length := by rw [G.gl]; exact hcn
 have hfree : us.any (fun u => u.at_ == (cn : Int)) = false := by
  unfold freeAt at hp
  simpa using hp
 have hne : cn ≠ an := by
  intro e; subst e
  rw [ht] at hfree; cases hfree
 have hw := least_get hl hcn
 have hs : 0 < (gs.map fun g => Fd.onto g fl).getD cn 0 ∧ 0 < l.getD cn 0 := by
  generalize l.getD cn 0 = x at *
  rcases hw with ⟨rfl, -⟩ | ⟨hw, -⟩
  ·omega
  ·cases hw with
   | here => exact absurd rfl hne
   | step hj hs hw => exact ⟨hs, by have := hw.nonneg; omega⟩
 refine ⟨cn, gs[cn], rfl, hcn, List.getElem?_eq_getElem hgl, ?_, hfree, hs.2, by omega⟩
 have := hs.1
 rw [List.getD_eq_getElem?_getD, List.getElem?_map, List.getElem?_eq_getElem hgl] at this
 exact this
end Go.Proofs.YteieikgkmfglaaaGreatDoor
namespace Go.Proofs.YteieikgkmfglaaaGreatDoor
open Wy
set_option linter.unusedVariables false
/-- the best of the first cells, and how far it is. -/
def rsp (l : List Int) (p : Int → Bool) : Nat → Int × Int
 | 0 => (-1, 4)
 | c + 1 => if 0 ≤ l.getD c 0 ∧ l.getD c 0 < (rsp l p c).2 ∧ p (c : Int) = true then ((c : Int), l.getD c 0) else rsp l p c
theorem rsp_yes {l : List Int} {p : Int → Bool} {c : Nat} (h : 0 ≤ l.getD c 0 ∧ l.getD c 0 < (rsp l p c).2 ∧ p (c : Int) = true) : rsp l p (c + 1) = ((c : Int), l.getD c 0) := by rw [rsp, if_pos h]
theorem rsp_no {l : List Int} {p : Int → Bool} {c : Nat} (h : ¬ (0 ≤ l.getD c 0 ∧ l.getD c 0 < (rsp l p c).2 ∧ p (c : Int) = true)) : rsp l p (c + 1) = rsp l p c := by rw [rsp, if_neg h]
theorem rsp_le {l : List Int} {p : Int → Bool} : ∀ c, (rsp l p c).2 ≤ 4 ∧ 0 ≤ (rsp l p c).2
 | 0 => by simp [rsp]
 | c + 1 => by
  have ih := rsp_le (l := l) (p := p) c
  by_cases h : 0 ≤ l.getD c 0 ∧ l.getD c 0 < (rsp l p c).2 ∧ p (c : Int) = true
  ·rw [rsp_yes h]
   simp only
   omega
  ·rw [rsp_no h]
   exact ih
/-- what the best is. -/
def Bst (l : List Int) (p : Int → Bool) (k : Nat) (r : Int × Int) : Prop :=
 (r.1 = -1 ∧ r.2 = 4 ∧ ∀ i : Nat, i < k → p (i : Int) = true → 0 ≤ l.getD i 0 → 4 ≤ l.getD i 0)
 ∨ ∃ b : Nat, b < k ∧ r.1 = (b : Int) ∧ r.2 = l.getD b 0 ∧ 0 ≤ r.2 ∧ r.2 < 4 ∧ p (b : Int) = true ∧ (∀ i : Nat, i < k → p (i : Int) = true → 0 ≤ l.getD i 0 → r.2 ≤ l.getD i 0) ∧ ∀ i : Nat, i < b → p (i : Int) = true → 0 ≤ l.getD i 0 → r.2 < l.getD i 0
theorem rsp_is {l : List Int} {p : Int → Bool} : ∀ k, Bst l p k (rsp l p k)
 | 0 => .inl ⟨rfl, rfl, fun i hi => by omega⟩
 | k + 1 => by
  have ih := rsp_is (l := l) (p := p) k
  by_cases h : 0 ≤ l.getD k 0 ∧ l.getD k 0 < (rsp l p k).2 ∧ p (k : Int) = true
  ·rw [rsp_yes h]
   obtain ⟨h1, h2, h3⟩ := h
   refine .inr ⟨k, by omega, rfl, rfl, h1, ?_, h3, ?_, ?_⟩
   ·have := (rsp_le (l := l) (p := p) k).1
    simp only
    omega
   ·intro i hi hp h0
    simp only
    rcases Nat.lt_or_ge i k with hk | hk
    ·rcases ih with ⟨-, e2, h4⟩ | ⟨b, -, -, -, -, -, -, h5, -⟩
     ·have := h4 i hk hp h0; omega
     ·have := h5 i hk hp h0; omega
    ·have : i = k := by omega
     subst this
     omega
   ·intro i hi hp h0
    simp only
    rcases ih with ⟨-, e2, h4⟩ | ⟨b, -, -, -, -, -, -, h5, -⟩
    ·have := h4 i hi hp h0; omega
    ·have := h5 i hi hp h0; omega
  ·rw [rsp_no h]
   have hk : p (k : Int) = true → 0 ≤ l.getD k 0 → (rsp l p k).2 ≤ l.getD k 0 := fun hp h0 => by
    rcases Int.lt_or_le (l.getD k 0) (rsp l p k).2 with h9 | h9
    ·exact absurd ⟨h0, h9, hp⟩ h
    ·exact h9
   rcases ih with ⟨e1, e2, h4⟩ | ⟨b, hb, e1, e2, h1, h2, h3, h5, h6⟩
   ·refine .inl ⟨e1, e2, fun i hi hp h0 => ?_⟩
    rcases Nat.lt_or_ge i k with hi2 | hi2
    ·exact h4 i hi2 hp h0
    ·have : i = k := by omega
     subst this
     have := hk hp h0
     omega
   ·refine .inr ⟨b, by omega, e1, e2, h1, h2, h3, fun i hi hp h0 => ?_, h6⟩
    rcases Nat.lt_or_ge i k with hi2 | hi2
    ·exact h5 i hi2 hp h0
    ·have : i = k := by omega
     subst this
     exact hk hp h0
theorem rsp_mem {l : List Int} {m : Int} {n : Nat} {x : Int} : x ∈ rch l m n ↔ ∃ i : Nat, i < n ∧ x = (i : Int) ∧ 0 ≤ l.getD i 0 ∧ l.getD i 0 ≤ m := by
 unfold rch
 simp only [List.mem_map, List.mem_filter, List.mem_range, decide_eq_true_eq]
 constructor
 ·rintro ⟨i, ⟨h1, h2, h3⟩, rfl⟩
  exact ⟨i, h1, rfl, h2, h3⟩
 ·rintro ⟨i, h1, rfl, h2, h3⟩
  exact ⟨i, ⟨h1, h2, h3⟩, rfl⟩
theorem rsp_rise (l : List Int) (m : Int) (n : Nat) : (rch l m n).Pairwise (· < ·) := by
 unfold rch
 rw [List.pairwise_map]
 refine List.Pairwise.imp (fun h => Int.ofNat_lt.2 h) (List.Pairwise.filter _ List.pairwise_lt_range)
/-- the program's answer and the reference's. -/
theorem rsp_near {l : List Int} {n : Nat} {p : Int → Bool} {c F : Int} (h : NearSays l n p c F) : (F = 6 ∧ c = 0 ∧ (rsp l p n).1 = -1) ∨ (F = 0 ∧ 0 ≤ c ∧ (rsp l p n).1 = c) := by
 rcases h with ⟨rfl, rfl, h⟩ | ⟨rfl, m, k, hm, hk, hp, ht, hj⟩
 ·refine .inl ⟨rfl, rfl, ?_⟩
  rcases rsp_is (l := l) (p := p) n with ⟨e1, -⟩ | ⟨b, hb, e1, e2, h1, h2, h3, -⟩
  ·exact e1
  ·have h9 := h 3 (Nat.le_refl _)
   rw [List.any_eq_false] at h9
   exact absurd h3 (h9 (b : Int) (rsp_mem.2 ⟨b, hb, rfl, by omega, by omega⟩))
 ·have hmem := List.mem_of_getElem? hk
  obtain ⟨i, hi, rfl, h0, hle⟩ := rsp_mem.1 hmem
  refine .inr ⟨rfl, by omega, ?_⟩
  -- it is just as far as that
  have low : ∀ q : Nat, q < n → p (q : Int) = true → 0 ≤ l.getD q 0 → (m : Int) ≤ l.getD q 0 := fun q hq hpq hq0 => by
   rcases Int.lt_or_le (l.getD q 0) (m : Int) with h9 | h9
   ·have h8 := hj (l.getD q 0).toNat (by omega)
    rw [List.any_eq_false] at h8
    exact absurd hpq (h8 (q : Int) (rsp_mem.2 ⟨q, hq, rfl, hq0, by omega⟩))
   ·exact h9
  have first : ∀ q : Nat, q < i → p (q : Int) = true → 0 ≤ l.getD q 0 → (m : Int) < l.getD q 0 := fun q hq hpq hq0 => by
   rcases Int.lt_or_le (m : Int) (l.getD q 0) with h9 | h9
   ·exact h9
   ·have hm2 : (q : Int) ∈ rch l m n := rsp_mem.2 ⟨q, by omega, rfl, hq0, h9⟩
    obtain ⟨j, hjl, hje⟩ := List.mem_iff_getElem.1 hm2
    have hkl := (List.getElem?_eq_some_iff.1 hk).1
    have hke := (List.getElem?_eq_some_iff.1 hk).2
    have hjk : j < k := by
     rcases Nat.lt_or_ge j k with h7 | h7
     ·exact h7
     ·rcases Nat.lt_or_eq_of_le h7 with h6 | h6
      ·have := List.pairwise_iff_getElem.1 (rsp_rise l m n) k j hkl hjl h6
       rw [hke, hje] at this
       omega
      ·subst h6
       rw [hke] at hje
       omega
    rw [List.any_eq_false] at ht
    refine absurd hpq (ht (q : Int) ?_)
    rw [← hje]
    exact List.mem_take_iff_getElem.2 ⟨j, by omega, rfl⟩
  have il := low i hi hp h0
  rcases rsp_is (l := l) (p := p) n with ⟨-, -, h4⟩ | ⟨b, hb, e1, e2, h1, h2, h3, h5, h6⟩
  ·have := h4 i hi hp h0
   omega
  ·rw [e1]
   have a1 := h5 i hi hp h0
   have a2 := low b hb h3 (by omega)
   rcases Nat.lt_trichotomy b i with h7 | h7 | h7
   ·have := first b h7 h3 (by omega)
    omega
   ·rw [h7]
   ·have := h6 i h7 hp h0
    omega
end Go.Proofs.YteieikgkmfglaaaGreatDoor
namespace Go.Proofs.YteieikgkmfglaaaGreatDoor
open Wy
set_option linter.unusedVariables false
theorem rjob_in {ks : List KV} {W : WV} (h : WRight ks W) {j : JbV} (hj : j ∈ W.qs) : ∃ u, W.us.find? (fun u => u.id == j.unit) = some u ∧ u.player = j.player ∧ (0 ≤ j.kind ∧ j.kind < (ks.length : Int)) ∧ 1 ≤ j.left ∧ j.left ≤ 1000 := by
 have hf := h.job hj
 unfold Wd.jobFault at hf
 split at hf
 ·cases hf
 ·rename_i u hu
  split at hf
  ·cases hf
  ·rename_i k hk
   split at hf
   ·cases hf
   ·rename_i h1
    split at hf
    ·cases hf
    ·rename_i h2
     rw [Bool.not_eq_true, Bool.or_eq_false_iff] at h1 h2
     refine ⟨u, hu, by simpa using h1.1, ?_, ?_⟩
     ·have := h2.1
      unfold Wd.has at this
      simpa using this
     ·have := h2.2
      simpa using this
theorem jobu_any {p : UnV → Bool} {us : List UnV} {u : UnV} (h : us.find? p = some u) : us.any p = true := List.any_eq_true.2 ⟨u, List.mem_of_find?_eq_some h, List.find?_some h⟩
/-- where one that is trained would come: the last of what Spot may say. -/
theorem spot_of {ks : List KV} {Y : WV} (h : WRight ks Y) {j : JbV} (hj : j ∈ Y.qs) {c F : Int} (hs : SpotSays ks Y j.unit j.kind c F) :
  ∃ (i kn Wn Hn an : Nat) (u : UnV) (k : KV) (l : List Int), FstU (fun u => u.id == j.unit) Y.us (i : Nat) ∧ Y.us[i]? = some u ∧ j.kind = (kn : Nat) ∧ ks[kn]? = some k ∧ Y.wide = (Wn : Nat) ∧ Y.high = (Hn : Nat) ∧ Fd.Good Wn Hn Y.gs Y.os ∧ u.at_ = (an : Nat) ∧ an < Wn * Hn
   ∧ IsFar (Fd.near Wn Hn) (fun i _ => (Y.gs.map fun g => Fd.onto g k.f).getD i 0) an (Wn * Hn) l ∧ NearSays l (Wn * Hn) (freeAt Y.us) c F := by
 obtain ⟨u, hu, hp, hk, hl⟩ := rjob_in h hj
 rcases hs with ⟨h1, -⟩ | ⟨-, h1, -⟩ | ⟨-, -, h1, -⟩ | ⟨-, h1⟩
 ·exact absurd h.zero h1
 ·rw [jobu_any hu] at h1; cases h1
 ·exact absurd hk h1
 ·exact h1
theorem train_come {ks : List KV} {Y : WV} (h : WRight ks Y) {j : JbV} (hj : j ∈ Y.qs) {c : Int} (hs : SpotSays ks Y j.unit j.kind c 0) (hn : ¬ (40 ≤ (Y.us.length : Int) ∨ 1000000 ≤ Y.next)) : Comes ks Y j c := by
 obtain ⟨u', hu', hp, hk, hl⟩ := rjob_in h hj
 obtain ⟨i, kn, Wn, Hn, an, u, k, l, h1, h2, h3, h4, h5, h6, G, h8, h9, h10, h11⟩ := spot_of h hj hs
 obtain ⟨cn, g, rfl, hc, hg, ho, hfree, -, -⟩ := spot_near G h9 h10 (List.any_eq_true.2 ⟨u, List.mem_of_getElem? h2, by simp [h8]⟩) h11
 refine ⟨hs, ?_⟩
 obtain ⟨i', hi'⟩ := List.mem_iff_getElem?.1 (List.mem_of_find?_eq_some hu')
 obtain ⟨k', F'⟩ := h.fine hi'
 have hp' := F'.p
 rw [hp] at hp'
 have hkt : ks[j.kind.toNat]? = some k := by rw [h3, Int.toNat_natCast]; exact h4
 rw [Wd.pfk hn hp' hk ⟨by omega, by rw [G.gl]; omega⟩ hkt]
 have : Wd.open_ Y.gs Y.us (cn : Int) k.f = true := by
  unfold Wd.open_
  rw [Bool.and_eq_true, Bool.not_eq_true', Int.toNat_natCast, List.getD_eq_getElem?_getD, hg, Option.getD_some]
  exact ⟨decide_eq_true ho, hfree⟩
 rw [this]
 rfl
theorem dec_other {l : List JbV} {j : JbV} (h : cntU l j.unit ≠ 0) : dec1 l j = j := by unfold dec1; rw [if_neg h]
theorem dec_first {l : List JbV} {j : JbV} (h : cntU l j.unit = 0) : dec1 l j = { j with left := j.left - 1 } := by unfold dec1; rw [if_pos h]
theorem one_is {j : JbV} (h : j.left = 1) : one1 j = j := by unfold one1; rw [← h]
end Go.Proofs.YteieikgkmfglaaaGreatDoor
namespace Go.Proofs.YteieikgkmfglaaaGreatDoor
open Go.RowKit
set_option linter.unusedVariables false
/-- the world in its box, its lists, the list of jobs that are left. -/
structure TrS (Y : WV) (es : List EvV) (qs : List JbV) (z b1 bm be : Nat) (w5 : World) (u1 u2 u3 u4 u5 ev qv : Value) (V : World) : Prop where
 x : Wx V z (.int .i64 Y.turn) (.int .i64 Y.next) (.int .i64 Y.wide) (.int .i64 Y.high) u1 u2 u3 u4 u5
 o1 : Ow V b1 u1 Y.gs
 o2 : Ow V b1 u2 Y.os
 o3 : Ow V b1 u3 Y.gold
 o4 : Uno V b1 u4 Y.us
 o5 : Jbo V b1 u5 Y.qs
 d : Dif u5 qv
 l : ∀ x ∈ [u1, u2, u3, u4, u5], ∀ k, x.ownBlock = some k → k < bm ∨ be ≤ k
 e : Evo V be ev es
 o : Jbo V be qv qs
 f : Fr (fun k => k = z ∨ k = bm) w5 V
 n : z < b1 ∧ b1 ≤ bm ∧ bm < be ∧ w5.heap.size = be
section
variable {Y : WV} {es : List EvV} {qs : List JbV} {z b1 bm be : Nat} {w5 : World} {u1 u2 u3 u4 u5 ev qv : Value} {V V' : World}
theorem TrS.below (h : TrS Y es qs z b1 bm be w5 u1 u2 u3 u4 u5 ev qv V) (hb : Below V.heap.size V V') : TrS Y es qs z b1 bm be w5 u1 u2 u3 u4 u5 ev qv V' :=
 ⟨h.x.below hb h.x.lt, h.o1.below hb, h.o2.below hb, h.o3.below hb, h.o4.below hb, h.o5.below hb, h.d, h.l, h.e.below hb, h.o.below hb, h.f.trans (Fr.below hb), h.n⟩
theorem TrS.wl (h : TrS Y es qs z b1 bm be w5 u1 u2 u3 u4 u5 ev qv V) : Wl V (.agg #[.int .i64 Y.turn, .int .i64 Y.next, .int .i64 Y.wide, .int .i64 Y.high, u1, u2, u3, u4, u5]) Y :=
 ⟨u1, u2, u3, u4, u5, rfl, h.o1.ro, h.o2.ro, h.o3.ro, h.o4.l, h.o5.l⟩
/-- the map has turned. -/
theorem TrS.map (h : TrS Y es qs z b1 bm be w5 u1 u2 u3 u4 u5 ev qv V) (hf : Fr (fun q => q = bm) V V') : TrS Y es qs z b1 bm be w5 u1 u2 u3 u4 u5 ev qv V' := by
 have hn := h.n
 have no : ∀ x ∈ [u1, u2, u3, u4, u5], ∀ k, x.ownBlock = some k → ¬ k = bm := fun x hx k hk => by have := h.l x hx k hk; omega
 exact ⟨hf.wx h.x (by omega), hf.own h.o1 (no u1 (by simp)), hf.own h.o2 (no u2 (by simp)), hf.own h.o3 (no u3 (by simp)), hf.own h.o4 (no u4 (by simp)), hf.own h.o5 (no u5 (by simp)), h.d, h.l,
  hf.own h.e (fun k hk => by have := (h.e.block k hk).1; omega), hf.own h.o (fun k hk => by have := (h.o.block k hk).1; omega), h.f.trans (hf.mono (fun k hk => .inr hk)), h.n⟩
/-- one more event. -/
theorem TrS.told (h : TrS Y es qs z b1 bm be w5 u1 u2 u3 u4 u5 ev qv V) {e : EvV} {ev' : Value} (g : V.grownBy V' ev.ownBlock) (he : Evo V' be ev' (es ++ [e])) : TrS Y (es ++ [e]) qs z b1 bm be w5 u1 u2 u3 u4 u5 ev' qv V' := by
 have hn := h.n
 have hf : Fr (fun q => ev.ownBlock = some q) V V' := Fr.gb g (fun k hk => hk)
 have ne : ∀ k, ev.ownBlock = some k → be ≤ k := fun k hk => (h.e.block k hk).1
 refine ⟨hf.wx h.x (fun e => by have := ne z e; omega), hf.own h.o1 (own_two h.o1 h.e (by decide)), hf.own h.o2 (own_two h.o2 h.e (by decide)), hf.own h.o3 (own_two h.o3 h.e (by decide)), hf.own h.o4 (own_two h.o4 h.e (by decide)), hf.own h.o5 (own_two h.o5 h.e (by decide)), h.d, h.l, he, hf.own h.o (own_two h.o h.e (by decide)), ?_, h.n⟩
 refine ⟨hf.os.trans h.f.os, hf.tape.trans h.f.tape, hf.output.trans h.f.output, Nat.le_trans h.f.size hf.size, fun q hq hm => (hf.block q (Nat.lt_of_lt_of_le hq h.f.size) (fun e => ?_)).trans (h.f.block q hq hm)⟩
 have := ne q e
 omega
/-- one more job that is left. -/
theorem TrS.left (h : TrS Y es qs z b1 bm be w5 u1 u2 u3 u4 u5 ev qv V) {j : JbV} {qv' : Value} {gq : Nat} (g : V.grownBy V' qv.ownBlock) (ho : Jbo V' be qv' (qs ++ [j])) (hq : qv'.ownBlock = some gq) (hg : qv.ownBlock = some gq ∨ gq = V.heap.size) : TrS Y es (qs ++ [j]) z b1 bm be w5 u1 u2 u3 u4 u5 ev qv' V' := by
 have hn := h.n
 have hf : Fr (fun q => qv.ownBlock = some q) V V' := Fr.gb g (fun k hk => hk)
 have ne : ∀ k, qv.ownBlock = some k → be ≤ k := fun k hk => (h.o.block k hk).1
 refine ⟨hf.wx h.x (fun e => by have := ne z e; omega), hf.own h.o1 (own_two h.o1 h.o (by decide)), hf.own h.o2 (own_two h.o2 h.o (by decide)), hf.own h.o3 (own_two h.o3 h.o (by decide)), hf.own h.o4 (own_two h.o4 h.o (by decide)), hf.own h.o5 h.d, ?_, h.l, hf.own h.e (own_two h.e h.o (by decide)), ho, ?_, h.n⟩
 ·intro k hk e
  rw [hq] at e
  injection e with e
  subst e
  rcases hg with hg | hg
  ·exact h.d _ hk hg
  ·have := (h.o5.block _ hk).2; omega
 ·refine ⟨hf.os.trans h.f.os, hf.tape.trans h.f.tape, hf.output.trans h.f.output, Nat.le_trans h.f.size hf.size, fun q hq hm => (hf.block q (Nat.lt_of_lt_of_le hq h.f.size) (fun e => ?_)).trans (h.f.block q hq hm)⟩
  have := ne q e
  omega
/-- a block that none of the lists lies in has turned. -/
theorem TrS.box (h : TrS Y es qs z b1 bm be w5 u1 u2 u3 u4 u5 ev qv V) {b : Nat} (hk : Kp b V V') (hb : be ≤ b) (hl : ∀ x ∈ [u1, u2, u3, u4, u5, ev, qv], ∀ k, x.ownBlock = some k → k < b) : TrS Y es qs z b1 bm be w5 u1 u2 u3 u4 u5 ev qv V' := by
 have hn := h.n
 have hf : Fr (fun q => q = b) V V' := Fr.kp hk rfl
 have no : ∀ x ∈ [u1, u2, u3, u4, u5, ev, qv], ∀ k, x.ownBlock = some k → ¬ k = b := fun x hx k hk => by have := hl x hx k hk; omega
 refine ⟨hf.wx h.x (by omega), hf.own h.o1 (no u1 (by simp)), hf.own h.o2 (no u2 (by simp)), hf.own h.o3 (no u3 (by simp)), hf.own h.o4 (no u4 (by simp)), hf.own h.o5 (no u5 (by simp)), h.d, h.l, hf.own h.e (no ev (by simp)), hf.own h.o (no qv (by simp)), ?_, h.n⟩
 exact ⟨hf.os.trans h.f.os, hf.tape.trans h.f.tape, hf.output.trans h.f.output, Nat.le_trans h.f.size hf.size, fun q hq hm => (hf.block q (Nat.lt_of_lt_of_le hq h.f.size) (fun e => by omega)).trans (h.f.block q hq hm)⟩
theorem TrS.under (h : TrS Y es qs z b1 bm be w5 u1 u2 u3 u4 u5 ev qv V) : ∀ x ∈ [u1, u2, u3, u4, u5, ev, qv], ∀ k, x.ownBlock = some k → k < V.heap.size := by
 intro x hx k hk
 simp only [List.mem_cons, List.not_mem_nil, or_false] at hx
 rcases hx with rfl | rfl | rfl | rfl | rfl | rfl | rfl
 ·exact (h.o1.block k hk).2
 ·exact (h.o2.block k hk).2
 ·exact (h.o3.block k hk).2
 ·exact (h.o4.block k hk).2
 ·exact (h.o5.block k hk).2
 ·exact (h.e.block k hk).2
 ·exact (h.o.block k hk).2
/-- another world in the box: one whose lists lie behind all that was when it was made. -/
theorem TrS.puts (h : TrS Y es qs z b1 bm be w5 u1 u2 u3 u4 u5 ev qv V) {Z : WV} {k1 k2 k3 k4 k5 : Value} {B : Nat} (hB : be ≤ B) (hq : ∀ k, qv.ownBlock = some k → k < B) (hk : Kp z V V') (hx : Wx V' z (.int .i64 Z.turn) (.int .i64 Z.next) (.int .i64 Z.wide) (.int .i64 Z.high) k1 k2 k3 k4 k5)
  (p1 : Ow V B k1 Z.gs) (p2 : Ow V B k2 Z.os) (p3 : Ow V B k3 Z.gold) (p4 : Uno V B k4 Z.us) (p5 : Jbo V B k5 Z.qs) : TrS Z es qs z b1 bm be w5 k1 k2 k3 k4 k5 ev qv V' := by
 have hn := h.n
 have hf : Fr (fun q => q = z) V V' := Fr.kp hk rfl
 refine ⟨hx, Ow.mono (hf.own p1 (fun k hk => by have := (p1.block k hk).1; omega)) (by omega), Ow.mono (hf.own p2 (fun k hk => by have := (p2.block k hk).1; omega)) (by omega), Ow.mono (hf.own p3 (fun k hk => by have := (p3.block k hk).1; omega)) (by omega), Uno.mono (hf.own p4 (fun k hk => by have := (p4.block k hk).1; omega)) (by omega), Jbo.mono (hf.own p5 (fun k hk => by have := (p5.block k hk).1; omega)) (by omega), ?_, ?_, hf.own h.e (fun k hk => by have := (h.e.block k hk).1; omega), hf.own h.o (fun k hk => by have := (h.o.block k hk).1; omega), h.f.trans (hf.mono (fun k hk => .inl hk)), h.n⟩
 ·intro k hk e
  have := (p5.block k hk).1
  have := hq k e
  omega
 ·intro x hx k hk
  simp only [List.mem_cons, List.not_mem_nil, or_false] at hx
  rcases hx with rfl | rfl | rfl | rfl | rfl
  ·have := (p1.block k hk).1; omega
  ·have := (p2.block k hk).1; omega
  ·have := (p3.block k hk).1; omega
  ·have := (p4.block k hk).1; omega
  ·have := (p5.block k hk).1; omega
end
end Go.Proofs.YteieikgkmfglaaaGreatDoor
namespace Go.Proofs.YteieikgkmfglaaaGreatDoor
open Go.RowKit
set_option linter.unusedVariables false
structure TnS (Y : WV) (es : List EvV) (qs : List JbV) (z b1 be : Nat) (r4 : Option Nat) (w5 : World) (u1 u2 u3 u4 u5 ev qv : Value) (V : World) : Prop where
 x : Wx V z (.int .i64 Y.turn) (.int .i64 Y.next) (.int .i64 Y.wide) (.int .i64 Y.high) u1 u2 u3 u4 u5
 o1 : Ow V b1 u1 Y.gs
 o2 : Ow V b1 u2 Y.os
 o3 : Ow V b1 u3 Y.gold
 o4 : Uno V b1 u4 Y.us
 o5 : Jbo V b1 u5 Y.qs
 d : Dif u5 qv
 e : Evo V be ev es
 o : Jbo V be qv qs
 f : Fr (fun k => k = z ∨ r4 = some k) w5 V
 h4 : ∀ k, u4.ownBlock = some k → r4 = some k ∨ be ≤ k
 n : z < b1 ∧ b1 ≤ be ∧ w5.heap.size = be
section
variable {Y : WV} {es : List EvV} {qs : List JbV} {z b1 be : Nat} {r4 : Option Nat} {w5 : World} {u1 u2 u3 u4 u5 ev qv : Value} {V V' : World}
theorem TnS.below (h : TnS Y es qs z b1 be r4 w5 u1 u2 u3 u4 u5 ev qv V) (hb : Below V.heap.size V V') : TnS Y es qs z b1 be r4 w5 u1 u2 u3 u4 u5 ev qv V' :=
 ⟨h.x.below hb h.x.lt, h.o1.below hb, h.o2.below hb, h.o3.below hb, h.o4.below hb, h.o5.below hb, h.d, h.e.below hb, h.o.below hb, h.f.trans (Fr.below hb), h.h4, h.n⟩
theorem TnS.wl (h : TnS Y es qs z b1 be r4 w5 u1 u2 u3 u4 u5 ev qv V) : Wl V (.agg #[.int .i64 Y.turn, .int .i64 Y.next, .int .i64 Y.wide, .int .i64 Y.high, u1, u2, u3, u4, u5]) Y :=
 ⟨u1, u2, u3, u4, u5, rfl, h.o1.ro, h.o2.ro, h.o3.ro, h.o4.l, h.o5.l⟩
theorem TnS.size (h : TnS Y es qs z b1 be r4 w5 u1 u2 u3 u4 u5 ev qv V) : be ≤ V.heap.size := by have := h.f.size; have := h.n; omega
/-- one more event. -/
theorem TnS.told (h : TnS Y es qs z b1 be r4 w5 u1 u2 u3 u4 u5 ev qv V) {e : EvV} {ev' : Value} (g : V.grownBy V' ev.ownBlock) (he : Evo V' be ev' (es ++ [e])) : TnS Y (es ++ [e]) qs z b1 be r4 w5 u1 u2 u3 u4 u5 ev' qv V' := by
 have hn := h.n
 have hf : Fr (fun q => ev.ownBlock = some q) V V' := Fr.gb g (fun k hk => hk)
 have ne : ∀ k, ev.ownBlock = some k → be ≤ k := fun k hk => (h.e.block k hk).1
 refine ⟨hf.wx h.x (fun e => by have := ne z e; omega), hf.own h.o1 (own_two h.o1 h.e (by decide)), hf.own h.o2 (own_two h.o2 h.e (by decide)), hf.own h.o3 (own_two h.o3 h.e (by decide)), hf.own h.o4 (own_two h.o4 h.e (by decide)), hf.own h.o5 (own_two h.o5 h.e (by decide)), h.d, he, hf.own h.o (own_two h.o h.e (by decide)), ?_, h.h4, h.n⟩
 refine ⟨hf.os.trans h.f.os, hf.tape.trans h.f.tape, hf.output.trans h.f.output, Nat.le_trans h.f.size hf.size, fun q hq hm => (hf.block q (Nat.lt_of_lt_of_le hq h.f.size) (fun e => ?_)).trans (h.f.block q hq hm)⟩
 have := ne q e
 omega
/-- one more job that is left. -/
theorem TnS.left (h : TnS Y es qs z b1 be r4 w5 u1 u2 u3 u4 u5 ev qv V) {j : JbV} {qv' : Value} {gq : Nat} (g : V.grownBy V' qv.ownBlock) (ho : Jbo V' be qv' (qs ++ [j])) (hq : qv'.ownBlock = some gq) (hg : qv.ownBlock = some gq ∨ gq = V.heap.size) : TnS Y es (qs ++ [j]) z b1 be r4 w5 u1 u2 u3 u4 u5 ev qv' V' := by
 have hn := h.n
 have hf : Fr (fun q => qv.ownBlock = some q) V V' := Fr.gb g (fun k hk => hk)
 have ne : ∀ k, qv.ownBlock = some k → be ≤ k := fun k hk => (h.o.block k hk).1
 refine ⟨hf.wx h.x (fun e => by have := ne z e; omega), hf.own h.o1 (own_two h.o1 h.o (by decide)), hf.own h.o2 (own_two h.o2 h.o (by decide)), hf.own h.o3 (own_two h.o3 h.o (by decide)), hf.own h.o4 (own_two h.o4 h.o (by decide)), hf.own h.o5 h.d, ?_, hf.own h.e (own_two h.e h.o (by decide)), ho, ?_, h.h4, h.n⟩
 ·intro k hk e
  rw [hq] at e
  injection e with e
  subst e
  rcases hg with hg | hg
  ·exact h.d _ hk hg
  ·have := (h.o5.block _ hk).2; omega
 ·refine ⟨hf.os.trans h.f.os, hf.tape.trans h.f.tape, hf.output.trans h.f.output, Nat.le_trans h.f.size hf.size, fun q hq hm => (hf.block q (Nat.lt_of_lt_of_le hq h.f.size) (fun e => ?_)).trans (h.f.block q hq hm)⟩
  have := ne q e
  omega
theorem TnS.under (h : TnS Y es qs z b1 be r4 w5 u1 u2 u3 u4 u5 ev qv V) : ∀ x ∈ [u1, u2, u3, u4, u5, ev, qv], ∀ k, x.ownBlock = some k → k < V.heap.size := by
 intro x hx k hk
 simp only [List.mem_cons, List.not_mem_nil, or_false] at hx
 rcases hx with rfl | rfl | rfl | rfl | rfl | rfl | rfl
 ·exact (h.o1.block k hk).2
 ·exact (h.o2.block k hk).2
 ·exact (h.o3.block k hk).2
 ·exact (h.o4.block k hk).2
 ·exact (h.o5.block k hk).2
 ·exact (h.e.block k hk).2
 ·exact (h.o.block k hk).2
/-- a block that none of the lists lies in has turned. -/
theorem TnS.box (h : TnS Y es qs z b1 be r4 w5 u1 u2 u3 u4 u5 ev qv V) {b : Nat} (hk : Kp b V V') (hb : be ≤ b) (hl : ∀ x ∈ [u1, u2, u3, u4, u5, ev, qv], ∀ k, x.ownBlock = some k → k < b) : TnS Y es qs z b1 be r4 w5 u1 u2 u3 u4 u5 ev qv V' := by
 have hn := h.n
 have hf : Fr (fun q => q = b) V V' := Fr.kp hk rfl
 have no : ∀ x ∈ [u1, u2, u3, u4, u5, ev, qv], ∀ k, x.ownBlock = some k → ¬ k = b := fun x hx k hk => by have := hl x hx k hk; omega
 refine ⟨hf.wx h.x (by omega), hf.own h.o1 (no u1 (by simp)), hf.own h.o2 (no u2 (by simp)), hf.own h.o3 (no u3 (by simp)), hf.own h.o4 (no u4 (by simp)), hf.own h.o5 (no u5 (by simp)), h.d, hf.own h.e (no ev (by simp)), hf.own h.o (no qv (by simp)), ?_, h.h4, h.n⟩
 exact ⟨hf.os.trans h.f.os, hf.tape.trans h.f.tape, hf.output.trans h.f.output, Nat.le_trans h.f.size hf.size, fun q hq hm => (hf.block q (Nat.lt_of_lt_of_le hq h.f.size) (fun e => by omega)).trans (h.f.block q hq hm)⟩
/-- one more unit, and what the box holds then. -/
theorem TnS.more (h : TnS Y es qs z b1 be r4 w5 u1 u2 u3 u4 u5 ev qv V) {d : UnV} {n' : Int} {u4' : Value} {g4 : Nat} {V1 V2 : World} (g : V.grownBy V1 u4.ownBlock) (ho : Uno V1 b1 u4' (Y.us ++ [d])) (hq : u4'.ownBlock = some g4) (hg : u4.ownBlock = some g4 ∨ g4 = V.heap.size)
  (hk : Kp z V1 V2) (hx : Wx V2 z (.int .i64 Y.turn) (.int .i64 n') (.int .i64 Y.wide) (.int .i64 Y.high) u1 u2 u3 u4' u5) : TnS { Y with next := n', us := Y.us ++ [d] } es qs z b1 be r4 w5 u1 u2 u3 u4' u5 ev qv V2 := by
 have hn := h.n
 have hs := h.size
 have hf1 : Fr (fun q => u4.ownBlock = some q) V V1 := Fr.gb g (fun k hk => hk)
 have hf2 : Fr (fun q => q = z) V1 V2 := Fr.kp hk rfl
 have a1 := hf1.own h.o1 (own_two h.o1 h.o4 (by decide))
 have a2 := hf1.own h.o2 (own_two h.o2 h.o4 (by decide))
 have a3 := hf1.own h.o3 (own_two h.o3 h.o4 (by decide))
 have a5 := hf1.own h.o5 (own_two h.o5 h.o4 (by decide))
 have ae := hf1.own h.e (own_two h.e h.o4 (by decide))
 have ao := hf1.own h.o (own_two h.o h.o4 (by decide))
 refine ⟨hx, hf2.own a1 (fun k hk => by have := (h.o1.block k hk).1; omega), hf2.own a2 (fun k hk => by have := (h.o2.block k hk).1; omega), hf2.own a3 (fun k hk => by have := (h.o3.block k hk).1; omega), hf2.own ho (fun k hk => by have := (ho.block k hk).1; omega), hf2.own a5 (fun k hk => by have := (h.o5.block k hk).1; omega), h.d, hf2.own ae (fun k hk => by have := (h.e.block k hk).1; omega), hf2.own ao (fun k hk => by have := (h.o.block k hk).1; omega), ?_, ?_, h.n⟩
 ·refine ⟨hf2.os.trans (hf1.os.trans h.f.os), hf2.tape.trans (hf1.tape.trans h.f.tape), hf2.output.trans (hf1.output.trans h.f.output), Nat.le_trans h.f.size (Nat.le_trans hf1.size hf2.size), fun q hq hm => ?_⟩
  have q1 := Nat.lt_of_lt_of_le hq h.f.size
  refine ((hf2.block q (Nat.lt_of_lt_of_le q1 hf1.size) (fun e => hm (.inl e))).trans (hf1.block q q1 (fun e => ?_))).trans (h.f.block q hq hm)
  rcases h.h4 q e with e | e
  ·exact hm (.inr e)
  ·omega
 ·intro k hk
  rw [hq] at hk
  injection hk with hk
  subst hk
  rcases hg with hg | hg
  ·exact h.h4 _ hg
  ·exact .inr (by omega)
end
end Go.Proofs.YteieikgkmfglaaaGreatDoor
namespace Go.Proofs.YteieikgkmfglaaaGreatDoor
open Go.RowKit Wy
set_option linter.unusedVariables false
end Go.Proofs.YteieikgkmfglaaaGreatDoor
namespace Go.Proofs.YteieikgkmfglaaaGreatDoor
open Go.RowKit
set_option linter.unusedVariables false
end Go.Proofs.YteieikgkmfglaaaGreatDoor
namespace Go.Proofs.YteieikgkmfglaaaGreatDoor
open Go.RowKit
set_option linter.unusedVariables false
end Go.Proofs.YteieikgkmfglaaaGreatDoor
namespace Go.Proofs.YteieikgkmfglaaaGreatDoor
open Go.RowKit
set_option linter.unusedVariables false
end Go.Proofs.YteieikgkmfglaaaGreatDoor
namespace Go.Proofs.YteieikgkmfglaaaGreatDoor
open Go.RowKit
set_option linter.unusedVariables false
end Go.Proofs.YteieikgkmfglaaaGreatDoor
namespace Go.Proofs.YteieikgkmfglaaaGreatDoor
open Go Go.RowKit
set_option linter.unusedVariables false
section
variable {P : Program} {ops : Array Oper} {md : Region.Mode} {C : World → Prop} {Q : Exit → Act → World → Prop}
end
end Go.Proofs.YteieikgkmfglaaaGreatDoor
namespace Go.Proofs.YteieikgkmfglaaaGreatDoor
open Go.RowKit
set_option linter.unusedVariables false
/-- home's boxes: the kinds, the world, the unit. -/
structure Hm (w V : World) (vk : Value) (X : WV) (u1 u2 u3 u4 u5 : Value) (u : UnV) : Prop where
 b : Below w.heap.size w V
 k : V.cell? ⟨w.heap.size, 0, none⟩ = some vk
 x : Bw V (w.heap.size + 1) X u1 u2 u3 u4 u5
 u : Unc V ⟨w.heap.size + 2, 0, none⟩ u
end Go.Proofs.YteieikgkmfglaaaGreatDoor
namespace Go.Proofs.YteieikgkmfglaaaGreatDoor
open Go.RowKit
set_option linter.unusedVariables false
end Go.Proofs.YteieikgkmfglaaaGreatDoor
namespace Go.Proofs.YteieikgkmfglaaaGreatDoor
open Go.RowKit Wy
set_option linter.unusedVariables false
end Go.Proofs.YteieikgkmfglaaaGreatDoor
namespace Go.Proofs.YteieikgkmfglaaaGreatDoor
open Go.RowKit Wy
set_option linter.unusedVariables false
end Go.Proofs.YteieikgkmfglaaaGreatDoor
namespace Go.Proofs.YteieikgkmfglaaaGreatDoor
open Go.RowKit Wy
set_option linter.unusedVariables false
end Go.Proofs.YteieikgkmfglaaaGreatDoor
namespace Go.Proofs.YteieikgkmfglaaaGreatDoor
open Go.RowKit Wy
set_option linter.unusedVariables false
end Go.Proofs.YteieikgkmfglaaaGreatDoor
namespace Go.Proofs.YteieikgkmfglaaaGreatDoor
open Go.RowKit Wy
set_option linter.unusedVariables false
end Go.Proofs.YteieikgkmfglaaaGreatDoor
