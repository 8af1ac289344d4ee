/- What is dug is not lost: sums. Plain mathematics. · Nothing comes of nothing: what a turn brings weighs no more. Plain mathematics. · WorksWeigh: how great sums may be. · The sum of package marchtop: gold, ore and loads together. · What a walk is told of records api.Order that came in. · What a walk is told of lists of lists of orders that came in; a part of such a list. · A region that draws its order, walked along a tree of the orders that may come: reads first, then what makes memory in each order. · Worlds: the reference's Find. · How great what came in is; a byte. · What a walk is told of worlds and bytes that came in. · What a walk is told of kinds that came in. -/
import Derived.Test.YthcndngdngjalaaGreatDoorZTopWeighs6
import Derived.Test.YthcndngdngjalaaGreatDoorZTopWeighs12
import Derived.Test.YthcndngdngjalaaGreatDoorZTopWeighs5
import Derived.Deep.DeepCutAuto
import Derived.Test.YthcndngdngjalaaGreatDoorZTopWeighs3
import Derived.Deep.SlicePairs
import Derived.ChangeArms
import Derived.ProofKit
import Derived.OpenShut
import Derived.Test.YthcndngdngjalaaGreatDoorZTopWeighs7
import Derived.Test.YthcndngdngjalaaGreatDoorZTopWeighs2
import Derived.Test.YthcndngdngjalaaGreatDoorZTopWeighs1
namespace Go.Proofs.YthcndngdngjalaaGreatDoor
set_option linter.unusedVariables false

def sm : List Int → Int
  | [] => 0
  | x :: l => x + sm l
theorem sm_append (a b : List Int) : sm (a ++ b) = sm a + sm b := by
  induction a with
  | nil => simp [sm]
  | cons x l ih => simp only [List.cons_append, sm, ih]; omega
theorem sm_next {l : List Int} {n : Nat} {x : Int} (h : l[n]? = some x) : sm (l.take (n + 1)) = sm (l.take n) + x := by
  rw [List.take_add_one, h, sm_append]
  simp [sm]
theorem sm_set : ∀ (l : List Int) (i : Nat) (x y : Int), l[i]? = some x → sm (l.set i y) = sm l - x + y
  | [], i, x, y, h => by simp at h
  | a :: l, 0, x, y, h => by
    simp at h
    subst h
    simp only [List.set_cons_zero, sm]
    omega
  | a :: l, i + 1, x, y, h => by
    have h' : l[i]? = some x := by simpa using h
    simp only [List.set_cons_succ, sm, sm_set l i x y h']
    omega
theorem sm_le {B : Int} (hB : 0 ≤ B) : ∀ (l : List Int), (∀ x ∈ l, 0 ≤ x ∧ x ≤ B) → 0 ≤ sm l ∧ sm l ≤ B * (l.length : Int)
  | [], _ => by simp [sm]
  | x :: l, h => by
    have ih := sm_le hB l (fun y hy => h y (List.mem_cons_of_mem _ hy))
    have hx := h x (by simp)
    simp only [sm, List.length_cons]
    have e : B * ((l.length + 1 : Nat) : Int) = B * (l.length : Int) + B := by rw [Int.natCast_add, Int.mul_add]; simp
    rw [e]
    omega
def loads (Z : WV) : List Int := Z.us.map UnV.load
def tot (Z : WV) : Int := sm Z.os + sm (loads Z) + sm Z.gold
theorem loads_set {l : List UnV} {i : Nat} (u : UnV) (n : Int) : (l.set i (loadU u n)).map UnV.load = (l.map UnV.load).set i n := by rw [List.map_set]; rfl
theorem tot_take {ks : List KV} {Z : WV} (f : DFit ks Z) {i : Nat} {u : UnV} (hu : Z.us[i]? = some u) (n : Int) : tot (takeW Z i u n) = tot Z := by
  obtain ⟨-, ⟨an, ha, hal⟩, -⟩ := f.units u (List.mem_of_getElem? hu)
  obtain ⟨x, hx⟩ : ∃ x, Z.os[an]? = some x := ⟨_, List.getElem?_eq_getElem hal⟩
  unfold tot loads takeW
  simp only
  rw [loads_set, ha, Int.toNat_natCast, List.getD_eq_getElem?_getD, hx, Option.getD_some, sm_set Z.os an x _ hx, sm_set (Z.us.map UnV.load) i u.load _ (by rw [List.getElem?_map, hu]; rfl)]
  omega
/-- some Gold has come to its end. -/
def Full (Z : WV) : Prop := ∃ g ∈ Z.gold, g = 1000000
theorem tot_bring {ks : List KV} {Z : WV} (f : DFit ks Z) {i : Nat} {u : UnV} (hu : Z.us[i]? = some u) : tot (bringW Z i u) ≤ tot Z ∧ (tot (bringW Z i u) = tot Z ∨ Full (bringW Z i u)) ∧ (Full Z → Full (bringW Z i u)) := by
  obtain ⟨⟨kn, k, -, -, l1, -⟩, -, pn, hp, hpl⟩ := f.units u (List.mem_of_getElem? hu)
  obtain ⟨x, hx⟩ : ∃ x, Z.gold[pn]? = some x := ⟨_, List.getElem?_eq_getElem hpl⟩
  have e : tot (bringW Z i u) = tot Z - u.load - x + min (x + u.load) 1000000 := by
    unfold tot loads bringW
    simp only
    rw [loads_set, hp, Int.toNat_natCast, List.getD_eq_getElem?_getD, hx, Option.getD_some, sm_set Z.gold pn x _ hx, sm_set (Z.us.map UnV.load) i u.load _ (by rw [List.getElem?_map, hu]; rfl)]
    omega
  have eg : (bringW Z i u).gold = Z.gold.set pn (min (x + u.load) 1000000) := by
    unfold bringW
    simp only
    rw [hp, Int.toNat_natCast, List.getD_eq_getElem?_getD, hx, Option.getD_some]
  have gx := f.gold x (List.mem_of_getElem? hx)
  have at_ : (Z.gold.set pn (min (x + u.load) 1000000))[pn]? = some (min (x + u.load) 1000000) := List.getElem?_set_self hpl
  refine ⟨by rw [e]; omega, ?_, ?_⟩
  · by_cases h : x + u.load ≤ 1000000
    · left; rw [e]; omega
    · right
      exact ⟨_, by rw [eg]; exact List.mem_of_getElem? at_, by omega⟩
  · rintro ⟨g, hg, rfl⟩
    obtain ⟨q, hq⟩ := List.mem_iff_getElem?.1 hg
    by_cases h : q = pn
    · subst h
      rw [hx] at hq
      injection hq with hq
      subst hq
      exact ⟨_, by rw [eg]; exact List.mem_of_getElem? at_, by omega⟩
    · exact ⟨1000000, by rw [eg]; exact List.mem_of_getElem? (i := q) (by rw [List.getElem?_set_ne (fun e => h e.symm)]; exact hq), rfl⟩
theorem tk_tot {ks : List KV} {Y : WV} (hf : DFit ks Y) : ∀ q, tot (tk ks Y q).1 = tot Y ∧ ∀ e ∈ (tk ks Y q).2, 1 ≤ e.arg ∧ e.what = 4
  | 0 => ⟨rfl, by intro e he; cases he⟩
  | q + 1 => by
    obtain ⟨i1, i2⟩ := tk_tot hf q
    cases hu : (tk ks Y q).1.us[q]? with
    | none => rw [tk]; simp only [hu]; exact ⟨i1, i2⟩
    | some u =>
      by_cases h : 0 < yieldN ks (tk ks Y q).1 u
      · rw [tk_yes hu h]
        refine ⟨by rw [tot_take (tk_fit hf q) hu]; exact i1, fun e he => ?_⟩
        rcases List.mem_append.1 he with he | he
        · exact i2 e he
        · simp only [List.mem_singleton] at he
          subst he
          exact ⟨by show 1 ≤ yieldN ks _ u; omega, rfl⟩
      · rw [tk_no hu h]; exact ⟨i1, i2⟩
theorem br_tot {ks : List KV} {Wn Hn : Nat} {Y : WV} (hf : DFit ks Y) : ∀ q, tot (br ks Wn Hn Y q).1 ≤ tot Y ∧ (tot (br ks Wn Hn Y q).1 = tot Y ∨ Full (br ks Wn Hn Y q).1) ∧ ∀ e ∈ (br ks Wn Hn Y q).2, 1 ≤ e.arg ∧ e.what = 5
  | 0 => ⟨Int.le_refl _, .inl rfl, by intro e he; cases he⟩
  | q + 1 => by
    obtain ⟨i1, i2, i3⟩ := br_tot (Wn := Wn) (Hn := Hn) hf q
    have f := (br_keep (Wn := Wn) (Hn := Hn) hf q).2.1
    cases hu : (br ks Wn Hn Y q).1.us[q]? with
    | none => rw [br]; simp only [hu]; exact ⟨i1, i2, i3⟩
    | some u =>
      cases h : brings ks Wn Hn (br ks Wn Hn Y q).1 u with
      | true =>
        rw [br_yes hu h]
        obtain ⟨t1, t2, t3⟩ := tot_bring f hu
        refine ⟨Int.le_trans t1 i1, ?_, fun e he => ?_⟩
        · rcases i2 with i2 | i2
          · rcases t2 with t2 | t2
            · exact .inl (t2.trans i2)
            · exact .inr t2
          · exact .inr (t3 i2)
        · rcases List.mem_append.1 he with he | he
          · exact i3 e he
          · simp only [List.mem_singleton] at he
            subst he
            unfold brings at h
            rw [Bool.and_eq_true] at h
            have := of_decide_eq_true h.1
            exact ⟨by show 1 ≤ u.load; omega, rfl⟩
      | false => rw [br_no hu h]; exact ⟨i1, i2, i3⟩
end Go.Proofs.YthcndngdngjalaaGreatDoor

namespace Go.Proofs.YthcndngdngjalaaGreatDoor
open Go.RowKit Go.Proofs.YthcndngdngjalaaGreatDoor.So
set_option linter.unusedVariables false

/-- the same units, but for where they are, whereto, and what they carry. -/
def AlikeU (us us' : List UnV) : Prop := us'.length = us.length ∧ ∀ (j : Nat) (v : UnV), us'[j]? = some v → ∃ u, us[j]? = some u ∧ v.id = u.id ∧ v.player = u.player ∧ v.kind = u.kind ∧ v.life = u.life
/-- and what they carry. -/
def SameU (us us' : List UnV) : Prop := AlikeU us us' ∧ us'.map UnV.load = us.map UnV.load
theorem AlikeU.refl (us : List UnV) : AlikeU us us := ⟨rfl, fun j v h => ⟨v, h, rfl, rfl, rfl, rfl⟩⟩
theorem AlikeU.trans {a b c : List UnV} (h : AlikeU a b) (k : AlikeU b c) : AlikeU a c := by
  refine ⟨k.1.trans h.1, fun j v hv => ?_⟩
  obtain ⟨u, h1, e1, e2, e3, e4⟩ := k.2 j v hv
  obtain ⟨x, h2, d1, d2, d3, d4⟩ := h.2 j u h1
  exact ⟨x, h2, e1.trans d1, e2.trans d2, e3.trans d3, e4.trans d4⟩
theorem AlikeU.set {us : List UnV} {i : Nat} {u v : UnV} (hu : us[i]? = some u) (h1 : v.id = u.id) (h2 : v.player = u.player) (h3 : v.kind = u.kind) (h4 : v.life = u.life) : AlikeU us (us.set i v) := by
  refine ⟨by simp, fun j x hx => ?_⟩
  rw [List.getElem?_set] at hx
  split at hx
  · rename_i e
    subst e
    split at hx
    · injection hx with hx
      subst hx
      exact ⟨u, hu, h1, h2, h3, h4⟩
    · cases hx
  · exact ⟨x, hx, rfl, rfl, rfl, rfl⟩
theorem SameU.refl (us : List UnV) : SameU us us := ⟨.refl us, rfl⟩
theorem SameU.trans {a b c : List UnV} (h : SameU a b) (k : SameU b c) : SameU a c := ⟨h.1.trans k.1, k.2.trans h.2⟩
theorem SameU.set {us : List UnV} {i : Nat} {u v : UnV} (hu : us[i]? = some u) (h1 : v.id = u.id) (h2 : v.player = u.player) (h3 : v.kind = u.kind) (h4 : v.life = u.life) (h5 : v.load = u.load) : SameU us (us.set i v) := by
  refine ⟨.set hu h1 h2 h3 h4, ?_⟩
  rw [List.map_set, h5]
  apply List.ext_getElem?
  intro j
  rw [List.getElem?_set]
  split
  · rename_i e
    subst e
    rw [List.getElem?_map, hu]
    simp
    exact (List.getElem?_eq_some_iff.1 hu).1
  · rfl
theorem goes_same {ks : List KV} {X : WV} {Wn Hn : Nat} {k : KV} {i : Nat} {us us' : List UnV} {left : Int} {cells : List Int} (h : Goes ks X Wn Hn k i us left cells us') : SameU us us' := by
  induction h with
  | stop => exact .refl _
  | @step us us' left u c gg cells hu hw hg h1 h2 h3 ih => exact (SameU.set (v := { u with at_ := (c : Nat) }) hu rfl rfl rfl rfl rfl).trans ih
theorem ends_same (u : UnV) : (ends u).id = u.id ∧ (ends u).player = u.player ∧ (ends u).kind = u.kind ∧ (ends u).life = u.life ∧ (ends u).load = u.load := by
  unfold ends
  split <;> exact ⟨rfl, rfl, rfl, rfl, rfl⟩
theorem moves_same {ks : List KV} {X : WV} {Wn Hn n : Nat} {us us' : List UnV} {evs : List EvV} (h : Moves ks X Wn Hn n us evs us') : SameU us us' := by
  induction h with
  | done => exact .refl _
  | @unit n us us1 us' u u1 k cells evs hu hkk hg h1 hm ih =>
    obtain ⟨e1, e2, e3, e4, e5⟩ := ends_same u1
    exact (goes_same hg).trans ((SameU.set h1 e1 e2 e3 e4 e5).trans ih)

/-- of X comes Y, and nothing of nothing. -/
structure Wg (ks : List KV) (X Y : WV) : Prop where
  t : tot Y ≤ tot X
  n : X.next ≤ Y.next
  u : ∀ u ∈ Y.us, (∃ v ∈ X.us, v.id = u.id ∧ u.life ≤ v.life ∧ u.player = v.player ∧ u.kind = v.kind) ∨ (X.next ≤ u.id ∧ ∃ k, ks[u.kind.toNat]? = some k ∧ u.life ≤ k.n0)
theorem Wg.refl (ks : List KV) (X : WV) : Wg ks X X := ⟨Int.le_refl _, Int.le_refl _, fun u hu => .inl ⟨u, hu, rfl, Int.le_refl _, rfl, rfl⟩⟩
theorem Wg.trans {ks : List KV} {X Y Z : WV} (h : Wg ks X Y) (k : Wg ks Y Z) : Wg ks X Z := by
  refine ⟨Int.le_trans k.t h.t, Int.le_trans h.n k.n, fun u hu => ?_⟩
  rcases k.u u hu with ⟨v, hv, e1, e2, e3, e4⟩ | ⟨h1, h2⟩
  · rcases h.u v hv with ⟨x, hx, d1, d2, d3, d4⟩ | ⟨d1, kk, d2, d3⟩
    · exact .inl ⟨x, hx, d1.trans e1, Int.le_trans e2 d2, e3.trans d3, e4.trans d4⟩
    · exact .inr ⟨by rw [← e1]; exact d1, kk, by rw [e4]; exact d2, Int.le_trans e2 d3⟩
  · exact .inr ⟨Int.le_trans h.n h1, h2⟩
theorem wg_alike {ks : List KV} {X Y : WV} (h : AlikeU X.us Y.us) (hn : Y.next = X.next) (ht : tot Y ≤ tot X) : Wg ks X Y := by
  refine ⟨ht, by rw [hn]; exact Int.le_refl _, fun u hu => .inl ?_⟩
  obtain ⟨j, hj⟩ := List.mem_iff_getElem?.1 hu
  obtain ⟨v, h1, e1, e2, e3, e4⟩ := h.2 j u hj
  exact ⟨v, List.mem_of_getElem? h1, e1.symm, by rw [e4]; exact Int.le_refl _, e2, e3⟩
theorem wg_same {ks : List KV} {X Y : WV} (h : SameU X.us Y.us) (hn : Y.next = X.next) (ho : Y.os = X.os) (hg : Y.gold = X.gold) : Wg ks X Y := wg_alike h.1 hn (by unfold tot loads; rw [ho, hg, h.2]; exact Int.le_refl _)
theorem price_pos {ks : List KV} (hk : Kd.kindsFault (ks.map KV.k) = 0) (a : Int) : 0 ≤ priceOf ks a := by
  unfold priceOf
  split
  · rename_i k h
    exact ((kinds_right hk).2 k (List.mem_of_getElem? h)).1
  · exact Int.le_refl _
theorem given_wg {ks : List KV} {Y Z : WV} {o : OrV} (hk : Kd.kindsFault (ks.map KV.k) = 0) (hg : given1 ks Y o = some Z) : Wg ks Y Z := by
  unfold given1 at hg
  split at hg
  · cases hg
  · rename_i i _
    split at hg
    · cases hg
    · rename_i u hu
      split at hg
      · cases hg
      · split at hg
        · injection hg with hg
          subst hg
          split
          · refine ⟨?_, Int.le_refl _, fun u hu => .inl ⟨u, hu, rfl, Int.le_refl _, rfl, rfl⟩⟩
            have hp := price_pos hk o.arg
            unfold tot loads hired
            simp only
            by_cases h : o.player.toNat < Y.gold.length
            · have e : Y.gold[o.player.toNat]? = some Y.gold[o.player.toNat] := List.getElem?_eq_getElem h
              rw [sm_set _ _ _ _ e, List.getD_eq_getElem?_getD, e]
              simp only [Option.getD_some]
              omega
            · rw [List.set_eq_of_length_le (by omega)]
              exact Int.le_refl _
          · exact wg_same (SameU.set hu rfl rfl rfl rfl rfl) rfl rfl rfl
        · cases hg
theorem gv_wg {ks : List KV} {X : WV} {out : List OrV} (hk : Kd.kindsFault (ks.map KV.k) = 0) : ∀ q, Wg ks X (gv ks X out q).1
  | 0 => .refl ks X
  | q + 1 => by
    have ih := gv_wg (X := X) (out := out) hk q
    rw [gv]
    split
    · exact ih
    · split
      · rename_i Z hZ
        exact ih.trans (given_wg hk hZ)
      · exact ih
theorem tr_wg {ks : List KV} {X : WV} {q : Nat} {Y : WV} {es : List EvV} {qs : List JbV} (t : Tr ks X q Y es qs) : Wg ks X Y := by
  induction t with
  | zero => exact .refl ks X
  | wait _ _ _ ih => exact ih
  | stay _ _ _ _ ih => exact ih
  | @come q Y es qs j c _ _ _ hc ih =>
    refine ih.trans ⟨?_, ?_, ?_⟩
    · unfold tot loads Wd.put
      simp only [List.map_append, sm_append]
      have : sm (List.map UnV.load [Wd.newUnit ks Y j.player j.kind c]) = 0 := rfl
      omega
    · show Y.next ≤ Y.next + 1
      omega
    · intro u hu
      rcases List.mem_append.1 hu with hu | hu
      · exact .inl ⟨u, hu, rfl, Int.le_refl _, rfl, rfl⟩
      · simp at hu
        obtain ⟨-, -, -, kn, k, e, -, hkk, -⟩ := pf_zero hc.2
        have hnu : u = ⟨Y.next, j.player, (kn : Nat), c, k.n0, 0, 0, 0⟩ := by
          rw [hu, e]
          unfold Wd.newUnit
          rw [Int.toNat_natCast, hkk]
        subst hnu
        exact .inr ⟨Int.le_refl _, k, by simp only [Int.toNat_natCast]; exact hkk, Int.le_refl _⟩
theorem tk_alike {ks : List KV} {Y : WV} : ∀ q, AlikeU Y.us (tk ks Y q).1.us
  | 0 => .refl _
  | q + 1 => by
    have ih := tk_alike (ks := ks) (Y := Y) q
    rw [tk]
    split
    · exact ih
    · rename_i u hu
      split
      · exact ih.trans (AlikeU.set hu rfl rfl rfl rfl)
      · exact ih
theorem br_alike {ks : List KV} {Wn Hn : Nat} {Y : WV} : ∀ q, AlikeU Y.us (br ks Wn Hn Y q).1.us
  | 0 => .refl _
  | q + 1 => by
    have ih := br_alike (ks := ks) (Wn := Wn) (Hn := Hn) (Y := Y) q
    rw [br]
    split
    · exact ih
    · rename_i u hu
      split
      · exact ih.trans (AlikeU.set hu rfl rfl rfl rfl)
      · exact ih
theorem dug_wg {ks : List KV} {Wn Hn : Nat} {X : WV} (h : WRight ks X) : Wg ks X (dug ks Wn Hn X) := by
  have f := h.dfit
  have f2 := tk_fit f X.us.length
  have k1 := (tk_keep (ks := ks) (Y := X) X.us.length).2.1
  have k2 := (br_keep (Wn := Wn) (Hn := Hn) f2 (tk ks X X.us.length).1.us.length).1.2.1
  refine wg_alike ((tk_alike X.us.length).trans (br_alike (Wn := Wn) (Hn := Hn) _)) (k2.trans k1) ?_
  have t1 := (tk_tot f X.us.length).1
  have t2 := (br_tot (Wn := Wn) (Hn := Hn) f2 (tk ks X X.us.length).1.us.length).1
  unfold dug
  omega
theorem sm_filter (p : UnV → Bool) : ∀ l : List UnV, (∀ u ∈ l, 0 ≤ u.load) → sm ((l.filter p).map UnV.load) ≤ sm (l.map UnV.load)
  | [], _ => Int.le_refl _
  | u :: l, h => by
    have ih := sm_filter p l (fun x hx => h x (by simp [hx]))
    have h0 := h u (by simp)
    rw [List.filter_cons]
    split
    · show u.load + _ ≤ u.load + _
      omega
    · show _ ≤ u.load + _
      omega
theorem hurt_load {us : List UnV} {lost : List Int} (hl : lost.length = us.length) : (hurt us lost).map UnV.load = us.map UnV.load := by
  apply List.ext_getElem?
  intro j
  rw [List.getElem?_map, List.getElem?_map]
  cases h : (hurt us lost)[j]? with
  | some y =>
    obtain ⟨u, x, h1, -, rfl⟩ := hurt_from h
    rw [h1]
    rfl
  | none =>
    have h1 := List.getElem?_eq_none_iff.1 h
    rw [hurt_len hl] at h1
    rw [List.getElem?_eq_none h1]
theorem fought_wg {ks : List KV} {Wn : Nat} {X : WV} (h : WRight ks X) : Wg ks X (fought ks Wn X) := by
  have hl : (strikes ks Wn X.us X.us).1.length = X.us.length := strikes_len'
  have up := strikes_upto (ks := ks) (W := Wn) (us := X.us) h.kinds X.us.length (Nat.le_refl _)
  rw [List.take_length] at up
  have hld : ∀ u ∈ X.us, 0 ≤ u.load := fun u hu => by
    obtain ⟨i, hi⟩ := List.mem_iff_getElem?.1 hu
    obtain ⟨k, F⟩ := h.fine hi
    exact F.load.1
  refine ⟨?_, Int.le_refl _, fun u hu => .inl ?_⟩
  · have e := hurt_load hl
    have s := sm_filter (fun u => !fallenU u) (struck ks Wn X) (fun u hu => by
      obtain ⟨j, hj⟩ := List.mem_iff_getElem?.1 hu
      obtain ⟨v, x, h1, -, rfl⟩ := hurt_from hj
      exact hld v (List.mem_of_getElem? h1))
    unfold tot loads fought stays
    simp only
    unfold struck at s ⊢
    rw [e] at s
    omega
  · have hu' : u ∈ stays ks Wn X := hu
    unfold stays struck at hu'
    have hm := (List.mem_filter.1 hu').1
    obtain ⟨j, hj⟩ := List.mem_iff_getElem?.1 hm
    obtain ⟨v, x, h1, h2, rfl⟩ := hurt_from hj
    have := (up x (List.mem_of_getElem? h2)).1
    exact ⟨v, List.mem_of_getElem? h1, rfl, by show v.life - x ≤ v.life; omega, rfl, rfl⟩
theorem step_wg {ks : List KV} {X : WV} {l : List OrV} {Y : WV} {es : List EvV} (hf : stepFault ks X l = 0) (h : StepR ks X l Y es) : Wg ks X Y := by
  have hw : Wd.wfault ks X = 0 := by
    by_cases e : Wd.wfault ks X = 0
    · exact e
    · rw [step_w e] at hf; exact absurd hf e
  have ht : ¬ 1000000 ≤ X.turn := fun e => by rw [step_t hw e] at hf; cases hf
  have ho : Od.faults l = 0 := by rw [step_o hw ht] at hf; exact hf
  have R := wright_of hw
  obtain ⟨out, Wn, Hn, Z, a1, a2, a3, a4, rfl⟩ := h
  obtain ⟨g1, g2, g3⟩ := gv_same (ks := ks) (Y := X) (out := out) out.length
  have AR := gv_right R (out := out) (fun o h => (Od.faults_ok ho).2 o (a1.mem h)) out.length
  have w0 := gv_wg (X := X) (out := out) R.kinds out.length
  generalize (gv ks X out out.length).1 = A at *
  have b1 : A.wide = (Wn : Nat) := by rw [g2, a2]
  have b2 : A.high = (Hn : Nat) := by rw [g3, a3]
  have fin : Wg ks A Z := by
    cases a4 with
    | four p3 =>
      have r3 := (p3.keep AR b1 b2).1
      refine Wg.trans ?_ (fought_wg r3)
      cases p3 with
      | three p2 =>
        have r2 := (p2.keep AR b1 b2).1
        refine Wg.trans ?_ (dug_wg r2)
        cases p2 with
        | two p1 m =>
          refine Wg.trans ?_ (wg_same (moves_same m) rfl rfl rfl)
          cases p1 with
          | one t => exact (tr_wg t).trans ⟨Int.le_refl _, Int.le_refl _, fun u hu => .inl ⟨u, hu, rfl, Int.le_refl _, rfl, rfl⟩⟩
  exact (w0.trans fin).trans ⟨Int.le_refl _, Int.le_refl _, fun u hu => .inl ⟨u, hu, rfl, Int.le_refl _, rfl, rfl⟩⟩
end Go.Proofs.YthcndngdngjalaaGreatDoor

namespace Go.Proofs.YthcndngdngjalaaGreatDoor
set_option linter.unusedVariables false

/-- what sums of a right world may come to. -/
structure SB (Z : WV) : Prop where
  os : ∀ n, 0 ≤ sm (Z.os.take n) ∧ sm (Z.os.take n) ≤ 144000000
  ls : ∀ n, 0 ≤ sm ((loads Z).take n) ∧ sm ((loads Z).take n) ≤ 40000
  gs : ∀ n, 0 ≤ sm (Z.gold.take n) ∧ sm (Z.gold.take n) ≤ 4000000
  o1 : ∀ x ∈ Z.os, 0 ≤ x ∧ x ≤ 1000000
  l1 : ∀ x ∈ loads Z, 0 ≤ x ∧ x ≤ 1000
  g1 : ∀ x ∈ Z.gold, 0 ≤ x ∧ x ≤ 1000000
  ol : Z.os.length ≤ 144
  ul : Z.us.length ≤ 40
  gl : Z.gold.length ≤ 4
  ql : Z.qs.length ≤ 12
theorem sm_part {B : Int} {l : List Int} {m : Nat} (hB : 0 ≤ B) (h : ∀ x ∈ l, 0 ≤ x ∧ x ≤ B) (hl : l.length ≤ m) (n : Nat) : 0 ≤ sm (l.take n) ∧ sm (l.take n) ≤ B * (m : Int) := by
  have h1 := sm_le hB (l.take n) (fun x hx => h x (List.mem_of_mem_take hx))
  have h2 : (l.take n).length ≤ m := by rw [List.length_take]; omega
  have h3 : B * ((l.take n).length : Int) ≤ B * (m : Int) := Int.mul_le_mul_of_nonneg_left (by omega) hB
  omega
theorem sb_of {ks : List KV} {Z : WV} (h : WRight ks Z) : SB Z := by
  have f := h.dfit
  obtain ⟨Wn, Hn, e1, e2, G⟩ := f.wide
  have ol : Z.os.length ≤ 144 := by
    rw [G.ol]
    have h1 : Wn * Hn ≤ 12 * 12 := Nat.mul_le_mul G.w2 G.h2
    omega
  have o1 : ∀ x ∈ Z.os, 0 ≤ x ∧ x ≤ 1000000 := fun x hx => by
    obtain ⟨i, hi⟩ := List.mem_iff_getElem?.1 hx
    exact f.ore hi
  have l1 : ∀ x ∈ loads Z, 0 ≤ x ∧ x ≤ 1000 := fun x hx => by
    obtain ⟨u, hu, rfl⟩ := List.mem_map.1 hx
    obtain ⟨⟨kn, k, -, -, a, b, c⟩, -⟩ := f.units u hu
    omega
  have gl : Z.gold.length ≤ 4 := by
    have n := h.nums
    unfold Wd.numsBad at n
    simp only [Bool.or_eq_false_iff, Bool.not_eq_false', decide_eq_true_eq] at n
    obtain ⟨-, -, ⟨g1, g2⟩, -⟩ := n
    omega
  have ll : (loads Z).length ≤ 40 := by unfold loads; rw [List.length_map]; exact h.ul
  exact ⟨fun n => by have := sm_part (B := 1000000) (m := 144) (by decide) o1 ol n; omega, fun n => by have := sm_part (B := 1000) (m := 40) (by decide) l1 ll n; omega, fun n => by have := sm_part (B := 1000000) (m := 4) (by decide) f.gold gl n; omega, o1, l1, f.gold, ol, h.ul, gl, h.ql⟩
/-- what Dig leaves, all together. -/
structure DugF (ks : List KV) (X Y : WV) (es : List EvV) : Prop where
  r : WRight ks Y
  ul : Y.us.length = X.us.length
  ol : Y.os.length = X.os.length
  gl : Y.gold.length = X.gold.length
  le : tot Y ≤ tot X
  eq : tot Y = tot X ∨ Full Y
  ev : ∀ e ∈ es, 1 ≤ e.arg ∧ (e.what = 4 ∨ e.what = 5)
  el : es.length ≤ 80
end Go.Proofs.YthcndngdngjalaaGreatDoor

namespace Go.Proofs.YthcndngdngjalaaGreatDoor
open Go.RowKit Go.Proofs.YthcndngdngjalaaGreatDoor.So
set_option linter.unusedVariables false

set_option maxRecDepth 100000 in
set_option maxHeartbeats 16000000 in
theorem wsum_any (v : Value) (X : WV) (w : World) (hw : Wl w v X) (hf : SB X) :
    Calls Tryz.prog 29 #[v] w fun e w' => e = .returned (.int .i64 (tot X)) ∧ Below w.heap.size w w' := by
  have SF : Hid (SB X) := hf
  have H : Hid (Wl w v X) := hw
  obtain ⟨p1, q1, p2, q2, p3, q3, p4, q4, p5, q5, rfl⟩ := wl_shape9 hw
  have HS := H.out.slices
  have GR : Hid (Ro w (.slice p3 X.gold.length q3) X.gold ∧ Ro w (.slice p2 X.os.length q2) X.os ∧ Unl w (.slice p4 X.us.length q4) X.us) := ⟨HS.2.2.1, HS.2.1, HS.2.2.2.1⟩
  obtain ⟨ga9, gc9, gce, gc1, gc2, -⟩ := GR.out.1
  injection gce with ge1 ge2 ge3
  subst ge1 ge3
  obtain ⟨oa9, oc9, oce, oc1, oc2, -⟩ := GR.out.2.1
  injection oce with oe1 oe2 oe3
  subst oe1 oe3
  obtain ⟨ua9, uc9, uce, uc1, uc2, -⟩ := GR.out.2.2
  injection uce with ue1 ue2 ue3
  subst ue1 ue3
  have SG0 : Hid (∃ G O L, sm X.gold = G ∧ sm X.os = O ∧ sm (loads X) = L ∧ tot X = G + O + L ∧ (0 ≤ G ∧ G ≤ 4000000) ∧ (0 ≤ O ∧ O ≤ 144000000) ∧ (0 ≤ L ∧ L ≤ 40000)) := by
    have h1 := SF.out.gs X.gold.length
    have h2 := SF.out.os X.os.length
    have h3 := SF.out.ls (loads X).length
    rw [List.take_length] at h1 h2 h3
    exact ⟨_, _, _, rfl, rfl, rfl, by unfold tot; omega, h1, h2, h3⟩
  obtain ⟨G, O, L, eG, eO, eL, eT, bG, bO, bL⟩ := SG0.out
  have EQ : Hid (sm X.gold = G ∧ sm X.os = O ∧ sm (loads X) = L ∧ tot X = G + O + L) := ⟨eG, eO, eL, eT⟩
  clear hw hf HS ge2 oe2 ue2 eG eO eL eT SG0
  go_enter Tryz.func29, Tryz.ntmps29
  go_upto_region 1 with fail
  have B0 : Hid (Below w.heap.size w (w.alloc (Obj.cells #[.int .i64 X.turn, .int .i64 X.next, .int .i64 X.wide, .int .i64 X.high, .slice p1 X.gs.length q1, .slice p2 X.os.length q2, .slice p3 X.gold.length q3, .slice p4 X.us.length q4, .slice p5 X.qs.length q5] 29))) := (Below.refl _ _).alloc (Nat.le_refl _) _
  have X0 : Hid (Bw (w.alloc (Obj.cells #[.int .i64 X.turn, .int .i64 X.next, .int .i64 X.wide, .int .i64 X.high, .slice p1 X.gs.length q1, .slice p2 X.os.length q2, .slice p3 X.gold.length q3, .slice p4 X.us.length q4, .slice p5 X.qs.length q5] 29)) w.heap.size X (.slice p1 X.gs.length q1) (.slice p2 X.os.length q2) (.slice p3 X.gold.length q3) (.slice p4 X.us.length q4) (.slice p5 X.qs.length q5)) := Bw.mk' X _ _ _ _ _ rfl
  generalize w.alloc (Obj.cells #[.int .i64 X.turn, .int .i64 X.next, .int .i64 X.wide, .int .i64 X.high, .slice p1 X.gs.length q1, .slice p2 X.os.length q2, .slice p3 X.gold.length q3, .slice p4 X.us.length q4, .slice p5 X.qs.length q5] 29) = w0 at *
  obtain ⟨x0, x1, x2, x3, x4, x5, x6, x7, x8⟩ := X0.out
  go_wp2_with fail
  clear x0 x1 x2 x3 x4 x5 x6 x7 x8
  go_loopw [3, 4] (fun nv iv W => ∃ i : Nat, i ≤ X.gold.length ∧ nv = .int .i64 (sm (X.gold.take i)) ∧ iv = .int .i64 (i : Nat) ∧ W = w0) (fun _ iv _ => X.gold.length - (intOf iv).toNat)
  case atStart => exact ⟨0, Nat.zero_le _, by simp [sm], rfl, rfl⟩
  case round =>
  obtain ⟨i, hi, rfl, rfl, hW⟩ := hrel
  obtain rfl : w0 = wr := hW.symm
  obtain ⟨x0, x1, x2, x3, x4, x5, x6, x7, x8⟩ := X0.out
  by_cases hie : i = X.gold.length
  case neg =>
    have hil : i < X.gold.length := by omega
    have hil' : (i : Int) < (X.gold.length : Int) := by omega
    obtain ⟨g, hg⟩ : ∃ g, X.gold[i]? = some g := ⟨_, List.getElem?_eq_getElem hil⟩
    have NX : Hid (sm (X.gold.take (i + 1)) = sm (X.gold.take i) + g) := sm_next hg
    have sb := SF.out.gs i
    have gb := SF.out.g1 g (List.mem_of_getElem? hg)
    obtain ⟨ga, gq, ge, -, -, gcell⟩ := GR.out.1.below B0.out
    injection ge with ge1 ge2 ge3
    subst ge1 ge3
    obtain ⟨yg, rfl, -, gcell⟩ := gcell (by rintro h; rw [h] at hg; simp at hg)
    have cg := gcell i g hg
    obtain ⟨s, hs⟩ : ∃ s, sm (X.gold.take i) = s := ⟨_, rfl⟩
    rw [hs] at sb NX ⊢
    obtain ⟨a, ha⟩ : ∃ a, s = a := ⟨_, rfl⟩
    have ab : 0 ≤ a ∧ a ≤ 1000000000 := by omega
    have AE : Hid (s = a) := ha
    rw [ha]
    have wg : IntKind.i64.wrap (a + g) = a + g := by rw [IntKind.wrap_i64]; omega
    clear hg gcell ge2 hs ha sb
    go_wp2
    go_roundw
    case rel => exact ⟨i + 1, by omega, by rw [NX.out, ← AE.out] <;> first | rfl | (congr 1; omega), by go_num, by first | rfl | trivial⟩
    case measure => simp [intOf]; omega
  have hii : ¬ (i : Int) < (X.gold.length : Int) := by omega
  have eg : sm (X.gold.take i) = G := by rw [hie, List.take_length]; exact EQ.out.1
  rw [eg]
  clear eg
  go_wp2_with fail
  clear x0 x1 x2 x3 x4 x5 x6 x7 x8
  go_loopw [3, 5] (fun nv iv W => ∃ i : Nat, i ≤ X.os.length ∧ nv = .int .i64 (G + sm (X.os.take i)) ∧ iv = .int .i64 (i : Nat) ∧ W = w0) (fun _ iv _ => X.os.length - (intOf iv).toNat)
  case atStart => exact ⟨0, Nat.zero_le _, by simp [sm], rfl, rfl⟩
  case round =>
  obtain ⟨i, hi, rfl, rfl, hW⟩ := hrel
  obtain rfl : w0 = wr := hW.symm
  obtain ⟨x0, x1, x2, x3, x4, x5, x6, x7, x8⟩ := X0.out
  by_cases hie : i = X.os.length
  case neg =>
    have hil : i < X.os.length := by omega
    have hil' : (i : Int) < (X.os.length : Int) := by omega
    obtain ⟨g, hg⟩ : ∃ g, X.os[i]? = some g := ⟨_, List.getElem?_eq_getElem hil⟩
    have NX : Hid (sm (X.os.take (i + 1)) = sm (X.os.take i) + g) := sm_next hg
    have sb := SF.out.os i
    have gb := SF.out.o1 g (List.mem_of_getElem? hg)
    obtain ⟨ga, gq, ge, -, -, gcell⟩ := GR.out.2.1.below B0.out
    injection ge with ge1 ge2 ge3
    subst ge1 ge3
    obtain ⟨yg, rfl, -, gcell⟩ := gcell (by rintro h; rw [h] at hg; simp at hg)
    have cg := gcell i g hg
    obtain ⟨s, hs⟩ : ∃ s, sm (X.os.take i) = s := ⟨_, rfl⟩
    rw [hs] at sb NX ⊢
    obtain ⟨a, ha⟩ : ∃ a, G + s = a := ⟨_, rfl⟩
    have ab : 0 ≤ a ∧ a ≤ 1000000000 := by omega
    have AE : Hid (G + s = a) := ha
    rw [ha]
    have wg : IntKind.i64.wrap (a + g) = a + g := by rw [IntKind.wrap_i64]; omega
    clear hg gcell ge2 hs ha sb
    go_wp2
    go_roundw
    case rel => exact ⟨i + 1, by omega, by rw [NX.out, ← AE.out] <;> first | rfl | (congr 1; omega), by go_num, by first | rfl | trivial⟩
    case measure => simp [intOf]; omega
  have hii : ¬ (i : Int) < (X.os.length : Int) := by omega
  have eo : sm (X.os.take i) = O := by rw [hie, List.take_length]; exact EQ.out.2.1
  rw [eo]
  clear eo
  obtain ⟨GO, hGO⟩ : ∃ a, G + O = a := ⟨_, rfl⟩
  have EGO : Hid (G + O = GO) := hGO
  rw [hGO]
  have bGO : 0 ≤ GO ∧ GO ≤ 148000000 := by omega
  clear hGO
  go_wp2_with fail
  clear x0 x1 x2 x3 x4 x5 x6 x7 x8
  go_loopw [3, 6] (fun nv iv W => ∃ i : Nat, i ≤ X.us.length ∧ nv = .int .i64 (GO + sm ((loads X).take i)) ∧ iv = .int .i64 (i : Nat) ∧ W = w0) (fun _ iv _ => X.us.length - (intOf iv).toNat)
  case atStart => exact ⟨0, Nat.zero_le _, by simp [sm], rfl, rfl⟩
  case round =>
  obtain ⟨i, hi, rfl, rfl, hW⟩ := hrel
  obtain rfl : w0 = wr := hW.symm
  obtain ⟨x0, x1, x2, x3, x4, x5, x6, x7, x8⟩ := X0.out
  by_cases hie : i = X.us.length
  case neg =>
    have hil : i < X.us.length := by omega
    have hil' : (i : Int) < (X.us.length : Int) := by omega
    obtain ⟨g, hg⟩ : ∃ g, X.us[i]? = some g := ⟨_, List.getElem?_eq_getElem hil⟩
    have NX : Hid (sm ((loads X).take (i + 1)) = sm ((loads X).take i) + g.load) := sm_next (by unfold loads; rw [List.getElem?_map, hg]; rfl)
    have sb := SF.out.ls i
    have gb := SF.out.l1 g.load (by unfold loads; exact List.mem_map.2 ⟨g, List.mem_of_getElem? hg, rfl⟩)
    obtain ⟨ga, gq, ge, -, -, gcell⟩ := GR.out.2.2.below B0.out
    injection ge with ge1 ge2 ge3
    subst ge1 ge3
    obtain ⟨yg, rfl, -, gcell⟩ := gcell (by rintro h; rw [h] at hg; simp at hg)
    obtain ⟨c0, c1, c2, c3, c4, cg, c6, c7⟩ := gcell i g hg
    obtain ⟨s, hs⟩ : ∃ s, sm ((loads X).take i) = s := ⟨_, rfl⟩
    rw [hs] at sb NX ⊢
    obtain ⟨a, ha⟩ : ∃ a, GO + s = a := ⟨_, rfl⟩
    have ab : 0 ≤ a ∧ a ≤ 1000000000 := by omega
    have AE : Hid (GO + s = a) := ha
    rw [ha]
    have wg : IntKind.i64.wrap (a + g.load) = a + g.load := by rw [IntKind.wrap_i64]; omega
    clear hg gcell ge2 hs ha sb
    go_wp2
    go_roundw
    case rel => exact ⟨i + 1, by omega, by rw [NX.out, ← AE.out] <;> first | rfl | (congr 1; omega), by go_num, by first | rfl | trivial⟩
    case measure => simp [intOf]; omega
  have hii : ¬ (i : Int) < (X.us.length : Int) := by omega
  have el : GO + sm ((loads X).take i) = tot X := by
    rw [hie, List.take_of_length_le (by unfold loads; rw [List.length_map]; exact Nat.le_refl _)]
    have := EQ.out
    have := EGO.out
    omega
  rw [el]
  go_wp2
  go_ret
  exact ⟨rfl, B0.out⟩
end Go.Proofs.YthcndngdngjalaaGreatDoor

namespace Go.Proofs.YthcndngdngjalaaGreatDoor
open Go.ChangeShapes Go.WideShapes Go.ChangeAt Go.RowKit
set_option linter.unusedVariables false

theorem or_fields : ∃ f0 f1 f2 f3 : Field, Tryz.prog.underlying 54 = some (.struct #[f0, f1, f2, f3]) ∧
    f0.offset = 0 ∧ f0.type = 3 ∧ f1.offset = 1 ∧ f1.type = 3 ∧ f2.offset = 2 ∧ f2.type = 3 ∧ f3.offset = 3 ∧ f3.type = 3 := ⟨_, _, _, _, Tryz.underlying54, rfl, rfl, rfl, rfl, rfl, rfl, rfl, rfl⟩

set_option maxRecDepth 100000 in
theorem open_or {H : Type} {enc : TypeId × Value → H} {W : World} {base : Nat} {held : Bool} {fuel : Nat} {cs : List Value} {y : DataW H × List MemPlace} (h : DataW.trod enc Tryz.prog W base (fun _ => true) held fuel 54 cs = some y) :
    ∃ k : OrV, cs = [.int .i64 k.player, .int .i64 k.unit, .int .i64 k.what, .int .i64 k.arg] ∧ True := by
  obtain ⟨f0, f1, f2, f3, he, o0, t0, o1, t1, o2, t2, o3, t3⟩ := or_fields
  obtain ⟨xs, m, -, -, hlen, hxl, hf⟩ := DataW.trod_struct he h
  have csi : Tryz.prog.cellsOf 3 = 1 := by kernel_rfl
  have csk : Tryz.prog.cellsOf 54 = 4 := by kernel_rfl
  rw [csk] at hlen
  match cs, hlen with
  | [v0, v1, v2, v3], _ =>
    have hx : xs.length = 4 := hxl
    match xs, hx with
    | [x0, x1, x2, x3], _ =>
      have g0 := hf 0 f0 rfl
      rw [o0, t0, csi] at g0
      have g1 := hf 1 f1 rfl
      rw [o1, t1, csi] at g1
      have g2 := hf 2 f2 rfl
      rw [o2, t2, csi] at g2
      have g3 := hf 3 f3 rfl
      rw [o3, t3, csi] at g3
      obtain ⟨m0, e0, -, -⟩ := DataW.trod_int Tryz.underlying3 g0
      obtain ⟨m1, e1, -, -⟩ := DataW.trod_int Tryz.underlying3 g1
      obtain ⟨m2, e2, -, -⟩ := DataW.trod_int Tryz.underlying3 g2
      obtain ⟨m3, e3, -, -⟩ := DataW.trod_int Tryz.underlying3 g3
      simp at e0 e1 e2 e3
      subst e0 e1 e2 e3
      exact ⟨⟨m0, m1, m2, m3⟩, rfl, trivial⟩

theorem open_ors {H : Type} {enc : TypeId × Value → H} {W : World} {base : Nat} {held : Bool} {fuel : Nat} {v : Value} {y : DataW H × List MemPlace} (h : DataW.trod enc Tryz.prog W base (fun _ => true) held fuel 48 [v] = some y) :
    ∃ ks : List OrV, Orl W v ks ∧ ∀ k ∈ ks, True := by
  have csk : Tryz.prog.cellsOf 54 = 4 := by kernel_rfl
  rcases Go.Deep.open_slice Tryz.underlying48 h with ⟨hcs, -⟩ | ⟨a, len, cap, m, q, D, Pl, hcs, hb, hl, hm, hmm, -, hx⟩
  · simp at hcs
    subst hcs
    exact ⟨[], ⟨none, 0, rfl, Nat.le_refl _, by omega, fun h => absurd rfl h⟩, by simp⟩
  · simp at hcs
    subst hcs
    have hlm : len ≤ m := by rw [hmm]; simp; exact hl
    have each : ∀ i, i < len → ∃ k : OrV, Orc W (a.add (i * 4)) k ∧ (True) := by
      intro i hi
      obtain ⟨cs', h1, h2⟩ := hx i (by omega)
      obtain ⟨k, rfl, hk⟩ := open_or h2
      rw [csk] at h1
      obtain ⟨-, -, hcell⟩ := World.cells?_some h1
      refine ⟨k, ?_, hk⟩
      generalize a.add (i * 4) = y at *
      exact ⟨hcell 0 (by decide), hcell 1 (by decide), hcell 2 (by decide), hcell 3 (by decide)⟩
    have inh : Inhabited OrV := ⟨⟨0, 0, 0, 0⟩⟩
    obtain ⟨q, hq⟩ := Go.Deep.choose_lt each
    refine ⟨(List.range len).map q, ⟨some a, cap, by simp, by simpa using hl, by unfold maxLen at hm; omega, fun hn => ⟨a, rfl, ?_, fun i k hk => ?_⟩⟩, ?_⟩
    · have h0 : 0 < len := by
        rcases Nat.eq_zero_or_pos len with h | h
        · subst h; simp at hn
        · exact h
      have := (hq 0 h0).1.lt
      rwa [add_block] at this
    · have hi : i < len := by
        have := (List.getElem?_eq_some_iff.1 hk).1
        simpa using this
      rw [List.getElem?_map, List.getElem?_range hi] at hk
      injection hk with hk
      subst hk
      exact (hq i hi).1
    · intro k hk
      obtain ⟨i, hi, rfl⟩ := List.mem_map.1 hk
      exact (hq i (List.mem_range.1 hi)).2
set_option maxRecDepth 100000 in
theorem ors_in {H : Type} {enc : TypeId × Value → H} {W : World} {base b0 : Nat} {held : Bool} {v : Value} {d : DataW H} {p : List MemPlace} (hv : Value.okWide Tryz.prog W .any b0 48 v) (h : DataW.Trod enc Tryz.prog W base (fun _ => true) held 48 v d p) :
    ∃ ks : List OrV, Orl W v ks ∧ ∀ k ∈ ks, True := by
  obtain ⟨a, len, cap, rfl⟩ := okWide_slice Tryz.underlying48 hv
  obtain ⟨fuel, hf⟩ := h
  exact open_ors hf
end Go.Proofs.YthcndngdngjalaaGreatDoor

namespace Go.Proofs.YthcndngdngjalaaGreatDoor
open Go.ChangeShapes Go.WideShapes Go.ChangeAt Go.RowKit
set_option linter.unusedVariables false

set_option maxRecDepth 100000 in
theorem open_olls {H : Type} {enc : TypeId × Value → H} {W : World} {base : Nat} {held : Bool} {fuel : Nat} {v : Value} {y : DataW H × List MemPlace} (h : DataW.trod enc Tryz.prog W base (fun _ => true) held fuel 57 [v] = some y) :
    ∃ ls : List (List OrV), Oll W v ls := by
  have csk : Tryz.prog.cellsOf 48 = 1 := by kernel_rfl
  rcases Go.Deep.open_slice Tryz.underlying57 h with ⟨hcs, -⟩ | ⟨a, len, cap, m, q, D, Pl, hcs, hb, hl, hm, hmm, -, hx⟩
  · simp at hcs
    subst hcs
    exact ⟨[], ⟨none, 0, rfl, Nat.le_refl _, by omega, fun h => absurd rfl h⟩⟩
  · simp at hcs
    subst hcs
    have hlm : len ≤ m := by rw [hmm]; simp; exact hl
    have each : ∀ i, i < len → ∃ l : List OrV, ∃ u, W.cell? (a.add i) = some u ∧ Orl W u l := by
      intro i hi
      obtain ⟨cs', h1, h2⟩ := hx i (by omega)
      rw [csk] at h1
      rw [Nat.mul_one] at h1
      obtain ⟨-, hlen, hcell⟩ := World.cells?_some h1
      match cs', hlen with
      | [u], _ =>
        obtain ⟨l, hl', -⟩ := open_ors h2
        exact ⟨l, u, hcell 0 (by decide), hl'⟩
    have inh : Inhabited (List OrV) := ⟨[]⟩
    obtain ⟨q, hq⟩ := Go.Deep.choose_lt each
    refine ⟨(List.range len).map q, ⟨some a, cap, by simp, by simpa using hl, by unfold maxLen at hm; omega, fun hn => ⟨a, rfl, ?_, fun i k hk => ?_⟩⟩⟩
    · have h0 : 0 < len := by
        rcases Nat.eq_zero_or_pos len with h | h
        · subst h; simp at hn
        · exact h
      obtain ⟨u, h1, -⟩ := hq 0 h0
      have := cell_lt h1
      rwa [add_block] at this
    · have hi : i < len := by
        have := (List.getElem?_eq_some_iff.1 hk).1
        simpa using this
      rw [List.getElem?_map, List.getElem?_range hi] at hk
      injection hk with hk
      subst hk
      exact hq i hi
set_option maxRecDepth 100000 in
theorem olls_in {H : Type} {enc : TypeId × Value → H} {W : World} {base b0 : Nat} {held : Bool} {v : Value} {d : DataW H} {p : List MemPlace} (hv : Value.okWide Tryz.prog W .any b0 57 v) (h : DataW.Trod enc Tryz.prog W base (fun _ => true) held 57 v d p) : ∃ ls : List (List OrV), Oll W v ls := by
  obtain ⟨a, len, cap, rfl⟩ := okWide_slice Tryz.underlying57 hv
  obtain ⟨fuel, hf⟩ := h
  exact open_olls hf
/-- the first of them; those behind. -/
theorem Oll.take {w : World} {a : Option Addr} {n c : Nat} {ls : List (List OrV)} (h : Oll w (.slice a n c) ls) {k : Nat} (hk : k ≤ ls.length) : Oll w (.slice a k c) (ls.take k) := by
  obtain ⟨a', c', e, h2, h3, h4⟩ := h
  injection e with e1 e2 e3
  subst e1 e3
  have hl : (ls.take k).length = k := by rw [List.length_take]; omega
  refine ⟨a, c, by rw [hl], by omega, h3, fun hn => ?_⟩
  obtain ⟨x, ex, hx, hy⟩ := h4 (by rintro rfl; simp at hn)
  refine ⟨x, ex, hx, fun i l hi => hy i l ?_⟩
  rw [List.getElem?_take] at hi
  split at hi
  · exact hi
  · cases hi
theorem Oll.sl {w : World} {a : Option Addr} {c n L : Nat} {ls : List (List OrV)} (h : Oll w (.slice a L c) ls) (hn : n ≤ ls.length) : Oll w (sliced a n L c 1) (ls.drop n) := by
  obtain ⟨a', c', e, h1, h2, h3⟩ := h
  injection e with e1 e2 e3
  subst e1 e3 e2
  unfold sliced
  refine ⟨_, _, by rw [List.length_drop], by rw [List.length_drop]; omega, by omega, fun hne => ?_⟩
  have hnl : n < ls.length := by
    rcases Nat.lt_or_ge n ls.length with h | h
    · exact h
    · exact absurd (List.drop_eq_nil_of_le h) hne
  obtain ⟨x, rfl, hx1, hx2⟩ := h3 (by rintro rfl; simp at hnl)
  refine ⟨x.add n, ?_, by rw [add_block]; exact hx1, fun i l hk => ?_⟩
  · simp
    intro hc
    omega
  · rw [List.getElem?_drop] at hk
    obtain ⟨u, c1, c2⟩ := hx2 (n + i) l hk
    have e : (x.add n).add i = x.add (n + i) := by
      unfold Addr.add
      split <;> split <;> split <;> simp_all <;> omega
    rw [e]
    exact ⟨u, c1, c2⟩
end Go.Proofs.YthcndngdngjalaaGreatDoor

namespace Go.Proofs.YthcndngdngjalaaGreatDoor
open Go Go.RowKit
set_option linter.unusedVariables false

inductive TrT where
  | leaf : TrT
  | read : Nat → TrT → TrT
  | one : Nat → TrT → TrT
  | two : Nat → TrT → Nat → TrT → TrT
  | three : Nat → TrT → Nat → TrT → Nat → TrT → TrT
section
variable {P : Program} {ops : Array Oper} {md : Region.Mode} {C : World → Prop} {Q : Exit → Act → World → Prop}
def wpTr (P : Program) (ops : Array Oper) (C : World → Prop) (K : Act → World → Prop) : TrT → Act → World → Prop
  | .leaf, a, W => K a W
  | .read i t, a, W => ∃ o v, ops[i]? = some o ∧ YieldsS P ops C o v a ∧ wpTr P ops C K t (a.put o.dst v) W
  | .one i t, a, W => ∃ o, ops[i]? = some o ∧ StepS P ops C o (wpTr P ops C K t) a W
  | .two i t j u, a, W => (∃ o, ops[i]? = some o ∧ StepS P ops C o (wpTr P ops C K t) a W) ∧ (∃ o, ops[j]? = some o ∧ StepS P ops C o (wpTr P ops C K u) a W)
  | .three i t j u k v, a, W => (∃ o, ops[i]? = some o ∧ StepS P ops C o (wpTr P ops C K t) a W) ∧ (∃ o, ops[j]? = some o ∧ StepS P ops C o (wpTr P ops C K u) a W) ∧ (∃ o, ops[k]? = some o ∧ StepS P ops C o (wpTr P ops C K v) a W)
def trB (md : Region.Mode) (ops : Array Oper) (H0 : Array Bool) : Nat → TrT → Array Bool → Bool
  | 0, .leaf, listed => decide (listed = H0)
  | n + 1, .read i t, listed => (Region.ready md ops listed).contains i && (Region.free md ops listed i && ((waits md ops H0 i || decide (Region.ready md ops (H0.setIfInBounds i false) = [i])) && trB md ops H0 n t (listed.setIfInBounds i true)))
  | n + 1, .one i t, listed => (Region.ready md ops listed).contains i && ((Region.ready md ops listed).all (fun x => decide (x = i)) && trB md ops H0 n t (listed.setIfInBounds i true))
  | n + 1, .two i t j u, listed => (Region.ready md ops listed).contains i && ((Region.ready md ops listed).contains j && ((Region.ready md ops listed).all (fun x => decide (x = i) || decide (x = j)) && (trB md ops H0 n t (listed.setIfInBounds i true) && trB md ops H0 n u (listed.setIfInBounds j true))))
  | n + 1, .three i t j u k v, listed => (Region.ready md ops listed).contains i && ((Region.ready md ops listed).contains j && ((Region.ready md ops listed).contains k && ((Region.ready md ops listed).all (fun x => decide (x = i) || (decide (x = j) || decide (x = k))) && (trB md ops H0 n t (listed.setIfInBounds i true) && (trB md ops H0 n u (listed.setIfInBounds j true) && trB md ops H0 n v (listed.setIfInBounds k true))))))
  | _, _, _ => false
theorem wpAnyT_of_tr {K : Act → World → Prop} {H0 : Array Bool} (hsel : Region.noSelect ops = true) : ∀ (n : Nat) (t : TrT) (listed : Array Bool) (a : Act) (W : World), Clos md ops listed → trB md ops H0 n t listed = true → C W → wpTr P ops C K t a W → wpAnyT P md ops C (fun l a W => l = H0 ∧ K a W) n listed a W
  | 0, .leaf, listed, a, W, inv, hB, hC, h => by
    simp only [trB, decide_eq_true_eq] at hB
    exact ⟨hB, h⟩
  | n + 1, .read i t, listed, a, W, inv, hB, hC, h => by
    simp only [trB, Bool.and_eq_true, Bool.or_eq_true, decide_eq_true_eq] at hB
    obtain ⟨hr, hf, hH, hB⟩ := hB
    obtain ⟨o, v, ho, hy, hk⟩ := h
    have hr' : i ∈ Region.ready md ops listed := by simpa using hr
    exact wpAnyT_first ho (Region.noSelect_spec hsel) hH (fun _ _ _ h => h.1) n listed a W inv (Region.free_spec ho hf) hr' hy hC (wpAnyT_of_tr hsel n t _ _ _ (inv.set hr') hB hC hk)
  | n + 1, .one i t, listed, a, W, inv, hB, hC, h => by
    simp only [trB, Bool.and_eq_true] at hB
    obtain ⟨hr, hall, hB⟩ := hB
    have hr' : i ∈ Region.ready md ops listed := by simpa using hr
    obtain ⟨o, ho, hs⟩ := h
    refine ⟨fun h => (by rw [h] at hr'; cases hr'), fun x hx => ?_⟩
    have hx' := List.all_eq_true.1 hall x hx
    simp only [decide_eq_true_eq] at hx'
    subst hx'
    exact ⟨o, ho, hs.mono fun a' W' hC' hk => wpAnyT_of_tr hsel n t _ _ _ (inv.set hr') hB hC' hk⟩
  | n + 1, .two i t j u, listed, a, W, inv, hB, hC, h => by
    simp only [trB, Bool.and_eq_true] at hB
    obtain ⟨hi, hj, hall, hB1, hB2⟩ := hB
    have hi' : i ∈ Region.ready md ops listed := by simpa using hi
    have hj' : j ∈ Region.ready md ops listed := by simpa using hj
    obtain ⟨⟨o, ho, hs⟩, ⟨o2, ho2, hs2⟩⟩ := h
    refine ⟨fun h => (by rw [h] at hi'; cases hi'), fun x hx => ?_⟩
    have hx' := List.all_eq_true.1 hall x hx
    simp only [Bool.or_eq_true, decide_eq_true_eq] at hx'
    rcases hx' with e | e
    · subst e; exact ⟨o, ho, hs.mono fun a' W' hC' hk => wpAnyT_of_tr hsel n t _ _ _ (inv.set hi') hB1 hC' hk⟩
    · subst e; exact ⟨o2, ho2, hs2.mono fun a' W' hC' hk => wpAnyT_of_tr hsel n u _ _ _ (inv.set hj') hB2 hC' hk⟩
  | n + 1, .three i t j u k v, listed, a, W, inv, hB, hC, h => by
    simp only [trB, Bool.and_eq_true] at hB
    obtain ⟨hi, hj, hk, hall, hB1, hB2, hB3⟩ := hB
    have hi' : i ∈ Region.ready md ops listed := by simpa using hi
    have hj' : j ∈ Region.ready md ops listed := by simpa using hj
    have hk' : k ∈ Region.ready md ops listed := by simpa using hk
    obtain ⟨⟨o, ho, hs⟩, ⟨o2, ho2, hs2⟩, ⟨o3, ho3, hs3⟩⟩ := h
    refine ⟨fun h => (by rw [h] at hi'; cases hi'), fun x hx => ?_⟩
    have hx' := List.all_eq_true.1 hall x hx
    simp only [Bool.or_eq_true, decide_eq_true_eq] at hx'
    rcases hx' with e | e | e
    · subst e; exact ⟨o, ho, hs.mono fun a' W' hC' hk => wpAnyT_of_tr hsel n t _ _ _ (inv.set hi') hB1 hC' hk⟩
    · subst e; exact ⟨o2, ho2, hs2.mono fun a' W' hC' hk => wpAnyT_of_tr hsel n u _ _ _ (inv.set hj') hB2 hC' hk⟩
    · subst e; exact ⟨o3, ho3, hs3.mono fun a' W' hC' hk => wpAnyT_of_tr hsel n v _ _ _ (inv.set hk') hB3 hC' hk⟩
  | 0, .read _ _, _, _, _, _, hB, _, _ => by simp [trB] at hB
  | 0, .one _ _, _, _, _, _, hB, _, _ => by simp [trB] at hB
  | 0, .two _ _ _ _, _, _, _, _, hB, _, _ => by simp [trB] at hB
  | 0, .three _ _ _ _ _ _, _, _, _, _, hB, _, _ => by simp [trB] at hB
  | _ + 1, .leaf, _, _, _, _, hB, _, _ => by simp [trB] at hB
/-- the region: along the tree, in the worlds C; then its tail. s: what the tree holds, in any order. -/
theorem wp_region_tree {id : Nat} {a : Act} {w : World} (T : TrT) (s t : List (Bool × Nat)) (C : World → Prop) (hm : P.follows .mixedOrders = true) (hs : Region.noSelect ops = true) (hl : s.length + t.length = ops.size)
    (hB : trB .any ops (listedBy ops.size s) s.length T (Array.replicate ops.size false) = true)
    (hT : schedB .any ops t (listedBy ops.size s) = true)
    (hC : C { w with drawn := w.drawn + 1 }) (h : wpTr P ops C (wpSched P ops (fun _ => True) Q t) T a { w with drawn := w.drawn + 1 }) : (Code.region id ops true).wp P Q a w := by
  refine wp_region_any hm ?_
  rw [← hl]
  refine wpAny_of_T (g := t.length) (fun listed a W hh => ?_) _ _ _ _ (wpAnyT_of_tr (H0 := listedBy ops.size s) hs s.length T _ a _ (fun j oj _ hj => by rw [getD_replicate_false] at hj; cases hj) (by rw [hl]; exact hB) hC h)
  obtain ⟨rfl, hk⟩ := hh
  exact wpAny_of_S _ _ _ _ (wpAnyS_of_sched hs t _ a W hT trivial hk)
theorem tr_read {K : Act → World → Prop} {i : Nat} {t : TrT} {o : Oper} {a : Act} {W : World} (ho : ops[i]? = some o) (v : Value) (hw : Region.wanted o (yielded ops a.tmps) = true) (hr : ∀ W, C W → (execOp a.eval o).run P W = .ok (.value v) W) (h : wpTr P ops C K t (a.put o.dst v) W) : wpTr P ops C K (.read i t) a W :=
  ⟨o, v, ho, ⟨hw, hr⟩, h⟩
theorem tr_one {K : Act → World → Prop} {i : Nat} {t : TrT} {a : Act} {W : World} (h : ∃ o, ops[i]? = some o ∧ StepS P ops C o (wpTr P ops C K t) a W) : wpTr P ops C K (.one i t) a W := h
theorem tr_two {K : Act → World → Prop} {i j : Nat} {t u : TrT} {a : Act} {W : World} (h : ∃ o, ops[i]? = some o ∧ StepS P ops C o (wpTr P ops C K t) a W) (h2 : ∃ o, ops[j]? = some o ∧ StepS P ops C o (wpTr P ops C K u) a W) : wpTr P ops C K (.two i t j u) a W := ⟨h, h2⟩
theorem tr_three {K : Act → World → Prop} {i j k : Nat} {t u v : TrT} {a : Act} {W : World} (h : ∃ o, ops[i]? = some o ∧ StepS P ops C o (wpTr P ops C K t) a W) (h2 : ∃ o, ops[j]? = some o ∧ StepS P ops C o (wpTr P ops C K u) a W) (h3 : ∃ o, ops[k]? = some o ∧ StepS P ops C o (wpTr P ops C K v) a W) : wpTr P ops C K (.three i t j u k v) a W := ⟨h, h2, h3⟩
theorem st_call {K : Act → World → Prop} {i : Nat} {o : Oper} {a : Act} {W : World} (ho : ops[i]? = some o) (f : FuncId) (args : Array Value) (hw : Region.wanted o (yielded ops a.tmps) = true) (hr : (execOp a.eval o).run P W = .ok (.enter f args) W)
    (hc : Calls P f args W (fun e w' => ∃ v, e = .returned v ∧ C w' ∧ K (a.put o.dst v) w')) : ∃ o, ops[i]? = some o ∧ StepS P ops C o K a W :=
  ⟨o, ho, hw, .inr (.inr ⟨f, args, hr, hc⟩)⟩
theorem st_value {K : Act → World → Prop} {i : Nat} {o : Oper} {a : Act} {W : World} (ho : ops[i]? = some o) (v : Value) (W' : World) (hw : Region.wanted o (yielded ops a.tmps) = true) (hr : (execOp a.eval o).run P W = .ok (.value v) W') (hC : C W') (h : K (a.put o.dst v) W') : ∃ o, ops[i]? = some o ∧ StepS P ops C o K a W :=
  ⟨o, ho, hw, .inl ⟨v, W', hr, hC, h⟩⟩
theorem st_skip {K : Act → World → Prop} {i : Nat} {o : Oper} {a : Act} {W : World} (ho : ops[i]? = some o) (W' : World) (hw : Region.wanted o (yielded ops a.tmps) = true) (hr : (execOp a.eval o).run P W = .ok .skip W') (hC : C W') (h : K (a.put o.dst undef) W') : ∃ o, ops[i]? = some o ∧ StepS P ops C o K a W :=
  ⟨o, ho, hw, .inr (.inl ⟨W', hr, hC, h⟩)⟩
end
end Go.Proofs.YthcndngdngjalaaGreatDoor

namespace Go.Proofs.YthcndngdngjalaaGreatDoor
open Go.RowKit
set_option linter.unusedVariables false

set_option maxRecDepth 100000 in
set_option maxHeartbeats 2000000 in
theorem rfind_any (v : Value) (W : WV) (id : Int) (w : World) (h : Wl w v W) :
    Calls Tryz.prog 17 #[v, .int .i64 id] w fun e w' => ∃ r : Int, e = .returned (.int .i64 r) ∧ FstU (fun u => u.id == id) W.us r ∧ Below w.heap.size w w' := by
  obtain ⟨u1, u2, u3, u4, u5, rfl, -, -, -, ⟨a, c, rfl, c1, c2, ca⟩, -⟩ := h
  have Ca : Hid (W.us ≠ [] → ∃ x, a = some x ∧ x.block < w.heap.size ∧ ∀ (i : Nat) k, W.us[i]? = some k → Unc w (x.add (i * 8)) k) := ca
  clear ca
  go_enter Tryz.func17, Tryz.ntmps17
  go_wp2
  have B0 : Hid (Below w.heap.size w (w.alloc (Obj.cells #[.int .i64 W.turn, .int .i64 W.next, .int .i64 W.wide, .int .i64 W.high, u1, u2, u3, .slice a W.us.length c, u5] 29))) := (Below.refl _ _).alloc (Nat.le_refl _) _
  have X0 : Hid (Bw (w.alloc (Obj.cells #[.int .i64 W.turn, .int .i64 W.next, .int .i64 W.wide, .int .i64 W.high, u1, u2, u3, .slice a W.us.length c, u5] 29)) w.heap.size W u1 u2 u3 (.slice a W.us.length c) u5) := Bw.mk' W _ _ _ _ _ rfl
  generalize w.alloc (Obj.cells #[.int .i64 W.turn, .int .i64 W.next, .int .i64 W.wide, .int .i64 W.high, u1, u2, u3, .slice a W.us.length c, u5] 29) = w0 at *
  go_loopw [5] (fun iv V => ∃ k : Nat, k ≤ W.us.length ∧ iv = .int .i64 (k : Nat) ∧ (W.us.take k).any (fun u => u.id == id) = false ∧ V = w0) (fun iv _ => W.us.length - (intOf iv).toNat)
  case atStart => exact ⟨0, Nat.zero_le _, rfl, rfl, rfl⟩
  case round =>
    obtain ⟨k, hk, rfl, hn, rfl⟩ := hrel
    have HN : Hid ((W.us.take k).any (fun u => u.id == id) = false) := hn
    have c7 := X0.out.c7
    clear hn
    by_cases hkl : k = W.us.length
    · have F : Hid (FstU (fun u => u.id == id) W.us (-1)) := .inl ⟨rfl, by have := HN.out; rwa [hkl, List.take_length] at this⟩
      subst hkl
      clear hk
      go_wp2
      go_ret
      exact ⟨-1, rfl, F.out, B0.out⟩
    · have hlt : k < W.us.length := by omega
      have hli : (k : Int) < (W.us.length : Int) := by omega
      obtain ⟨u, hu⟩ : ∃ u, W.us[k]? = some u := ⟨_, List.getElem?_eq_getElem hlt⟩
      obtain ⟨x, rfl, hx, hcell⟩ := Ca.out (by intro e; rw [e] at hlt; simp at hlt)
      obtain ⟨d0, -, -, -, -, -, -, -⟩ := (hcell k u hu).below B0.out (by rw [add_block]; exact hx)
      have HU : Hid (W.us[k]? = some u) := hu
      clear hcell hx hu hkl
      by_cases hid : u.id = id
      · have F : Hid (FstU (fun u => u.id == id) W.us (k : Nat)) := .inr ⟨k, u, rfl, HU.out, by simp [hid], HN.out⟩
        go_wp2
        go_ret
        exact ⟨_, rfl, F.out, B0.out⟩
      · have hidb : (u.id == id) = false := by simpa using hid
        have N2 : Hid ((W.us.take (k + 1)).any (fun u => u.id == id) = false) := by unfold Hid; rw [anyu_next HU.out, HN.out, hidb]; rfl
        clear hid
        go_wp2
        go_roundw
        case rel => exact ⟨k + 1, by omega, rfl, N2.out, trivial⟩
        case measure => simp [intOf]; omega
end Go.Proofs.YthcndngdngjalaaGreatDoor

namespace Go.Proofs.YthcndngdngjalaaGreatDoor
open Go.ChangeShapes Go.WideShapes Go.ChangeAt Go.RowKit
set_option linter.unusedVariables false

theorem byte_of_wf {n : Int} (h : (Lit.int .u8 n).wf = true) : 0 ≤ n ∧ n < 256 := by
  simp only [Lit.wf, Bool.and_eq_true, decide_eq_true_eq] at h
  have h1 : IntKind.u8.min = 0 := by decide
  have h2 : IntKind.u8.max = 255 := by decide
  omega
theorem bulk_pos {H : Type} : ∀ d : DataW H, 1 ≤ Rows.uptoBulk d
  | .lit (.string bytes) => by simp [Rows.uptoBulk]
  | .lit (.int _ _) => by simp [Rows.uptoBulk]
  | .lit (.bool _) => by simp [Rows.uptoBulk]
  | .lit (.float .f32 _) => by simp [Rows.uptoBulk]
  | .lit (.float .f64 _) => by simp [Rows.uptoBulk]
  | .lit .nil => by simp [Rows.uptoBulk]
  | .nil => by simp [Rows.uptoBulk]
  | .ptr d => by simp [Rows.uptoBulk]
  | .slice _ _ => by simp [Rows.uptoBulk]
  | .agg _ => by simp [Rows.uptoBulk]
  | .iface _ _ => by simp [Rows.uptoBulk]
  | .map _ => by simp [Rows.uptoBulk]
  | .held _ => by simp [Rows.uptoBulk]
theorem bulk_len {H : Type} : ∀ ds : List (DataW H), ds.length ≤ Rows.uptoBulkAll ds
  | [] => by simp
  | d :: ds => by
    have h1 := bulk_pos d
    have h2 := bulk_len ds
    simp only [Rows.uptoBulkAll, List.length_cons]
    omega
theorem bulk_slice {H : Type} (es sp : List (DataW H)) : es.length ≤ Rows.uptoBulk (.slice es sp) := by
  have := bulk_len es
  simp only [Rows.uptoBulk]
  omega
end Go.Proofs.YthcndngdngjalaaGreatDoor

namespace Go.Proofs.YthcndngdngjalaaGreatDoor
open Go.ChangeShapes Go.WideShapes Go.ChangeAt Go.RowKit
set_option linter.unusedVariables false

theorem in64_of_wf {n : Int} (h : (Lit.int .i64 n).wf = true) : Wd.In64 n := by
  unfold Wd.In64
  simp only [Lit.wf, Bool.and_eq_true, decide_eq_true_eq] at h
  have h1 : IntKind.i64.min = -9223372036854775808 := by decide
  have h2 : IntKind.i64.max = 9223372036854775807 := by decide
  omega
set_option maxRecDepth 100000 in
theorem open_row64 {H : Type} {enc : TypeId × Value → H} {W : World} {base : Nat} {held : Bool} {fuel : Nat} {v : Value} {y : DataW H × List MemPlace} (h : DataW.trod enc Tryz.prog W base (fun _ => true) held fuel 23 [v] = some y) :
    ∃ zs, Ro W v zs ∧ (∀ n ∈ zs, Wd.In64 n) ∧ zs.length ≤ Rows.uptoBulk y.1 := by
  rcases open_ints Tryz.underlying23 Tryz.underlying3 (by kernel_rfl) h with ⟨hcs, rfl⟩ | ⟨x, l, c, zs, hcs, _, hl, hm, hz, rfl, hcell, hwz⟩
  · simp at hcs
    subst hcs
    exact ⟨_, IsRow.ro (.inl ⟨rfl, rfl, rfl, rfl⟩), by simp, by simp⟩
  · simp at hcs
    subst hcs
    refine ⟨_, IsRow.ro (zs := zs) (.inr ⟨_, rfl, hl, hm, by simpa using hz, hcell, hwz⟩), fun n hn => in64_of_wf (hwz n (List.mem_of_mem_take hn)), ?_⟩
    have := bulk_slice (H := H) (lits .i64 (zs.take l)) (lits .i64 (zs.drop l))
    simpa [lits] using this
theorem un_flds : ∃ f0 f1 f2 f3 f4 f5 f6 f7 : Field, Tryz.prog.underlying 44 = some (.struct #[f0, f1, f2, f3, f4, f5, f6, f7]) ∧ f0.offset = 0 ∧ f0.type = 3 ∧ f1.offset = 1 ∧ f1.type = 3 ∧ f2.offset = 2 ∧ f2.type = 3 ∧ f3.offset = 3 ∧ f3.type = 3 ∧ f4.offset = 4 ∧ f4.type = 3 ∧ f5.offset = 5 ∧ f5.type = 3 ∧ f6.offset = 6 ∧ f6.type = 3 ∧ f7.offset = 7 ∧ f7.type = 3 := ⟨_, _, _, _, _, _, _, _, Tryz.underlying44, rfl, rfl, rfl, rfl, rfl, rfl, rfl, rfl, rfl, rfl, rfl, rfl, rfl, rfl, rfl, rfl⟩
set_option maxRecDepth 100000 in
theorem open_un64 {H : Type} {enc : TypeId × Value → H} {W : World} {base : Nat} {held : Bool} {fuel : Nat} {cs : List Value} {y : DataW H × List MemPlace} (h : DataW.trod enc Tryz.prog W base (fun _ => true) held fuel 44 cs = some y) :
    ∃ k : UnV, cs = [.int .i64 k.id, .int .i64 k.player, .int .i64 k.kind, .int .i64 k.at_, .int .i64 k.life, .int .i64 k.load, .int .i64 k.task, .int .i64 k.goal] ∧ ∀ n ∈ Wd.unums k, Wd.In64 n := by
  obtain ⟨f0, f1, f2, f3, f4, f5, f6, f7, he, o0, t0, o1, t1, o2, t2, o3, t3, o4, t4, o5, t5, o6, t6, o7, t7⟩ := un_flds
  obtain ⟨xs, m, -, -, hlen, hxl, hf⟩ := DataW.trod_struct he h
  have csi : Tryz.prog.cellsOf 3 = 1 := by kernel_rfl
  have csk : Tryz.prog.cellsOf 44 = 8 := by kernel_rfl
  rw [csk] at hlen
  match cs, hlen with
  | [v0, v1, v2, v3, v4, v5, v6, v7], _ =>
    have hx : xs.length = 8 := hxl
    match xs, hx with
    | [x0, x1, x2, x3, x4, x5, x6, x7], _ =>
      have g0 := hf 0 f0 rfl
      rw [o0, t0, csi] at g0
      have g1 := hf 1 f1 rfl
      rw [o1, t1, csi] at g1
      have g2 := hf 2 f2 rfl
      rw [o2, t2, csi] at g2
      have g3 := hf 3 f3 rfl
      rw [o3, t3, csi] at g3
      have g4 := hf 4 f4 rfl
      rw [o4, t4, csi] at g4
      have g5 := hf 5 f5 rfl
      rw [o5, t5, csi] at g5
      have g6 := hf 6 f6 rfl
      rw [o6, t6, csi] at g6
      have g7 := hf 7 f7 rfl
      rw [o7, t7, csi] at g7
      obtain ⟨m0, e0, -, w0⟩ := DataW.trod_int Tryz.underlying3 g0
      obtain ⟨m1, e1, -, w1⟩ := DataW.trod_int Tryz.underlying3 g1
      obtain ⟨m2, e2, -, w2⟩ := DataW.trod_int Tryz.underlying3 g2
      obtain ⟨m3, e3, -, w3⟩ := DataW.trod_int Tryz.underlying3 g3
      obtain ⟨m4, e4, -, w4⟩ := DataW.trod_int Tryz.underlying3 g4
      obtain ⟨m5, e5, -, w5⟩ := DataW.trod_int Tryz.underlying3 g5
      obtain ⟨m6, e6, -, w6⟩ := DataW.trod_int Tryz.underlying3 g6
      obtain ⟨m7, e7, -, w7⟩ := DataW.trod_int Tryz.underlying3 g7
      simp at e0 e1 e2 e3 e4 e5 e6 e7
      subst e0 e1 e2 e3 e4 e5 e6 e7
      refine ⟨⟨m0, m1, m2, m3, m4, m5, m6, m7⟩, rfl, ?_⟩
      intro n hn
      simp only [Wd.unums, List.mem_cons, List.not_mem_nil, or_false] at hn
      rcases hn with rfl | rfl | rfl | rfl | rfl | rfl | rfl | rfl
      · exact in64_of_wf w0
      · exact in64_of_wf w1
      · exact in64_of_wf w2
      · exact in64_of_wf w3
      · exact in64_of_wf w4
      · exact in64_of_wf w5
      · exact in64_of_wf w6
      · exact in64_of_wf w7
theorem open_uns64 {H : Type} {enc : TypeId × Value → H} {W : World} {base : Nat} {held : Bool} {fuel : Nat} {v : Value} {y : DataW H × List MemPlace} (h : DataW.trod enc Tryz.prog W base (fun _ => true) held fuel 26 [v] = some y) :
    ∃ ks : List UnV, Unl W v ks ∧ (∀ k ∈ ks, ∀ n ∈ Wd.unums k, Wd.In64 n) ∧ ks.length ≤ Rows.uptoBulk y.1 := by
  have csk : Tryz.prog.cellsOf 44 = 8 := by kernel_rfl
  rcases Go.Deep.open_slice Tryz.underlying26 h with ⟨hcs, -⟩ | ⟨a, len, cap, m, q, D, Pl, hcs, hb, hl, hm, hmm, rfl, hx⟩
  · simp at hcs
    subst hcs
    exact ⟨[], ⟨none, 0, rfl, Nat.le_refl _, by omega, fun h => absurd rfl h⟩, by simp, by simp⟩
  · simp at hcs
    subst hcs
    have hlm : len ≤ m := by rw [hmm]; simp; exact hl
    have each : ∀ i, i < len → ∃ k : UnV, Unc W (a.add (i * 8)) k ∧ (∀ n ∈ Wd.unums k, Wd.In64 n) := by
      intro i hi
      obtain ⟨cs', h1, h2⟩ := hx i (by omega)
      obtain ⟨k, rfl, hk⟩ := open_un64 h2
      rw [csk] at h1
      obtain ⟨-, -, hcell⟩ := World.cells?_some h1
      refine ⟨k, ?_, hk⟩
      generalize a.add (i * 8) = y at *
      exact ⟨hcell 0 (by decide), hcell 1 (by decide), hcell 2 (by decide), hcell 3 (by decide), hcell 4 (by decide), hcell 5 (by decide), hcell 6 (by decide), hcell 7 (by decide)⟩
    have inh : Inhabited UnV := ⟨⟨0, 0, 0, 0, 0, 0, 0, 0⟩⟩
    obtain ⟨q, hq⟩ := Go.Deep.choose_lt each
    refine ⟨(List.range len).map q, ⟨some a, cap, by simp, by simpa using hl, by unfold maxLen at hm; omega, fun hn => ⟨a, rfl, ?_, fun i k hk => ?_⟩⟩, ?_, ?_⟩
    · have h0 : 0 < len := by
        rcases Nat.eq_zero_or_pos len with h | h
        · subst h; simp at hn
        · exact h
      have := (hq 0 h0).1.lt
      rwa [add_block] at this
    · have hi : i < len := by
        have := (List.getElem?_eq_some_iff.1 hk).1
        simpa using this
      rw [List.getElem?_map, List.getElem?_range hi] at hk
      injection hk with hk
      subst hk
      exact (hq i hi).1
    · intro k hk
      obtain ⟨i, hi, rfl⟩ := List.mem_map.1 hk
      exact (hq i (List.mem_range.1 hi)).2
    · have := bulk_slice ((List.range len).map D) ((List.range (m - len)).map fun j => D (len + j))
      simpa using this
theorem jb_flds : ∃ f0 f1 f2 f3 : Field, Tryz.prog.underlying 77 = some (.struct #[f0, f1, f2, f3]) ∧ f0.offset = 0 ∧ f0.type = 3 ∧ f1.offset = 1 ∧ f1.type = 3 ∧ f2.offset = 2 ∧ f2.type = 3 ∧ f3.offset = 3 ∧ f3.type = 3 := ⟨_, _, _, _, Tryz.underlying77, rfl, rfl, rfl, rfl, rfl, rfl, rfl, rfl⟩
set_option maxRecDepth 100000 in
theorem open_jb64 {H : Type} {enc : TypeId × Value → H} {W : World} {base : Nat} {held : Bool} {fuel : Nat} {cs : List Value} {y : DataW H × List MemPlace} (h : DataW.trod enc Tryz.prog W base (fun _ => true) held fuel 77 cs = some y) :
    ∃ k : JbV, cs = [.int .i64 k.player, .int .i64 k.unit, .int .i64 k.kind, .int .i64 k.left] ∧ ∀ n ∈ Wd.jnums k, Wd.In64 n := by
  obtain ⟨f0, f1, f2, f3, he, o0, t0, o1, t1, o2, t2, o3, t3⟩ := jb_flds
  obtain ⟨xs, m, -, -, hlen, hxl, hf⟩ := DataW.trod_struct he h
  have csi : Tryz.prog.cellsOf 3 = 1 := by kernel_rfl
  have csk : Tryz.prog.cellsOf 77 = 4 := by kernel_rfl
  rw [csk] at hlen
  match cs, hlen with
  | [v0, v1, v2, v3], _ =>
    have hx : xs.length = 4 := hxl
    match xs, hx with
    | [x0, x1, x2, x3], _ =>
      have g0 := hf 0 f0 rfl
      rw [o0, t0, csi] at g0
      have g1 := hf 1 f1 rfl
      rw [o1, t1, csi] at g1
      have g2 := hf 2 f2 rfl
      rw [o2, t2, csi] at g2
      have g3 := hf 3 f3 rfl
      rw [o3, t3, csi] at g3
      obtain ⟨m0, e0, -, w0⟩ := DataW.trod_int Tryz.underlying3 g0
      obtain ⟨m1, e1, -, w1⟩ := DataW.trod_int Tryz.underlying3 g1
      obtain ⟨m2, e2, -, w2⟩ := DataW.trod_int Tryz.underlying3 g2
      obtain ⟨m3, e3, -, w3⟩ := DataW.trod_int Tryz.underlying3 g3
      simp at e0 e1 e2 e3
      subst e0 e1 e2 e3
      refine ⟨⟨m0, m1, m2, m3⟩, rfl, ?_⟩
      intro n hn
      simp only [Wd.jnums, List.mem_cons, List.not_mem_nil, or_false] at hn
      rcases hn with rfl | rfl | rfl | rfl
      · exact in64_of_wf w0
      · exact in64_of_wf w1
      · exact in64_of_wf w2
      · exact in64_of_wf w3
theorem open_jbs64 {H : Type} {enc : TypeId × Value → H} {W : World} {base : Nat} {held : Bool} {fuel : Nat} {v : Value} {y : DataW H × List MemPlace} (h : DataW.trod enc Tryz.prog W base (fun _ => true) held fuel 27 [v] = some y) :
    ∃ ks : List JbV, Jbl W v ks ∧ (∀ k ∈ ks, ∀ n ∈ Wd.jnums k, Wd.In64 n) ∧ ks.length ≤ Rows.uptoBulk y.1 := by
  have csk : Tryz.prog.cellsOf 77 = 4 := by kernel_rfl
  rcases Go.Deep.open_slice Tryz.underlying27 h with ⟨hcs, -⟩ | ⟨a, len, cap, m, q, D, Pl, hcs, hb, hl, hm, hmm, rfl, hx⟩
  · simp at hcs
    subst hcs
    exact ⟨[], ⟨none, 0, rfl, Nat.le_refl _, by omega, fun h => absurd rfl h⟩, by simp, by simp⟩
  · simp at hcs
    subst hcs
    have hlm : len ≤ m := by rw [hmm]; simp; exact hl
    have each : ∀ i, i < len → ∃ k : JbV, Jbc W (a.add (i * 4)) k ∧ (∀ n ∈ Wd.jnums k, Wd.In64 n) := by
      intro i hi
      obtain ⟨cs', h1, h2⟩ := hx i (by omega)
      obtain ⟨k, rfl, hk⟩ := open_jb64 h2
      rw [csk] at h1
      obtain ⟨-, -, hcell⟩ := World.cells?_some h1
      refine ⟨k, ?_, hk⟩
      generalize a.add (i * 4) = y at *
      exact ⟨hcell 0 (by decide), hcell 1 (by decide), hcell 2 (by decide), hcell 3 (by decide)⟩
    have inh : Inhabited JbV := ⟨⟨0, 0, 0, 0⟩⟩
    obtain ⟨q, hq⟩ := Go.Deep.choose_lt each
    refine ⟨(List.range len).map q, ⟨some a, cap, by simp, by simpa using hl, by unfold maxLen at hm; omega, fun hn => ⟨a, rfl, ?_, fun i k hk => ?_⟩⟩, ?_, ?_⟩
    · have h0 : 0 < len := by
        rcases Nat.eq_zero_or_pos len with h | h
        · subst h; simp at hn
        · exact h
      have := (hq 0 h0).1.lt
      rwa [add_block] at this
    · have hi : i < len := by
        have := (List.getElem?_eq_some_iff.1 hk).1
        simpa using this
      rw [List.getElem?_map, List.getElem?_range hi] at hk
      injection hk with hk
      subst hk
      exact (hq i hi).1
    · intro k hk
      obtain ⟨i, hi, rfl⟩ := List.mem_map.1 hk
      exact (hq i (List.mem_range.1 hi)).2
    · have := bulk_slice ((List.range len).map D) ((List.range (m - len)).map fun j => D (len + j))
      simpa using this
theorem world_flds : ∃ f0 f1 f2 f3 f4 f5 : Field, Tryz.prog.underlying 29 = some (.struct #[f0, f1, f2, f3, f4, f5]) ∧ f0.offset = 0 ∧ f0.type = 3 ∧ f1.offset = 1 ∧ f1.type = 3 ∧ f2.offset = 2 ∧ f2.type = 25 ∧ f3.offset = 6 ∧ f3.type = 23 ∧ f4.offset = 7 ∧ f4.type = 26 ∧ f5.offset = 8 ∧ f5.type = 27 := ⟨_, _, _, _, _, _, Tryz.underlying29, rfl, rfl, rfl, rfl, rfl, rfl, rfl, rfl, rfl, rfl, rfl, rfl⟩
theorem field_flds : ∃ f0 f1 f2 f3 : Field, Tryz.prog.underlying 25 = some (.struct #[f0, f1, f2, f3]) ∧ f0.offset = 0 ∧ f0.type = 3 ∧ f1.offset = 1 ∧ f1.type = 3 ∧ f2.offset = 2 ∧ f2.type = 23 ∧ f3.offset = 3 ∧ f3.type = 23 := ⟨_, _, _, _, Tryz.underlying25, rfl, rfl, rfl, rfl, rfl, rfl, rfl, rfl⟩
theorem ro_len {w : World} {v : Value} {xs : List Int} (h : Ro w v xs) : Wd.In64 (xs.length : Int) := by
  obtain ⟨a, c, -, h1, h2, -⟩ := h
  unfold Wd.In64; omega
set_option maxRecDepth 100000 in
theorem open_world64 {H : Type} {enc : TypeId × Value → H} {W : World} {base : Nat} {held : Bool} {fuel : Nat} {cs : List Value} {y : DataW H × List MemPlace} (h : DataW.trod enc Tryz.prog W base (fun _ => true) held fuel 29 cs = some y) :
    ∃ X : WV, Wl W (.agg cs.toArray) X ∧ (∀ n ∈ Wd.nums X, Wd.In64 n) ∧ (Rows.uptoBulk y.1 ≤ 1048576 → WSmall X) := by
  obtain ⟨f0, f1, f2, f3, f4, f5, he, o0, t0, o1, t1, o2, t2, o3, t3, o4, t4, o5, t5⟩ := world_flds
  obtain ⟨xs, m, -, rfl, hlen, hxl, hf⟩ := DataW.trod_struct he h
  have csi : Tryz.prog.cellsOf 3 = 1 := by kernel_rfl
  have csf : Tryz.prog.cellsOf 25 = 4 := by kernel_rfl
  have csl : Tryz.prog.cellsOf 23 = 1 := by kernel_rfl
  have csu : Tryz.prog.cellsOf 26 = 1 := by kernel_rfl
  have csj : Tryz.prog.cellsOf 27 = 1 := by kernel_rfl
  have csk : Tryz.prog.cellsOf 29 = 9 := by kernel_rfl
  rw [csk] at hlen
  match cs, hlen with
  | [v0, v1, v2, v3, v4, v5, v6, v7, v8], _ =>
    have hx : xs.length = 6 := hxl
    match xs, hx with
    | [x0, x1, x2, x3, x4, x5], _ =>
      have g0 := hf 0 f0 rfl
      rw [o0, t0, csi] at g0
      have g1 := hf 1 f1 rfl
      rw [o1, t1, csi] at g1
      have g2 := hf 2 f2 rfl
      rw [o2, t2, csf] at g2
      have g3 := hf 3 f3 rfl
      rw [o3, t3, csl] at g3
      have g4 := hf 4 f4 rfl
      rw [o4, t4, csu] at g4
      have g5 := hf 5 f5 rfl
      rw [o5, t5, csj] at g5
      obtain ⟨m0, e0, -, w0⟩ := DataW.trod_int Tryz.underlying3 g0
      obtain ⟨m1, e1, -, w1⟩ := DataW.trod_int Tryz.underlying3 g1
      obtain ⟨r0, r1, r2, r3, he', p0, s0, p1, s1, p2, s2, p3, s3⟩ := field_flds
      obtain ⟨ys, m', -, rfl, hlen', hyl, hg⟩ := DataW.trod_struct he' g2
      have hy : ys.length = 4 := hyl
      match ys, hy with
      | [y0, y1, y2, y3], _ =>
        have k0 := hg 0 r0 rfl
        rw [p0, s0, csi] at k0
        have k1 := hg 1 r1 rfl
        rw [p1, s1, csi] at k1
        have k2 := hg 2 r2 rfl
        rw [p2, s2, csl] at k2
        have k3 := hg 3 r3 rfl
        rw [p3, s3, csl] at k3
        obtain ⟨m2, e2, -, w2⟩ := DataW.trod_int Tryz.underlying3 k0
        obtain ⟨m3, e3, -, w3⟩ := DataW.trod_int Tryz.underlying3 k1
        simp at e0 e1 e2 e3
        subst e0 e1 e2 e3
        obtain ⟨gs, hgs, igs, bgs⟩ := open_row64 k2
        obtain ⟨os, hos, ios, bos⟩ := open_row64 k3
        obtain ⟨gold, hgold, igold, bgold⟩ := open_row64 g3
        obtain ⟨us, hus, ius, bus⟩ := open_uns64 g4
        obtain ⟨qs, hqs, iqs, bqs⟩ := open_jbs64 g5
        have lu : Wd.In64 (us.length : Int) := by
          obtain ⟨a, c, -, h1, h2, -⟩ := hus
          unfold Wd.In64; omega
        have lq : Wd.In64 (qs.length : Int) := by
          obtain ⟨a, c, -, h1, h2, -⟩ := hqs
          unfold Wd.In64; omega
        refine ⟨⟨m0, m1, m2, m3, gs, os, gold, us, qs⟩, ⟨_, _, _, _, _, rfl, hgs, hos, hgold, hus, hqs⟩, ?_, ?_⟩
        · intro n hn
          simp only [Wd.nums, List.mem_append, List.mem_cons, List.not_mem_nil, or_false, List.mem_flatMap] at hn
          rcases hn with (((((rfl | rfl | rfl | rfl) | (rfl | hn)) | (rfl | hn)) | (rfl | hn)) | (rfl | ⟨u, hu, hn⟩)) | (rfl | ⟨u, hu, hn⟩)
          · exact in64_of_wf w0
          · exact in64_of_wf w1
          · exact in64_of_wf w2
          · exact in64_of_wf w3
          · exact ro_len hgs
          · exact igs _ hn
          · exact ro_len hos
          · exact ios _ hn
          · exact ro_len hgold
          · exact igold _ hn
          · exact lu
          · exact ius u hu n hn
          · exact lq
          · exact iqs u hu n hn
        · intro hb
          simp only [Rows.uptoBulk, Rows.uptoBulkAll, List.map_cons, List.map_nil] at hb
          exact ⟨by simp only; omega, by simp only; omega, by simp only; omega, by simp only; omega, by simp only; omega⟩
set_option maxRecDepth 100000 in
theorem world_in {H : Type} {enc : TypeId × Value → H} {W : World} {base b0 : Nat} {held : Bool} {v : Value} {d : DataW H} {p : List MemPlace} (hv : Value.okWide Tryz.prog W .any b0 29 v) (h : DataW.Trod enc Tryz.prog W base (fun _ => true) held 29 v d p) :
    ∃ X : WV, Wl W v X ∧ (∀ n ∈ Wd.nums X, Wd.In64 n) ∧ (Rows.uptoBulk d ≤ 1048576 → WSmall X) := by
  obtain ⟨cs, rfl, hsz⟩ := okWide_struct Tryz.underlying29 hv
  obtain ⟨fuel, hf⟩ := h
  have := open_world64 hf
  simpa [Value.cells] using this
end Go.Proofs.YthcndngdngjalaaGreatDoor

namespace Go.Proofs.YthcndngdngjalaaGreatDoor
open Go.ChangeShapes Go.WideShapes Go.ChangeAt Go.RowKit
set_option linter.unusedVariables false

theorem kind_fields : ∃ f0 f1 f2 f3 f4 f5 f6 f7 f8 f9 f10 : Field, Tryz.prog.underlying 65 = some (.struct #[f0, f1, f2, f3, f4, f5, f6, f7, f8, f9, f10]) ∧
    f0.offset = 0 ∧ f0.type = 9 ∧ f1.offset = 1 ∧ f1.type = 3 ∧ f2.offset = 2 ∧ f2.type = 3 ∧ f3.offset = 3 ∧ f3.type = 3 ∧ f4.offset = 4 ∧ f4.type = 3 ∧ f5.offset = 5 ∧ f5.type = 3 ∧ f6.offset = 6 ∧ f6.type = 3 ∧ f7.offset = 7 ∧ f7.type = 3 ∧ f8.offset = 8 ∧ f8.type = 3 ∧ f9.offset = 9 ∧ f9.type = 4 ∧ f10.offset = 10 ∧ f10.type = 4 := ⟨_, _, _, _, _, _, _, _, _, _, _, Tryz.underlying65, rfl, rfl, rfl, rfl, rfl, rfl, rfl, rfl, rfl, rfl, rfl, rfl, rfl, rfl, rfl, rfl, rfl, rfl, rfl, rfl, rfl, rfl⟩


set_option maxRecDepth 100000 in
theorem open_kind {H : Type} {enc : TypeId × Value → H} {W : World} {base : Nat} {held : Bool} {fuel : Nat} {cs : List Value} {y : DataW H × List MemPlace} (h : DataW.trod enc Tryz.prog W base (fun _ => true) held fuel 65 cs = some y) :
    ∃ k : KV, cs = [.string k.b, .int .i64 k.n0, .int .i64 k.n1, .int .i64 k.n2, .int .i64 k.n3, .int .i64 k.n4, .int .i64 k.n5, .int .i64 k.n6, .int .i64 k.n7, .bool k.f, .bool k.t] ∧ k.b.size ≤ maxLen := by
  obtain ⟨f0, f1, f2, f3, f4, f5, f6, f7, f8, f9, f10, he, o0, t0, o1, t1, o2, t2, o3, t3, o4, t4, o5, t5, o6, t6, o7, t7, o8, t8, o9, t9, o10, t10⟩ := kind_fields
  obtain ⟨xs, n, -, -, hlen, hxl, hf⟩ := DataW.trod_struct he h
  have cs9 : Tryz.prog.cellsOf 9 = 1 := by kernel_rfl
  have cs3 : Tryz.prog.cellsOf 3 = 1 := by kernel_rfl
  have cs4 : Tryz.prog.cellsOf 4 = 1 := by kernel_rfl
  have csk : Tryz.prog.cellsOf 65 = 11 := by kernel_rfl
  rw [csk] at hlen
  match cs, hlen with
  | [v0, v1, v2, v3, v4, v5, v6, v7, v8, v9, v10], _ =>
    have hx11 : xs.length = 11 := hxl
    match xs, hx11 with
    | [x0, x1, x2, x3, x4, x5, x6, x7, x8, x9, x10], _ =>
      have g0 := hf 0 f0 rfl
      rw [o0, t0, cs9] at g0
      have g1 := hf 1 f1 rfl
      rw [o1, t1, cs3] at g1
      have g2 := hf 2 f2 rfl
      rw [o2, t2, cs3] at g2
      have g3 := hf 3 f3 rfl
      rw [o3, t3, cs3] at g3
      have g4 := hf 4 f4 rfl
      rw [o4, t4, cs3] at g4
      have g5 := hf 5 f5 rfl
      rw [o5, t5, cs3] at g5
      have g6 := hf 6 f6 rfl
      rw [o6, t6, cs3] at g6
      have g7 := hf 7 f7 rfl
      rw [o7, t7, cs3] at g7
      have g8 := hf 8 f8 rfl
      rw [o8, t8, cs3] at g8
      have g9 := hf 9 f9 rfl
      rw [o9, t9, cs4] at g9
      have g10 := hf 10 f10 rfl
      rw [o10, t10, cs4] at g10
      obtain ⟨b, e0, -, hb⟩ := DataW.trod_string Tryz.underlying9 g0
      obtain ⟨m1, e1, -, -⟩ := DataW.trod_int Tryz.underlying3 g1
      obtain ⟨m2, e2, -, -⟩ := DataW.trod_int Tryz.underlying3 g2
      obtain ⟨m3, e3, -, -⟩ := DataW.trod_int Tryz.underlying3 g3
      obtain ⟨m4, e4, -, -⟩ := DataW.trod_int Tryz.underlying3 g4
      obtain ⟨m5, e5, -, -⟩ := DataW.trod_int Tryz.underlying3 g5
      obtain ⟨m6, e6, -, -⟩ := DataW.trod_int Tryz.underlying3 g6
      obtain ⟨m7, e7, -, -⟩ := DataW.trod_int Tryz.underlying3 g7
      obtain ⟨m8, e8, -, -⟩ := DataW.trod_int Tryz.underlying3 g8
      obtain ⟨bf, e9, -⟩ := DataW.trod_bool Tryz.underlying4 g9
      obtain ⟨bt, e10, -⟩ := DataW.trod_bool Tryz.underlying4 g10
      simp at e0 e1 e2 e3 e4 e5 e6 e7 e8 e9 e10
      subst e0 e1 e2 e3 e4 e5 e6 e7 e8 e9 e10
      exact ⟨⟨b, m1, m2, m3, m4, m5, m6, m7, m8, bf, bt⟩, rfl, hb⟩

/-- kinds that came in. -/
theorem open_kinds {H : Type} {enc : TypeId × Value → H} {W : World} {base : Nat} {held : Bool} {fuel : Nat} {v : Value} {y : DataW H × List MemPlace} (h : DataW.trod enc Tryz.prog W base (fun _ => true) held fuel 22 [v] = some y) :
    ∃ ks : List KV, Kl W v ks ∧ ∀ k ∈ ks, k.b.size ≤ maxLen := by
  have csk : Tryz.prog.cellsOf 65 = 11 := by kernel_rfl
  rcases Go.Deep.open_slice Tryz.underlying22 h with ⟨hcs, -⟩ | ⟨a, len, cap, m, n, D, Pl, hcs, hb, hl, hm, hmm, -, hx⟩
  · simp at hcs
    subst hcs
    exact ⟨[], ⟨none, 0, rfl, Nat.le_refl _, by omega, fun h => absurd rfl h⟩, by simp⟩
  · simp at hcs
    subst hcs
    have hlm : len ≤ m := by rw [hmm]; simp; exact hl
    have each : ∀ i, i < len → ∃ k : KV, Kc W (a.add (i * 11)) k ∧ k.b.size ≤ maxLen := by
      intro i hi
      obtain ⟨cs', h1, h2⟩ := hx i (by omega)
      obtain ⟨k, rfl, hk⟩ := open_kind h2
      rw [csk] at h1
      obtain ⟨-, -, hcell⟩ := World.cells?_some h1
      refine ⟨k, ?_, hk⟩
      generalize a.add (i * 11) = y at *
      exact ⟨hcell 0 (by decide), hcell 1 (by decide), hcell 2 (by decide), hcell 3 (by decide), hcell 4 (by decide), hcell 5 (by decide), hcell 6 (by decide), hcell 7 (by decide), hcell 8 (by decide), hcell 9 (by decide), hcell 10 (by decide)⟩
    have inh : Inhabited KV := ⟨⟨ByteArray.empty, 0, 0, 0, 0, 0, 0, 0, 0, false, false⟩⟩
    obtain ⟨q, hq⟩ := Go.Deep.choose_lt each
    refine ⟨(List.range len).map q, ⟨some a, cap, by simp, by simpa using hl, by unfold maxLen at hm; omega, fun hn => ⟨a, rfl, ?_, fun i k hk => ?_⟩⟩, ?_⟩
    · have h0 : 0 < len := by
        rcases Nat.eq_zero_or_pos len with h | h
        · subst h; simp at hn
        · exact h
      have := (hq 0 h0).1.lt
      rwa [add_block] at this
    · have hi : i < len := by
        have := (List.getElem?_eq_some_iff.1 hk).1
        simpa using this
      rw [List.getElem?_map, List.getElem?_range hi] at hk
      injection hk with hk
      subst hk
      exact (hq i hi).1
    · intro k hk
      obtain ⟨i, hi, rfl⟩ := List.mem_map.1 hk
      exact (hq i (List.mem_range.1 hi)).2
set_option maxRecDepth 100000 in
theorem kinds_in {H : Type} {enc : TypeId × Value → H} {W : World} {base b0 : Nat} {held : Bool} {v : Value} {d : DataW H} {p : List MemPlace} (hv : Value.okWide Tryz.prog W .any b0 22 v) (h : DataW.Trod enc Tryz.prog W base (fun _ => true) held 22 v d p) :
    ∃ ks : List KV, Kl W v ks ∧ ∀ k ∈ ks, k.b.size ≤ maxLen := by
  obtain ⟨a, len, cap, rfl⟩ := okWide_slice Tryz.underlying22 hv
  obtain ⟨fuel, hf⟩ := h
  exact open_kinds hf
end Go.Proofs.YthcndngdngjalaaGreatDoor

