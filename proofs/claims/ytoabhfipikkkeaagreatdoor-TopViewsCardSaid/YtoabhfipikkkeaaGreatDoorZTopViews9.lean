/- The program's orders: which of two stands ahead. · A stable order: elements with the place that they had. Plain mathematics. · orders.unit as a map's key; a map of such keys that a call makes. · orders.Last as mathematics: each unit's last order, and those to train. · turn.Step as mathematics: phase by phase. · What stays while jobs are looked at. · What stays from phase to phase of a turn. · turn.give: what stays between two orders. · turn: the unit that is asked; isOne; send. · turn.mayBe. · One more unit, one more job: the run itself. · turn.hire. · The program's orders: what is wrong with one. · Slices of api.Order that the call itself makes, by append. · orders.Check, unitOf, lastOnes. · Orders in a block that may be sorted in place. · The program's orders: compare. · slices.insertionSortCmpFunc of orders by compare. -/
import Derived.Test.YtoabhfipikkkeaaGreatDoorZTopViews3
import Derived.Test.YtoabhfipikkkeaaGreatDoorZTopViews1
import Derived.Laws.Closers25
import Derived.IntWalk
import Derived.LoopN
import Derived.Maps.Own
import Derived.Maps.OwnOps
import Derived.Maps.Views
import Derived.Carry
import Derived.DeepKeys4
import Derived.Test.YtoabhfipikkkeaaGreatDoorZTopViews5
import Derived.Test.YtoabhfipikkkeaaGreatDoorZTopViews6
import Derived.Test.YtoabhfipikkkeaaGreatDoorZTopViews7
import Derived.Test.YtoabhfipikkkeaaGreatDoorZTopViews8
import Derived.Deep.DeepCutAuto
import Derived.Test.YtoabhfipikkkeaaGreatDoorZTopViews4
import Derived.BigRegion
import Derived.Laws.MakeOwn
import Derived.Test.YtoabhfipikkkeaaGreatDoorZTopViews2
import Derived.OwnWalk
import Derived.Deep.AppendLies
import Derived.Shelf.Abstract
namespace Go.Proofs.YtoabhfipikkkeaaGreatDoor
open Go.RowKit
set_option linter.unusedVariables false

def sgn (x y : Int) : Int := if x < y then -1 else if y < x then 1 else 0
def or3 (x y z : Int) : Int := if x ≠ 0 then x else if y ≠ 0 then y else z
def rnk (o : OrV) : Int := if o.what = 3 then 0 else 1
/-- how two orders compare. -/
def cmpo (a b : OrV) : Int := or3 (sgn a.player b.player) (sgn a.unit b.unit) (sgn (rnk a) (rnk b))

theorem isnan_any (x : Int) (w : World) : Calls Tryz.prog 208 #[.int .i64 x] w fun e w' => e = .returned (.bool false) ∧ w' = w := by
  go_enter Tryz.func208, Tryz.ntmps208
  go_wp2
  go_ret
  exact ⟨by simp, rfl⟩
theorem cmpint_any (x y : Int) (w : World) : Calls Tryz.prog 172 #[.int .i64 x, .int .i64 y] w fun e w' => e = .returned (.int .i64 (sgn x y)) ∧ w' = w := by
  have NA : Hid (∀ x w, Calls Tryz.prog 208 #[.int .i64 x] w fun e w' => e = .returned (.bool false) ∧ w' = w) := isnan_any
  by_cases h1 : x < y
  · go_enter Tryz.func172, Tryz.ntmps172
    go_wp2_with fail
    refine (NA.out _ _).mono ?_
    rintro e w' ⟨rfl, rfl⟩
    go_wp2_with fail
    refine (NA.out _ _).mono ?_
    rintro e w' ⟨rfl, rfl⟩
    go_wp2
    go_ret
    exact ⟨by simp [sgn, h1], rfl⟩
  · by_cases h2 : y < x
    · go_enter Tryz.func172, Tryz.ntmps172
      go_wp2_with fail
      refine (NA.out _ _).mono ?_
      rintro e w' ⟨rfl, rfl⟩
      go_wp2_with fail
      refine (NA.out _ _).mono ?_
      rintro e w' ⟨rfl, rfl⟩
      go_wp2
      go_ret
      exact ⟨by simp [sgn, h1, h2], rfl⟩
    · go_enter Tryz.func172, Tryz.ntmps172
      go_wp2_with fail
      refine (NA.out _ _).mono ?_
      rintro e w' ⟨rfl, rfl⟩
      go_wp2_with fail
      refine (NA.out _ _).mono ?_
      rintro e w' ⟨rfl, rfl⟩
      go_wp2
      go_ret
      exact ⟨by unfold sgn; rw [if_neg (by omega), if_neg (by omega)]; rfl, rfl⟩
theorem rank_any (o : OrV) (w : World) : Calls Tryz.prog 173 #[o.val] w fun e w' => e = .returned (.int .i64 (rnk o)) ∧ Below w.heap.size w w' := by
  obtain ⟨p, u, n, a⟩ := o
  have BB : Hid (Below w.heap.size w (w.alloc (Obj.cells #[.int .i64 p, .int .i64 u, .int .i64 n, .int .i64 a] 86))) := (Below.refl _ _).alloc (Nat.le_refl _) _
  unfold OrV.val rnk
  simp only
  by_cases h : n = 3
  · subst h
    go_enter Tryz.func173, Tryz.ntmps173
    go_wp2
    go_ret
    exact ⟨rfl, BB⟩
  · have hb : (n == 3) = false := beq_eq_false_iff_ne.2 h
    rw [if_neg h]
    go_enter Tryz.func173, Tryz.ntmps173
    go_wp2
    go_ret
    exact ⟨rfl, BB⟩
theorem or_any (x y z : Int) (b : Nat) (w : World) (h0 : w.cell? ⟨b, 0, none⟩ = some (.int .i64 x)) (h1 : w.cell? ⟨b, 1, none⟩ = some (.int .i64 y)) (h2 : w.cell? ⟨b, 2, none⟩ = some (.int .i64 z)) :
    Calls Tryz.prog 171 #[.slice (some ⟨b, 0, none⟩) 3 3] w fun e w' => e = .returned (.int .i64 (or3 x y z)) ∧ w' = w := by
  by_cases hx : x = 0
  · subst hx
    by_cases hy : y = 0
    · subst hy
      by_cases hz : z = 0
      · subst hz
        go_enter Tryz.func171, Tryz.ntmps171
        go_wp2
        refine wp_loop_rounds 4 ?_
        rw [rounds_succ]
        go_wp2
        rw [rounds_succ]
        go_wp2
        rw [rounds_succ]
        go_wp2
        rw [rounds_succ]
        go_wp2
        go_ret
        exact ⟨rfl, rfl⟩
      · have hzb : (z == 0) = false := beq_eq_false_iff_ne.2 hz
        go_enter Tryz.func171, Tryz.ntmps171
        go_wp2
        refine wp_loop_rounds 3 ?_
        rw [rounds_succ]
        go_wp2
        rw [rounds_succ]
        go_wp2
        rw [rounds_succ]
        go_wp2
        go_ret
        exact ⟨by simp [or3], rfl⟩
    · have hyb : (y == 0) = false := beq_eq_false_iff_ne.2 hy
      go_enter Tryz.func171, Tryz.ntmps171
      go_wp2
      refine wp_loop_rounds 2 ?_
      rw [rounds_succ]
      go_wp2
      rw [rounds_succ]
      go_wp2
      go_ret
      exact ⟨by simp [or3, hy], rfl⟩
  · have hxb : (x == 0) = false := beq_eq_false_iff_ne.2 hx
    go_enter Tryz.func171, Tryz.ntmps171
    go_wp2
    refine wp_loop_rounds 1 ?_
    rw [rounds_succ]
    go_wp2
    go_ret
    exact ⟨by simp [or3, hx], rfl⟩
end Go.Proofs.YtoabhfipikkkeaaGreatDoor

namespace Go.Proofs.YtoabhfipikkkeaaGreatDoor.So
set_option linter.unusedVariables false

abbrev T := OrV × Nat
/-- the key of an order stands ahead of another one's. -/
def klt (a b : OrV) : Prop := a.player < b.player ∨ (a.player = b.player ∧ (a.unit < b.unit ∨ (a.unit = b.unit ∧ rnk a < rnk b)))
theorem sgn_neg {x y : Int} : sgn x y < 0 ↔ x < y := by
  unfold sgn
  split
  · omega
  · split <;> omega
theorem sgn_zero {x y : Int} : sgn x y = 0 ↔ x = y := by
  unfold sgn
  split
  · omega
  · split <;> omega
theorem klt_iff (a b : OrV) : cmpo a b < 0 ↔ klt a b := by
  unfold cmpo or3 klt
  by_cases h1 : sgn a.player b.player = 0
  · rw [if_neg (fun h => h h1)]
    have e1 := sgn_zero.1 h1
    by_cases h2 : sgn a.unit b.unit = 0
    · rw [if_neg (fun h => h h2), sgn_neg]
      have e2 := sgn_zero.1 h2
      omega
    · rw [if_pos h2, sgn_neg]
      have e2 : ¬ a.unit = b.unit := fun e => h2 (sgn_zero.2 e)
      omega
  · rw [if_pos h1, sgn_neg]
    have e2 : ¬ a.player = b.player := fun e => h1 (sgn_zero.2 e)
    omega
instance (a b : OrV) : Decidable (klt a b) := by unfold klt; infer_instance
theorem klt_irr (a : OrV) : ¬ klt a a := by unfold klt; omega
theorem klt_trans {a b c : OrV} (h : klt a b) (k : klt b c) : klt a c := by unfold klt at *; omega
theorem klt_asym {a b : OrV} (h : klt a b) : ¬ klt b a := by unfold klt at *; omega
theorem klt_neg {a b c : OrV} (h : ¬ klt b a) (k : ¬ klt c b) : ¬ klt c a := by unfold klt at *; omega
/-- x stands ahead of y: by the key, then by the place that it had. -/
def lt (x y : T) : Prop := klt x.1 y.1 ∨ (¬ klt y.1 x.1 ∧ x.2 < y.2)
theorem lt_trans {x y z : T} (h : lt x y) (k : lt y z) : lt x z := by
  unfold lt klt at *
  omega
theorem lt_irr (x : T) : ¬ lt x x := by
  unfold lt klt
  omega
/-- where x had its place ahead of y: what the program asks tells which stands ahead. -/
theorem ask_lt {x y : T} (h : x.2 < y.2) : klt y.1 x.1 ↔ lt y x := by
  unfold lt klt
  omega
theorem ask_ge {x y : T} (h : x.2 < y.2) : ¬ klt y.1 x.1 ↔ lt x y := by
  unfold lt klt
  omega
/-- a list that rises has one order alone. -/
theorem rise_unique : ∀ {l l' : List T}, l.Perm l' → l.Pairwise lt → l'.Pairwise lt → l = l'
  | [], l', p, _, _ => by
    have := p.length_eq
    cases l' with
    | nil => rfl
    | cons x l' => simp at this
  | x :: l, [], p, _, _ => by
    have := p.length_eq
    simp at this
  | x :: l, y :: l', p, h, h' => by
    rw [List.pairwise_cons] at h h'
    have exy : x = y := by
      have hx : x ∈ y :: l' := p.mem_iff.1 (List.mem_cons_self ..)
      have hy : y ∈ x :: l := p.mem_iff.2 (List.mem_cons_self ..)
      rcases List.mem_cons.1 hx with e | hx
      · exact e
      · rcases List.mem_cons.1 hy with e | hy
        · exact e.symm
        · exact absurd (lt_trans (h.1 y hy) (h'.1 x hx)) (lt_irr x)
    subst exy
    rw [rise_unique (List.Perm.cons_inv p) h.2 h'.2]
/-- x is put among those that rise. -/
theorem put_rise {S1 S2 : List T} {x : T} (h : (S1 ++ S2).Pairwise lt) (h1 : ∀ y ∈ S1, lt y x) (h2 : ∀ y ∈ S2, lt x y) : (S1 ++ x :: S2).Pairwise lt := by
  rw [List.pairwise_append] at h ⊢
  refine ⟨h.1, List.pairwise_cons.2 ⟨h2, h.2.1⟩, fun a ha b hb => ?_⟩
  rcases List.mem_cons.1 hb with rfl | hb
  · exact h1 a ha
  · exact h.2.2 a ha b hb
/-- two that rise, one behind the other. -/
theorem cat_rise {S1 S2 : List T} (h1 : S1.Pairwise lt) (h2 : S2.Pairwise lt) (h : ∀ x ∈ S1, ∀ y ∈ S2, lt x y) : (S1 ++ S2).Pairwise lt := List.pairwise_append.2 ⟨h1, h2, h⟩
end Go.Proofs.YtoabhfipikkkeaaGreatDoor.So

namespace Go.Proofs.YtoabhfipikkkeaaGreatDoor
open Go.RowKit
set_option linter.unusedVariables false
set_option maxRecDepth 100000

theorem um_laid : laidOutB Tryz.prog = true := by kernel_rfl
theorem um_row : (189 : TypeId) < Tryz.prog.types.size := of_decide_eq_true (by kernel_rfl)
theorem um_wide : (match Tryz.prog.underlying 189 with | some (.array _ _) | some (.struct _) => true | _ => false) = true := by kernel_rfl
theorem um_deep : Tryz.prog.keyTypeAt 3 189 = true := by kernel_rfl
theorem um_law : Maps.Keyed Tryz.prog 189 := Maps.Keyed.of_law (deep_law_laid um_laid (m := 3) (by omega) um_row um_deep um_wide)
theorem um_cells : Tryz.prog.cellsOf 189 = 2 := by kernel_rfl
theorem um_int : Tryz.prog.cellsOf 3 = 1 := by kernel_rfl
theorem um_type : Tryz.prog.keyType 189 = true := by kernel_rfl
theorem um_size : ∃ m, Tryz.prog.types.size = m + 1 := ⟨Tryz.prog.types.size - 1, by have h : 0 < Tryz.prog.types.size := Nat.lt_of_le_of_lt (Nat.zero_le _) um_row; omega⟩
theorem um_key {p u : Int} (hp : (Lit.int .i64 p).wf = true) (hu : (Lit.int .i64 u).wf = true) : ∃ kl, keyOf Tryz.prog 189 (.agg #[.int .i64 p, .int .i64 u]) = some kl := by
  obtain ⟨m, hm⟩ := um_size
  have ht := um_type
  have hc := um_cells
  have hi := um_int
  unfold keyOf
  simp only [Tryz.underlying189]
  rw [if_pos (by simp [ht, Value.formed, Tryz.underlying189, hc]), hm]
  unfold Program.keyLits
  simp only [Tryz.underlying189, Value.cells]
  rw [if_pos ⟨by rw [hc]; rfl, by kernel_rfl⟩]
  simp [Program.keyLits, Tryz.underlying3, hp, hu, hi]
theorem um_zero (w : World) : (zeroValue 3).run Tryz.prog w = .ok (.int .i64 0) w := by kernel_rfl
theorem wf64 {n : Int} (h0 : -9223372036854775808 ≤ n) (h1 : n ≤ 9223372036854775807) : (Lit.int .i64 n).wf = true := WalkArith.wf_i64 (by omega)
/-- block b is a map: f tells what stands at each player and unit. -/
def Um (w : World) (b n : Nat) (f : Int → Int → Int) : Prop := ∃ D : DataW Unit, w.ownsMap Tryz.prog 189 (plainElem Tryz.prog 3) b n D ∧ Maps.IsMap D ∧ ∀ p u kl, keyOf Tryz.prog 189 (.agg #[.int .i64 p, .int .i64 u]) = some kl → D.atKey kl (.lit (.int .i64 0)) = .lit (.int .i64 (f p u))
def updAt (f : Int → Int → Int) (p u v : Int) : Int → Int → Int := fun p' u' => if p' = p ∧ u' = u then v else f p' u'
theorem um_made (w : World) : Um (w.alloc (.map #[] 0)) w.heap.size 0 (fun _ _ => 0) :=
  ⟨.map [], World.ownsMap_made _ _ _ _, Maps.isMap_empty, fun p u kl _ => Maps.atKey_of_not_has rfl _⟩
theorem Um.lt {w : World} {b n : Nat} {f : Int → Int → Int} (h : Um w b n f) : b < w.heap.size := by
  obtain ⟨D, h1, -⟩ := h
  exact h1.lt
theorem Um.gb {w w' : World} {b n : Nat} {f : Int → Int → Int} {r : Option Nat} (h : Um w b n f) (g : w.grownBy w' r) (hr : some b ≠ r) : Um w' b n f := by
  obtain ⟨D, h1, h2⟩ := h
  exact ⟨D, h1.kept g hr, h2⟩
theorem Um.below {w w' : World} {b n : Nat} {f : Int → Int → Int} (h : Um w b n f) (g : Below w.heap.size w w') : Um w' b n f :=
  h.gb (r := none) ⟨g.os, g.tape, g.output, g.size, fun k hk _ => g.block k hk⟩ (by simp)
theorem Um.put {w : World} {b n : Nat} {f : Int → Int → Int} (h : Um w b n f) (hn : n < maxLen) {p u v : Int} (hp : (Lit.int .i64 p).wf = true) (hu : (Lit.int .i64 u).wf = true) (hv : (Lit.int .i64 v).wf = true) :
    ∃ w', (Instr.mapUpdate 186 (.map (some b)) (.agg #[.int .i64 p, .int .i64 u]) (.int .i64 v)).run Tryz.prog w = .ok () w' ∧ Um w' b (n + 1) (updAt f p u v) ∧ w.grownBy w' (some b) := by
  obtain ⟨D, h1, hD, h2⟩ := h
  obtain ⟨kl, hk⟩ := um_key hp hu
  obtain ⟨w', r, o, g⟩ := World.ownsMap.update h1 um_law Tryz.underlying186 hn hk (plainElem_int Tryz.underlying3 hv)
  refine ⟨w', r, ⟨_, o, hD.put _ _, fun p' u' kl' hk' => ?_⟩, g⟩
  unfold updAt
  by_cases e : kl' = kl
  · subst e
    have ei := um_law.inj hk hk'
    simp only [Value.agg.injEq, Array.mk.injEq, List.cons.injEq, Value.int.injEq, true_and, and_true] at ei
    rw [if_pos ⟨ei.1.symm, ei.2.symm⟩]
    exact Maps.atKey_put_same hD (um_law.key hk) _ _
  · rw [Maps.atKey_put_other e, if_neg, h2 p' u' kl' hk']
    rintro ⟨rfl, rfl⟩
    exact e (Option.some.inj (hk'.symm.trans hk))
theorem Um.look {w : World} {b n : Nat} {f : Int → Int → Int} (h : Um w b n f) {p u : Int} (hp : (Lit.int .i64 p).wf = true) (hu : (Lit.int .i64 u).wf = true) :
    (Instr.lookup 186 (.map (some b)) (.agg #[.int .i64 p, .int .i64 u]) false).run Tryz.prog w = .ok (.int .i64 (f p u)) w := by
  obtain ⟨D, h1, hD, h2⟩ := h
  obtain ⟨kl, hk⟩ := um_key hp hu
  obtain ⟨c, hr, hat, -⟩ := h1.lookup_int um_law Tryz.underlying186 Tryz.underlying3 (um_zero w) hk
  rw [h2 p u kl hk] at hat
  injection hat with e
  injection e with _ e
  rw [e]
  exact hr
end Go.Proofs.YtoabhfipikkkeaaGreatDoor

namespace Go.Proofs.YtoabhfipikkkeaaGreatDoor
namespace So
set_option linter.unusedVariables false
/-- where each unit's last order stands, among the first q. -/
def lf (l : List OrV) : Nat → Int → Int → Int
  | 0 => fun _ _ => 0
  | q + 1 => match l[q]? with
    | some o => if o.what = 3 then lf l q else updAt (lf l q) o.player o.unit (q : Nat)
    | none => lf l q
/-- those that count, of the first q, with their places. -/
def kp (l : List OrV) : Nat → List T
  | 0 => []
  | q + 1 => match l[q]? with
    | some o => if o.what = 3 ∨ lf l l.length o.player o.unit = (q : Nat) then kp l q ++ [(o, q)] else kp l q
    | none => kp l q
theorem lf_train {l : List OrV} {q : Nat} {o : OrV} (h : l[q]? = some o) (h3 : o.what = 3) : lf l (q + 1) = lf l q := by rw [lf]; simp only [h]; rw [if_pos h3]
theorem lf_other {l : List OrV} {q : Nat} {o : OrV} (h : l[q]? = some o) (h3 : ¬ o.what = 3) : lf l (q + 1) = updAt (lf l q) o.player o.unit (q : Nat) := by rw [lf]; simp only [h]; rw [if_neg h3]
theorem kp_yes {l : List OrV} {q : Nat} {o : OrV} (h : l[q]? = some o) (h3 : o.what = 3 ∨ lf l l.length o.player o.unit = (q : Nat)) : kp l (q + 1) = kp l q ++ [(o, q)] := by rw [kp]; simp only [h]; rw [if_pos h3]
theorem kp_no {l : List OrV} {q : Nat} {o : OrV} (h : l[q]? = some o) (h3 : ¬ (o.what = 3 ∨ lf l l.length o.player o.unit = (q : Nat))) : kp l (q + 1) = kp l q := by rw [kp]; simp only [h]; rw [if_neg h3]
theorem kp_mem {l : List OrV} : ∀ {q : Nat} {x : T}, x ∈ kp l q → x.2 < q ∧ l[x.2]? = some x.1 ∧ (x.1.what = 3 ∨ lf l l.length x.1.player x.1.unit = (x.2 : Nat))
  | 0, x, h => by simp [kp] at h
  | q + 1, x, h => by
    rw [kp] at h
    cases ho : l[q]? with
    | none =>
      simp only [ho] at h
      obtain ⟨h1, h2⟩ := kp_mem h
      exact ⟨by omega, h2⟩
    | some o =>
      simp only [ho] at h
      split at h
      · rename_i hc
        rcases List.mem_append.1 h with h | h
        · obtain ⟨h1, h2⟩ := kp_mem h
          exact ⟨by omega, h2⟩
        · simp at h
          subst h
          exact ⟨by simp, ho, hc⟩
      · obtain ⟨h1, h2⟩ := kp_mem h
        exact ⟨by omega, h2⟩
theorem kp_in {l : List OrV} {i : Nat} {o : OrV} (ho : l[i]? = some o) (hc : o.what = 3 ∨ lf l l.length o.player o.unit = (i : Nat)) : ∀ {q : Nat}, i < q → (o, i) ∈ kp l q
  | 0, h => by omega
  | q + 1, h => by
    by_cases e : i = q
    · subst e
      rw [kp_yes ho hc]
      simp
    · have ih := kp_in ho hc (q := q) (by omega)
      rw [kp]
      cases hq : l[q]? with
      | none => exact ih
      | some o' =>
        simp only
        split
        · exact List.mem_append_left _ ih
        · exact ih
theorem kp_tags {l : List OrV} : ∀ (q : Nat), (kp l q).Pairwise (fun x y => x.2 < y.2)
  | 0 => List.Pairwise.nil
  | q + 1 => by
    rw [kp]
    cases hq : l[q]? with
    | none => exact kp_tags q
    | some o =>
      simp only
      split
      · refine List.pairwise_append.2 ⟨kp_tags q, by simp, fun x hx y hy => ?_⟩
        simp at hy
        subst hy
        exact (kp_mem hx).1
      · exact kp_tags q
theorem kp_len {l : List OrV} : ∀ (q : Nat), (kp l q).length ≤ q
  | 0 => Nat.le_refl _
  | q + 1 => by
    rw [kp]
    have := kp_len (l := l) q
    cases hq : l[q]? with
    | none => simp only; omega
    | some o =>
      simp only
      split
      · simp; omega
      · omega
/-- the last order of a unit is told. -/
theorem lf_last {l : List OrV} {i : Nat} {o : OrV} (ho : l[i]? = some o) (h3 : ¬ o.what = 3) : ∀ {q : Nat}, i < q → (∀ k x, i < k → k < q → l[k]? = some x → x.what = 3 ∨ x.player ≠ o.player ∨ x.unit ≠ o.unit) → lf l q o.player o.unit = (i : Nat)
  | 0, h, _ => by omega
  | q + 1, h, hn => by
    by_cases e : i = q
    · subst e
      rw [lf_other ho h3]
      unfold updAt
      rw [if_pos ⟨rfl, rfl⟩]
    · have ih := lf_last ho h3 (q := q) (by omega) (fun k x h1 h2 hx => hn k x h1 (by omega) hx)
      rw [lf]
      cases hq : l[q]? with
      | none => exact ih
      | some x =>
        simp only
        split
        · exact ih
        · rename_i hx3
          unfold updAt
          rw [if_neg]
          · exact ih
          · rintro ⟨h1, h2⟩
            rcases hn q x (by omega) (by omega) hq with h | h | h
            · exact hx3 h
            · exact h h1.symm
            · exact h h2.symm
/-- of orders l, those that count. -/
def LastSays (l out : List OrV) : Prop := ∃ S : List T, S.Perm (kp l l.length) ∧ S.Pairwise lt ∧ out = S.map Prod.fst
theorem LastSays.one {l out out' : List OrV} (h : LastSays l out) (h' : LastSays l out') : out = out' := by
  obtain ⟨S, p, r, rfl⟩ := h
  obtain ⟨S', p', r', rfl⟩ := h'
  rw [rise_unique (p.trans p'.symm) r r']
theorem LastSays.len {l out : List OrV} (h : LastSays l out) : out.length ≤ l.length := by
  obtain ⟨S, p, r, rfl⟩ := h
  have := kp_len (l := l) l.length
  rw [List.length_map, p.length_eq]
  exact this
theorem LastSays.mem {l out : List OrV} (h : LastSays l out) {o : OrV} (ho : o ∈ out) : o ∈ l := by
  obtain ⟨S, p, r, rfl⟩ := h
  obtain ⟨x, hx, rfl⟩ := List.mem_map.1 ho
  exact List.mem_of_getElem? (kp_mem (p.mem_iff.1 hx)).2.1
end So
end Go.Proofs.YtoabhfipikkkeaaGreatDoor

namespace Go.Proofs.YtoabhfipikkkeaaGreatDoor
open Go.RowKit Go.Proofs.YtoabhfipikkkeaaGreatDoor.So
set_option linter.unusedVariables false

theorem goes_count {ks : List KV} {X : WV} {Wn Hn : Nat} {k : KV} {i : Nat} {us us' : List UnV} {left : Int} {cells : List Int} (h : Goes ks X Wn Hn k i us left cells us') : us'.length = us.length ∧ cells.length ≤ left.toNat := by
  induction h with
  | stop => exact ⟨rfl, by simp⟩
  | @step us us' left u c gg cells hu hw hg h1 h2 h3 ih =>
    have hp : 0 < Fd.onto gg k.f := by
      refine wish_pos hw hg (fun e => ?_)
      rw [List.any_eq_false] at h2
      exact h2 u (List.mem_of_getElem? hu) (by rw [e]; simp)
    obtain ⟨i1, i2⟩ := ih
    refine ⟨by rw [i1]; simp, ?_⟩
    simp only [List.length_cons]
    omega
theorem moves_count {ks : List KV} {X : WV} {Wn Hn n : Nat} {us us' : List UnV} {evs : List EvV} (hk : ∀ k ∈ ks, k.n4 ≤ 1000) (h : Moves ks X Wn Hn n us evs us') : evs.length ≤ 1000 * (us.length - n) := by
  induction h with
  | done => simp
  | @unit n us us1 us' u u1 k cells evs hu hkk hg h1 hm ih =>
    obtain ⟨g1, g2⟩ := goes_count hg
    have hn : n < us.length := (List.getElem?_eq_some_iff.1 hu).1
    have hs := hk k (List.mem_of_getElem? hkk)
    rw [List.length_set, g1] at ih
    rw [List.length_append, List.length_map]
    have : us.length - n = (us.length - (n + 1)) + 1 := by omega
    rw [this]
    omega
theorem kinds_speed {ks : List KV} (h : Kd.kindsFault (ks.map KV.k) = 0) : ∀ k ∈ ks, k.n4 ≤ 1000 := by
  intro k hk
  unfold Kd.kindsFault at h
  split at h
  · omega
  · have h2 := kgo_nums h k.k (List.mem_map.2 ⟨k, hk, rfl⟩)
    unfold Kd.numsFault at h2
    split at h2
    · omega
    · rename_i h3
      rw [Bool.not_eq_true, List.any_eq_false] at h3
      have := h3 k.n4 (by simp [KV.k])
      simp only [decide_eq_true_eq] at this
      omega
/-- the first n of the four phases have happened to A. -/
inductive Ph (ks : List KV) (Wn Hn : Nat) (A : WV) : Nat → WV → List EvV → Prop
  | zero : Ph ks Wn Hn A 0 A []
  | one {T : WV} {es : List EvV} {qs : List JbV} : Tr ks A A.qs.length T es qs → Ph ks Wn Hn A 1 { T with qs := qs } es
  | two {B : WV} {es evs : List EvV} {us : List UnV} : Ph ks Wn Hn A 1 B es → Moves ks B Wn Hn 0 B.us evs us → Ph ks Wn Hn A 2 { B with us := us } (es ++ evs)
  | three {C : WV} {es : List EvV} : Ph ks Wn Hn A 2 C es → Ph ks Wn Hn A 3 (dug ks Wn Hn C) (es ++ dugEv ks Wn Hn C)
  | four {D : WV} {es : List EvV} : Ph ks Wn Hn A 3 D es → Ph ks Wn Hn A 4 (fought ks Wn D) (es ++ fevents ks Wn D)
/-- through each phase a world is right, and as great. -/
theorem Ph.keep {ks : List KV} {Wn Hn : Nat} {A : WV} (h : WRight ks A) (e1 : A.wide = (Wn : Nat)) (e2 : A.high = (Hn : Nat)) {n : Nat} {Y : WV} {es : List EvV} (p : Ph ks Wn Hn A n Y es) : WRight ks Y ∧ Y.wide = (Wn : Nat) ∧ Y.high = (Hn : Nat) ∧ Y.turn = A.turn ∧ es.length ≤ 50000 * n := by
  induction p with
  | zero => exact ⟨h, e1, e2, rfl, by simp⟩
  | @one T es qs t =>
    obtain ⟨-, -, k3, -, k5, k6, k7, -⟩ := t.keep h
    refine ⟨wright_of (tr_right h t), by show T.wide = _; rw [k6, e1], by show T.high = _; rw [k7, e2], k5, ?_⟩
    have := h.ql
    omega
  | @two B es evs us p0 m ih =>
    obtain ⟨r, w1, w2, w3, w4⟩ := ih
    obtain ⟨Wm, Hm, f1, f2, G⟩ := r.good
    obtain rfl : Wm = Wn := by omega
    obtain rfl : Hm = Hn := by omega
    refine ⟨wright_of (minv_right r G w1 w2 (minv_moves G m (minv_start r G))), w1, w2, w3, ?_⟩
    have hm := moves_count (kinds_speed r.kinds) m
    have hu := r.ul
    rw [List.length_append]
    omega
  | @three C es p0 ih =>
    obtain ⟨r, w1, w2, w3, w4⟩ := ih
    obtain ⟨k0, k1, -, k3, k4, -⟩ := dug_keep (ks := ks) (Wn := Wn) (Hn := Hn) r
    refine ⟨wright_of k0, by rw [← w1]; exact k3, by rw [← w2]; exact k4, by rw [← w3]; exact k1, ?_⟩
    have a1 := tk_evs (ks := ks) (Y := C) C.us.length
    have a2 := br_evs (ks := ks) (Wn := Wn) (Hn := Hn) (Y := (tk ks C C.us.length).1) (tk ks C C.us.length).1.us.length
    have a3 : (tk ks C C.us.length).1.us.length = C.us.length := (tk_keep C.us.length).2.2.2.2.2.2.2.1
    have hu := r.ul
    rw [List.length_append]
    unfold dugEv
    rw [List.length_append]
    omega
  | @four D es p0 ih =>
    obtain ⟨r, w1, w2, w3, w4⟩ := ih
    refine ⟨wright_of (fought_right r), w1, w2, w3, ?_⟩
    have a1 := strikes_evlen (ks := ks) (W := Wn) (us := D.us) D.us (List.replicate D.us.length 0, [])
    have a2 : ((struck ks Wn D).filter fallenU).length ≤ D.us.length := by
      have h1 : (struck ks Wn D).length = D.us.length := by unfold struck; exact hurt_len strikes_len'
      have h2 := List.length_filter_le fallenU (struck ks Wn D)
      omega
    have hu := r.ul
    rw [List.length_append]
    unfold fevents strikes
    rw [List.length_append, List.length_map]
    simp at a1
    unfold strikes at *
    omega
theorem given_same {ks : List KV} {Y Z : WV} {o : OrV} (hg : given1 ks Y o = some Z) : Z.turn = Y.turn ∧ Z.wide = Y.wide ∧ Z.high = Y.high := by
  unfold given1 at hg
  split at hg
  · cases hg
  · split at hg
    · cases hg
    · split at hg
      · cases hg
      · split at hg
        · injection hg with hg
          subst hg
          split <;> exact ⟨rfl, rfl, rfl⟩
        · cases hg
theorem gv_same {ks : List KV} {Y : WV} {out : List OrV} : ∀ q, (gv ks Y out q).1.turn = Y.turn ∧ (gv ks Y out q).1.wide = Y.wide ∧ (gv ks Y out q).1.high = Y.high
  | 0 => ⟨rfl, rfl, rfl⟩
  | q + 1 => by
    have ih := gv_same (ks := ks) (Y := Y) (out := out) q
    cases hq : out[q]? with
    | none => rw [gv]; simp only [hq]; exact ih
    | some o =>
      cases hg : given1 ks (gv ks Y out q).1 o with
      | some Z =>
        rw [gv_yes hq hg]
        obtain ⟨a, b, c⟩ := given_same hg
        exact ⟨a.trans ih.1, b.trans ih.2.1, c.trans ih.2.2⟩
      | none => rw [gv_no hq hg]; exact ih
def stepFault (ks : List KV) (X : WV) (l : List OrV) : Int := if Wd.wfault ks X ≠ 0 then Wd.wfault ks X else if 1000000 ≤ X.turn then 4 else Od.faults l
/-- what comes of a turn. -/
def StepR (ks : List KV) (X : WV) (l : List OrV) (Y : WV) (es : List EvV) : Prop := ∃ (out : List OrV) (Wn Hn : Nat) (Z : WV), LastSays l out ∧ X.wide = (Wn : Nat) ∧ X.high = (Hn : Nat) ∧ Ph ks Wn Hn (gv ks X out out.length).1 4 Z es ∧ Y = { Z with turn := Z.turn + 1 }
end Go.Proofs.YtoabhfipikkkeaaGreatDoor

namespace Go.Proofs.YtoabhfipikkkeaaGreatDoor
open Go.RowKit
set_option linter.unusedVariables false

/-- the world in its box, its lists, the list of jobs that are left. -/
structure TrS (Y : WV) (es : List EvV) (qs : List JbV) (z b1 bm be : Nat) (w5 : World) (u1 u2 u3 u4 u5 ev qv : Value) (V : World) : Prop where
  x : Wx V z (.int .i64 Y.turn) (.int .i64 Y.next) (.int .i64 Y.wide) (.int .i64 Y.high) u1 u2 u3 u4 u5
  o1 : Ow V b1 u1 Y.gs
  o2 : Ow V b1 u2 Y.os
  o3 : Ow V b1 u3 Y.gold
  o4 : Uno V b1 u4 Y.us
  o5 : Jbo V b1 u5 Y.qs
  d : Dif u5 qv
  l : ∀ x ∈ [u1, u2, u3, u4, u5], ∀ k, x.ownBlock = some k → k < bm ∨ be ≤ k
  e : Evo V be ev es
  o : Jbo V be qv qs
  f : Fr (fun k => k = z ∨ k = bm) w5 V
  n : z < b1 ∧ b1 ≤ bm ∧ bm < be ∧ w5.heap.size = be
section
variable {Y : WV} {es : List EvV} {qs : List JbV} {z b1 bm be : Nat} {w5 : World} {u1 u2 u3 u4 u5 ev qv : Value} {V V' : World}
theorem TrS.below (h : TrS Y es qs z b1 bm be w5 u1 u2 u3 u4 u5 ev qv V) (hb : Below V.heap.size V V') : TrS Y es qs z b1 bm be w5 u1 u2 u3 u4 u5 ev qv V' :=
  ⟨h.x.below hb h.x.lt, h.o1.below hb, h.o2.below hb, h.o3.below hb, h.o4.below hb, h.o5.below hb, h.d, h.l, h.e.below hb, h.o.below hb, h.f.trans (Fr.below hb), h.n⟩
theorem TrS.wl (h : TrS Y es qs z b1 bm be w5 u1 u2 u3 u4 u5 ev qv V) : Wl V (.agg #[.int .i64 Y.turn, .int .i64 Y.next, .int .i64 Y.wide, .int .i64 Y.high, u1, u2, u3, u4, u5]) Y :=
  ⟨u1, u2, u3, u4, u5, rfl, h.o1.ro, h.o2.ro, h.o3.ro, h.o4.l, h.o5.l⟩
/-- the map has turned. -/
theorem TrS.map (h : TrS Y es qs z b1 bm be w5 u1 u2 u3 u4 u5 ev qv V) (hf : Fr (fun q => q = bm) V V') : TrS Y es qs z b1 bm be w5 u1 u2 u3 u4 u5 ev qv V' := by
  have hn := h.n
  have no : ∀ x ∈ [u1, u2, u3, u4, u5], ∀ k, x.ownBlock = some k → ¬ k = bm := fun x hx k hk => by have := h.l x hx k hk; omega
  exact ⟨hf.wx h.x (by omega), hf.own h.o1 (no u1 (by simp)), hf.own h.o2 (no u2 (by simp)), hf.own h.o3 (no u3 (by simp)), hf.own h.o4 (no u4 (by simp)), hf.own h.o5 (no u5 (by simp)), h.d, h.l,
    hf.own h.e (fun k hk => by have := (h.e.block k hk).1; omega), hf.own h.o (fun k hk => by have := (h.o.block k hk).1; omega), h.f.trans (hf.mono (fun k hk => .inr hk)), h.n⟩
/-- one more event. -/
theorem TrS.told (h : TrS Y es qs z b1 bm be w5 u1 u2 u3 u4 u5 ev qv V) {e : EvV} {ev' : Value} (g : V.grownBy V' ev.ownBlock) (he : Evo V' be ev' (es ++ [e])) : TrS Y (es ++ [e]) qs z b1 bm be w5 u1 u2 u3 u4 u5 ev' qv V' := by
  have hn := h.n
  have hf : Fr (fun q => ev.ownBlock = some q) V V' := Fr.gb g (fun k hk => hk)
  have ne : ∀ k, ev.ownBlock = some k → be ≤ k := fun k hk => (h.e.block k hk).1
  refine ⟨hf.wx h.x (fun e => by have := ne z e; omega), hf.own h.o1 (own_two h.o1 h.e (by decide)), hf.own h.o2 (own_two h.o2 h.e (by decide)), hf.own h.o3 (own_two h.o3 h.e (by decide)), hf.own h.o4 (own_two h.o4 h.e (by decide)), hf.own h.o5 (own_two h.o5 h.e (by decide)), h.d, h.l, he, hf.own h.o (own_two h.o h.e (by decide)), ?_, h.n⟩
  refine ⟨hf.os.trans h.f.os, hf.tape.trans h.f.tape, hf.output.trans h.f.output, Nat.le_trans h.f.size hf.size, fun q hq hm => (hf.block q (Nat.lt_of_lt_of_le hq h.f.size) (fun e => ?_)).trans (h.f.block q hq hm)⟩
  have := ne q e
  omega
/-- one more job that is left. -/
theorem TrS.left (h : TrS Y es qs z b1 bm be w5 u1 u2 u3 u4 u5 ev qv V) {j : JbV} {qv' : Value} {gq : Nat} (g : V.grownBy V' qv.ownBlock) (ho : Jbo V' be qv' (qs ++ [j])) (hq : qv'.ownBlock = some gq) (hg : qv.ownBlock = some gq ∨ gq = V.heap.size) : TrS Y es (qs ++ [j]) z b1 bm be w5 u1 u2 u3 u4 u5 ev qv' V' := by
  have hn := h.n
  have hf : Fr (fun q => qv.ownBlock = some q) V V' := Fr.gb g (fun k hk => hk)
  have ne : ∀ k, qv.ownBlock = some k → be ≤ k := fun k hk => (h.o.block k hk).1
  refine ⟨hf.wx h.x (fun e => by have := ne z e; omega), hf.own h.o1 (own_two h.o1 h.o (by decide)), hf.own h.o2 (own_two h.o2 h.o (by decide)), hf.own h.o3 (own_two h.o3 h.o (by decide)), hf.own h.o4 (own_two h.o4 h.o (by decide)), hf.own h.o5 h.d, ?_, h.l, hf.own h.e (own_two h.e h.o (by decide)), ho, ?_, h.n⟩
  · intro k hk e
    rw [hq] at e
    injection e with e
    subst e
    rcases hg with hg | hg
    · exact h.d _ hk hg
    · have := (h.o5.block _ hk).2; omega
  · refine ⟨hf.os.trans h.f.os, hf.tape.trans h.f.tape, hf.output.trans h.f.output, Nat.le_trans h.f.size hf.size, fun q hq hm => (hf.block q (Nat.lt_of_lt_of_le hq h.f.size) (fun e => ?_)).trans (h.f.block q hq hm)⟩
    have := ne q e
    omega
/-- a block that none of the lists lies in has turned. -/
theorem TrS.box (h : TrS Y es qs z b1 bm be w5 u1 u2 u3 u4 u5 ev qv V) {b : Nat} (hk : Kp b V V') (hb : be ≤ b) (hl : ∀ x ∈ [u1, u2, u3, u4, u5, ev, qv], ∀ k, x.ownBlock = some k → k < b) : TrS Y es qs z b1 bm be w5 u1 u2 u3 u4 u5 ev qv V' := by
  have hn := h.n
  have hf : Fr (fun q => q = b) V V' := Fr.kp hk rfl
  have no : ∀ x ∈ [u1, u2, u3, u4, u5, ev, qv], ∀ k, x.ownBlock = some k → ¬ k = b := fun x hx k hk => by have := hl x hx k hk; omega
  refine ⟨hf.wx h.x (by omega), hf.own h.o1 (no u1 (by simp)), hf.own h.o2 (no u2 (by simp)), hf.own h.o3 (no u3 (by simp)), hf.own h.o4 (no u4 (by simp)), hf.own h.o5 (no u5 (by simp)), h.d, h.l, hf.own h.e (no ev (by simp)), hf.own h.o (no qv (by simp)), ?_, h.n⟩
  exact ⟨hf.os.trans h.f.os, hf.tape.trans h.f.tape, hf.output.trans h.f.output, Nat.le_trans h.f.size hf.size, fun q hq hm => (hf.block q (Nat.lt_of_lt_of_le hq h.f.size) (fun e => by omega)).trans (h.f.block q hq hm)⟩
theorem TrS.under (h : TrS Y es qs z b1 bm be w5 u1 u2 u3 u4 u5 ev qv V) : ∀ x ∈ [u1, u2, u3, u4, u5, ev, qv], ∀ k, x.ownBlock = some k → k < V.heap.size := by
  intro x hx k hk
  simp only [List.mem_cons, List.not_mem_nil, or_false] at hx
  rcases hx with rfl | rfl | rfl | rfl | rfl | rfl | rfl
  · exact (h.o1.block k hk).2
  · exact (h.o2.block k hk).2
  · exact (h.o3.block k hk).2
  · exact (h.o4.block k hk).2
  · exact (h.o5.block k hk).2
  · exact (h.e.block k hk).2
  · exact (h.o.block k hk).2
/-- another world in the box: one whose lists lie behind all that was when it was made. -/
theorem TrS.puts (h : TrS Y es qs z b1 bm be w5 u1 u2 u3 u4 u5 ev qv V) {Z : WV} {k1 k2 k3 k4 k5 : Value} {B : Nat} (hB : be ≤ B) (hq : ∀ k, qv.ownBlock = some k → k < B) (hk : Kp z V V') (hx : Wx V' z (.int .i64 Z.turn) (.int .i64 Z.next) (.int .i64 Z.wide) (.int .i64 Z.high) k1 k2 k3 k4 k5)
    (p1 : Ow V B k1 Z.gs) (p2 : Ow V B k2 Z.os) (p3 : Ow V B k3 Z.gold) (p4 : Uno V B k4 Z.us) (p5 : Jbo V B k5 Z.qs) : TrS Z es qs z b1 bm be w5 k1 k2 k3 k4 k5 ev qv V' := by
  have hn := h.n
  have hf : Fr (fun q => q = z) V V' := Fr.kp hk rfl
  refine ⟨hx, Ow.mono (hf.own p1 (fun k hk => by have := (p1.block k hk).1; omega)) (by omega), Ow.mono (hf.own p2 (fun k hk => by have := (p2.block k hk).1; omega)) (by omega), Ow.mono (hf.own p3 (fun k hk => by have := (p3.block k hk).1; omega)) (by omega), Uno.mono (hf.own p4 (fun k hk => by have := (p4.block k hk).1; omega)) (by omega), Jbo.mono (hf.own p5 (fun k hk => by have := (p5.block k hk).1; omega)) (by omega), ?_, ?_, hf.own h.e (fun k hk => by have := (h.e.block k hk).1; omega), hf.own h.o (fun k hk => by have := (h.o.block k hk).1; omega), h.f.trans (hf.mono (fun k hk => .inl hk)), h.n⟩
  · intro k hk e
    have := (p5.block k hk).1
    have := hq k e
    omega
  · intro x hx k hk
    simp only [List.mem_cons, List.not_mem_nil, or_false] at hx
    rcases hx with rfl | rfl | rfl | rfl | rfl
    · have := (p1.block k hk).1; omega
    · have := (p2.block k hk).1; omega
    · have := (p3.block k hk).1; omega
    · have := (p4.block k hk).1; omega
    · have := (p5.block k hk).1; omega
end
end Go.Proofs.YtoabhfipikkkeaaGreatDoor

namespace Go.Proofs.YtoabhfipikkkeaaGreatDoor
open Go.RowKit
set_option linter.unusedVariables false

/-- the world in its box, its lists, what was told. -/
structure StS (Y : WV) (es : List EvV) (z b1 be : Nat) (w5 : World) (u1 u2 u3 u4 u5 ev : Value) (V : World) : Prop where
  x : Wx V z (.int .i64 Y.turn) (.int .i64 Y.next) (.int .i64 Y.wide) (.int .i64 Y.high) u1 u2 u3 u4 u5
  o1 : Ow V b1 u1 Y.gs
  o2 : Ow V b1 u2 Y.os
  o3 : Ow V b1 u3 Y.gold
  o4 : Uno V b1 u4 Y.us
  o5 : Jbo V b1 u5 Y.qs
  e : Evo V be ev es
  f : Fr (fun k => k = z) w5 V
  n : z < b1 ∧ b1 ≤ be ∧ w5.heap.size = be
section
variable {Y : WV} {es : List EvV} {z b1 be : Nat} {w5 : World} {u1 u2 u3 u4 u5 ev : Value} {V V' : World}
theorem StS.below (h : StS Y es z b1 be w5 u1 u2 u3 u4 u5 ev V) (hb : Below V.heap.size V V') : StS Y es z b1 be w5 u1 u2 u3 u4 u5 ev V' :=
  ⟨h.x.below hb h.x.lt, h.o1.below hb, h.o2.below hb, h.o3.below hb, h.o4.below hb, h.o5.below hb, h.e.below hb, h.f.trans (Fr.below hb), h.n⟩
theorem StS.wl (h : StS Y es z b1 be w5 u1 u2 u3 u4 u5 ev V) : Wl V (.agg #[.int .i64 Y.turn, .int .i64 Y.next, .int .i64 Y.wide, .int .i64 Y.high, u1, u2, u3, u4, u5]) Y :=
  ⟨u1, u2, u3, u4, u5, rfl, h.o1.ro, h.o2.ro, h.o3.ro, h.o4.l, h.o5.l⟩
/-- more that was told. -/
theorem StS.told (h : StS Y es z b1 be w5 u1 u2 u3 u4 u5 ev V) {fs : List EvV} {ev' : Value} (g : V.grownBy V' ev.ownBlock) (he : Evo V' be ev' (es ++ fs)) : StS Y (es ++ fs) z b1 be w5 u1 u2 u3 u4 u5 ev' V' := by
  have hn := h.n
  have hf : Fr (fun q => ev.ownBlock = some q) V V' := Fr.gb g (fun k hk => hk)
  have ne : ∀ k, ev.ownBlock = some k → be ≤ k := fun k hk => (h.e.block k hk).1
  refine ⟨hf.wx h.x (fun e => by have := ne z e; omega), hf.own h.o1 (own_two h.o1 h.e (by decide)), hf.own h.o2 (own_two h.o2 h.e (by decide)), hf.own h.o3 (own_two h.o3 h.e (by decide)), hf.own h.o4 (own_two h.o4 h.e (by decide)), hf.own h.o5 (own_two h.o5 h.e (by decide)), he, ?_, h.n⟩
  refine ⟨hf.os.trans h.f.os, hf.tape.trans h.f.tape, hf.output.trans h.f.output, Nat.le_trans h.f.size hf.size, fun q hq hm => (hf.block q (Nat.lt_of_lt_of_le hq h.f.size) (fun e => ?_)).trans (h.f.block q hq hm)⟩
  have := ne q e
  omega
/-- another world in the box. -/
theorem StS.puts (h : StS Y es z b1 be w5 u1 u2 u3 u4 u5 ev V) {Z : WV} {k1 k2 k3 k4 k5 : Value} (hk : Kp z V V') (hx : Wx V' z (.int .i64 Z.turn) (.int .i64 Z.next) (.int .i64 Z.wide) (.int .i64 Z.high) k1 k2 k3 k4 k5)
    (p1 : Ow V b1 k1 Z.gs) (p2 : Ow V b1 k2 Z.os) (p3 : Ow V b1 k3 Z.gold) (p4 : Uno V b1 k4 Z.us) (p5 : Jbo V b1 k5 Z.qs) : StS Z es z b1 be w5 k1 k2 k3 k4 k5 ev V' := by
  have hn := h.n
  have hf : Fr (fun q => q = z) V V' := Fr.kp hk rfl
  exact ⟨hx, hf.own p1 (fun k hk => by have := (p1.block k hk).1; omega), hf.own p2 (fun k hk => by have := (p2.block k hk).1; omega), hf.own p3 (fun k hk => by have := (p3.block k hk).1; omega), hf.own p4 (fun k hk => by have := (p4.block k hk).1; omega), hf.own p5 (fun k hk => by have := (p5.block k hk).1; omega), hf.own h.e (fun k hk => by have := (h.e.block k hk).1; omega), h.f.trans hf, h.n⟩
end
end Go.Proofs.YtoabhfipikkkeaaGreatDoor

namespace Go.Proofs.YtoabhfipikkkeaaGreatDoor
open Go.RowKit
set_option linter.unusedVariables false

structure GvS (ks : List KV) (Y : WV) (ref : List Int) (b1 z : Nat) (w1 : World) (u1 u2 u3 u4 u5 ur : Value) (V : World) : Prop where
  x : Wx V z (.int .i64 Y.turn) (.int .i64 Y.next) (.int .i64 Y.wide) (.int .i64 Y.high) u1 u2 u3 u4 u5
  o1 : Ow V b1 u1 Y.gs
  o2 : Ow V b1 u2 Y.os
  o3 : Ow V b1 u3 Y.gold
  o4 : Uno V b1 u4 Y.us
  o5 : Jbo V b1 u5 Y.qs
  r : Ow V b1 ur ref
  d : [u1, u2, u3, u4, u5, ur].Pairwise Dif
  k : Kp z w1 V
  f : GFit ks Y
section
variable {ks : List KV} {Y : WV} {ref : List Int} {b1 z : Nat} {w1 : World} {u1 u2 u3 u4 u5 ur : Value} {V V' : World}
theorem GvS.below (h : GvS ks Y ref b1 z w1 u1 u2 u3 u4 u5 ur V) (hb : Below V.heap.size V V') : GvS ks Y ref b1 z w1 u1 u2 u3 u4 u5 ur V' :=
  ⟨h.x.below hb h.x.lt, h.o1.below hb, h.o2.below hb, h.o3.below hb, h.o4.below hb, h.o5.below hb, h.r.below hb, h.d, h.k.trans (Kp.of hb), h.f⟩
theorem GvS.wo (h : GvS ks Y ref b1 z w1 u1 u2 u3 u4 u5 ur V) : Wo V b1 (.agg #[.int .i64 Y.turn, .int .i64 Y.next, .int .i64 Y.wide, .int .i64 Y.high, u1, u2, u3, u4, u5]) Y := ⟨u1, u2, u3, u4, u5, rfl, h.o1, h.o2, h.o3, h.o4, h.o5⟩
theorem GvS.difs (h : GvS ks Y ref b1 z w1 u1 u2 u3 u4 u5 ur V) : (Dif u1 u2 ∧ Dif u1 u3 ∧ Dif u1 u4 ∧ Dif u1 u5 ∧ Dif u1 ur) ∧ (Dif u2 u3 ∧ Dif u2 u4 ∧ Dif u2 u5 ∧ Dif u2 ur) ∧ (Dif u3 u4 ∧ Dif u3 u5 ∧ Dif u3 ur) ∧ (Dif u4 u5 ∧ Dif u4 ur) ∧ Dif u5 ur := by
  have := h.d
  simp only [List.pairwise_cons, List.mem_cons, List.not_mem_nil, or_false, forall_eq_or_imp, forall_eq] at this
  obtain ⟨⟨a1, a2, a3, a4, a5⟩, ⟨b1, b2, b3, b4⟩, ⟨c1, c2, c3⟩, ⟨d1, d2⟩, e, -⟩ := this
  exact ⟨⟨a1, a2, a3, a4, a5⟩, ⟨b1, b2, b3, b4⟩, ⟨c1, c2, c3⟩, ⟨d1, d2⟩, e⟩
theorem dif_to {u v v' : Value} {n : Nat} (h : Dif u v) (hu : ∀ k, u.ownBlock = some k → k < n) (hv : v'.ownBlock = v.ownBlock ∨ ∃ q, v'.ownBlock = some q ∧ n ≤ q) : Dif u v' := fun k h1 h2 => by
  rcases hv with e | ⟨q, e, hq⟩
  · exact h k h1 (by rw [← e]; exact h2)
  · rw [e] at h2
    injection h2 with h2
    have := hu k h1
    omega
theorem GvS.refuse {ref' : List Int} {ur' : Value} (h : GvS ks Y ref b1 z w1 u1 u2 u3 u4 u5 ur V) (hz : z < b1) (hw : w1.heap.size = b1) (g : V.grownBy V' ur.ownBlock) (ho : Ow V' b1 ur' ref') (hn : ur'.ownBlock = ur.ownBlock ∨ ∃ q, ur'.ownBlock = some q ∧ V.heap.size ≤ q) : GvS ks Y ref' b1 z w1 u1 u2 u3 u4 u5 ur' V' := by
  obtain ⟨⟨d12, d13, d14, d15, d1r⟩, ⟨d23, d24, d25, d2r⟩, ⟨d34, d35, d3r⟩, ⟨d45, d4r⟩, d5r⟩ := h.difs
  have F : Fr (fun q => ur.ownBlock = some q) V V' := Fr.gb g (fun k hk => hk)
  refine ⟨F.wx h.x (fun e => by have := (h.r.block z e).1; omega), F.own h.o1 (fun b hb e => d1r b hb e), F.own h.o2 (fun b hb e => d2r b hb e), F.own h.o3 (fun b hb e => d3r b hb e), F.own h.o4 (fun b hb e => d4r b hb e), F.own h.o5 (fun b hb e => d5r b hb e), ho, ?_, kp_gb h.k g (fun k hk => by rw [hw]; exact (h.r.block k hk).1), h.f⟩
  simp only [List.pairwise_cons, List.mem_cons, List.not_mem_nil, or_false, forall_eq_or_imp, forall_eq]
  exact ⟨⟨d12, d13, d14, d15, dif_to d1r (fun k hk => (h.o1.block k hk).2) hn⟩, ⟨d23, d24, d25, dif_to d2r (fun k hk => (h.o2.block k hk).2) hn⟩, ⟨d34, d35, dif_to d3r (fun k hk => (h.o3.block k hk).2) hn⟩, ⟨d45, dif_to d4r (fun k hk => (h.o4.block k hk).2) hn⟩, dif_to d5r (fun k hk => (h.o5.block k hk).2) hn, by simp, by simp⟩
theorem GvS.send {gu cap i : Nat} {rest : List Value} {u : UnV} {o : OrV} (h : GvS ks Y ref b1 z w1 u1 u2 u3 (.slice (some ⟨gu, 0, none⟩) Y.us.length cap) u5 ur V) (hz : z < b1) (hw : w1.heap.size = b1) (hu : Y.us[i]? = some u) (hg : b1 ≤ gu) (h1 : Y.us.length ≤ cap) (h2 : cap ≤ maxLen) (h3 : Y.us.length * 8 + rest.length = cap * 8) (hb : Ub V' gu (Y.us.set i (sentU o u)) rest) (hk : Kp gu V V') :
    GvS ks (sentW Y i u o) ref b1 z w1 u1 u2 u3 (.slice (some ⟨gu, 0, none⟩) Y.us.length cap) u5 ur V' := by
  obtain ⟨⟨d12, d13, d14, d15, d1r⟩, ⟨d23, d24, d25, d2r⟩, ⟨d34, d35, d3r⟩, ⟨d45, d4r⟩, d5r⟩ := h.difs
  have F : Fr (fun q => q = gu) V V' := Fr.kp hk rfl
  have own : (Value.slice (some ⟨gu, 0, none⟩) Y.us.length cap).ownBlock = some gu := rfl
  refine ⟨F.wx h.x (by omega), F.own h.o1 (fun b hb e => d14 b hb (by rw [own, e])), F.own h.o2 (fun b hb e => d24 b hb (by rw [own, e])), F.own h.o3 (fun b hb e => d34 b hb (by rw [own, e])), ?_, F.own h.o5 (fun b hb e => d45 gu own (by rw [hb, e])), F.own h.r (fun b hb e => d4r gu own (by rw [hb, e])), h.d, ?_, h.f.sent hu o⟩
  · have := hb.uno (base := b1) (cap := cap) hg (by simpa using h1) h2 (by simpa using h3)
    simpa [sentW] using this
  · exact ⟨hk.os.trans h.k.os, hk.tape.trans h.k.tape, hk.output.trans h.k.output, Nat.le_trans h.k.size hk.size, fun q hq hn => (hk.block q (Nat.lt_of_lt_of_le hq h.k.size) (by omega)).trans (h.k.block q hq hn)⟩
theorem GvS.hire {gg cg pn : Nat} {rest : Array Value} {g : Int} {o : OrV} {u5' : Value} (h : GvS ks Y ref b1 z w1 u1 u2 (.slice (some ⟨gg, 0, none⟩) Y.gold.length cg) u4 u5 ur V) (hz : z < b1) (hw : w1.heap.size = b1) (hg : b1 ≤ gg) (h1 : Y.gold.length ≤ cg) (h2 : cg ≤ maxLen) (h3 : Y.gold.length + rest.size = cg)
    (hx : Wx V' z (.int .i64 Y.turn) (.int .i64 Y.next) (.int .i64 Y.wide) (.int .i64 Y.high) u1 u2 (.slice (some ⟨gg, 0, none⟩) Y.gold.length cg) u4 u5') (hb : Bk V' gg (hired ks Y o).gold rest) (hj : Jbo V' b1 u5' (hired ks Y o).qs) (hf : Fr (fun q => q = z ∨ q = gg ∨ u5.ownBlock = some q) V V') (hn : u5'.ownBlock = u5.ownBlock ∨ ∃ q, u5'.ownBlock = some q ∧ V.heap.size ≤ q) (hfit : GFit ks (hired ks Y o)) :
    GvS ks (hired ks Y o) ref b1 z w1 u1 u2 (.slice (some ⟨gg, 0, none⟩) Y.gold.length cg) u4 u5' ur V' := by
  obtain ⟨⟨d12, d13, d14, d15, d1r⟩, ⟨d23, d24, d25, d2r⟩, ⟨d34, d35, d3r⟩, ⟨d45, d4r⟩, d5r⟩ := h.difs
  have own : (Value.slice (some ⟨gg, 0, none⟩) Y.gold.length cg).ownBlock = some gg := rfl
  have no : ∀ {u : Value}, (∀ k, u.ownBlock = some k → b1 ≤ k ∧ k < V.heap.size) → Dif u (.slice (some ⟨gg, 0, none⟩) Y.gold.length cg) → Dif u u5 → ∀ b, u.ownBlock = some b → ¬ (b = z ∨ b = gg ∨ u5.ownBlock = some b) := fun hu e3 e5 b hb hs => by
    rcases hs with e | e | e
    · have := (hu b hb).1; omega
    · exact e3 b hb (by rw [own, e])
    · exact e5 b hb e
  have el : (hired ks Y o).gold.length = Y.gold.length := by simp [hired]
  refine ⟨hx, hf.own h.o1 (no h.o1.block d13 d15), hf.own h.o2 (no h.o2.block d23 d25), ?_, hf.own h.o4 (no h.o4.block d34.symm d45), hj, hf.own h.r (no h.r.block d3r.symm d5r.symm), ?_, ?_, hfit⟩
  · have := hb.ow (base := b1) (cap := cg) hg (by omega) h2 (by omega)
    rw [el] at this
    exact this
  · simp only [List.pairwise_cons, List.mem_cons, List.not_mem_nil, or_false, forall_eq_or_imp, forall_eq]
    exact ⟨⟨d12, d13, d14, dif_to d15 (fun k hk => (h.o1.block k hk).2) hn, d1r⟩, ⟨d23, d24, dif_to d25 (fun k hk => (h.o2.block k hk).2) hn, d2r⟩, ⟨d34, dif_to d35 (fun k hk => (h.o3.block k hk).2) hn, d3r⟩, ⟨dif_to d45 (fun k hk => (h.o4.block k hk).2) hn, d4r⟩, (dif_to d5r.symm (fun k hk => (h.r.block k hk).2) hn).symm, by simp, by simp⟩
  · exact ⟨hf.os.trans h.k.os, hf.tape.trans h.k.tape, hf.output.trans h.k.output, Nat.le_trans h.k.size hf.size, fun q hq hn => (hf.block q (Nat.lt_of_lt_of_le hq h.k.size) (fun e => by
      rcases e with e | e | e
      · exact hn e
      · omega
      · have := (h.o5.block q e).1; omega)).trans (h.k.block q hq hn)⟩
end
end Go.Proofs.YtoabhfipikkkeaaGreatDoor

namespace Go.Proofs.YtoabhfipikkkeaaGreatDoor
open Go.RowKit
set_option linter.unusedVariables false

set_option maxHeartbeats 2000000 in
theorem ask_fn (o : OrV) (u : UnV) (b : Nat) (w : World) (x0 : w.cell? ⟨b, 0, none⟩ = some (.int .i64 o.player)) (x1 : w.cell? ⟨b, 1, none⟩ = some (.int .i64 o.unit)) :
    Calls Tryz.prog 101 #[u.val, .pointer (some ⟨b, 0, none⟩)] w fun e w' => e = .returned (.bool (askU o u)) ∧ Below w.heap.size w w' := by
  have BB : Hid (∀ ob, Below w.heap.size w (w.alloc ob)) := fun ob => (Below.refl _ _).alloc (Nat.le_refl _) _
  have hb : b < w.heap.size := cell_lt x0
  have hne : b ≠ w.heap.size := by omega
  have y0 : ∀ ob, (w.alloc ob).cell? ⟨b, 0, none⟩ = some (.int .i64 o.player) := fun ob => by rw [(BB.out ob).cell (p := ⟨b, 0, none⟩) hb]; exact x0
  have y1 : ∀ ob, (w.alloc ob).cell? ⟨b, 1, none⟩ = some (.int .i64 o.unit) := fun ob => by rw [(BB.out ob).cell (p := ⟨b, 1, none⟩) hb]; exact x1
  unfold UnV.val
  by_cases h1 : u.id = o.unit
  · by_cases h2 : u.player = o.player
    · have E : Hid (askU o u = true) := decide_eq_true ⟨h1, h2⟩
      clear hne hb x0 x1
      go_enter Tryz.func101, Tryz.ntmps101
      go_wp2
      go_ret
      exact ⟨by rw [E.out]; rfl, BB.out _⟩
    · have E : Hid (askU o u = false) := decide_eq_false (fun h => h2 h.2)
      have h2b : (u.player == o.player) = false := beq_eq_false_iff_ne.2 h2
      clear hne hb x0 x1
      go_enter Tryz.func101, Tryz.ntmps101
      go_wp2
      go_ret
      exact ⟨by rw [E.out]; rfl, BB.out _⟩
  · have E : Hid (askU o u = false) := decide_eq_false (fun h => h1 h.1)
    have h1b : (u.id == o.unit) = false := beq_eq_false_iff_ne.2 h1
    clear hne hb x0 x1
    go_enter Tryz.func101, Tryz.ntmps101
    go_wp2
    go_ret
    exact ⟨by rw [E.out]; rfl, BB.out _⟩
set_option maxHeartbeats 2000000 in
theorem one_ints (a : Option Addr) (n c : Nat) (i : Nat) (w : World) (hn : n ≤ 9223372036854775807) : Calls Tryz.prog 143 #[.slice a n c, .int .i64 (i : Nat)] w fun e w' => e = .returned (.bool (decide (i < n))) ∧ w' = w := by
  by_cases h : i < n
  · have hi : ((i : Nat) : Int) < (n : Nat) := by omega
    have E : Hid (decide (i < n) = true) := decide_eq_true h
    have h0 : (0 : Int) ≤ ((i : Nat) : Int) := by omega
    go_enter Tryz.func143, Tryz.ntmps143
    go_wp2
    go_ret
    exact ⟨by first | (rw [E.out]; rfl) | rfl, rfl⟩
  · have hi : ¬ ((i : Nat) : Int) < (n : Nat) := by omega
    have E : Hid (decide (i < n) = false) := decide_eq_false h
    have h0 : (0 : Int) ≤ ((i : Nat) : Int) := by omega
    go_enter Tryz.func143, Tryz.ntmps143
    go_wp2
    go_ret
    exact ⟨by first | (rw [E.out]; rfl) | rfl, rfl⟩
set_option maxHeartbeats 2000000 in
theorem one_kinds (a : Option Addr) (n c : Nat) (i : Nat) (w : World) (hn : n ≤ 9223372036854775807) : Calls Tryz.prog 144 #[.slice a n c, .int .i64 (i : Nat)] w fun e w' => e = .returned (.bool (decide (i < n))) ∧ w' = w := by
  by_cases h : i < n
  · have hi : ((i : Nat) : Int) < (n : Nat) := by omega
    have E : Hid (decide (i < n) = true) := decide_eq_true h
    have h0 : (0 : Int) ≤ ((i : Nat) : Int) := by omega
    go_enter Tryz.func144, Tryz.ntmps144
    go_wp2
    go_ret
    exact ⟨by first | (rw [E.out]; rfl) | rfl, rfl⟩
  · have hi : ¬ ((i : Nat) : Int) < (n : Nat) := by omega
    have E : Hid (decide (i < n) = false) := decide_eq_false h
    have h0 : (0 : Int) ≤ ((i : Nat) : Int) := by omega
    go_enter Tryz.func144, Tryz.ntmps144
    go_wp2
    go_ret
    exact ⟨by first | (rw [E.out]; rfl) | rfl, rfl⟩
theorem ub_two {w : World} {g i : Nat} {us : List UnV} {rest : List Value} {u : UnV} (h : Ub w g us rest) (hu : us[i]? = some u) (o : OrV) : Ub ((w.setCell ⟨g, i * 8 + 6, none⟩ (.int .i64 o.what)).setCell ⟨g, i * 8 + 7, none⟩ (.int .i64 o.arg)) g (us.set i (sentU o u)) rest := by
  have hi : i < us.length := (List.getElem?_eq_some_iff.1 hu).1
  have h1 := h.set6 hu o.what
  have h2 := h1.set7 (i := i) (o := { u with task := o.what }) (by simp [hi]) o.arg
  simpa [sentU] using h2
set_option maxRecDepth 100000 in
set_option maxHeartbeats 4000000 in
theorem send_any (g i : Nat) (us : List UnV) (rest : List Value) (u : UnV) (o : OrV) (w : World) (h : Ub w g us rest) (hu : us[i]? = some u) (ho : o.what = 0 ∧ o.arg = 0 ∨ o.what = 1 ∨ o.what = 2) :
    Calls Tryz.prog 104 #[.pointer (some ⟨g, i * 8, none⟩), o.val] w fun e w' => e = .returned (.tuple #[]) ∧ Ub w' g (us.set i (sentU o u)) rest ∧ Kp g w w' := by
  have U0 : Hid (Ub w g us rest) := h
  have HU : Hid (us[i]? = some u) := hu
  have gl := h.lt
  clear h hu
  have W1 : Hid (Kp g w (w.alloc (Obj.cells #[.int .i64 o.player, .int .i64 o.unit, .int .i64 o.what, .int .i64 o.arg] 86))) := Kp.of ((Below.refl _ _).alloc (Nat.le_refl _) _)
  have U1 : Hid (Ub (w.alloc (Obj.cells #[.int .i64 o.player, .int .i64 o.unit, .int .i64 o.what, .int .i64 o.arg] 86)) g us rest) := U0.out.below ((Below.refl _ _).alloc (Nat.le_refl _) _) gl
  have X1 : Hid (Orc (w.alloc (Obj.cells #[.int .i64 o.player, .int .i64 o.unit, .int .i64 o.what, .int .i64 o.arg] 86)) ⟨w.heap.size, 0, none⟩ o) := Orc.mk' (w := w) o rfl
  unfold OrV.val
  go_enter Tryz.func104, Tryz.ntmps104
  go_upto_region 1 with fail
  obtain ⟨z, hz⟩ : ∃ z, w.heap.size = z := ⟨_, rfl⟩
  rw [hz] at X1 ⊢
  have zg : Hid (z ≠ g) := by unfold Hid; omega
  clear hz gl
  generalize w.alloc (Obj.cells #[.int .i64 o.player, .int .i64 o.unit, .int .i64 o.what, .int .i64 o.arg] 86) = w1 at *
  obtain ⟨x0, x1, x2, x3⟩ := X1.out
  simp only [Nat.zero_add] at x1 x2 x3
  have UC := U1.out.unc HU.out
  have c6 := UC.c6
  have c7 := UC.c7
  have t6 := U1.out.thaw (i * 8 + 6)
  have t7 := U1.out.thaw (i * 8 + 7)
  have FIN : Hid (Ub ((w1.setCell ⟨g, i * 8 + 6, none⟩ (.int .i64 o.what)).setCell ⟨g, i * 8 + 7, none⟩ (.int .i64 o.arg)) g (us.set i (sentU o u)) rest ∧ Kp g w ((w1.setCell ⟨g, i * 8 + 6, none⟩ (.int .i64 o.what)).setCell ⟨g, i * 8 + 7, none⟩ (.int .i64 o.arg))) := ⟨ub_two U1.out HU.out o, (W1.out.trans (Kp.set _ _ _)).trans (Kp.set _ _ _)⟩
  simp only at c6 c7
  have zg' : ¬ z = g := zg.out
  clear UC
  rcases ho with ⟨h0, ha⟩ | h0 | h0
  · rw [h0] at x2
    rw [ha] at x3
    rw [h0, ha] at FIN
    clear h0 ha
    go_wp2
    go_end0
    exact ⟨rfl, FIN.out.1, FIN.out.2⟩
  · rw [h0] at x2
    rw [h0] at FIN
    clear h0
    go_wp2_with fail
    go_region
    go_wp2
    go_end0
    exact ⟨rfl, FIN.out.1.below ((Below.refl _ _).drew) FIN.out.1.lt, FIN.out.2.trans (Kp.of (Below.refl _ _).drew)⟩
  · rw [h0] at x2
    rw [h0] at FIN
    clear h0
    go_wp2_with fail
    go_region
    go_wp2
    go_end0
    exact ⟨rfl, FIN.out.1.below ((Below.refl _ _).drew) FIN.out.1.lt, FIN.out.2.trans (Kp.of (Below.refl _ _).drew)⟩
end Go.Proofs.YtoabhfipikkkeaaGreatDoor

namespace Go.Proofs.YtoabhfipikkkeaaGreatDoor
open Go.RowKit
set_option linter.unusedVariables false

set_option maxRecDepth 100000 in
set_option maxHeartbeats 8000000 in
theorem maybe_any (vk vw : Value) (ks : List KV) (Y : WV) (k : KV) (o : OrV) (w : World) (hk : Kl w vk ks) (hw : Wl w vw Y) (F : GFit ks Y) (ob : ¬ Od.bad o) (hp : o.player.toNat < Y.gold.length) :
    Calls Tryz.prog 102 #[vk, vw, k.val, o.val] w fun e w' => e = .returned (.bool (mayB ks Y k o)) ∧ Below w.heap.size w w' := by
  have K : Hid (Kl w vk ks) := hk
  have H : Hid (Wl w vw Y) := hw
  have FF : Hid (GFit ks Y) := F
  have OK := Od.ok_of ob
  obtain ⟨p1, q1, p2, q2, p3, q3, p4, q4, p5, q5, rfl⟩ := wl_shape9 hw
  obtain ⟨pk, qk, rfl, ck1, ck2, kc⟩ := hk
  obtain ⟨an, han⟩ : ∃ an : Nat, o.arg = an := ⟨o.arg.toNat, by omega⟩
  obtain ⟨pn, hpn⟩ : ∃ pn : Nat, o.player = pn := ⟨o.player.toNat, by omega⟩
  have HAN : Hid (o.arg = (an : Nat) ∧ o.player = (pn : Nat)) := ⟨han, hpn⟩
  have hpl : pn < Y.gold.length := by rw [hpn] at hp; simpa using hp
  have MB : Hid (∀ b, mayB ks Y k o = b → Value.bool (mayB ks Y k o) = .bool b) := fun b h => by rw [h]
  have WH : o.what = 0 ∨ o.what = 1 ∨ o.what = 2 ∨ o.what = 3 := by omega
  have MD : Hid (mayB ks Y k o = if o.what = 1 then decide (o.arg < (Y.gs.length : Int) ∧ 0 < Fd.onto (Y.gs.getD o.arg.toNat 0) k.f) else if o.what = 2 then decide (o.arg < (Y.os.length : Int) ∧ 0 < Y.os.getD o.arg.toNat 0 ∧ 0 < k.n7) else if o.what = 3 then decide (k.t = true ∧ o.arg < (ks.length : Int) ∧ priceOf ks o.arg ≤ Y.gold.getD o.player.toNat 0 ∧ Y.qs.length < 12) else true) := rfl
  generalize mayB ks Y k o = ans at *
  clear MB hw F ob hp kc OK han hpn
  unfold KV.val OrV.val
  go_enter Tryz.func102, Tryz.ntmps102
  go_upto_region 1 with fail
  have BA : Hid (Below w.heap.size w (w.alloc (Obj.cells #[.int .i64 Y.turn, .int .i64 Y.next, .int .i64 Y.wide, .int .i64 Y.high, .slice p1 Y.gs.length q1, .slice p2 Y.os.length q2, .slice p3 Y.gold.length q3, .slice p4 Y.us.length q4, .slice p5 Y.qs.length q5] 29))) := (Below.refl _ _).alloc (Nat.le_refl _) _
  have BB : Hid (Below (w.alloc (Obj.cells #[.int .i64 Y.turn, .int .i64 Y.next, .int .i64 Y.wide, .int .i64 Y.high, .slice p1 Y.gs.length q1, .slice p2 Y.os.length q2, .slice p3 Y.gold.length q3, .slice p4 Y.us.length q4, .slice p5 Y.qs.length q5] 29)).heap.size (w.alloc (Obj.cells #[.int .i64 Y.turn, .int .i64 Y.next, .int .i64 Y.wide, .int .i64 Y.high, .slice p1 Y.gs.length q1, .slice p2 Y.os.length q2, .slice p3 Y.gold.length q3, .slice p4 Y.us.length q4, .slice p5 Y.qs.length q5] 29)) ((w.alloc (Obj.cells #[.int .i64 Y.turn, .int .i64 Y.next, .int .i64 Y.wide, .int .i64 Y.high, .slice p1 Y.gs.length q1, .slice p2 Y.os.length q2, .slice p3 Y.gold.length q3, .slice p4 Y.us.length q4, .slice p5 Y.qs.length q5] 29)).alloc (Obj.cells #[.string k.b, .int .i64 k.n0, .int .i64 k.n1, .int .i64 k.n2, .int .i64 k.n3, .int .i64 k.n4, .int .i64 k.n5, .int .i64 k.n6, .int .i64 k.n7, .bool k.f, .bool k.t] 80))) := (Below.refl _ _).alloc (Nat.le_refl _) _
  have BC : Hid (Below ((w.alloc (Obj.cells #[.int .i64 Y.turn, .int .i64 Y.next, .int .i64 Y.wide, .int .i64 Y.high, .slice p1 Y.gs.length q1, .slice p2 Y.os.length q2, .slice p3 Y.gold.length q3, .slice p4 Y.us.length q4, .slice p5 Y.qs.length q5] 29)).alloc (Obj.cells #[.string k.b, .int .i64 k.n0, .int .i64 k.n1, .int .i64 k.n2, .int .i64 k.n3, .int .i64 k.n4, .int .i64 k.n5, .int .i64 k.n6, .int .i64 k.n7, .bool k.f, .bool k.t] 80)).heap.size ((w.alloc (Obj.cells #[.int .i64 Y.turn, .int .i64 Y.next, .int .i64 Y.wide, .int .i64 Y.high, .slice p1 Y.gs.length q1, .slice p2 Y.os.length q2, .slice p3 Y.gold.length q3, .slice p4 Y.us.length q4, .slice p5 Y.qs.length q5] 29)).alloc (Obj.cells #[.string k.b, .int .i64 k.n0, .int .i64 k.n1, .int .i64 k.n2, .int .i64 k.n3, .int .i64 k.n4, .int .i64 k.n5, .int .i64 k.n6, .int .i64 k.n7, .bool k.f, .bool k.t] 80)) (((w.alloc (Obj.cells #[.int .i64 Y.turn, .int .i64 Y.next, .int .i64 Y.wide, .int .i64 Y.high, .slice p1 Y.gs.length q1, .slice p2 Y.os.length q2, .slice p3 Y.gold.length q3, .slice p4 Y.us.length q4, .slice p5 Y.qs.length q5] 29)).alloc (Obj.cells #[.string k.b, .int .i64 k.n0, .int .i64 k.n1, .int .i64 k.n2, .int .i64 k.n3, .int .i64 k.n4, .int .i64 k.n5, .int .i64 k.n6, .int .i64 k.n7, .bool k.f, .bool k.t] 80)).alloc (Obj.cells #[.int .i64 o.player, .int .i64 o.unit, .int .i64 o.what, .int .i64 o.arg] 86))) := (Below.refl _ _).alloc (Nat.le_refl _) _
  have X1 : Hid (Wx (((w.alloc (Obj.cells #[.int .i64 Y.turn, .int .i64 Y.next, .int .i64 Y.wide, .int .i64 Y.high, .slice p1 Y.gs.length q1, .slice p2 Y.os.length q2, .slice p3 Y.gold.length q3, .slice p4 Y.us.length q4, .slice p5 Y.qs.length q5] 29)).alloc (Obj.cells #[.string k.b, .int .i64 k.n0, .int .i64 k.n1, .int .i64 k.n2, .int .i64 k.n3, .int .i64 k.n4, .int .i64 k.n5, .int .i64 k.n6, .int .i64 k.n7, .bool k.f, .bool k.t] 80)).alloc (Obj.cells #[.int .i64 o.player, .int .i64 o.unit, .int .i64 o.what, .int .i64 o.arg] 86)) w.heap.size (.int .i64 Y.turn) (.int .i64 Y.next) (.int .i64 Y.wide) (.int .i64 Y.high) (.slice p1 Y.gs.length q1) (.slice p2 Y.os.length q2) (.slice p3 Y.gold.length q3) (.slice p4 Y.us.length q4) (.slice p5 Y.qs.length q5)) := ((Wx.new (w := w) _ _ _ _ _ _ _ _ _ rfl).below BB.out (by simp)).below BC.out (by simp; omega)
  have KC1 : Hid (Kc (((w.alloc (Obj.cells #[.int .i64 Y.turn, .int .i64 Y.next, .int .i64 Y.wide, .int .i64 Y.high, .slice p1 Y.gs.length q1, .slice p2 Y.os.length q2, .slice p3 Y.gold.length q3, .slice p4 Y.us.length q4, .slice p5 Y.qs.length q5] 29)).alloc (Obj.cells #[.string k.b, .int .i64 k.n0, .int .i64 k.n1, .int .i64 k.n2, .int .i64 k.n3, .int .i64 k.n4, .int .i64 k.n5, .int .i64 k.n6, .int .i64 k.n7, .bool k.f, .bool k.t] 80)).alloc (Obj.cells #[.int .i64 o.player, .int .i64 o.unit, .int .i64 o.what, .int .i64 o.arg] 86)) ⟨w.heap.size + 1, 0, none⟩ k) := (kind_new (w := w.alloc (Obj.cells #[.int .i64 Y.turn, .int .i64 Y.next, .int .i64 Y.wide, .int .i64 Y.high, .slice p1 Y.gs.length q1, .slice p2 Y.os.length q2, .slice p3 Y.gold.length q3, .slice p4 Y.us.length q4, .slice p5 Y.qs.length q5] 29)) k (by simp)).below BC.out (by simp)
  have OC1 : Hid (Orc (((w.alloc (Obj.cells #[.int .i64 Y.turn, .int .i64 Y.next, .int .i64 Y.wide, .int .i64 Y.high, .slice p1 Y.gs.length q1, .slice p2 Y.os.length q2, .slice p3 Y.gold.length q3, .slice p4 Y.us.length q4, .slice p5 Y.qs.length q5] 29)).alloc (Obj.cells #[.string k.b, .int .i64 k.n0, .int .i64 k.n1, .int .i64 k.n2, .int .i64 k.n3, .int .i64 k.n4, .int .i64 k.n5, .int .i64 k.n6, .int .i64 k.n7, .bool k.f, .bool k.t] 80)).alloc (Obj.cells #[.int .i64 o.player, .int .i64 o.unit, .int .i64 o.what, .int .i64 o.arg] 86)) ⟨w.heap.size + 1 + 1, 0, none⟩ o) := Orc.mk' (w := (w.alloc (Obj.cells #[.int .i64 Y.turn, .int .i64 Y.next, .int .i64 Y.wide, .int .i64 Y.high, .slice p1 Y.gs.length q1, .slice p2 Y.os.length q2, .slice p3 Y.gold.length q3, .slice p4 Y.us.length q4, .slice p5 Y.qs.length q5] 29)).alloc (Obj.cells #[.string k.b, .int .i64 k.n0, .int .i64 k.n1, .int .i64 k.n2, .int .i64 k.n3, .int .i64 k.n4, .int .i64 k.n5, .int .i64 k.n6, .int .i64 k.n7, .bool k.f, .bool k.t] 80)) o (by simp)
  have B1 : Hid (Below w.heap.size w (((w.alloc (Obj.cells #[.int .i64 Y.turn, .int .i64 Y.next, .int .i64 Y.wide, .int .i64 Y.high, .slice p1 Y.gs.length q1, .slice p2 Y.os.length q2, .slice p3 Y.gold.length q3, .slice p4 Y.us.length q4, .slice p5 Y.qs.length q5] 29)).alloc (Obj.cells #[.string k.b, .int .i64 k.n0, .int .i64 k.n1, .int .i64 k.n2, .int .i64 k.n3, .int .i64 k.n4, .int .i64 k.n5, .int .i64 k.n6, .int .i64 k.n7, .bool k.f, .bool k.t] 80)).alloc (Obj.cells #[.int .i64 o.player, .int .i64 o.unit, .int .i64 o.what, .int .i64 o.arg] 86))) := BA.out.trans ((BB.out.trans (BC.out.mono BB.out.size)).mono BA.out.size)
  clear BA BB BC
  generalize (((w.alloc (Obj.cells #[.int .i64 Y.turn, .int .i64 Y.next, .int .i64 Y.wide, .int .i64 Y.high, .slice p1 Y.gs.length q1, .slice p2 Y.os.length q2, .slice p3 Y.gold.length q3, .slice p4 Y.us.length q4, .slice p5 Y.qs.length q5] 29)).alloc (Obj.cells #[.string k.b, .int .i64 k.n0, .int .i64 k.n1, .int .i64 k.n2, .int .i64 k.n3, .int .i64 k.n4, .int .i64 k.n5, .int .i64 k.n6, .int .i64 k.n7, .bool k.f, .bool k.t] 80)).alloc (Obj.cells #[.int .i64 o.player, .int .i64 o.unit, .int .i64 o.what, .int .i64 o.arg] 86)) = w1 at *
  have H1 : Hid (Wl w1 (.agg #[.int .i64 Y.turn, .int .i64 Y.next, .int .i64 Y.wide, .int .i64 Y.high, .slice p1 Y.gs.length q1, .slice p2 Y.os.length q2, .slice p3 Y.gold.length q3, .slice p4 Y.us.length q4, .slice p5 Y.qs.length q5]) Y) := H.out.below B1.out
  obtain ⟨x0, x1, x2, x3, x4, x5, x6, x7, x8⟩ := X1.out.cells
  obtain ⟨k0, k1, k2, k3, k4, k5, k6, k7, k8, k9, k10⟩ := KC1.out
  obtain ⟨o0, o1, o2, o3⟩ := OC1.out
  simp only [Nat.zero_add] at k1 k2 k3 k4 k5 k6 k7 k8 k9 k10 o1 o2 o3
  rw [HAN.out.1] at o3
  rw [HAN.out.2] at o0
  clear X1 KC1 OC1
  rcases WH with h | h | h | h
  · have E : Hid (ans = true) := by have h9 := MD.out; unfold Hid; rw [h9, h, if_neg (by decide), if_neg (by decide), if_neg (by decide)]
    rw [h] at o2
    clear MD h
    go_wp2
    go_ret
    exact ⟨by rw [E.out]; rfl, B1.out⟩
  · have E : Hid (ans = decide ((an : Int) < (Y.gs.length : Int) ∧ 0 < Fd.onto (Y.gs.getD an 0) k.f)) := by have h9 := MD.out; unfold Hid; rw [h9, h, if_pos rfl, HAN.out.1]; simp only [Int.toNat_natCast]
    rw [h] at o2
    obtain ⟨Wn, Hn, e1, e2, G⟩ := FF.out.good
    have GG : Hid (Fd.Good Wn Hn Y.gs Y.os) := G
    have FL := fl_of H1.out
    rw [e1, e2] at FL
    have FL' : Hid (Fl w1 (.agg #[.int .i64 (Wn : Nat), .int .i64 (Hn : Nat), .slice p1 Y.gs.length q1, .slice p2 Y.os.length q2]) Wn Hn Y.gs Y.os) := FL
    have gl := G.gl
    rw [e1] at x2
    rw [e2] at x3
    by_cases ha : an < Y.gs.length
    · obtain ⟨g, hg⟩ : ∃ g, Y.gs[an]? = some g := ⟨_, List.getElem?_eq_getElem ha⟩
      have ST : Hid (Calls Tryz.prog 142 #[.agg #[.int .i64 (Wn : Nat), .int .i64 (Hn : Nat), .slice p1 Y.gs.length q1, .slice p2 Y.os.length q2], .int .i64 (an : Nat), .bool k.f] w1 fun e w' => e = .returned (.tuple #[.int .i64 (Fd.onto g k.f), .nilIface]) ∧ Below w1.heap.size w1 w') := Step_ok _ Wn Hn Y.gs Y.os an g k.f w1 FL'.out GG.out (by omega) hg
      have E2 : Hid (ans = decide (0 < Fd.onto g k.f)) := by
        unfold Hid
        rw [E.out]
        congr 1
        rw [List.getD_eq_getElem?_getD, hg]
        exact propext ⟨fun h => h.2, fun h => ⟨by omega, h⟩⟩
      clear MD E h e1 e2 G FL FL' gl hg H1
      generalize Fd.onto g k.f = st at *
      go_wp2_with fail
      refine ST.out.mono ?_
      rintro e w2 ⟨rfl, b2⟩
      have B2 : Hid (Below w.heap.size w w2) := B1.out.trans (b2.mono B1.out.size)
      clear b2 ST x0 x1 x2 x3 x4 x5 x6 x7 x8 k0 k1 k2 k3 k4 k5 k6 k7 k8 k9 k10 o0 o1 o2 o3
      go_wp2
      go_ret
      exact ⟨by rw [E2.out]; rfl, B2.out⟩
    · have hF : Fd.askFault (Fd.fault (Wn : Nat) (Hn : Nat) Y.gs Y.os) Y.gs.length [((an : Nat) : Int)] ≠ 0 := fun h0 => by
        have := (ask1_zero h0).2.2
        omega
      obtain ⟨ff, hff⟩ : ∃ f, Fd.askFault (Fd.fault (Wn : Nat) (Hn : Nat) Y.gs Y.os) Y.gs.length [((an : Nat) : Int)] = f := ⟨_, rfl⟩
      have ST : Hid (Calls Tryz.prog 142 #[.agg #[.int .i64 (Wn : Nat), .int .i64 (Hn : Nat), .slice p1 Y.gs.length q1, .slice p2 Y.os.length q2], .int .i64 (an : Nat), .bool k.f] w1 fun e w' => e = .returned (.tuple #[.int .i64 0, .iface 99 (.int .i64 ff)]) ∧ Below w1.heap.size w1 w') := Step_bad _ _ _ _ _ _ ff k.f w1 FL'.out hff (by rw [← hff]; exact hF)
      have E2 : Hid (ans = false) := by
        unfold Hid
        rw [E.out]
        exact decide_eq_false (fun h => ha (by omega))
      clear MD E h e1 e2 G FL FL' gl H1 hF hff
      go_wp2_with fail
      refine ST.out.mono ?_
      rintro e w2 ⟨rfl, b2⟩
      have B2 : Hid (Below w.heap.size w w2) := B1.out.trans (b2.mono B1.out.size)
      clear b2 ST x0 x1 x2 x3 x4 x5 x6 x7 x8 k0 k1 k2 k3 k4 k5 k6 k7 k8 k9 k10 o0 o1 o2 o3
      go_wp2
      go_ret
      exact ⟨by rw [E2.out]; rfl, B2.out⟩
  · have E : Hid (ans = decide ((an : Int) < (Y.os.length : Int) ∧ 0 < Y.os.getD an 0 ∧ 0 < k.n7)) := by have h9 := MD.out; unfold Hid; rw [h9, h, if_neg (by decide), if_pos rfl, HAN.out.1]; simp only [Int.toNat_natCast]
    rw [h] at o2
    have RO := H1.out.slices.2.1
    obtain ⟨a2, c2, e2, r1, r2, r3⟩ := RO
    injection e2 with e21 e22 e23
    subst e21 e23
    have OI := one_ints p2 Y.os.length q2 an
    by_cases ha : an < Y.os.length
    · obtain ⟨g, hg⟩ : ∃ g, Y.os[an]? = some g := ⟨_, List.getElem?_eq_getElem ha⟩
      obtain ⟨xo, rfl, -, hxo⟩ := r3 (by rintro hn; rw [hn] at ha; simp at ha)
      have co := hxo an g hg
      have OC : Hid (Calls Tryz.prog 143 #[.slice (some xo) Y.os.length q2, .int .i64 (an : Nat)] w1 fun e w' => e = .returned (.bool true) ∧ w' = w1) := by have := OI w1 (by omega); rw [decide_eq_true ha] at this; exact this
      have E2 : Hid (ans = decide (0 < g ∧ 0 < k.n7)) := by
        unfold Hid
        rw [E.out]
        congr 1
        rw [List.getD_eq_getElem?_getD, hg]
        exact propext ⟨fun h => h.2, fun h => ⟨by omega, h⟩⟩
      have hai : ((an : Nat) : Int) < (Y.os.length : Nat) := by omega
      clear MD E h H1 OI hg hxo r3 e22
      by_cases h1 : 0 < g
      · by_cases h2 : 0 < k.n7
        · have E3 : Hid (ans = true) := by unfold Hid; rw [E2.out]; exact decide_eq_true ⟨h1, h2⟩
          go_wp2_with fail
          refine OC.out.mono ?_
          rintro e w' ⟨rfl, rfl⟩
          go_wp2
          go_ret
          exact ⟨by rw [E3.out]; rfl, B1.out⟩
        · have E3 : Hid (ans = false) := by unfold Hid; rw [E2.out]; exact decide_eq_false (fun h => h2 h.2)
          have H2 : Hid (decide (0 < k.n7) = false) := decide_eq_false h2
          go_wp2_with fail
          refine OC.out.mono ?_
          rintro e w' ⟨rfl, rfl⟩
          go_wp2
          go_ret
          exact ⟨by rw [E3.out]; first | rfl | (show Ending.returned (Value.bool (decide (0 < k.n7))) = _; rw [H2.out]), B1.out⟩
      · have E3 : Hid (ans = false) := by unfold Hid; rw [E2.out]; exact decide_eq_false (fun h => h1 h.1)
        have h1d : decide (0 < g) = false := decide_eq_false h1
        go_wp2_with fail
        refine OC.out.mono ?_
        rintro e w' ⟨rfl, rfl⟩
        go_wp2
        go_ret
        exact ⟨by rw [E3.out]; rfl, B1.out⟩
    · have OC : Hid (Calls Tryz.prog 143 #[.slice p2 Y.os.length q2, .int .i64 (an : Nat)] w1 fun e w' => e = .returned (.bool false) ∧ w' = w1) := by have := OI w1 (by omega); rw [decide_eq_false ha] at this; exact this
      have E3 : Hid (ans = false) := by unfold Hid; rw [E.out]; exact decide_eq_false (fun h => ha (by omega))
      clear MD E h H1 OI r3 e22
      go_wp2_with fail
      refine OC.out.mono ?_
      rintro e w' ⟨rfl, rfl⟩
      go_wp2
      go_ret
      exact ⟨by rw [E3.out]; rfl, B1.out⟩
  · have E : Hid (ans = decide (k.t = true ∧ (an : Int) < (ks.length : Int) ∧ priceOf ks an ≤ Y.gold.getD pn 0 ∧ Y.qs.length < 12)) := by have h9 := MD.out; unfold Hid; rw [h9, h, if_neg (by decide), if_neg (by decide), if_pos rfl, HAN.out.1, HAN.out.2]; simp only [Int.toNat_natCast]
    rw [h] at o2
    have kl := FF.out.kinds.1
    have OI := one_kinds pk ks.length qk an
    have BD : Hid (∀ n, Below w.heap.size w (w1.drewN n)) := fun n => ⟨B1.out.os, B1.out.tape, B1.out.output, B1.out.size, B1.out.block⟩
    cases hkt : k.t with
    | false =>
      have E3 : Hid (ans = false) := by unfold Hid; rw [E.out]; exact decide_eq_false (fun h => by rw [hkt] at h; simp at h)
      rw [hkt] at k10
      clear MD E h H1 OI hkt
      go_upto_region 8 with fail
      go_quiet (fail)
      go_wp2
      go_ret
      exact ⟨by rw [E3.out]; rfl, BD.out _⟩
    | true =>
      rw [hkt] at k10
      by_cases ha : an < ks.length
      · obtain ⟨kk, hkk⟩ : ∃ kk, ks[an]? = some kk := ⟨_, List.getElem?_eq_getElem ha⟩
        obtain ⟨g, hg⟩ : ∃ g, Y.gold[pn]? = some g := ⟨_, List.getElem?_eq_getElem hpl⟩
        have OC : Hid (∀ W, Calls Tryz.prog 144 #[.slice pk ks.length qk, .int .i64 (an : Nat)] W fun e w' => e = .returned (.bool true) ∧ w' = W) := fun W => by have := OI W (by omega); rw [decide_eq_true ha] at this; exact this
        have K1 := K.out.below B1.out
        obtain ⟨a', c', e', -, -, hx⟩ := K1
        injection e' with e1' e2' e3'
        subst e1' e3'
        obtain ⟨xk, rfl, -, hxk⟩ := hx (by rintro hn; rw [hn] at ha; simp at ha)
        have c6 := (hxk an kk hkk).c6
        obtain ⟨a3, c3, e3, r1, r2, r3⟩ := H1.out.slices.2.2.1
        injection e3 with e31 e32 e33
        subst e31 e33
        obtain ⟨xg, rfl, -, hxg⟩ := r3 (by rintro hn; rw [hn] at hpl; simp at hpl)
        have cg := hxg pn g hg
        have hai : ((an : Nat) : Int) < (ks.length : Nat) := by omega
        have hpi : ((pn : Nat) : Int) < (Y.gold.length : Nat) := by omega
        have E2 : Hid (ans = decide (kk.n5 ≤ g ∧ Y.qs.length < 12)) := by
          unfold Hid
          rw [E.out]
          congr 1
          rw [List.getD_eq_getElem?_getD, hg]
          have e9 : priceOf ks an = kk.n5 := by unfold priceOf; rw [Int.toNat_natCast, hkk]
          rw [e9]
          exact propext ⟨fun h => h.2.2, fun h => ⟨hkt, by omega, h.1, h.2⟩⟩
        clear MD E h H1 OI hkt hkk hg hxk hxg hx r3 e2' e32
        by_cases h1 : kk.n5 ≤ g
        · have h1d : decide (kk.n5 ≤ g) = true := decide_eq_true h1
          by_cases h2 : Y.qs.length < 12
          · have E3 : Hid (ans = true) := by unfold Hid; rw [E2.out]; exact decide_eq_true ⟨h1, h2⟩
            have h2i : ((Y.qs.length : Nat) : Int) < 12 := by omega
            go_upto_region 8 with fail
            go_quiet ((go_at_call 144; exact Calls.quiet_of_same (OC.out _)))
            go_wp2
            go_ret
            exact ⟨by rw [E3.out]; rfl, BD.out _⟩
          · have E3 : Hid (ans = false) := by unfold Hid; rw [E2.out]; exact decide_eq_false (fun h => h2 h.2)
            have h2i : ¬ ((Y.qs.length : Nat) : Int) < 12 := by omega
            have h2d : decide (((Y.qs.length : Nat) : Int) < 12) = false := decide_eq_false h2i
            go_upto_region 8 with fail
            go_quiet ((go_at_call 144; exact Calls.quiet_of_same (OC.out _)))
            go_wp2
            go_ret
            exact ⟨by rw [E3.out]; rfl, BD.out _⟩
        · have h1d : decide (kk.n5 ≤ g) = false := decide_eq_false h1
          have E3 : Hid (ans = false) := by unfold Hid; rw [E2.out]; exact decide_eq_false (fun h => h1 h.1)
          go_upto_region 8 with fail
          go_quiet ((go_at_call 144; exact Calls.quiet_of_same (OC.out _)))
          go_wp2
          go_ret
          exact ⟨by rw [E3.out]; rfl, BD.out _⟩
      · have OC : Hid (∀ W, Calls Tryz.prog 144 #[.slice pk ks.length qk, .int .i64 (an : Nat)] W fun e w' => e = .returned (.bool false) ∧ w' = W) := fun W => by have := OI W (by omega); rw [decide_eq_false ha] at this; exact this
        have E3 : Hid (ans = false) := by unfold Hid; rw [E.out]; exact decide_eq_false (fun h => ha (by omega))
        clear MD E h H1 OI hkt
        go_upto_region 8 with fail
        go_quiet ((go_at_call 144; exact Calls.quiet_of_same (OC.out _)))
        go_wp2
        go_ret
        exact ⟨by rw [E3.out]; rfl, BD.out _⟩
end Go.Proofs.YtoabhfipikkkeaaGreatDoor

namespace Go.Proofs.YtoabhfipikkkeaaGreatDoor
open Go.RowKit
set_option linter.unusedVariables false

theorem run_un (w : World) (ty : TypeId) (base : Nat) (v : Value) (ks : List UnV) (hown : Uno w base v ks) (b : Nat) (d : UnV) (hd : Unc w ⟨b, 0, none⟩ d) (hl : ks.length ≤ 1000000) (hbase : base ≤ w.heap.size) :
    ∃ g cap w', (Builtin.append_ #[26, 26] ty #[v, .slice (some ⟨b, 0, none⟩) 1 1]).run Tryz.prog w = .ok (.slice (some ⟨g, 0, none⟩) (ks.length + 1) cap) w' ∧ Uno w' base (.slice (some ⟨g, 0, none⟩) (ks.length + 1) cap) (ks ++ [d]) ∧ w.grownBy w' v.ownBlock ∧ (v.ownBlock = some g ∨ g = w.heap.size) ∧ g < w'.heap.size := by
  obtain ⟨i0, hi, hz0, hz1, hz2⟩ := info_parts info_un
  obtain ⟨g, cap, w6, hr, ho6, hg6, ha6, hl6⟩ := run_append_lies (P := Tryz.prog) w 26 26 base 63 i0 _ 8 64 Tryz.underlying26 hi hz0 hz1 hz2 rfl (by decide) v ks.length _ hown ⟨b, 0, none⟩ 1 1 (UnV.cs d) rfl (fun j u hj => by
    have hjn : j < 8 := (List.getElem?_eq_some_iff.1 hj).1
    rw [Addr.add_lit, Nat.zero_add]
    match j, hjn, hj with
    | 0, _, hj => simp [UnV.cs] at hj; subst hj; exact hd.c0
    | 1, _, hj => simp [UnV.cs] at hj; subst hj; exact hd.c1
    | 2, _, hj => simp [UnV.cs] at hj; subst hj; exact hd.c2
    | 3, _, hj => simp [UnV.cs] at hj; subst hj; exact hd.c3
    | 4, _, hj => simp [UnV.cs] at hj; subst hj; exact hd.c4
    | 5, _, hj => simp [UnV.cs] at hj; subst hj; exact hd.c5
    | 6, _, hj => simp [UnV.cs] at hj; subst hj; exact hd.c6
    | 7, _, hj => simp [UnV.cs] at hj; subst hj; exact hd.c7) (fun u hu => by
    simp [UnV.cs] at hu
    rcases hu with rfl | rfl | rfl | rfl | rfl | rfl | rfl | rfl <;> rfl) (by decide) (by unfold maxLen; omega) (by omega) hbase _ rfl
  refine ⟨g, cap, w6, hr, ?_, hg6, ha6, hl6⟩
  unfold Uno
  rw [List.length_append, List.flatMap_append]
  simpa using ho6
theorem run_jb (w : World) (ty : TypeId) (base : Nat) (v : Value) (ks : List JbV) (hown : Jbo w base v ks) (b : Nat) (d : JbV) (hd : Jbc w ⟨b, 0, none⟩ d) (hl : ks.length ≤ 1000000) (hbase : base ≤ w.heap.size) :
    ∃ g cap w', (Builtin.append_ #[27, 27] ty #[v, .slice (some ⟨b, 0, none⟩) 1 1]).run Tryz.prog w = .ok (.slice (some ⟨g, 0, none⟩) (ks.length + 1) cap) w' ∧ Jbo w' base (.slice (some ⟨g, 0, none⟩) (ks.length + 1) cap) (ks ++ [d]) ∧ w.grownBy w' v.ownBlock ∧ (v.ownBlock = some g ∨ g = w.heap.size) ∧ g < w'.heap.size := by
  obtain ⟨i0, hi, hz0, hz1, hz2⟩ := info_parts info_jb
  obtain ⟨g, cap, w6, hr, ho6, hg6, ha6, hl6⟩ := run_append_lies (P := Tryz.prog) w 27 27 base 94 i0 _ 4 32 Tryz.underlying27 hi hz0 hz1 hz2 rfl (by decide) v ks.length _ hown ⟨b, 0, none⟩ 1 1 (JbV.cs d) rfl (fun j u hj => by
    have hjn : j < 4 := (List.getElem?_eq_some_iff.1 hj).1
    rw [Addr.add_lit, Nat.zero_add]
    match j, hjn, hj with
    | 0, _, hj => simp [JbV.cs] at hj; subst hj; exact hd.c0
    | 1, _, hj => simp [JbV.cs] at hj; subst hj; exact hd.c1
    | 2, _, hj => simp [JbV.cs] at hj; subst hj; exact hd.c2
    | 3, _, hj => simp [JbV.cs] at hj; subst hj; exact hd.c3) (fun u hu => by
    simp [JbV.cs] at hu
    rcases hu with rfl | rfl | rfl | rfl <;> rfl) (by decide) (by unfold maxLen; omega) (by omega) hbase _ rfl
  refine ⟨g, cap, w6, hr, ?_, hg6, ha6, hl6⟩
  unfold Jbo
  rw [List.length_append, List.flatMap_append]
  simpa using ho6
end Go.Proofs.YtoabhfipikkkeaaGreatDoor

namespace Go.Proofs.YtoabhfipikkkeaaGreatDoor
open Go.RowKit
set_option linter.unusedVariables false

set_option maxRecDepth 100000 in
set_option maxHeartbeats 8000000 in
theorem hire_any (z gg n cg b1 : Nat) (c0 c1 c2 c3 c4 c5 c7 : Value) (gold : List Int) (rest : Array Value) (a8 : Option Addr) (h8 : Nat) (qs : List JbV) (k : KV) (o : OrV) (pn : Nat) (g : Int) (w : World)
    (X : Wx w z c0 c1 c2 c3 c4 c5 (.slice (some ⟨gg, 0, none⟩) n cg) c7 (.slice a8 qs.length h8)) (B : Bk w gg gold rest) (J : Jbo w b1 (.slice a8 qs.length h8) qs) (hp : o.player = (pn : Nat)) (hpn : pn < n) (hg : gold[pn]? = some g) (g0 : 0 ≤ g ∧ g ≤ 1000000) (k5 : 0 ≤ k.n5 ∧ k.n5 ≤ 1000) (k6 : 0 ≤ k.n6 ∧ k.n6 ≤ 1000) (hq : qs.length ≤ 12)
    (hz : z < b1) (hgb : b1 ≤ gg) (hb : b1 ≤ w.heap.size) (hd : (Value.slice a8 qs.length h8).ownBlock ≠ some gg) :
    Calls Tryz.prog 103 #[.pointer (some ⟨z, 0, none⟩), k.val, o.val] w fun e w' => e = .returned (.tuple #[]) ∧ ∃ a8' h8', Wx w' z c0 c1 c2 c3 c4 c5 (.slice (some ⟨gg, 0, none⟩) n cg) c7 (.slice a8' (qs.length + 1) h8') ∧ Bk w' gg (gold.set pn (g - k.n5)) rest ∧ Jbo w' b1 (.slice a8' (qs.length + 1) h8') (qs ++ [⟨o.player, o.unit, o.arg, max k.n6 1⟩]) ∧ Fr (fun q => q = z ∨ q = gg ∨ (Value.slice a8 qs.length h8).ownBlock = some q) w w' ∧ ((Value.slice a8' (qs.length + 1) h8').ownBlock = (Value.slice a8 qs.length h8).ownBlock ∨ ∃ q, (Value.slice a8' (qs.length + 1) h8').ownBlock = some q ∧ w.heap.size ≤ q) := by
  have X0 : Hid (Wx w z c0 c1 c2 c3 c4 c5 (.slice (some ⟨gg, 0, none⟩) n cg) c7 (.slice a8 qs.length h8)) := X
  have B0 : Hid (Bk w gg gold rest) := B
  have J0 : Hid (Jbo w b1 (.slice a8 qs.length h8) qs) := J
  have NN : Hid (o.player = (pn : Nat) ∧ gold[pn]? = some g ∧ z < b1 ∧ b1 ≤ gg ∧ b1 ≤ w.heap.size ∧ (Value.slice a8 qs.length h8).ownBlock ≠ some gg ∧ pn < n) := ⟨hp, hg, hz, hgb, hb, hd, hpn⟩
  have ggl := B.lt
  have JL : Hid (∀ q, (Value.slice a8 qs.length h8).ownBlock = some q → q < w.heap.size) := fun q hq => (J.block q hq).2
  have zl := X.lt
  have TT : ∃ tt, max k.n6 1 = tt ∧ 1 ≤ tt ∧ tt ≤ 1000 := ⟨_, rfl, by omega, by omega⟩
  obtain ⟨tt, htt, tt1, tt2⟩ := TT
  have HT : Hid (max k.n6 1 = tt) := htt
  have zg : ¬ z = gg := by omega
  have zs : ¬ z = w.heap.size := by omega
  have zs1 : ¬ z = w.heap.size + 1 := by omega
  have gs' : ¬ gg = w.heap.size := by omega
  have gs1 : ¬ gg = w.heap.size + 1 := by omega
  have pni : ((pn : Nat) : Int) < (n : Nat) := by omega
  rw [htt]
  clear X B J hp hg hd htt hz hgb hb
  unfold KV.val OrV.val
  go_enter Tryz.func103, Tryz.ntmps103
  go_upto_region 1 with fail
  have BA : Hid (Below w.heap.size w (w.alloc (Obj.cells #[.string k.b, .int .i64 k.n0, .int .i64 k.n1, .int .i64 k.n2, .int .i64 k.n3, .int .i64 k.n4, .int .i64 k.n5, .int .i64 k.n6, .int .i64 k.n7, .bool k.f, .bool k.t] 80))) := (Below.refl _ _).alloc (Nat.le_refl _) _
  have BB : Hid (Below (w.alloc (Obj.cells #[.string k.b, .int .i64 k.n0, .int .i64 k.n1, .int .i64 k.n2, .int .i64 k.n3, .int .i64 k.n4, .int .i64 k.n5, .int .i64 k.n6, .int .i64 k.n7, .bool k.f, .bool k.t] 80)).heap.size (w.alloc (Obj.cells #[.string k.b, .int .i64 k.n0, .int .i64 k.n1, .int .i64 k.n2, .int .i64 k.n3, .int .i64 k.n4, .int .i64 k.n5, .int .i64 k.n6, .int .i64 k.n7, .bool k.f, .bool k.t] 80)) ((w.alloc (Obj.cells #[.string k.b, .int .i64 k.n0, .int .i64 k.n1, .int .i64 k.n2, .int .i64 k.n3, .int .i64 k.n4, .int .i64 k.n5, .int .i64 k.n6, .int .i64 k.n7, .bool k.f, .bool k.t] 80)).alloc (Obj.cells #[.int .i64 o.player, .int .i64 o.unit, .int .i64 o.what, .int .i64 o.arg] 86))) := (Below.refl _ _).alloc (Nat.le_refl _) _
  have B1 : Hid (Below w.heap.size w ((w.alloc (Obj.cells #[.string k.b, .int .i64 k.n0, .int .i64 k.n1, .int .i64 k.n2, .int .i64 k.n3, .int .i64 k.n4, .int .i64 k.n5, .int .i64 k.n6, .int .i64 k.n7, .bool k.f, .bool k.t] 80)).alloc (Obj.cells #[.int .i64 o.player, .int .i64 o.unit, .int .i64 o.what, .int .i64 o.arg] 86))) := BA.out.trans (BB.out.mono BA.out.size)
  have KC1 : Hid (Kc ((w.alloc (Obj.cells #[.string k.b, .int .i64 k.n0, .int .i64 k.n1, .int .i64 k.n2, .int .i64 k.n3, .int .i64 k.n4, .int .i64 k.n5, .int .i64 k.n6, .int .i64 k.n7, .bool k.f, .bool k.t] 80)).alloc (Obj.cells #[.int .i64 o.player, .int .i64 o.unit, .int .i64 o.what, .int .i64 o.arg] 86)) ⟨w.heap.size, 0, none⟩ k) := (kind_new (w := w) k rfl).below BB.out (by simp)
  have OC1 : Hid (Orc ((w.alloc (Obj.cells #[.string k.b, .int .i64 k.n0, .int .i64 k.n1, .int .i64 k.n2, .int .i64 k.n3, .int .i64 k.n4, .int .i64 k.n5, .int .i64 k.n6, .int .i64 k.n7, .bool k.f, .bool k.t] 80)).alloc (Obj.cells #[.int .i64 o.player, .int .i64 o.unit, .int .i64 o.what, .int .i64 o.arg] 86)) ⟨w.heap.size + 1, 0, none⟩ o) := Orc.mk' (w := w.alloc (Obj.cells #[.string k.b, .int .i64 k.n0, .int .i64 k.n1, .int .i64 k.n2, .int .i64 k.n3, .int .i64 k.n4, .int .i64 k.n5, .int .i64 k.n6, .int .i64 k.n7, .bool k.f, .bool k.t] 80)) o (by simp)
  clear BA BB
  obtain ⟨y, hy⟩ : ∃ y, w.heap.size = y := ⟨_, rfl⟩
  have HY : Hid (w.heap.size = y) := hy
  rw [hy] at KC1 OC1 zs zs1 gs' gs1 ⊢
  clear hy
  generalize ((w.alloc (Obj.cells #[.string k.b, .int .i64 k.n0, .int .i64 k.n1, .int .i64 k.n2, .int .i64 k.n3, .int .i64 k.n4, .int .i64 k.n5, .int .i64 k.n6, .int .i64 k.n7, .bool k.f, .bool k.t] 80)).alloc (Obj.cells #[.int .i64 o.player, .int .i64 o.unit, .int .i64 o.what, .int .i64 o.arg] 86)) = w1 at *
  have X1 : Hid (Wx w1 z c0 c1 c2 c3 c4 c5 (.slice (some ⟨gg, 0, none⟩) n cg) c7 (.slice a8 qs.length h8)) := X0.out.below B1.out zl
  have G1 : Hid (Bk w1 gg gold rest) := B0.out.below B1.out
  have J1 : Hid (Jbo w1 b1 (.slice a8 qs.length h8) qs) := J0.out.below B1.out
  obtain ⟨x0, x1, x2, x3, x4, x5, x6, x7, x8⟩ := X1.out.cells
  obtain ⟨k0, k1, k2, k3, k4, k5', k6', k7', k8, k9, k10⟩ := KC1.out
  obtain ⟨o0, o1, o2, o3⟩ := OC1.out
  simp only [Nat.zero_add] at k1 k2 k3 k4 k5' k6' k7' k8 k9 k10 o1 o2 o3
  rw [NN.out.1] at o0
  have cg' := G1.out.cell NN.out.2.1
  have tg := G1.out.thaw pn
  have wr : IntKind.i64.wrap (g - k.n5) = g - k.n5 := by rw [IntKind.wrap_i64]; omega
  clear X0 B0 J0
  go_region
  have KZ : Hid (Kp gg w1 (w1.setCell ⟨gg, pn, none⟩ (.int .i64 (g - k.n5))).drew) := (Kp.set _ _ _).trans (Kp.of (Below.refl _ _).drew)
  have G2 : Hid (Bk (w1.setCell ⟨gg, pn, none⟩ (.int .i64 (g - k.n5))).drew gg (gold.set pn (g - k.n5)) rest) := G1.out.set pn _ (List.getElem?_eq_some_iff.1 NN.out.2.1).1
  clear x0 x1 x2 x3 x4 x5 x6 x7 x8 k0 k1 k2 k3 k4 k5' k6' k7' k8 k9 k10 o0 o1 o2 o3 cg' tg wr
  generalize (w1.setCell ⟨gg, pn, none⟩ (.int .i64 (g - k.n5))).drew = w2 at *
  have F2 : Hid (Fr (fun q => q = gg) w1 w2) := Fr.kp KZ.out rfl
  have X2 : Hid (Wx w2 z c0 c1 c2 c3 c4 c5 (.slice (some ⟨gg, 0, none⟩) n cg) c7 (.slice a8 qs.length h8)) := F2.out.wx X1.out zg
  have J2 : Hid (Jbo w2 b1 (.slice a8 qs.length h8) qs) := F2.out.own J1.out (fun q hq e => NN.out.2.2.2.2.2.1 (by rw [hq, e]))
  have KC2 : Hid (Kc w2 ⟨y, 0, none⟩ k) := KC1.out.kp9 KZ.out (fun e => gs' e.symm)
  have OC2 : Hid (w2.cell? ⟨y + 1, 0, none⟩ = some (.int .i64 (pn : Nat)) ∧ w2.cell? ⟨y + 1, 1, none⟩ = some (.int .i64 o.unit) ∧ w2.cell? ⟨y + 1, 3, none⟩ = some (.int .i64 o.arg)) := by
    obtain ⟨q0, q1, q2, q3⟩ := OC1.out
    simp only [Nat.zero_add] at q1 q2 q3
    rw [NN.out.1] at q0
    exact ⟨F2.out.cell q0 (fun e => gs1 e.symm), F2.out.cell q1 (fun e => gs1 e.symm), F2.out.cell q3 (fun e => gs1 e.symm)⟩
  have QB : Hid (∀ q, (Value.slice a8 qs.length h8).ownBlock = some q → b1 ≤ q ∧ q < y) := fun q hq => by
    refine ⟨(J2.out.block q hq).1, ?_⟩
    rw [← HY.out]
    exact JL.out q hq
  have CB : Hid (∀ V, Fr (fun q => (Value.slice a8 qs.length h8).ownBlock = some q) w2 V → (V.cell? ⟨z, 8, none⟩ = some (.slice a8 qs.length h8) ∧ V.cell? ⟨y + 1, 0, none⟩ = some (.int .i64 (pn : Nat)) ∧ V.cell? ⟨y + 1, 1, none⟩ = some (.int .i64 o.unit) ∧ V.cell? ⟨y + 1, 3, none⟩ = some (.int .i64 o.arg) ∧ V.cell? ⟨y, 7, none⟩ = some (.int .i64 k.n6))) := fun V hV => by
    have hy1 : ¬ (Value.slice a8 qs.length h8).ownBlock = some (y + 1) := fun e => by have := (QB.out _ e).2; omega
    have hy0 : ¬ (Value.slice a8 qs.length h8).ownBlock = some y := fun e => by have := (QB.out _ e).2; omega
    have hzq : ¬ (Value.slice a8 qs.length h8).ownBlock = some z := fun e => by have := (QB.out _ e).1; have := NN.out.2.2.1; omega
    obtain ⟨-, -, -, -, -, -, -, -, x8⟩ := X2.out.cells
    have c7 := KC2.out.c7
    simp only [Nat.zero_add] at c7
    exact ⟨hV.cell x8 hzq, hV.cell OC2.out.1 hy1, hV.cell OC2.out.2.1 hy1, hV.cell OC2.out.2.2 hy1, hV.cell c7 hy0⟩
  go_upto_region 2 with fail
  refine wp_region_two [(true, 0), (true, 1), (true, 2), (true, 3), (true, 4), (true, 5), (true, 6), (true, 7), (true, 8), (true, 9), (true, 10), (true, 11), (true, 12), (true, 13), (true, 14), (false, 15), (false, 16), (true, 17), (true, 18)] [(false, 19)] (fun V => V.cell? ⟨z, 8, none⟩ = some (.slice a8 qs.length h8) ∧ V.cell? ⟨y + 1, 0, none⟩ = some (.int .i64 (pn : Nat)) ∧ V.cell? ⟨y + 1, 1, none⟩ = some (.int .i64 o.unit) ∧ V.cell? ⟨y + 1, 3, none⟩ = some (.int .i64 o.arg) ∧ V.cell? ⟨y, 7, none⟩ = some (.int .i64 k.n6)) (by kernel_rfl) (by kernel_rfl) (by kernel_rfl) (by decide +kernel) (by decide +kernel) (CB.out _ (Fr.below (Below.refl _ _).drew)) ?_
  have D3 : Hid (Below w2.heap.size w2 { w2 with drawn := w2.drawn + 1 }) := (Below.refl _ _).drew
  generalize ({ w2 with drawn := w2.drawn + 1 } : World) = w3 at *
  refine headT_read rfl (.pointer (some ⟨z, 0, none⟩)) (by go_simp) (fun V hV => by go_simp) ?_
  go_simp
  refine headT_read rfl (.pointer (some ⟨z, 0, none⟩)) (by go_simp) (fun V hV => by go_simp) ?_
  go_simp
  refine headT_read rfl (.pointer (some ⟨z, 0, none⟩)) (by go_simp) (fun V hV => by go_simp) ?_
  go_simp
  refine headT_read rfl (.pointer (some ⟨z, 8, none⟩)) (by go_simp) (fun V hV => by go_simp) ?_
  go_simp
  refine headT_read rfl (.slice a8 qs.length h8) (by go_simp) (fun V hV => by obtain ⟨d1, d2, d3, d4, d5⟩ := hV; go_simp) ?_
  go_simp
  refine headT_read rfl (.pointer (some ⟨y + 1, 0, none⟩)) (by go_simp) (fun V hV => by go_simp) ?_
  go_simp
  refine headT_read rfl (.int .i64 (pn : Nat)) (by go_simp) (fun V hV => by obtain ⟨d1, d2, d3, d4, d5⟩ := hV; go_simp) ?_
  go_simp
  refine headT_read rfl (.pointer (some ⟨y + 1, 1, none⟩)) (by go_simp) (fun V hV => by go_simp) ?_
  go_simp
  refine headT_read rfl (.int .i64 o.unit) (by go_simp) (fun V hV => by obtain ⟨d1, d2, d3, d4, d5⟩ := hV; go_simp) ?_
  go_simp
  refine headT_read rfl (.pointer (some ⟨y + 1, 3, none⟩)) (by go_simp) (fun V hV => by go_simp) ?_
  go_simp
  refine headT_read rfl (.int .i64 o.arg) (by go_simp) (fun V hV => by obtain ⟨d1, d2, d3, d4, d5⟩ := hV; go_simp) ?_
  go_simp
  refine headT_read rfl (.pointer (some ⟨y, 7, none⟩)) (by go_simp) (fun V hV => by go_simp) ?_
  go_simp
  refine headT_read rfl (.int .i64 k.n6) (by go_simp) (fun V hV => by obtain ⟨d1, d2, d3, d4, d5⟩ := hV; go_simp) ?_
  go_simp
  refine headT_read rfl (.int .i64 tt) (by go_simp) (fun V hV => by have h9 := HT.out; first | (go_simp; done) | (go_simp; rw [h9]) | (simp [h9]; go_simp)) ?_
  go_simp
  refine headT_read rfl (.agg #[.int .i64 (pn : Nat), .int .i64 o.unit, .int .i64 o.arg, .int .i64 tt]) (by go_simp) (fun V hV => by go_simp) ?_
  go_simp
  have BA : Hid (Below w3.heap.size w3 (w3.alloc (Obj.cells #[.int .i64 (pn : Nat), .int .i64 o.unit, .int .i64 o.arg, .int .i64 tt] 94))) := (Below.refl _ _).alloc (Nat.le_refl _) _
  have EC : Hid (Jbc (w3.alloc (Obj.cells #[.int .i64 (pn : Nat), .int .i64 o.unit, .int .i64 o.arg, .int .i64 tt] 94)) ⟨w3.heap.size, 0, none⟩ ⟨(pn : Nat), o.unit, o.arg, tt⟩) := Jbc.mk' (w := w3) ⟨(pn : Nat), o.unit, o.arg, tt⟩ rfl
  refine headT_value rfl (.slice (some ⟨w3.heap.size, 0, none⟩) 1 1) (w3.alloc (Obj.cells #[.int .i64 (pn : Nat), .int .i64 o.unit, .int .i64 o.arg, .int .i64 tt] 94)) (by go_simp) (by go_simp) (CB.out _ (Fr.below (D3.out.trans (BA.out.mono D3.out.size)))) ?_
  go_simp
  generalize (w3.alloc (Obj.cells #[.int .i64 (pn : Nat), .int .i64 o.unit, .int .i64 o.arg, .int .i64 tt] 94)) = w4 at *
  have D4 : Hid (Below w2.heap.size w2 w4) := D3.out.trans (BA.out.mono D3.out.size)
  have J4 : Hid (Jbo w4 b1 (.slice a8 qs.length h8) qs) := J2.out.below D4.out
  have S4 : Hid (b1 ≤ w4.heap.size ∧ w.heap.size ≤ w4.heap.size) := by have h1 := D4.out.size; have h2 := F2.out.size; have h3 := B1.out.size; have h4 := NN.out.2.2.2.2.1; exact ⟨by omega, by omega⟩
  obtain ⟨gq, gc, w5, hr, ho5, hg5, hw5, -⟩ := run_jb w4 27 b1 _ qs J4.out _ _ EC.out (by omega) S4.out.1
  have FQ : Hid (Fr (fun q => (Value.slice a8 qs.length h8).ownBlock = some q) w2 w5) := (Fr.below D4.out).trans (Fr.gb hg5 (fun q hq => hq))
  refine headT_value rfl (.slice (some ⟨gq, 0, none⟩) (qs.length + 1) gc) w5 (by go_simp) (exec_append _ _ _ _ rfl _ _ (by go_simp) (by go_simp) hr) (CB.out _ FQ.out) ?_
  go_simp
  refine headT_read rfl (.pointer (some ⟨z, 0, none⟩)) (by go_simp) (fun V hV => by go_simp) ?_
  go_simp
  refine headT_read rfl (.pointer (some ⟨z, 8, none⟩)) (by go_simp) (fun V hV => by go_simp) ?_
  go_simp
  unfold wpHeadT
  have X5 : Hid (Wx w5 z c0 c1 c2 c3 c4 c5 (.slice (some ⟨gg, 0, none⟩) n cg) c7 (.slice a8 qs.length h8)) := FQ.out.wx X2.out (fun e => by have := (QB.out _ e).1; have := NN.out.2.2.1; omega)
  have t8 := X5.out.thaw 8
  obtain ⟨-, -, -, -, -, -, -, -, x8⟩ := X5.out.cells
  have KX : Hid (Kp z w5 (w5.setCell ⟨z, 8, none⟩ (.slice (some ⟨gq, 0, none⟩) (qs.length + 1) gc))) := Kp.set _ _ _
  have X6 : Hid (Wx (w5.setCell ⟨z, 8, none⟩ (.slice (some ⟨gq, 0, none⟩) (qs.length + 1) gc)) z c0 c1 c2 c3 c4 c5 (.slice (some ⟨gg, 0, none⟩) n cg) c7 (.slice (some ⟨gq, 0, none⟩) (qs.length + 1) gc)) := X5.out.set8 _
  have J5 : Hid (Jbo w5 b1 (.slice (some ⟨gq, 0, none⟩) (qs.length + 1) gc) (qs ++ [⟨(pn : Nat), o.unit, o.arg, tt⟩])) := ho5
  have GQ : Hid ((Value.slice (some ⟨gq, 0, none⟩) (qs.length + 1) gc).ownBlock = (Value.slice a8 qs.length h8).ownBlock ∨ ∃ q, (Value.slice (some ⟨gq, 0, none⟩) (qs.length + 1) gc).ownBlock = some q ∧ w.heap.size ≤ q) := by
    rcases hw5 with h | h
    · exact .inl h.symm
    · exact .inr ⟨gq, rfl, by rw [h]; exact S4.out.2⟩
  clear hr ho5 hg5 hw5
  refine sched_skip rfl (w5.setCell ⟨z, 8, none⟩ (.slice (some ⟨gq, 0, none⟩) (qs.length + 1) gc)) (by go_simp) (by go_simp) trivial ?_
  go_simp
  clear t8 x8
  generalize (w5.setCell ⟨z, 8, none⟩ (.slice (some ⟨gq, 0, none⟩) (qs.length + 1) gc)) = w6 at *
  unfold wpSched
  have FA : Hid (Fr (fun q => q = z ∨ q = gg ∨ (Value.slice a8 qs.length h8).ownBlock = some q) w w6) := (((Fr.below B1.out).trans (F2.out.mono (fun q h => .inr (.inl h)))).trans (FQ.out.mono (fun q h => .inr (.inr h)))).trans (Fr.kp KX.out (.inl rfl))
  have G6 : Hid (Bk w6 gg (gold.set pn (g - k.n5)) rest) := by
    have h5 : Bk w5 gg (gold.set pn (g - k.n5)) rest := (FQ.out.block gg G2.out.lt NN.out.2.2.2.2.2.1).trans G2.out
    exact (KX.out.block gg (lt_of_block h5) (fun e => zg e.symm)).trans h5
  have J6 : Hid (Jbo w6 b1 (.slice (some ⟨gq, 0, none⟩) (qs.length + 1) gc) (qs ++ [⟨o.player, o.unit, o.arg, tt⟩])) := by
    have h5 := J5.out
    rw [← NN.out.1] at h5
    exact h5.kp KX.out NN.out.2.2.1
  go_wp2
  go_end0
  exact ⟨rfl, _, _, X6.out, G6.out, J6.out, FA.out, GQ.out⟩
end Go.Proofs.YtoabhfipikkkeaaGreatDoor

namespace Go.Proofs.YtoabhfipikkkeaaGreatDoor
open Go.RowKit
set_option linter.unusedVariables false

set_option maxHeartbeats 400000 in
theorem owin_any (x b : Int) (w : World) :
    Calls Tryz.prog 205 #[.int .i64 x, .int .i64 b] w fun e w' => e = .returned (.bool (decide (0 ≤ x ∧ x ≤ b))) ∧ w' = w := by
  by_cases h1 : 0 ≤ x
  · by_cases h2 : x ≤ b
    · go_enter Tryz.func205, Tryz.ntmps205
      go_wp2
      go_ret
      exact ⟨by simp [h1, h2], rfl⟩
    · go_enter Tryz.func205, Tryz.ntmps205
      go_wp2
      go_ret
      exact ⟨by simp; omega, rfl⟩
  · go_enter Tryz.func205, Tryz.ntmps205
    go_wp2
    go_ret
    exact ⟨by simp; omega, rfl⟩
theorem owin_is (x b : Int) (r : Bool) (h : decide (0 ≤ x ∧ x ≤ b) = r) : Hid (∀ w, Calls Tryz.prog 205 #[.int .i64 x, .int .i64 b] w fun e w' => e = .returned (.bool r) ∧ w' = w) :=
  fun w => (owin_any x b w).mono fun e w' ⟨h', hw⟩ => ⟨by rw [h', h], hw⟩

def OrdSays (o : OrV) (w : World) (e : Ending) (w' : World) : Prop := ∃ v, e = .returned v ∧ Er v (Od.fault o) ∧ Below w.heap.size w w'
set_option maxRecDepth 100000 in
set_option maxHeartbeats 4000000 in
theorem checkOrder_any (o : OrV) (w : World) : Calls Tryz.prog 169 #[o.val] w (OrdSays o w) := by
  obtain ⟨p, u, n, a⟩ := o
  have BB : Hid (Below w.heap.size w (w.alloc (Obj.cells #[.int .i64 p, .int .i64 u, .int .i64 n, .int .i64 a] 86))) := (Below.refl _ _).alloc (Nat.le_refl _) _
  have bad1 : Od.bad ⟨p, u, n, a⟩ → ∀ w', Hid (Below w.heap.size w w') → OrdSays ⟨p, u, n, a⟩ w (.returned (.iface 99 (.int .i64 1))) w' := fun hb w' hB => ⟨_, rfl, by rw [Od.fault_bad hb]; exact Er.no (by decide), hB⟩
  have B1 : Hid (Od.bad ⟨p, u, n, a⟩ → ∀ w', Hid (Below w.heap.size w w') → OrdSays ⟨p, u, n, a⟩ w (.returned (.iface 99 (.int .i64 1))) w') := bad1
  clear bad1
  unfold OrV.val
  simp only
  by_cases h1 : 0 ≤ p ∧ p ≤ 3
  · have W1 := owin_is p 3 true (decide_eq_true h1)
    by_cases h2 : 0 ≤ u ∧ u ≤ 1000000
    · have W2 := owin_is u 1000000 true (decide_eq_true h2)
      by_cases h3 : 0 ≤ a ∧ a ≤ 1000000
      · have W3 := owin_is a 1000000 true (decide_eq_true h3)
        by_cases h4 : 0 ≤ n ∧ n ≤ 3
        · have W4 := owin_is n 3 true (decide_eq_true h4)
          by_cases h5 : n = 0
          · subst h5
            by_cases h6 : a = 0
            · subst h6
              go_enter Tryz.func169, Tryz.ntmps169
              go_wp2_with fail
              refine (W1.out _).mono ?_
              rintro e w' ⟨rfl, rfl⟩
              go_wp2_with fail
              refine (W2.out _).mono ?_
              rintro e w' ⟨rfl, rfl⟩
              go_wp2_with fail
              refine (W3.out _).mono ?_
              rintro e w' ⟨rfl, rfl⟩
              go_wp2_with fail
              refine (W4.out _).mono ?_
              rintro e w' ⟨rfl, rfl⟩
              go_wp2
              go_ret
              exact ⟨_, rfl, by rw [Od.fault_ok (by unfold Od.bad; simp only; omega)]; exact Er.nil, BB⟩
            · have h6b : (a == 0) = false := beq_eq_false_iff_ne.2 h6
              go_enter Tryz.func169, Tryz.ntmps169
              go_wp2_with fail
              refine (W1.out _).mono ?_
              rintro e w' ⟨rfl, rfl⟩
              go_wp2_with fail
              refine (W2.out _).mono ?_
              rintro e w' ⟨rfl, rfl⟩
              go_wp2_with fail
              refine (W3.out _).mono ?_
              rintro e w' ⟨rfl, rfl⟩
              go_wp2_with fail
              refine (W4.out _).mono ?_
              rintro e w' ⟨rfl, rfl⟩
              go_wp2
              go_ret
              exact B1.out (.inr (.inr (.inr (.inr (.inr (.inr (.inr (.inr ⟨rfl, h6⟩)))))))) _ BB
          · have h5b : (n == 0) = false := beq_eq_false_iff_ne.2 h5
            go_enter Tryz.func169, Tryz.ntmps169
            go_wp2_with fail
            refine (W1.out _).mono ?_
            rintro e w' ⟨rfl, rfl⟩
            go_wp2_with fail
            refine (W2.out _).mono ?_
            rintro e w' ⟨rfl, rfl⟩
            go_wp2_with fail
            refine (W3.out _).mono ?_
            rintro e w' ⟨rfl, rfl⟩
            go_wp2_with fail
            refine (W4.out _).mono ?_
            rintro e w' ⟨rfl, rfl⟩
            go_wp2
            go_ret
            exact ⟨_, rfl, by rw [Od.fault_ok (by unfold Od.bad; simp only; omega)]; exact Er.nil, BB⟩
        · have W4 := owin_is n 3 false (decide_eq_false h4)
          go_enter Tryz.func169, Tryz.ntmps169
          go_wp2_with fail
          refine (W1.out _).mono ?_
          rintro e w' ⟨rfl, rfl⟩
          go_wp2_with fail
          refine (W2.out _).mono ?_
          rintro e w' ⟨rfl, rfl⟩
          go_wp2_with fail
          refine (W3.out _).mono ?_
          rintro e w' ⟨rfl, rfl⟩
          go_wp2_with fail
          refine (W4.out _).mono ?_
          rintro e w' ⟨rfl, rfl⟩
          go_wp2
          go_ret
          exact B1.out (by unfold Od.bad; simp only; omega) _ BB
      · have W3 := owin_is a 1000000 false (decide_eq_false h3)
        go_enter Tryz.func169, Tryz.ntmps169
        go_wp2_with fail
        refine (W1.out _).mono ?_
        rintro e w' ⟨rfl, rfl⟩
        go_wp2_with fail
        refine (W2.out _).mono ?_
        rintro e w' ⟨rfl, rfl⟩
        go_wp2_with fail
        refine (W3.out _).mono ?_
        rintro e w' ⟨rfl, rfl⟩
        go_wp2
        go_ret
        exact B1.out (by unfold Od.bad; simp only; omega) _ BB
    · have W2 := owin_is u 1000000 false (decide_eq_false h2)
      go_enter Tryz.func169, Tryz.ntmps169
      go_wp2_with fail
      refine (W1.out _).mono ?_
      rintro e w' ⟨rfl, rfl⟩
      go_wp2_with fail
      refine (W2.out _).mono ?_
      rintro e w' ⟨rfl, rfl⟩
      go_wp2
      go_ret
      exact B1.out (by unfold Od.bad; simp only; omega) _ BB
  · have W1 := owin_is p 3 false (decide_eq_false h1)
    go_enter Tryz.func169, Tryz.ntmps169
    go_wp2_with fail
    refine (W1.out _).mono ?_
    rintro e w' ⟨rfl, rfl⟩
    go_wp2
    go_ret
    exact B1.out (by unfold Od.bad; simp only; omega) _ BB
end Go.Proofs.YtoabhfipikkkeaaGreatDoor

namespace Go.Proofs.YtoabhfipikkkeaaGreatDoor
open Go.RowKit
set_option linter.unusedVariables false

theorem info_or : (Tryz.prog.info? 86).map (fun i => (i.zero, i.size, i.bytes)) = some (some (.agg #[.int .i64 0, .int .i64 0, .int .i64 0, .int .i64 0]), 4, 32) := by kernel_rfl
def OrV.cs (k : OrV) : List Value := [.int .i64 k.player, .int .i64 k.unit, .int .i64 k.what, .int .i64 k.arg]
theorem flat_or : ∀ (ks : List OrV) (i j : Nat) (k : OrV), ks[i]? = some k → j < 4 → (ks.flatMap OrV.cs)[i * 4 + j]? = k.cs[j]?
  | [], i, j, k, h, _ => by simp at h
  | x :: ks, 0, j, k, h, hj => by
    simp at h
    subst h
    rw [List.flatMap_cons, List.getElem?_append_left (by simp [OrV.cs]; omega)]
    simp
  | x :: ks, i + 1, j, k, h, hj => by
    rw [List.flatMap_cons, List.getElem?_append_right (by simp [OrV.cs]; omega)]
    have : (i + 1) * 4 + j - (OrV.cs x).length = i * 4 + j := by simp [OrV.cs]; omega
    rw [this]
    exact flat_or ks i j k (by simpa using h) hj
/-- v is a slice of them, in a block of its own from base on. -/
def Oro (w : World) (base : Nat) (v : Value) (ks : List OrV) : Prop := w.ownsRow base 86 4 v ks.length (ks.flatMap OrV.cs)
theorem Oro.nil (w : World) (base : Nat) : Oro w base (.slice none 0 0) [] := World.ownsRow_nil _ _ _ _
theorem Oro.below {w w' : World} {base : Nat} {v : Value} {ks : List OrV} (h : Oro w base v ks) (hb : Below w.heap.size w w') : Oro w' base v ks :=
  World.ownsRow.kept h (row := none) ⟨hb.os, hb.tape, hb.output, hb.size, fun k hk _ => hb.block k hk⟩ (by cases v.ownBlock <;> simp)
theorem Oro.kept {w w' : World} {base : Nat} {v : Value} {ks : List OrV} {row : Option Nat} (h : Oro w base v ks) (hg : w.grownBy w' row) (hne : v.ownBlock = none ∨ v.ownBlock ≠ row) : Oro w' base v ks := World.ownsRow.kept h hg hne
theorem Oro.alloc {w : World} {base : Nat} {v : Value} {ks : List OrV} (h : Oro w base v ks) (o : Obj) : Oro (w.alloc o) base v ks := World.ownsRow.alloc h o
theorem Oro.block {w : World} {base : Nat} {v : Value} {ks : List OrV} (h : Oro w base v ks) : ∀ k, v.ownBlock = some k → base ≤ k ∧ k < w.heap.size := World.ownsRow.lt h
theorem Oro.mono {w : World} {base base' : Nat} {v : Value} {ks : List OrV} (h : Oro w base v ks) (hb : base' ≤ base) : Oro w base' v ks := by
  refine ⟨h.1, ?_⟩
  rcases h.2 with h1 | ⟨g, cap, cur, h1, h2, h3⟩
  · exact .inl h1
  · exact .inr ⟨g, cap, cur, h1, Nat.le_trans hb h2, h3⟩
theorem Oro.l {w : World} {base : Nat} {v : Value} {ks : List OrV} (h : Oro w base v ks) : Orl w v ks := by
  rcases h.2 with ⟨hv, h0⟩ | ⟨g, cap, cur, hv, hb, hg, h1, h2, h3, h4⟩
  · exact ⟨none, 0, by rw [hv, h0], by omega, by omega, fun hn => absurd (List.length_eq_zero_iff.1 h0) hn⟩
  · refine ⟨_, cap, hv, h1, by unfold maxLen at h2; omega, fun _ => ⟨_, rfl, lt_of_block hg, fun i k hi => ?_⟩⟩
    have hil : i < ks.length := (List.getElem?_eq_some_iff.1 hi).1
    have h5 : w.ownsRow base 86 4 (.slice (some ⟨g, 0, none⟩) ks.length cap) ks.length (ks.flatMap OrV.cs) := by rw [← hv]; exact h
    have hc : ∀ j u, j < 4 → k.cs[j]? = some u → w.cell? ⟨g, i * 4 + j, none⟩ = some u := fun j u hj hu => by
      rw [h5.cellAt (i * 4 + j) (by omega), flat_or ks i j k hi hj, hu]
    rw [Addr.add_lit, Nat.zero_add]
    exact ⟨hc 0 _ (by decide) rfl, hc 1 _ (by decide) rfl, hc 2 _ (by decide) rfl, hc 3 _ (by decide) rfl⟩
theorem Oro.len {w : World} {base : Nat} {v : Value} {ks : List OrV} (h : Oro w base v ks) : ∃ a c, v = .slice a ks.length c := by
  obtain ⟨a, c, h1, -⟩ := h.l
  exact ⟨a, c, h1⟩

/-- one more. -/
theorem app_or {ops : Array Oper} {rest : List Oper} {o : Oper} {a : Act} {Q : Exit → Act → World → Prop} (w : World) (hgd : o.guard = none) (s x : Operand)
    (ho : o.op = .call { callee := .builtin .append, args := #[s, x], argTypes := #[41, 41] }) (base : Nat) (v : Value) (ks : List OrV) (hs : a.eval s = v) (hown : Oro w base v ks)
    (b : Nat) (d : OrV) (hx : a.eval x = .slice (some ⟨b, 0, none⟩) 1 1) (hd : Orc w ⟨b, 0, none⟩ d) (hl : ks.length ≤ 1000000) (hbase : base ≤ w.heap.size)
    (h : ∀ g cap w', Oro w' base (.slice (some ⟨g, 0, none⟩) (ks.length + 1) cap) (ks ++ [d]) → w.grownBy w' v.ownBlock → (v.ownBlock = some g ∨ g = w.heap.size) → g < w'.heap.size → wpList Tryz.prog ops Q rest (a.put o.dst (.slice (some ⟨g, 0, none⟩) (ks.length + 1) cap)) w') :
    wpList Tryz.prog ops Q (o :: rest) a w := by
  obtain ⟨i0, hi, hz0, hz1, hz2⟩ := info_parts info_or
  refine wpList_append_lies w hgd s x 41 ho base 86 i0 (.agg #[.int .i64 0, .int .i64 0, .int .i64 0, .int .i64 0]) 4 32 Tryz.underlying41 hi hz0 hz1 hz2 rfl (by decide) v ks.length _ hs hown ⟨b, 0, none⟩ 1 1 d.cs hx rfl ?_ ?_ (by decide) (by unfold maxLen; omega) (by omega) hbase _ rfl ?_
  · intro j u hj
    have hjn : j < 4 := (List.getElem?_eq_some_iff.1 hj).1
    rw [Addr.add_lit, Nat.zero_add]
    match j, hjn, hj with
    | 0, _, hj => simp [OrV.cs] at hj; subst hj; exact hd.c0
    | 1, _, hj => simp [OrV.cs] at hj; subst hj; exact hd.c1
    | 2, _, hj => simp [OrV.cs] at hj; subst hj; exact hd.c2
    | 3, _, hj => simp [OrV.cs] at hj; subst hj; exact hd.c3
  · intro u hu
    simp [OrV.cs] at hu
    rcases hu with rfl | rfl | rfl | rfl <;> rfl
  · intro g cap w' h1 h2 h3 h4
    refine h g cap w' ?_ h2 h3 h4
    unfold Oro
    rw [List.length_append, List.flatMap_append]
    simpa using h1
end Go.Proofs.YtoabhfipikkkeaaGreatDoor

namespace Go.Proofs.YtoabhfipikkkeaaGreatDoor
open Go.RowKit Go.Proofs.YtoabhfipikkkeaaGreatDoor.So
set_option linter.unusedVariables false

theorem Um.mono {w : World} {b n n' : Nat} {f : Int → Int → Int} (h : Um w b n f) (hn : n ≤ n') : Um w b n' f := by
  obtain ⟨D, h1, h2⟩ := h
  exact ⟨D, h1.mono hn, h2⟩
def OcI (ks : List OrV) (w : World) (j : Value) (W' : World) : Prop := ∃ q : Nat, q ≤ ks.length ∧ j = .int .i64 (q : Nat) ∧ (∀ (i : Nat) o, i < q → ks[i]? = some o → ¬ Od.bad o) ∧ Below w.heap.size w W'
set_option maxRecDepth 100000 in
set_option maxHeartbeats 4000000 in
theorem ocheck_any (v : Value) (ks : List OrV) (w : World) (h : Orl w v ks) :
    Calls Tryz.prog 137 #[v] w fun e w' => ∃ u, e = .returned u ∧ Er u (Od.faults ks) ∧ Below w.heap.size w w' := by
  have K0 : Hid (Orl w v ks) := h
  obtain ⟨R, hR⟩ : ∃ R, Od.faults ks = R := ⟨_, rfl⟩
  have HR : Hid (Od.faults ks = R) := hR
  rw [hR]
  clear hR
  obtain ⟨a, c, rfl, c1, c2, -⟩ := h
  by_cases h8 : 60 < ks.length
  · have E : Hid (R = 4) := by unfold Hid; rw [← HR.out]; unfold Od.faults; rw [if_pos h8]
    have h8' : (60 : Int) < (ks.length : Int) := by omega
    go_enter Tryz.func137, Tryz.ntmps137
    go_wp2
    go_ret
    exact ⟨_, rfl, by rw [E.out]; exact Er.no (by decide), Below.refl _ _⟩
  · have h8' : ¬ (60 : Int) < (ks.length : Int) := by omega
    have LE : Hid (ks.length ≤ 60) := by unfold Hid; omega
    go_enter Tryz.func137, Tryz.ntmps137
    go_wp2_with fail
    go_loopw [12] (fun j W' => OcI ks w j W') (fun j _ => ks.length - (intOf j).toNat)
    case atStart => exact ⟨0, Nat.zero_le _, rfl, fun i o hi => by omega, Below.refl _ _⟩
    case round =>
      obtain ⟨q, hq, rfl, hg, hb⟩ := hrel
      have Gq : Hid (∀ (i : Nat) o, i < q → ks[i]? = some o → ¬ Od.bad o) := hg
      have B : Hid (Below w.heap.size w wr) := hb
      clear hg hb
      by_cases hql : q = ks.length
      · have E : Hid (R = 0) := by
          unfold Hid
          rw [← HR.out]
          refine Od.faults_of LE.out fun o ho => ?_
          obtain ⟨i, hi⟩ := List.mem_iff_getElem?.1 ho
          exact Gq.out i o (by rw [hql]; exact (List.getElem?_eq_some_iff.1 hi).1) hi
        subst hql
        go_wp2
        go_ret
        exact ⟨_, rfl, by rw [E.out]; exact Er.nil, B⟩
      · have hqk : q < ks.length := by omega
        obtain ⟨k, hk⟩ : ∃ k, ks[q]? = some k := ⟨_, List.getElem?_eq_getElem hqk⟩
        have HK : Hid (ks[q]? = some k) := hk
        have K1 := K0.out.below B.out
        have CK : Hid (∀ W : World, Calls Tryz.prog 169 #[k.val] W (OrdSays k W)) := fun W => checkOrder_any k W
        obtain ⟨F, hF⟩ : ∃ F, Od.fault k = F := ⟨_, rfl⟩
        have HF : Hid (Od.fault k = F) := hF
        clear hF
        obtain ⟨a', c', e, -, -, h3⟩ := K1
        injection e with e1 e2 e3
        subst e1 e3
        obtain ⟨x, rfl, hx1, hx⟩ := h3 (by rintro rfl; simp at hqk)
        have Yc := hx q k hk
        clear hx h3 e2 hk
        obtain ⟨q0, q1, q2, q3⟩ := Yc
        unfold OrV.val at CK
        go_upto_region 6 with fail
        have B1 : Hid (Below wr.heap.size wr (wr.alloc (Obj.cells #[.int .i64 k.player, .int .i64 k.unit, .int .i64 k.what, .int .i64 k.arg] 86))) := (Below.refl _ _).alloc (Nat.le_refl _) _
        have X1 := Orc.mk' (w := wr) k rfl
        clear q0 q1 q2 q3
        generalize wr.alloc (Obj.cells #[.int .i64 k.player, .int .i64 k.unit, .int .i64 k.what, .int .i64 k.arg] 86) = w1 at *
        obtain ⟨x0, x1, x2, x3⟩ := X1
        simp only [Nat.zero_add] at x1 x2 x3
        go_wp2_with fail
        refine Calls.mono (CK.out w1) ?_
        rintro e w2 ⟨u, rfl, hu, b2⟩
        rw [HF.out] at hu
        have B3 : Hid (Below w.heap.size w w2) := B.out.trans ((B1.out.trans (b2.mono B1.out.size)).mono B.out.size)
        clear b2 CK x0 x1 x2 x3 B1
        rcases hu with ⟨hF, rfl⟩ | ⟨hF, rfl⟩
        · have G2 : Hid (∀ (i : Nat) o, i < q + 1 → ks[i]? = some o → ¬ Od.bad o) := fun i o hi ho => by
            by_cases e : i = q
            · subst e
              rw [HK.out] at ho
              obtain rfl := Option.some.inj ho
              intro hbad
              have := HF.out
              rw [Od.fault_bad hbad] at this
              omega
            · exact Gq.out i o (by omega) ho
          go_wp2
          go_round
          case rel => exact ⟨q + 1, by omega, by go_num, G2, B3⟩
          case measure => simp [intOf]; omega
        · have E : Hid (R = F ∧ F ≠ 0) := by
            have hbad : Od.bad k := by
              rcases Classical.em (Od.bad k) with h | h
              · exact h
              · exact absurd (HF.out.symm.trans (Od.fault_ok h)) hF
            refine ⟨?_, hF⟩
            rw [← HR.out, ← HF.out, Od.fault_bad hbad]
            unfold Od.faults
            rw [if_neg (by have := LE.out; omega), if_pos (List.any_eq_true.2 ⟨k, List.mem_of_getElem? HK.out, decide_eq_true hbad⟩)]
          clear hF
          go_wp2
          go_ret
          exact ⟨_, rfl, by rw [E.out.1]; exact Er.no E.out.2, B3⟩
set_option maxHeartbeats 1000000 in
theorem unitOf_any (o : OrV) (w : World) : Calls Tryz.prog 139 #[o.val] w fun e w' => e = .returned (.agg #[.int .i64 o.player, .int .i64 o.unit]) ∧ Below w.heap.size w w' := by
  unfold OrV.val
  go_enter Tryz.func139, Tryz.ntmps139
  go_wp2
  refine bodyPost_ret (v := .agg #[.int .i64 o.player, .int .i64 o.unit]) (by simp [results, Tryz.results139, go_sem]) rfl ⟨rfl, ?_⟩
  exact ((Below.refl _ _).alloc (Nat.le_refl _) _).alloc (by simp) _
def LoI (ks : List OrV) (w : World) (j : Value) (W' : World) : Prop := ∃ q : Nat, q ≤ ks.length ∧ j = .int .i64 (q : Nat) ∧ Um W' w.heap.size q (lf ks q) ∧ Below w.heap.size w W'
set_option maxRecDepth 100000 in
set_option maxHeartbeats 4000000 in
theorem lastOnes_any (v : Value) (ks : List OrV) (w : World) (h : Orl w v ks) (hl : ks.length ≤ 60) (hb : ∀ o ∈ ks, ¬ Od.bad o) :
    Calls Tryz.prog 138 #[v] w fun e w' => ∃ b n, e = .returned (.map (some b)) ∧ Um w' b n (lf ks ks.length) ∧ w.heap.size ≤ b ∧ Below w.heap.size w w' := by
  have K0 : Hid (Orl w v ks) := h
  have HB : Hid (∀ o ∈ ks, ¬ Od.bad o) := hb
  have LE : Hid (ks.length ≤ 60) := hl
  obtain ⟨a, c, rfl, c1, c2, -⟩ := h
  have hmm := @run_makeMap Tryz.prog
  clear hb
  go_enter Tryz.func138, Tryz.ntmps138
  go_wp2_with fail
  go_loopw [9] (fun j W' => LoI ks w j W') (fun j _ => ks.length - (intOf j).toNat)
  case atStart => exact ⟨0, Nat.zero_le _, rfl, um_made w, (Below.refl _ _).alloc (Nat.le_refl _) _⟩
  case round =>
    obtain ⟨q, hq, rfl, hg, hb⟩ := hrel
    have Gq : Hid (Um wr w.heap.size q (lf ks q)) := hg
    have B : Hid (Below w.heap.size w wr) := hb
    clear hg hb
    by_cases hql : q = ks.length
    · subst hql
      go_wp2
      go_ret
      exact ⟨_, _, rfl, Gq, Nat.le_refl _, B⟩
    · have hqk : q < ks.length := by omega
      obtain ⟨k, hk⟩ : ∃ k, ks[q]? = some k := ⟨_, List.getElem?_eq_getElem hqk⟩
      have HK : Hid (ks[q]? = some k) := hk
      have OK := Od.ok_of (HB.out k (List.mem_of_getElem? hk))
      have WF : Hid ((Lit.int .i64 k.player).wf = true ∧ (Lit.int .i64 k.unit).wf = true ∧ (Lit.int .i64 ((q : Nat) : Int)).wf = true) := ⟨wf64 (by omega) (by omega), wf64 (by omega) (by omega), wf64 (by omega) (by omega)⟩
      have K1 := K0.out.below B.out
      obtain ⟨a', c', e, -, -, h3⟩ := K1
      injection e with e1 e2 e3
      subst e1 e3
      obtain ⟨x, rfl, hx1, hx⟩ := h3 (by rintro rfl; simp at hqk)
      have Yc := hx q k hk
      clear hx h3 e2 hk OK
      obtain ⟨q0, q1, q2, q3⟩ := Yc
      go_upto_region 5 with fail
      have B1 : Hid (Below wr.heap.size wr (wr.alloc (Obj.cells #[.int .i64 k.player, .int .i64 k.unit, .int .i64 k.what, .int .i64 k.arg] 86))) := (Below.refl _ _).alloc (Nat.le_refl _) _
      have X1 := Orc.mk' (w := wr) k rfl
      clear q0 q1 q2 q3
      generalize wr.alloc (Obj.cells #[.int .i64 k.player, .int .i64 k.unit, .int .i64 k.what, .int .i64 k.arg] 86) = w1 at *
      have G1 : Hid (Um w1 w.heap.size q (lf ks q)) := Gq.out.below B1.out
      have B2 : Hid (Below w.heap.size w w1) := B.out.trans (B1.out.mono B.out.size)
      obtain ⟨x0, x1, x2, x3⟩ := X1
      simp only [Nat.zero_add] at x1 x2 x3
      by_cases h3 : k.what = 3
      · have NX : Hid (Um w1 w.heap.size (q + 1) (lf ks (q + 1))) := by unfold Hid; rw [lf_train HK.out h3]; exact G1.out.mono (by omega)
        go_wp2
        go_round
        case rel => exact ⟨q + 1, by omega, by go_num, NX, B2⟩
        case measure => simp [intOf]; omega
      · have h3b : (k.what == 3) = false := beq_eq_false_iff_ne.2 h3
        go_wp2_with fail
        refine Calls.mono (unitOf_any k w1) ?_
        rintro e w2 ⟨rfl, b2⟩
        have B3 : Hid (Below w.heap.size w w2) := B2.out.trans (b2.mono B2.out.size)
        have G2 : Hid (Um w2 w.heap.size q (lf ks q)) := G1.out.below b2
        obtain ⟨w3, r3, o3, g3⟩ := G2.out.put (by have := LE.out; unfold maxLen; omega) WF.out.1 WF.out.2.1 WF.out.2.2
        have NX : Hid (Um w3 w.heap.size (q + 1) (lf ks (q + 1))) := by unfold Hid; rw [lf_other HK.out h3]; exact o3
        have B4 : Hid (Below w.heap.size w w3) := B3.out.grown g3 B3.out.size (fun k hk => by cases hk; exact Nat.le_refl _)
        clear b2 o3 g3 x0 x1 x2 x3
        go_wp2
        go_round
        case rel => exact ⟨q + 1, by omega, by go_num, NX, B4⟩
        case measure => simp [intOf]; omega
end Go.Proofs.YtoabhfipikkkeaaGreatDoor

namespace Go.Proofs.YtoabhfipikkkeaaGreatDoor
open Go.RowKit
set_option linter.unusedVariables false

/-- block g has these orders, and more behind them. -/
def Rb (w : World) (g : Nat) (ks : List OrV) (rest : List Value) : Prop := w.heap[g]? = some (.cells (ks.flatMap OrV.cs ++ rest).toArray 86 (0, 0))
theorem Rb.lt {w : World} {g : Nat} {ks : List OrV} {rest : List Value} (h : Rb w g ks rest) : g < w.heap.size := lt_of_block h
theorem Rb.thaw {w : World} {g : Nat} {ks : List OrV} {rest : List Value} (h : Rb w g ks rest) (i : Nat) : w.frozen? ⟨g, i, none⟩ = false := by
  unfold Rb at h
  simp [World.frozen?, h]
theorem Rb.below {w w' : World} {g B : Nat} {ks : List OrV} {rest : List Value} (h : Rb w g ks rest) (hb : Below B w w') (hB : g < B) : Rb w' g ks rest := by
  unfold Rb at *
  rw [hb.block g hB]; exact h
theorem oflat_len (ks : List OrV) : (ks.flatMap OrV.cs).length = ks.length * 4 := by
  induction ks with
  | nil => rfl
  | cons k ks ih =>
    rw [List.flatMap_cons, List.length_append, ih, List.length_cons]
    simp [OrV.cs]
    omega
theorem Rb.at_ {w : World} {g : Nat} {ks : List OrV} {rest : List Value} (h : Rb w g ks rest) {i : Nat} {o : OrV} (ho : ks[i]? = some o) {j : Nat} (hj : j < 4) : w.cell? ⟨g, i * 4 + j, none⟩ = o.cs[j]? := by
  unfold Rb at h
  have hi : i < ks.length := (List.getElem?_eq_some_iff.1 ho).1
  simp only [World.cell?, h]
  have e : (ks.flatMap OrV.cs ++ rest).toArray[i * 4 + j]? = o.cs[j]? := by
    rw [List.getElem?_toArray, List.getElem?_append_left (by rw [oflat_len]; omega), flat_or ks i j o ho hj]
  simp only [e]
  simp
theorem Rb.cells {w : World} {g : Nat} {ks : List OrV} {rest : List Value} (h : Rb w g ks rest) {i : Nat} {o : OrV} (ho : ks[i]? = some o) :
    w.cell? ⟨g, i * 4, none⟩ = some (.int .i64 o.player) ∧ w.cell? ⟨g, i * 4 + 1, none⟩ = some (.int .i64 o.unit) ∧ w.cell? ⟨g, i * 4 + 2, none⟩ = some (.int .i64 o.what) ∧ w.cell? ⟨g, i * 4 + 3, none⟩ = some (.int .i64 o.arg) :=
  ⟨h.at_ ho (j := 0) (by decide), h.at_ ho (j := 1) (by decide), h.at_ ho (j := 2) (by decide), h.at_ ho (j := 3) (by decide)⟩
theorem oflat_set : ∀ (ks : List OrV) (i : Nat) (o : OrV) (rest : List Value), i < ks.length →
    (ks.set i o).flatMap OrV.cs ++ rest = ((((ks.flatMap OrV.cs ++ rest).set (i * 4) (.int .i64 o.player)).set (i * 4 + 1) (.int .i64 o.unit)).set (i * 4 + 2) (.int .i64 o.what)).set (i * 4 + 3) (.int .i64 o.arg)
  | [], i, o, rest, h => by simp at h
  | k :: ks, 0, o, rest, _ => by
    simp [OrV.cs]
  | k :: ks, i + 1, o, rest, h => by
    have ih := oflat_set ks i o rest (by simpa using h)
    rw [show (i + 1) * 4 = i * 4 + 4 by omega, show i * 4 + 4 + 1 = i * 4 + 1 + 4 by omega, show i * 4 + 4 + 2 = i * 4 + 2 + 4 by omega, show i * 4 + 4 + 3 = i * 4 + 3 + 4 by omega, List.set_cons_succ, List.flatMap_cons, List.append_assoc, ih, List.flatMap_cons]
    simp [OrV.cs]
theorem Rb.put {w : World} {g : Nat} {ks : List OrV} {rest : List Value} (h : Rb w g ks rest) {i : Nat} (hi : i < ks.length) (o : OrV) :
    Rb ((((w.setCell ⟨g, i * 4, none⟩ (.int .i64 o.player)).setCell ⟨g, i * 4 + 1, none⟩ (.int .i64 o.unit)).setCell ⟨g, i * 4 + 2, none⟩ (.int .i64 o.what)).setCell ⟨g, i * 4 + 3, none⟩ (.int .i64 o.arg)) g (ks.set i o) rest := by
  unfold Rb at *
  have h1 := heap_setCell_same w g (i * 4) _ _ (.int .i64 o.player) h
  have h2 := heap_setCell_same _ g (i * 4 + 1) _ _ (.int .i64 o.unit) h1
  have h3 := heap_setCell_same _ g (i * 4 + 2) _ _ (.int .i64 o.what) h2
  have h4 := heap_setCell_same _ g (i * 4 + 3) _ _ (.int .i64 o.arg) h3
  rw [h4, oflat_set ks i o rest hi]
  simp
theorem rb_below {B g : Nat} {w W : World} {i : Nat} (o : OrV) (h : Below B w W) (hb : B ≤ g) :
    Below B w ((((W.setCell ⟨g, i * 4, none⟩ (.int .i64 o.player)).setCell ⟨g, i * 4 + 1, none⟩ (.int .i64 o.unit)).setCell ⟨g, i * 4 + 2, none⟩ (.int .i64 o.what)).setCell ⟨g, i * 4 + 3, none⟩ (.int .i64 o.arg)) :=
  (((h.setCell (p := ⟨g, i * 4, none⟩) hb _).setCell (p := ⟨g, i * 4 + 1, none⟩) hb _).setCell (p := ⟨g, i * 4 + 2, none⟩) hb _).setCell (p := ⟨g, i * 4 + 3, none⟩) hb _
end Go.Proofs.YtoabhfipikkkeaaGreatDoor

namespace Go.Proofs.YtoabhfipikkkeaaGreatDoor
open Go.RowKit
set_option linter.unusedVariables false

set_option maxRecDepth 100000 in
set_option maxHeartbeats 4000000 in
theorem compare_any (a b : OrV) (w : World) : Calls Tryz.prog 141 #[a.val, b.val] w fun e w' => e = .returned (.int .i64 (cmpo a b)) ∧ Below w.heap.size w w' := by
  obtain ⟨p, u, n, x⟩ := a
  obtain ⟨p', u', n', x'⟩ := b
  have ba := (Below.refl w.heap.size w).alloc (Nat.le_refl _) (Obj.cells #[.int .i64 p, .int .i64 u, .int .i64 n, .int .i64 x] 86)
  have B0 : Hid (Below w.heap.size w ((w.alloc (Obj.cells #[.int .i64 p, .int .i64 u, .int .i64 n, .int .i64 x] 86)).alloc (Obj.cells #[.int .i64 p', .int .i64 u', .int .i64 n', .int .i64 x'] 86))) := ba.alloc (by simp) _
  have Oa : Hid (Orc ((w.alloc (Obj.cells #[.int .i64 p, .int .i64 u, .int .i64 n, .int .i64 x] 86)).alloc (Obj.cells #[.int .i64 p', .int .i64 u', .int .i64 n', .int .i64 x'] 86)) ⟨w.heap.size, 0, none⟩ ⟨p, u, n, x⟩) := (Orc.mk' (w := w) ⟨p, u, n, x⟩ rfl).below ((Below.refl _ _).alloc (Nat.le_refl _) _) (by simp)
  have Ob : Hid (Orc ((w.alloc (Obj.cells #[.int .i64 p, .int .i64 u, .int .i64 n, .int .i64 x] 86)).alloc (Obj.cells #[.int .i64 p', .int .i64 u', .int .i64 n', .int .i64 x'] 86)) ⟨w.heap.size + 1, 0, none⟩ ⟨p', u', n', x'⟩) := Orc.mk' ⟨p', u', n', x'⟩ (by simp)
  clear ba
  unfold OrV.val
  simp only
  go_enter Tryz.func141, Tryz.ntmps141
  go_upto_region 1 with fail
  generalize ((w.alloc (Obj.cells #[.int .i64 p, .int .i64 u, .int .i64 n, .int .i64 x] 86)).alloc (Obj.cells #[.int .i64 p', .int .i64 u', .int .i64 n', .int .i64 x'] 86)) = w2 at *
  have FC : Hid (∀ W, Below w2.heap.size w2 W → W.cell? ⟨w.heap.size, 0, none⟩ = some (.int .i64 p) ∧ W.cell? ⟨w.heap.size, 1, none⟩ = some (.int .i64 u) ∧ W.cell? ⟨w.heap.size, 2, none⟩ = some (.int .i64 n) ∧ W.cell? ⟨w.heap.size, 3, none⟩ = some (.int .i64 x) ∧ W.cell? ⟨w.heap.size + 1, 0, none⟩ = some (.int .i64 p') ∧ W.cell? ⟨w.heap.size + 1, 1, none⟩ = some (.int .i64 u') ∧ W.cell? ⟨w.heap.size + 1, 2, none⟩ = some (.int .i64 n') ∧ W.cell? ⟨w.heap.size + 1, 3, none⟩ = some (.int .i64 x')) := fun W hW => by
    have a := Oa.out.below hW Oa.out.lt
    have b := Ob.out.below hW Ob.out.lt
    obtain ⟨a0, a1, a2, a3⟩ := a
    obtain ⟨b0, b1, b2, b3⟩ := b
    simp only [Nat.zero_add] at a0 a1 a2 a3 b0 b1 b2 b3
    exact ⟨a0, a1, a2, a3, b0, b1, b2, b3⟩
  have CI : Hid (∀ (i j : Int) W, Below w2.heap.size w2 W → Calls Tryz.prog 172 #[.int .i64 i, .int .i64 j] W fun e w' => e = .returned (.int .i64 (sgn i j)) ∧ Below w2.heap.size w2 w') := fun i j W hW => (cmpint_any i j W).mono fun e w' ⟨h1, h2⟩ => ⟨h1, by rw [h2]; exact hW⟩
  have CR : Hid (∀ (o : OrV) W, Below w2.heap.size w2 W → Calls Tryz.prog 173 #[.agg #[.int .i64 o.player, .int .i64 o.unit, .int .i64 o.what, .int .i64 o.arg]] W fun e w' => e = .returned (.int .i64 (rnk o)) ∧ Below w2.heap.size w2 w') := fun o W hW => (rank_any o W).mono fun e w' ⟨h1, h2⟩ => ⟨h1, hW.trans (h2.mono hW.size)⟩
  refine wp_region_class 15 (fun W => Below w2.heap.size w2 W) (by kernel_rfl) (by kernel_rfl) (Below.refl _ _).drew ?_
  simp only [List.take_succ_cons, List.take_zero, List.drop_succ_cons, List.drop_zero]
  refine head_step (.pointer (some ⟨w.heap.size, 0, none⟩)) (by go_simp) (fun W hW => by go_simp) ?_
  go_simp
  refine head_step (.int .i64 p) (by go_simp) (fun W hW => by obtain ⟨a0, -, -, -, -, -, -, -⟩ := FC.out W hW; go_simp) ?_
  go_simp
  refine head_step (.pointer (some ⟨w.heap.size + 1, 0, none⟩)) (by go_simp) (fun W hW => by go_simp) ?_
  go_simp
  refine head_step (.int .i64 p') (by go_simp) (fun W hW => by obtain ⟨-, -, -, -, b0, -, -, -⟩ := FC.out W hW; go_simp) ?_
  go_simp
  refine head_call (Value.int .i64 (sgn p p')) 172 #[.int .i64 p, .int .i64 p'] (by go_simp) (fun W hW => by go_simp) (fun W hW => CI.out p p' W hW) ?_
  go_simp
  refine head_step (.pointer (some ⟨w.heap.size, 1, none⟩)) (by go_simp) (fun W hW => by go_simp) ?_
  go_simp
  refine head_step (.int .i64 u) (by go_simp) (fun W hW => by obtain ⟨-, a1, -, -, -, -, -, -⟩ := FC.out W hW; go_simp) ?_
  go_simp
  refine head_step (.pointer (some ⟨w.heap.size + 1, 1, none⟩)) (by go_simp) (fun W hW => by go_simp) ?_
  go_simp
  refine head_step (.int .i64 u') (by go_simp) (fun W hW => by obtain ⟨-, -, -, -, -, b1, -, -⟩ := FC.out W hW; go_simp) ?_
  go_simp
  refine head_call (Value.int .i64 (sgn u u')) 172 #[.int .i64 u, .int .i64 u'] (by go_simp) (fun W hW => by go_simp) (fun W hW => CI.out u u' W hW) ?_
  go_simp
  refine head_step (.agg #[.int .i64 p, .int .i64 u, .int .i64 n, .int .i64 x]) (by go_simp) (fun W hW => by obtain ⟨a0, a1, a2, a3, -, -, -, -⟩ := FC.out W hW; go_simp) ?_
  go_simp
  refine head_call (Value.int .i64 (rnk ⟨p, u, n, x⟩)) 173 #[.agg #[.int .i64 p, .int .i64 u, .int .i64 n, .int .i64 x]] (by go_simp) (fun W hW => by go_simp) (fun W hW => CR.out ⟨p, u, n, x⟩ W hW) ?_
  go_simp
  refine head_step (Value.agg #[.int .i64 p', .int .i64 u', .int .i64 n', .int .i64 x']) (by go_simp) (fun W hW => by obtain ⟨-, -, -, -, b0, b1, b2, b3⟩ := FC.out W hW; go_simp) ?_
  go_simp
  refine head_call (Value.int .i64 (rnk ⟨p', u', n', x'⟩)) 173 #[Value.agg #[.int .i64 p', .int .i64 u', .int .i64 n', .int .i64 x']] (by go_simp) (fun W hW => by go_simp) (fun W hW => CR.out ⟨p', u', n', x'⟩ W hW) ?_
  go_simp
  refine head_call (Value.int .i64 (sgn (rnk ⟨p, u, n, x⟩) (rnk ⟨p', u', n', x'⟩))) 172 #[Value.int .i64 (rnk ⟨p, u, n, x⟩), .int .i64 (rnk ⟨p', u', n', x'⟩)] (by go_simp) (fun W hW => by go_simp) (fun W hW => CI.out _ _ W hW) ?_
  go_simp
  intro W hW
  obtain ⟨s1, hs1⟩ : ∃ s, sgn p p' = s := ⟨_, rfl⟩
  obtain ⟨s2, hs2⟩ : ∃ s, sgn u u' = s := ⟨_, rfl⟩
  obtain ⟨s3, hs3⟩ : ∃ s, sgn (rnk ⟨p, u, n, x⟩) (rnk ⟨p', u', n', x'⟩) = s := ⟨_, rfl⟩
  have HC : Hid (cmpo ⟨p, u, n, x⟩ ⟨p', u', n', x'⟩ = or3 s1 s2 s3) := by unfold Hid cmpo; rw [hs3]; simp only; rw [hs1, hs2]
  rw [hs1, hs2, hs3]
  have OR := or_any s1 s2 s3 W.heap.size (W.alloc (Obj.cells #[.int .i64 s1, .int .i64 s2, .int .i64 s3] 3)) (by simp) (by simp) (by simp)
  have OR' : Hid (Calls Tryz.prog 171 #[.slice (some ⟨W.heap.size, 0, none⟩) 3 3] (W.alloc (Obj.cells #[.int .i64 s1, .int .i64 s2, .int .i64 s3] 3)) fun e w' => e = .returned (.int .i64 (or3 s1 s2 s3)) ∧ w' = (W.alloc (Obj.cells #[.int .i64 s1, .int .i64 s2, .int .i64 s3] 3))) := OR
  have BB : Hid (Below w.heap.size w (W.alloc (Obj.cells #[.int .i64 s1, .int .i64 s2, .int .i64 s3] 3))) := (B0.out.trans (hW.mono B0.out.size)).alloc (Nat.le_trans B0.out.size hW.size) _
  clear OR hW FC CI CR hs1 hs2 hs3
  go_wp2_with fail
  refine OR'.out.mono ?_
  rintro e w' ⟨rfl, rfl⟩
  go_wp2
  go_ret
  exact ⟨by rw [HC.out]; rfl, BB⟩
end Go.Proofs.YtoabhfipikkkeaaGreatDoor

namespace Go.Proofs.YtoabhfipikkkeaaGreatDoor
open Go.RowKit Go.Proofs.YtoabhfipikkkeaaGreatDoor.So
set_option linter.unusedVariables false

abbrev fs (l : List T) : List OrV := l.map Prod.fst
theorem ecmp : ∀ args w, (callFunc 141 args).run Tryz.prog w = .ok (.enter 141 args) w := enters_of Tryz.func141 (by kernel_rfl) rfl
theorem at_x (A S1 : List T) (x : T) (R : List T) : (fs (A ++ S1 ++ x :: R))[A.length + S1.length]? = some x.1 := by
  simp [fs]
theorem at_y (A S1 : List T) (y : T) (R : List T) : (fs (A ++ (S1 ++ [y]) ++ R))[A.length + S1.length]? = some y.1 := by
  simp [fs]

theorem swap_two {α : Type} : ∀ (P : List α) (y x : α) (R : List α), ((P ++ y :: x :: R).set (P.length + 1) y).set P.length x = P ++ x :: y :: R
  | [], y, x, R => rfl
  | p :: P, y, x, R => by
    have := swap_two P y x R
    simp only [List.cons_append, List.length_cons, List.set_cons_succ]
    rw [this]
/-- between two rounds of the outer loop. -/
def IsoO (A UU B : List T) (g : Nat) (rest : List Value) (w : World) (m a : Nat) (iv : Value) (W : World) : Prop := ∃ (S V : List T), S.Pairwise lt ∧ S ≠ [] ∧ S.Perm (UU.take S.length) ∧ V = UU.drop S.length ∧ S.length ≤ m ∧ iv = .int .i64 ((a + S.length : Nat) : Int) ∧ Rb W g (fs (A ++ S ++ (V ++ B))) rest ∧ Kp g w W
/-- between two rounds of the inner loop. -/
def IsoI (A S : List T) (x : T) (VB : List T) (g : Nat) (rest : List Value) (w : World) (a : Nat) (jv : Value) (W : World) : Prop := ∃ (S1 S2 : List T), jv = .int .i64 ((a + S1.length : Nat) : Int) ∧ S1 ++ S2 = S ∧ (∀ y ∈ S2, lt x y) ∧ Rb W g (fs (A ++ S1 ++ x :: (S2 ++ VB))) rest ∧ Kp g w W
def SortSays (A U B : List T) (g : Nat) (rest : List Value) (w : World) (e : Ending) (w' : World) : Prop := e = .returned (.tuple #[]) ∧ ∃ S, S.Perm U ∧ S.Pairwise lt ∧ Rb w' g (fs (A ++ S ++ B)) rest ∧ Kp g w w'
set_option maxRecDepth 100000 in
set_option maxHeartbeats 8000000 in
theorem isort_any (A U B : List T) (g cap : Nat) (rest : List Value) (w : World) (hU : U.Pairwise (fun x y => x.2 < y.2)) (hr : Rb w g (fs (A ++ U ++ B)) rest) (hn : (A ++ U ++ B).length ≤ 1000) :
    Calls Tryz.prog 206 #[.slice (some ⟨g, 0, none⟩) (A ++ U ++ B).length cap, .int .i64 (A.length : Nat), .int .i64 ((A.length + U.length : Nat) : Int), .func (.func 141) #[] #[]] w
      (SortSays A U B g rest w) := by
  obtain ⟨L, hL⟩ : ∃ L, (A ++ U ++ B).length = L := ⟨_, rfl⟩
  have HL : Hid ((A ++ U ++ B).length = L) := hL
  have HL2 : Hid (A.length + U.length + B.length = L) := by unfold Hid; rw [← hL]; simp; omega
  obtain ⟨a, ha⟩ : ∃ a, A.length = a := ⟨_, rfl⟩
  obtain ⟨m, hm⟩ : ∃ m, U.length = m := ⟨_, rfl⟩
  have Ha : Hid (A.length = a) := ha
  have Hm : Hid (U.length = m) := hm
  have hle : a + m ≤ L := by have := HL2.out; omega
  have R0 : Hid (Rb w g (fs (A ++ U ++ B)) rest) := hr
  have HU : Hid (U.Pairwise (fun x y => x.2 < y.2)) := hU
  rw [hL, ha, hm]
  obtain ⟨q, hq⟩ : ∃ q, a + m = q := ⟨_, rfl⟩
  rw [hq]
  rw [hL] at hn
  clear hL ha hm hr hU
  go_enter Tryz.func206, Tryz.ntmps206
  go_wp2
  cases U with
  | nil =>
    have hm0 : m = 0 := by have := Hm.out; simpa using this.symm
    have hqa : ¬ ((a : Nat) : Int) + 1 < (q : Int) := by omega
    refine wp_loop_rounds 1 ?_
    rw [rounds_succ]
    go_wp2
    go_end0
    exact ⟨rfl, [], List.Perm.refl _, List.Pairwise.nil, R0, Kp.refl _ _⟩
  | cons u U' =>
    have hm1 : 1 ≤ m := by have := Hm.out; simp at this; omega
    go_loopw [8] (fun iv W => IsoO A (u :: U') B g rest w m a iv W) (fun iv _ => q - (intOf iv).toNat)
    case atStart =>
      refine ⟨[u], U', by simp, by simp, by simp, by simp, hm1, by simp, ?_, Kp.refl _ _⟩
      have := R0.out
      simpa using this
    case round =>
      obtain ⟨S, V, hS, hne, hp, hV, hle2, rfl, hrb, hk⟩ := hrel
      have RB : Hid (Rb wr g (fs (A ++ S ++ (V ++ B))) rest) := hrb
      have KK : Hid (Kp g w wr) := hk
      have HS : Hid (S.Pairwise lt ∧ S.Perm ((u :: U').take S.length)) := ⟨hS, hp⟩
      clear hrb hk hS hp
      obtain ⟨i, hi⟩ : ∃ i, a + S.length = i := ⟨_, rfl⟩
      rw [hi]
      by_cases he : S.length = m
      · have hlt : ¬ ((i : Nat) : Int) < ((q : Nat) : Int) := by omega
        have FIN : Hid (∃ S', S'.Perm (u :: U') ∧ S'.Pairwise lt ∧ Rb wr g (fs (A ++ S' ++ B)) rest ∧ Kp g w wr) := by
          have h1 : (u :: U').length = m := Hm.out
          have h2 : V = [] := by rw [hV]; exact List.drop_eq_nil_of_le (by omega)
          have h3 := HS.out.2
          rw [List.take_of_length_le (by omega)] at h3
          have h4 := RB.out
          rw [h2] at h4
          exact ⟨S, h3, HS.out.1, by simpa using h4, KK.out⟩
        clear hV
        go_wp2
        go_end0
        exact ⟨rfl, FIN⟩
      · have hlt : ((i : Nat) : Int) < ((q : Nat) : Int) := by omega
        have hUl : (u :: U').length = m := Hm.out
        obtain ⟨x, V', hVx⟩ : ∃ x V', V = x :: V' := by
          cases hv : V with
          | nil =>
            rw [hV] at hv
            have := List.drop_eq_nil_iff.1 hv
            omega
          | cons x V' => exact ⟨x, V', rfl⟩
        have HX : Hid (∀ y ∈ S, y.2 < x.2) := fun y hy => by
          have hy2 := HS.out.2.mem_iff.1 hy
          have hsp : (u :: U') = (u :: U').take S.length ++ x :: V' := by rw [← hVx, hV, List.take_append_drop]
          have h2 := HU.out
          rw [hsp, List.pairwise_append] at h2
          exact h2.2.2 y hy2 x (List.mem_cons_self ..)
        have HV : Hid ((u :: U').take (S.length + 1) = (u :: U').take S.length ++ [x] ∧ (u :: U').drop (S.length + 1) = V') := by
          have hsp : (u :: U').drop S.length = x :: V' := by rw [← hV, hVx]
          refine ⟨?_, ?_⟩
          · rw [List.take_add_one, ← List.head?_drop, hsp]; rfl
          · rw [← List.drop_drop, hsp]; rfl
        have RX : Hid (Rb wr g (fs (A ++ S ++ x :: (V' ++ B))) rest) := by
          have := RB.out
          rw [hVx] at this
          exact this
        clear hV RB hVx
        go_wp2_with fail
        go_loopw [9] (fun jv W => IsoI A S x (V' ++ B) g rest w a jv W) (fun jv _ => (intOf jv).toNat)
        case atStart => exact ⟨S, [], by rw [hi], by simp, by simp, RX, KK⟩
        case round =>
          obtain ⟨S1, S2, rfl, h12, h2x, hrb, hk⟩ := hrel
          have RB : Hid (Rb wr g (fs (A ++ S1 ++ x :: (S2 ++ (V' ++ B)))) rest) := hrb
          have K1 : Hid (Kp g w wr) := hk
          have H2 : Hid (∀ y ∈ S2, lt x y) := h2x
          have H12 : Hid (S1 ++ S2 = S) := h12
          have hj : a + S1.length < L := by
            have h1 := congrArg List.length h12
            simp at h1
            omega
          have hji : ((a + S1.length : Nat) : Int) < (L : Int) := by omega
          clear hrb hk h2x h12
          rcases List.eq_nil_or_concat S1 with h0 | ⟨S1', y, h0⟩
          · subst h0
            have hgt : ¬ ((a : Nat) : Int) < ((a + ([] : List T).length : Nat) : Int) := by simp
            have NEXT : Hid (∃ (S' V2 : List T), S'.Pairwise lt ∧ S' ≠ [] ∧ S'.Perm ((u :: U').take S'.length) ∧ V2 = (u :: U').drop S'.length ∧ S'.length ≤ m ∧ S'.length = S.length + 1 ∧ Rb wr g (fs (A ++ S' ++ (V2 ++ B))) rest ∧ Kp g w wr) := by
              have e := H12.out
              simp only [List.nil_append] at e
              have hl : (x :: S2).length = S.length + 1 := by rw [e]; rfl
              refine ⟨x :: S2, V', ?_, by simp, ?_, ?_, by omega, hl, ?_, K1.out⟩
              · exact List.pairwise_cons.2 ⟨H2.out, by rw [e]; exact HS.out.1⟩
              · rw [hl, HV.out.1, e]
                exact ((HS.out.2.cons x).trans (List.perm_append_singleton x _).symm)
              · rw [hl, HV.out.2]
              · have := RB.out
                simpa using this
            simp only [List.length_nil, Nat.add_zero]
            go_upto_region 4 with fail
            go_quiet (fail)
            go_wp2
            go_round
            case rel =>
              obtain ⟨S', V2, q1, q2, q3, q4, q5, q6, q7, q8⟩ := NEXT.out
              exact ⟨S', V2, q1, q2, q3, q4, q5, by rw [q6, ← Nat.add_assoc, hi]; go_num, q7, q8.drewN _⟩
            case measure => simp [intOf]; omega
          · subst h0
            obtain ⟨k, hk⟩ : ∃ k, a + S1'.length = k := ⟨_, rfl⟩
            have hk1 : a + (S1'.concat y).length = k + 1 := by rw [← hk]; simp; omega
            have hkL : k + 1 < L := by omega
            have Hx : Hid ((fs (A ++ S1'.concat y ++ x :: (S2 ++ (V' ++ B))))[k + 1]? = some x.1) := by
              unfold Hid
              rw [← hk1, ← Ha.out]
              exact at_x A _ x _
            have Hy : Hid ((fs (A ++ S1'.concat y ++ x :: (S2 ++ (V' ++ B))))[k]? = some y.1) := by
              unfold Hid
              rw [← hk, ← Ha.out, List.concat_eq_append]
              exact at_y A _ y _
            have FC : Hid (∀ W, Below wr.heap.size wr W → W.cell? ⟨g, (k + 1) * 4, none⟩ = some (.int .i64 x.1.player) ∧ W.cell? ⟨g, (k + 1) * 4 + 1, none⟩ = some (.int .i64 x.1.unit) ∧ W.cell? ⟨g, (k + 1) * 4 + 2, none⟩ = some (.int .i64 x.1.what) ∧ W.cell? ⟨g, (k + 1) * 4 + 3, none⟩ = some (.int .i64 x.1.arg) ∧ W.cell? ⟨g, k * 4, none⟩ = some (.int .i64 y.1.player) ∧ W.cell? ⟨g, k * 4 + 1, none⟩ = some (.int .i64 y.1.unit) ∧ W.cell? ⟨g, k * 4 + 2, none⟩ = some (.int .i64 y.1.what) ∧ W.cell? ⟨g, k * 4 + 3, none⟩ = some (.int .i64 y.1.arg)) := fun W hW => by
              have r := RB.out.below hW RB.out.lt
              obtain ⟨x0, x1, x2, x3⟩ := r.cells Hx.out
              obtain ⟨y0, y1, y2, y3⟩ := r.cells Hy.out
              exact ⟨x0, x1, x2, x3, y0, y1, y2, y3⟩
            have CC : Hid (∀ W, Below wr.heap.size wr W → Calls Tryz.prog 141 #[.agg #[.int .i64 x.1.player, .int .i64 x.1.unit, .int .i64 x.1.what, .int .i64 x.1.arg], .agg #[.int .i64 y.1.player, .int .i64 y.1.unit, .int .i64 y.1.what, .int .i64 y.1.arg]] W fun e w' => e = .returned (.int .i64 (cmpo x.1 y.1)) ∧ Below wr.heap.size wr w') := fun W hW => (compare_any x.1 y.1 W).mono fun e w' ⟨h1, h2⟩ => ⟨h1, hW.trans (h2.mono hW.size)⟩
            have ec := ecmp
            have hgt : ((a : Nat) : Int) < ((k : Nat) : Int) + 1 := by omega
            have kpos : ¬ ((k : Nat) : Int) + 1 < 0 := by omega
            have hki : ((k : Nat) : Int) + 1 < (L : Int) := by omega
            have hki0 : ((k : Nat) : Int) < (L : Int) := by omega
            have kk1 : ((k : Nat) : Int) + 1 - 1 = k := by omega
            have kw : IntKind.i64.wrap ((k : Nat) : Int) = k := by rw [IntKind.wrap_i64]; omega
            have e1 : ((a + (S1'.concat y).length : Nat) : Int) = (k : Int) + 1 := by rw [hk1]; rfl
            rw [e1]
            clear hji hj
            go_upto_region 4 with fail
            refine wp_region_class 16 (fun W => Below wr.heap.size wr W) (by kernel_rfl) (by kernel_rfl) (Below.refl _ _).drew ?_
            simp only [List.take_succ_cons, List.take_zero, List.drop_succ_cons, List.drop_zero]
            refine head_step (.int .i64 ((k : Int) + 1)) (by go_simp) (fun W hW => by go_simp) ?_
            go_simp
            refine head_step (.int .i64 (a : Int)) (by go_simp) (fun W hW => by go_simp) ?_
            go_simp
            refine head_step (.bool true) (by go_simp) (fun W hW => by go_simp) ?_
            go_simp
            refine head_step (.bool true) (by go_simp) (fun W hW => by go_simp) ?_
            go_simp
            refine head_step (.func (.func 141) #[] #[]) (by go_simp) (fun W hW => by go_simp) ?_
            go_simp
            refine head_step (.slice (some ⟨g, 0, none⟩) L cap) (by go_simp) (fun W hW => by go_simp) ?_
            go_simp
            refine head_step (.int .i64 ((k : Int) + 1)) (by go_simp) (fun W hW => by go_simp) ?_
            go_simp
            refine head_step (.pointer (some ⟨g, (k + 1) * 4, none⟩)) (by go_simp) (fun W hW => by go_simp) ?_
            go_simp
            refine head_step (.agg #[.int .i64 x.1.player, .int .i64 x.1.unit, .int .i64 x.1.what, .int .i64 x.1.arg]) (by go_simp) (fun W hW => by obtain ⟨x0, x1, x2, x3, -⟩ := FC.out W hW; go_simp) ?_
            go_simp
            refine head_step (.slice (some ⟨g, 0, none⟩) L cap) (by go_simp) (fun W hW => by go_simp) ?_
            go_simp
            refine head_step (.int .i64 ((k : Int) + 1)) (by go_simp) (fun W hW => by go_simp) ?_
            go_simp
            refine head_step (.int .i64 (k : Int)) (by go_simp) (fun W hW => by go_simp) ?_
            go_simp
            refine head_step (.pointer (some ⟨g, k * 4, none⟩)) (by go_simp) (fun W hW => by go_simp) ?_
            go_simp
            refine head_step (.agg #[.int .i64 y.1.player, .int .i64 y.1.unit, .int .i64 y.1.what, .int .i64 y.1.arg]) (by go_simp) (fun W hW => by obtain ⟨-, -, -, -, y0, y1, y2, y3⟩ := FC.out W hW; go_simp) ?_
            go_simp
            refine head_call (.int .i64 (cmpo x.1 y.1)) 141 #[.agg #[.int .i64 x.1.player, .int .i64 x.1.unit, .int .i64 x.1.what, .int .i64 x.1.arg], .agg #[.int .i64 y.1.player, .int .i64 y.1.unit, .int .i64 y.1.what, .int .i64 y.1.arg]] (by go_simp) (fun W hW => by go_simp) (fun W hW => CC.out W hW) ?_
            go_simp
            refine head_step (.bool (decide (cmpo x.1 y.1 < 0))) (by go_simp) (fun W hW => by go_simp) ?_
            go_simp
            intro W hW
            have RW : Hid (Rb W g (fs (A ++ S1'.concat y ++ x :: (S2 ++ (V' ++ B)))) rest) := RB.out.below hW RB.out.lt
            have KW : Hid (Kp g w W) := K1.out.trans (Kp.of hW)
            have IX : Hid (∀ z ∈ S1'.concat y, z.2 < x.2) := fun z hz => HX.out z (by rw [← H12.out]; exact List.mem_append_left _ hz)
            have PW : Hid ((S1'.concat y ++ S2).Pairwise lt) := by unfold Hid; rw [H12.out]; exact HS.out.1
            by_cases hc : cmpo x.1 y.1 < 0
            · have LX : Hid (lt x y) := (ask_lt (IX.out y (by simp))).1 ((klt_iff _ _).1 hc)
              obtain ⟨x0, x1, x2, x3, y0, y1, y2, y3⟩ := FC.out W hW
              have f0 := RW.out.thaw ((k + 1) * 4)
              have f1 := RW.out.thaw ((k + 1) * 4 + 1)
              have f2 := RW.out.thaw ((k + 1) * 4 + 2)
              have f3 := RW.out.thaw ((k + 1) * 4 + 3)
              have f4 := RW.out.thaw (k * 4)
              have f5 := RW.out.thaw (k * 4 + 1)
              have f6 := RW.out.thaw (k * 4 + 2)
              have f7 := RW.out.thaw (k * 4 + 3)
              clear hW FC CC
              go_wp2_with fail
              go_region
              have hlen : (fs (A ++ S1'.concat y ++ x :: (S2 ++ (V' ++ B)))).length = L := by
                have h1 := HL2.out
                have h2 := congrArg List.length H12.out
                have h3 := congrArg List.length HV.out.2
                simp [fs] at h2 h3 ⊢
                have h4 : (u :: U').length = m := Hm.out
                have h5 := Ha.out
                simp at h4 h1
                omega
              have rr := (RW.out.put (i := k + 1) (by rw [hlen]; exact hkL) y.1).put (i := k) (by rw [List.length_set, hlen]; omega) x.1
              have el : ((fs (A ++ S1'.concat y ++ x :: (S2 ++ (V' ++ B)))).set (k + 1) y.1).set k x.1 = fs (A ++ S1' ++ x :: (y :: S2 ++ (V' ++ B))) := by
                have hP : (fs (A ++ S1')).length = k := by simp [fs, ← hk, Ha.out]
                have h1 := swap_two (fs (A ++ S1')) y.1 x.1 (fs (S2 ++ (V' ++ B)))
                rw [hP] at h1
                have e1 : fs (A ++ S1'.concat y ++ x :: (S2 ++ (V' ++ B))) = fs (A ++ S1') ++ y.1 :: x.1 :: fs (S2 ++ (V' ++ B)) := by simp [fs]
                have e2 : fs (A ++ S1' ++ x :: (y :: S2 ++ (V' ++ B))) = fs (A ++ S1') ++ x.1 :: y.1 :: fs (S2 ++ (V' ++ B)) := by simp [fs]
                rw [e1, e2]
                exact h1
              rw [el] at rr
              have RR : Hid (Rb _ g (fs (A ++ S1' ++ x :: (y :: S2 ++ (V' ++ B)))) rest) := rr
              have KR : Hid (Kp g w _) := (((((((KW.out.trans (Kp.set W ((k + 1) * 4) (.int .i64 y.1.player))).trans (Kp.set _ ((k + 1) * 4 + 1) (.int .i64 y.1.unit))).trans (Kp.set _ ((k + 1) * 4 + 2) (.int .i64 y.1.what))).trans (Kp.set _ ((k + 1) * 4 + 3) (.int .i64 y.1.arg))).trans (Kp.set _ (k * 4) (.int .i64 x.1.player))).trans (Kp.set _ (k * 4 + 1) (.int .i64 x.1.unit))).trans (Kp.set _ (k * 4 + 2) (.int .i64 x.1.what))).trans (Kp.set _ (k * 4 + 3) (.int .i64 x.1.arg))
              clear rr
              go_wp2
              go_roundw
              case rel =>
                refine ⟨S1', y :: S2, by rw [hk], by rw [← H12.out]; simp, fun z hz => ?_, RR.out.below (Below.refl _ _).drew RR.out.lt, KR.out.trans (Kp.of (Below.refl _ _).drew)⟩
                rcases List.mem_cons.1 hz with rfl | hz
                · exact LX.out
                · exact H2.out z hz
              case measure => simp [intOf]
            · have LX : Hid (lt y x) := (ask_ge (IX.out y (by simp))).1 (fun h => hc ((klt_iff _ _).2 h))
              have NEXT : Hid (∃ (S' V2 : List T), S'.Pairwise lt ∧ S' ≠ [] ∧ S'.Perm ((u :: U').take S'.length) ∧ V2 = (u :: U').drop S'.length ∧ S'.length ≤ m ∧ S'.length = S.length + 1 ∧ Rb W g (fs (A ++ S' ++ (V2 ++ B))) rest ∧ Kp g w W) := by
                have hl : (S1'.concat y ++ x :: S2).length = S.length + 1 := by
                  rw [← H12.out]
                  simp
                  omega
                refine ⟨S1'.concat y ++ x :: S2, V', ?_, by simp, ?_, ?_, by omega, hl, ?_, KW.out⟩
                · refine put_rise PW.out (fun z hz => ?_) H2.out
                  rw [List.concat_eq_append] at hz
                  rcases List.mem_append.1 hz with hz | hz
                  · have h1 := PW.out
                    rw [List.concat_eq_append, List.append_assoc, List.pairwise_append] at h1
                    exact lt_trans (h1.2.2 z hz y (by simp)) LX.out
                  · simp at hz
                    subst hz
                    exact LX.out
                · rw [hl, HV.out.1]
                  refine List.Perm.trans List.perm_middle ?_
                  rw [H12.out]
                  exact ((HS.out.2.cons x).trans (List.perm_append_singleton x _).symm)
                · rw [hl, HV.out.2]
                · have := RW.out
                  simpa using this
              clear hW FC CC
              go_wp2
              go_round
              case rel =>
                obtain ⟨S', V2, q1, q2, q3, q4, q5, q6, q7, q8⟩ := NEXT.out
                exact ⟨S', V2, q1, q2, q3, q4, q5, by rw [q6, ← Nat.add_assoc, hi]; go_num, q7, q8⟩
              case measure => simp [intOf]; omega
end Go.Proofs.YtoabhfipikkkeaaGreatDoor

