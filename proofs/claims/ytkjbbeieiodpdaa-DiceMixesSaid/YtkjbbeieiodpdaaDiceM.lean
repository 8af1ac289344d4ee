/- Dice: what Mix does. -/
import Derived.Test.YtkjbbeieiodpdaaDiceB
import Derived.Test.YtkjbbeieiodpdaaIntsA
import Derived.RegionTactic
import Derived.Laws.Pointers
import Derived.ChangeAlike
namespace Go.Proofs.Ytkjbbeieiodpdaa
open Go.RowKit

namespace Dm
/-- two items change places. -/
def swap (l : List Int) (i j : Nat) : List Int := (l.set i (l.getD j 0)).set j (l.getD i 0)
theorem swap_len (l : List Int) (i j : Nat) : (swap l i j).length = l.length := by simp [swap]
theorem swap_perm (l : List Int) (i j : Nat) (hi : i < l.length) (hj : j < l.length) : (swap l i j).Perm l := by
  unfold swap
  rw [List.getD_eq_getElem?_getD, List.getD_eq_getElem?_getD, List.getElem?_eq_getElem hi, List.getElem?_eq_getElem hj]
  exact List.set_set_perm hi hj
/-- the list l, mixed from place k on downwards, out of state s: the list m, and state t. -/
inductive Mx : Nat → Nat → List Int → Nat → List Int → Prop
  | nil (s : Nat) (l : List Int) : Mx 0 s l s l
  | cons (k s t x u : Nat) (l m : List Int) : Bl (k + 2) s t x → Mx k t (swap l (k + 1) x) u m → Mx (k + 1) s l u m
theorem Mx.uniq {k s t u : Nat} {l m n : List Int} (h : Mx k s l t m) (g : Mx k s l u n) : t = u ∧ m = n := by
  induction h generalizing u n with
  | nil s l =>
    cases g
    exact ⟨rfl, rfl⟩
  | cons k s t x v l m h1 _ ih =>
    cases g with
    | cons _ _ t' x' _ _ _ g1 g2 =>
      obtain ⟨e1, e2⟩ := h1.uniq g1
      rw [← e1, ← e2] at g2
      exact ih g2
end Dm

theorem cell_set_some {w : World} {p q : Addr} {x v : Value} (h : w.cell? q = some v) : ∃ v', (w.setCell p x).cell? q = some v' := by
  by_cases e : p = q
  · subst e; exact ⟨x, World.cell?_setCell_same w p x h⟩
  · exact ⟨v, (World.cell?_setCell_other w p q x e).trans h⟩

set_option maxHeartbeats 1000000 in
theorem mix_any (z s : Nat) (v : Value) (xs : List Int) (w : World) (h : Di w z s) (hv : Ro w v xs) (hl : xs.length ≤ 200) :
    Calls Try.prog 6 #[.pointer (some ⟨z, 0, none⟩), v] w fun e w' => ∃ t u ys, Dm.Mx (xs.length - 1) s xs t ys ∧ ys.Perm xs ∧ e = .returned (.tuple #[u, .nilIface]) ∧ Di w' z t ∧ Ro w' u ys ∧ Kp z w w' := by
  obtain ⟨a, c, rfl, hc1, hc2, ha⟩ := hv
  by_cases hx : xs = []
  · subst hx
    have hap := copy_empty a c w
    have Hap : Hid _ := hap
    have H : Hid (Di w z s) := h
    clear hap h ha
    go_enter Try.func6, Try.ntmps6
    go_wp2_with (at_builtin; refine wpList_append_run _ rfl _ _ 22 22 rfl _ _ _ _ rfl rfl Hap.out ?_)
    refine wp_loop_rounds 1 ?_
    rw [rounds_succ]
    go_wp2
    go_ret2
    exact ⟨s, _, [], .nil _ _, List.Perm.refl _, rfl, H, ⟨none, 0, rfl, Nat.le_refl _, by omega, fun h => absurd rfl h⟩, Kp.refl _ _⟩
  · obtain ⟨x, rfl, hxl, hxc⟩ := ha hx
    have hn : 0 < xs.length := List.length_pos_iff.2 hx
    have hap := copy_ints x c xs w hx (by omega) hxc
    have hg := grownCap_ge w xs.length 0 3
    have hg2 := grownCap_le_maxLen w xs.length 0 3 (by unfold maxLen; omega)
    unfold maxLen at hg2
    generalize grownCap w xs.length 0 3 = g at *
    have Hap : Hid _ := hap
    have Hg : Hid (xs.length ≤ g) := hg
    have Hg2 : Hid (g ≤ 9223372036854775807) := by unfold Hid; omega
    have H : Hid (Di w z s) := h
    clear hap h ha hg hg2 hx hxc hxl hc1 hc2
    generalize Builtin.zeroCells #[.int .i64 0] (g - xs.length) = r at *
    go_enter Try.func6, Try.ntmps6
    go_wp2_with (at_builtin; refine wpList_append_run _ rfl _ _ 22 22 rfl _ _ _ _ rfl rfl Hap.out ?_)
    have D0 : Hid (Di (w.alloc (Obj.cells ((intCells xs).toArray ++ r) 3)).drew z s) := H.out.below ((Below.refl _ _).alloc (Nat.le_refl _) _).drew
    have K0 : Hid (Kp z w (w.alloc (Obj.cells ((intCells xs).toArray ++ r) 3)).drew) := Kp.of ((Below.refl _ _).alloc (Nat.le_refl _) _).drew
    have R0 : Hid (Bk (w.alloc (Obj.cells ((intCells xs).toArray ++ r) 3)).drew w.heap.size xs r) := by
      show (w.heap.push _)[w.heap.size]? = _
      simp
    have Zw : Hid (z < w.heap.size) := H.out.lt
    go_loopw [7] (fun l W => ∃ (k t : Nat) (ys : List Int), k < xs.length ∧ l = .int .i64 (k : Nat) ∧ Di W z t ∧ Bk W w.heap.size ys r ∧ ys.length = xs.length ∧ ys.Perm xs ∧ Kp z w W ∧ ∀ u zs, Dm.Mx k t ys u zs → Dm.Mx (xs.length - 1) s xs u zs) (fun l _ => (intOf l).toNat)
    case atStart => exact ⟨xs.length - 1, s, xs, by omega, by rw [show ((xs.length - 1 : Nat) : Int) = (xs.length : Int) - 1 by omega], D0, R0, rfl, List.Perm.refl _, K0, fun _ _ h => h⟩
    case round =>
      obtain ⟨k, t, ys, hk, rfl, hd, hr, hy, hp, hkp, hm⟩ := hrel
      have D1 : Hid (Di wr z t) := hd
      have R1 : Hid (Bk wr w.heap.size ys r) := hr
      have Y1 : Hid (ys.length = xs.length) := hy
      have P1 : Hid (ys.Perm xs) := hp
      have K1 : Hid (Kp z w wr) := hkp
      have M1 : Hid (∀ u zs, Dm.Mx k t ys u zs → Dm.Mx (xs.length - 1) s xs u zs) := hm
      clear hd hr hy hp hkp hm D0 R0 K0
      rcases Nat.eq_zero_or_pos k with h0 | h0
      · subst h0
        go_wp2
        go_ret2
        exact ⟨t, _, ys, M1.out _ _ (.nil _ _), P1, rfl, D1, by rw [← Y1.out]; exact R1.out.ro (by rw [Y1.out]; exact Hg) Hg2, K1⟩
      · obtain ⟨j, rfl⟩ : ∃ j, k = j + 1 := ⟨k - 1, by omega⟩
        have hb := below_di z t (j + 2) wr (by omega) (by omega) D1
        rw [show ((j + 2 : Nat) : Int) = (j : Int) + 1 + 1 by omega] at hb
        have Hb : Hid _ := hb
        clear hb
        go_wp2_with fail
        refine Calls.mono Hb.out ?_
        rintro e w2 ⟨t2, o, hbl, rfl, hd2, hk2, hz2⟩
        have D2 : Hid (Di w2 z t2) := hd2
        have B2 : Hid (Dm.Bl (j + 2) t t2 o) := hbl
        have K2 : Hid (Kp z w w2) := K1.out.trans hk2
        have R2 := R1.out.kp hk2 (by have := Zw.out; omega)
        have ho : o < j + 2 := hbl.lt (by omega)
        have hoy : o < ys.length := by rw [Y1.out]; omega
        have hjy : j + 1 < ys.length := by rw [Y1.out]; omega
        have ep : ys[o]? = some (ys.getD o 0) := by rw [List.getD_eq_getElem?_getD, List.getElem?_eq_getElem hoy]; rfl
        have eq : ys[j + 1]? = some (ys.getD (j + 1) 0) := by rw [List.getD_eq_getElem?_getD, List.getElem?_eq_getElem hjy]; rfl
        have c1 := R2.cell ep
        have c2 := R2.cell eq
        have f1 := R2.thaw o
        have f2 := R2.thaw (j + 1)
        have hox : o < xs.length := by omega
        have HR : Hid (Bk w2 w.heap.size ys r) := R2
        have Hop : Hid (o < ys.length ∧ j + 1 < ys.length) := ⟨hoy, hjy⟩
        have Hpe : Hid (Dm.swap ys (j + 1) o = (ys.set (j + 1) (ys.getD o 0)).set o (ys.getD (j + 1) 0)) := rfl
        generalize ys.getD o 0 = p at *
        generalize ys.getD (j + 1) 0 = q at *
        obtain ⟨v', c3⟩ := cell_set_some (w := w2) (p := ⟨w.heap.size, j + 1, none⟩) (x := .int .i64 p) c1
        clear hd2 hbl hk2 R2 hoy hjy ep eq Hb hz2
        go_wp2_with fail
        go_region
        go_wp2
        go_round
        case rel =>
          have Rf : Bk ((w2.setCell ⟨w.heap.size, j + 1, none⟩ (.int .i64 p)).setCell ⟨w.heap.size, o, none⟩ (.int .i64 q)).drew w.heap.size (Dm.swap ys (j + 1) o) r := by
            rw [Hpe.out]
            exact (HR.out.set (j + 1) p Hop.out.2).set o q (by simpa using Hop.out.1)
          have Kf : Kp z w ((w2.setCell ⟨w.heap.size, j + 1, none⟩ (.int .i64 p)).setCell ⟨w.heap.size, o, none⟩ (.int .i64 q)).drew :=
            ((K2.out.set_new (Nat.le_refl _) _ _).set_new (Nat.le_refl _) _ _).drewN 1
          refine ⟨j, t2, Dm.swap ys (j + 1) o, by omega, by go_num, ?_, Rf, by rw [Dm.swap_len]; exact Y1, (Dm.swap_perm ys (j + 1) o Hop.out.2 Hop.out.1).trans P1, Kf, fun u zs h => M1.out u zs (.cons j t t2 o u ys zs B2 h)⟩
          refine ⟨?_, D2.out.2⟩
          have e1 := Below.heap_setCell (w2.setCell ⟨w.heap.size, j + 1, none⟩ (.int .i64 p)) ⟨w.heap.size, o, none⟩ (.int .i64 q) z (by have := Zw.out; show z ≠ w.heap.size; omega)
          have e2 := Below.heap_setCell w2 ⟨w.heap.size, j + 1, none⟩ (.int .i64 p) z (by have := Zw.out; show z ≠ w.heap.size; omega)
          exact e1.trans (e2.trans D2.out.1)
        case measure => simp [intOf]

set_option maxHeartbeats 400000 in
theorem mix_full (z : Nat) (a : Option Addr) (n c : Nat) (w : World) (h : 200 < n) :
    Calls Try.prog 6 #[.pointer (some ⟨z, 0, none⟩), .slice a n c] w fun e w' => e = .returned (.tuple #[.slice none 0 0, .iface 38 (.int .i64 4)]) ∧ w' = w := by
  go_enter Try.func6, Try.ntmps6
  go_wp2
  go_ret2
  exact ⟨rfl, rfl⟩

/-- a list stays where the dice's own block turns. -/
theorem Ro.di {w w' : World} {v : Value} {xs : List Int} {z s : Nat} (h : Ro w v xs) (hk : Kp z w w') (hz : Di w z s) : Ro w' v xs := by
  obtain ⟨a, c, h1, h2, h3, h4⟩ := h
  refine ⟨a, c, h1, h2, h3, fun hx => ?_⟩
  obtain ⟨x, ha, hl, hc⟩ := h4 hx
  have hne : x.block ≠ z := by
    intro e
    obtain ⟨d, ds, rfl⟩ : ∃ d ds, xs = d :: ds := by
      cases xs with
      | nil => exact absurd rfl hx
      | cons d ds => exact ⟨d, ds, rfl⟩
    have h0 := hc 0 d rfl
    have e0 : x.add 0 = x := rfl
    rw [e0] at h0
    simp only [World.cell?, e, hz.1] at h0
    rcases Nat.eq_zero_or_pos x.off with h5 | h5
    · rw [h5] at h0; simp at h0
    · rw [Array.getElem?_eq_none (by simp; omega)] at h0; simp at h0
  refine ⟨x, ha, Nat.lt_of_lt_of_le hl hk.size, fun i d hd => ?_⟩
  rw [World.cell?_of_block (w := w) (a := x.add i) (by rw [add_block]; exact hk.block _ hl hne)]
  exact hc i d hd
end Go.Proofs.Ytkjbbeieiodpdaa
