/- move.Move: all units, one behind the other. · Moves: who rests stays. Plain mathematics. · Move: there is one wish: plain mathematics. · Ways, found by going over all cells till nothing gets nearer: plain mathematics. · The reference: how far it is from each cell to one. · The reference: the next cell on a way. · The reference's toward: the next cell on a way. · The reference's Spot. · One more unit, one more job: the run itself. · Jobs in a block that may be written. -/
import Derived.Test.YteieikgkmfglaaaGreatDoorZWorksDo9
import Derived.Test.YteieikgkmfglaaaGreatDoorZWorksDo5
import Derived.BigQuiet
import Derived.Test.YteieikgkmfglaaaGreatDoorZWorksDo8
import Derived.Test.YteieikgkmfglaaaGreatDoorZWorksDo6
import Derived.Test.YteieikgkmfglaaaGreatDoorZWorksDo4
import Derived.Deep.RegionHeld3
import Derived.Test.YteieikgkmfglaaaGreatDoorZWorksDo3
import Derived.Test.YteieikgkmfglaaaGreatDoorZWorksDo1
import Derived.Laws.MakeOwn
namespace Go.Proofs.YteieikgkmfglaaaGreatDoor
open Go.RowKit Wy
set_option linter.unusedVariables false
end Go.Proofs.YteieikgkmfglaaaGreatDoor
namespace Go.Proofs.YteieikgkmfglaaaGreatDoor
open Wy
set_option linter.unusedVariables false
end Go.Proofs.YteieikgkmfglaaaGreatDoor
namespace Go.Proofs.YteieikgkmfglaaaGreatDoor
open Go.RowKit Wy
set_option linter.unusedVariables false
end Go.Proofs.YteieikgkmfglaaaGreatDoor
namespace Go.Proofs.YteieikgkmfglaaaGreatDoor.Wy
set_option linter.unusedVariables false
variable {nb : Nat → List Int} {st : Nat → Nat → Int} {t n : Nat}
/-- what holds all the time. -/
structure Rt (nb : Nat → List Int) (st : Nat → Nat → Int) (t n : Nat) (l : List Int) : Prop where
 len : l.length = n
 here : l[t]? = some 0
 sound : Sound nb st t l
 flat : Flat l
theorem Rt.start (ht : t < n) : Rt nb st t n ((List.replicate n (-1)).set t 0) :=
 have h := Wk.start (nb := nb) (st := st) ht
 ⟨h.len, h.here, h.sound, h.flat⟩
theorem Rt.set (E : Even nb st n) {l : List Int} {i j : Nat} {x y : Int} (h : Rt nb st t n l) (hj : (j : Int) ∈ nb i) (hx : l[i]? = some x) (hy : l[j]? = some y) (h0 : 0 < st i j) (y0 : 0 ≤ y) (hn : x < 0 ∨ st i j + y < x) :
  Rt nb st t n (l.set i (st i j + y)) ∧ left (2 * n + 1) (l.set i (st i j + y)) < left (2 * n + 1) l := by
 refine ⟨⟨by simp [h.len], ?_, h.sound.set hy hj h0 y0, h.flat.set hx hy y0 h0 (E.two _ _) hn⟩, left_set h.flat h.len hx hy y0 h0 (E.two _ _) hn⟩
 rw [List.getElem?_set]
 by_cases e : i = t
 ·subst e
  rw [h.here] at hx
  injection hx with hx
  omega
 ·rw [if_neg e]
  exact h.here
/-- all ahead of i, and k cells beside it, have been looked at, and nothing got nearer. -/
def Fine (nb : Nat → List Int) (st : Nat → Nat → Int) (l : List Int) (i k : Nat) : Prop := (∀ i', i' < i → Shut nb st l i') ∧ ∀ (q j : Nat), q < k → (nb i)[q]? = some (j : Int) → Pr nb st l i j
theorem Fine.start (l : List Int) : Fine nb st l 0 0 := ⟨fun i h => absurd h (Nat.not_lt_zero _), fun q j h => absurd h (Nat.not_lt_zero _)⟩
theorem Fine.step {l : List Int} {i j k : Nat} {x y : Int} (h : Fine nb st l i k) (hk : (nb i)[k]? = some (j : Int)) (hx : l[i]? = some x) (hy : l[j]? = some y) (hs : 0 < st i j → 0 ≤ y → 0 ≤ x ∧ x ≤ st i j + y) : Fine nb st l i (k + 1) := by
 refine ⟨h.1, fun q j' hq hj => ?_⟩
 by_cases e : q = k
 ·subst e
  rw [hk] at hj
  injection hj with hj
  have : j = j' := by omega
  subst this
  intro x' y' hx' hy' _ h0 y0
  rw [hx] at hx'
  rw [hy] at hy'
  injection hx' with hx'
  injection hy' with hy'
  subst hx'
  subst hy'
  exact hs h0 y0
 ·exact h.2 q j' (by omega) hj
theorem Fine.next {l : List Int} {i : Nat} (h : Fine nb st l i (nb i).length) : Fine nb st l (i + 1) 0 := by
 refine ⟨fun i' hi => ?_, fun q j h => absurd h (Nat.not_lt_zero _)⟩
 by_cases e : i' = i
 ·subst e
  intro j x y hx hy hj h0 y0
  obtain ⟨q, hq⟩ := List.mem_iff_getElem?.1 hj
  exact h.2 q j (List.getElem?_eq_some_iff.1 hq).1 hq x y hx hy hj h0 y0
 ·exact h.1 i' (by omega)
theorem Rt.far {l : List Int} (E : Even nb st n) (h : Rt nb st t n l) (hf : Fine nb st l n 0) : IsFar nb st t n l := far_of h.len E.lt h.here h.sound hf.1
end Go.Proofs.YteieikgkmfglaaaGreatDoor.Wy
namespace Go.Proofs.YteieikgkmfglaaaGreatDoor
open Go.RowKit Wy
set_option linter.unusedVariables false
/-- what is left, as memory has it. -/
def mleft (w : World) (b M : Nat) : Nat := match w.heap[b]? with
 | some (.cells cs _ _) => left M (cs.toList.map intOf)
 | _ => 0
theorem Bk.mleft {w : World} {b : Nat} {l : List Int} (h : Bk w b l #[]) (M : Nat) : mleft w b M = Wy.left M l := by
 unfold Bk at h
 unfold Go.Proofs.YteieikgkmfglaaaGreatDoor.mleft
 rw [h]
 simp [intCells, intOf, Function.comp_def]
def one : Value → Nat
 | .bool true => 1
 | _ => 0
theorem one_le (b : Bool) : 0 ≤ one (.bool b) := Nat.zero_le _
theorem Ow.kpt {w w' : World} {base z : Nat} {v : Value} {xs : List Int} (h : Ow w base v xs) (hk : Kp z w w') (hz : z < base) : Ow w' base v xs := by
 have hg : w.grownBy w' (some z) := ⟨hk.os, hk.tape, hk.output, hk.size, fun k h1 h2 => hk.block k h1 (fun e => h2 (by rw [e]))⟩
 refine h.kept hg ?_
 cases hb : v.ownBlock with
 | none => exact .inl rfl
 | some k =>
  have := (h.block k hb).1
  exact .inr (by simp; omega)
theorem Bf.kp {w w' : World} {z b : Nat} {W H : Int} {u1 u2 : Value} (h : Bf w z W H u1 u2) (hk : Kp b w w') (hz : z ≠ b) : Bf w' z W H u1 u2 := by
 have e := hk.block z h.lt hz
 exact ⟨by rw [World.cell?_of_block (w := w) (a := ⟨z, 0, none⟩) e]; exact h.c0, by rw [World.cell?_of_block (w := w) (a := ⟨z, 1, none⟩) e]; exact h.c1, by rw [World.cell?_of_block (w := w) (a := ⟨z, 2, none⟩) e]; exact h.c2, by rw [World.cell?_of_block (w := w) (a := ⟨z, 3, none⟩) e]; exact h.c3⟩
/-- a list of zeros, of which the first k have been made -1. -/
theorem fill_set (n k : Nat) (h : k < n) : (List.replicate k (-1 : Int) ++ List.replicate (n - k) 0).set k (-1) = List.replicate (k + 1) (-1) ++ List.replicate (n - (k + 1)) 0 := by
 rw [List.set_append, if_neg (by simp), List.length_replicate, Nat.sub_self]
 obtain ⟨m, hm⟩ : ∃ m, n - k = m + 1 := ⟨n - k - 1, by omega⟩
 rw [hm, List.replicate_succ, List.set_cons_zero, List.replicate_succ', show n - (k + 1) = m by omega]
 simp
/-- what To says. -/
def ToSays (W H : Nat) (ss : List Int) (t n : Nat) (w : World) (e : Ending) (w' : World) : Prop := ∃ b l, e = .returned (.slice (some ⟨b, 0, none⟩) n n) ∧ w.heap.size ≤ b ∧ Bk w' b l #[] ∧ (IsFar (Fd.near W H) (fun _ j => ss.getD j 0) t n l ∧ Flat l) ∧ Below w.heap.size w w'
theorem ToSays.of {W H : Nat} {ss : List Int} {t n : Nat} {w : World} {e : Ending} {w' : World} (h : ∃ b l, e = .returned (.slice (some ⟨b, 0, none⟩) n n) ∧ w.heap.size ≤ b ∧ Bk w' b l #[] ∧ (IsFar (Fd.near W H) (fun _ j => ss.getD j 0) t n l ∧ Flat l) ∧ Below w.heap.size w w') : ToSays W H ss t n w e w' := h
set_option maxRecDepth 100000 in
set_option maxHeartbeats 4000000 in
theorem ref_to (v : Value) (W H : Nat) (gs os : List Int) (t : Nat) (fl : Bool) (w : World) (h : Fl w v W H gs os) (G : Fd.Good W H gs os) (ht : t < W * H) (E : Even (Fd.near W H) (fun _ j => (gs.map fun g => Fd.onto g fl).getD j 0) (W * H)) :
  Calls Tryz.prog 39 #[v, .int .i64 (t : Nat), .bool fl] w fun e w' => ToSays W H (gs.map fun g => Fd.onto g fl) t (W * H) w e w' := by
 have F0 : Hid (Fl w v W H gs os) := h
 have G0 : Hid (Fd.Good W H gs os) := G
 obtain ⟨u1, u2, rfl, ⟨a1, c, rfl, c1, c2, ca⟩, ⟨b1, d, rfl, d1, d2, cb⟩⟩ := h
 obtain ⟨n, hn⟩ : ∃ n, W * H = n := ⟨_, rfl⟩
 have Hn : Hid (W * H = n) := hn
 have gl : gs.length = n := by rw [← hn]; exact G.gl
 have Gl : Hid (gs.length = n) := gl
 have n0 : 0 < n := by rw [← hn]; have := G.pos; omega
 have n1 : n ≤ 144 := by rw [← hn]; exact G.pos.2
 obtain ⟨ss, hss⟩ : ∃ ss, (gs.map fun g => Fd.onto g fl) = ss := ⟨_, rfl⟩
 have Hss : Hid ((gs.map fun g => Fd.onto g fl) = ss) := hss
 have Sl : Hid (ss.length = n) := by unfold Hid; rw [← hss, List.length_map]; exact gl
 rw [hn] at ht E
 rw [hss] at E
 rw [hn, hss]
 have E0 : Hid (Even (Fd.near W H) (fun _ j => ss.getD j 0) n) := E
 rw [gl] at c1 ⊢
 clear ca cb G hn hss gl E
 generalize hw0 : w.alloc (Obj.cells #[.int .i64 W, .int .i64 H, .slice a1 n c, .slice b1 os.length d] 25) = w0
 have B0 : Hid (Below w.heap.size w w0) := by rw [← hw0]; exact (Below.refl _ _).alloc (Nat.le_refl _) _
 have X0 : Hid (Bf w0 w.heap.size W H (.slice a1 n c) (.slice b1 os.length d)) := by rw [← hw0]; exact Bf.mk' _ _ _ _ rfl
 have Hw : Hid (w.alloc (Obj.cells #[.int .i64 W, .int .i64 H, .slice a1 n c, .slice b1 os.length d] 25) = w0) := hw0
 clear hw0
 go_enter Tryz.func39, Tryz.ntmps39
 go_wp2_with (at_make; rw [Hw.out]; obtain ⟨i0, hi, hz0, hz1, hz2⟩ := info_parts info_int; refine wpList_make_full _ rfl _ _ 23 rfl w0.heap.size 3 i0 (.int .i64 0) 1 Tryz.underlying23 hi hz0 hz1 _ _ _ _ n rfl rfl rfl rfl (by rw [hz2]; omega) (by unfold maxLen; omega) (Nat.le_refl _) ?_)
 intro w1 o1 g1
 clear hi hz0 hz1 hz2
 have K1 : Hid (Bk w1 w0.heap.size (List.replicate n 0) #[]) := by
  rcases o1.2 with ⟨h, _⟩ | ⟨g, cap, cur, hv, hb, hg, h1, h2, h3, h4⟩
  ·cases h
  ·cases hv
   unfold Hid Bk
   rw [hg]
   congr 1
   have e : cur.toList = List.replicate n (Value.int .i64 0) := by
    have := toList_madeCells_one (.int .i64 0) n
    rw [List.take_of_length_le (by simp; omega)] at h4
    rw [h4]
    exact this
   have e' : cur = (List.replicate n (Value.int .i64 0)).toArray := by rw [← e]
   rw [e']
   simp [intCells]
 have b01 : Below w0.heap.size w0 w1 := (Below.refl _ _).grown g1 (Nat.le_refl _) (fun k hk => by cases hk)
 have X1 : Hid (Bf w1 w.heap.size W H (.slice a1 n c) (.slice b1 os.length d)) := X0.out.below b01 X0.out.lt
 have B1 : Hid (Below w.heap.size w w1) := B0.out.trans (b01.mono B0.out.size)
 have Zb : Hid (w.heap.size < w0.heap.size) := X0.out.lt
 clear o1 g1 b01 X0 B0 Hw
 obtain ⟨b, hb⟩ : ∃ b, w0.heap.size = b := ⟨_, rfl⟩
 rw [hb] at K1 Zb ⊢
 clear hb
 go_wp2
 go_loopw [9] (fun i W' => ∃ k : Nat, k ≤ n ∧ i = .int .i64 (k : Nat) ∧ Bk W' b (List.replicate k (-1) ++ List.replicate (n - k) 0) #[] ∧ Bf W' w.heap.size W H (.slice a1 n c) (.slice b1 os.length d) ∧ Below w.heap.size w W') (fun i _ => n - (intOf i).toNat)
 case atStart => exact ⟨0, Nat.zero_le _, rfl, K1, X1, B1⟩
 case round =>
  obtain ⟨k, hk, rfl, hkb, hx, hB⟩ := hrel
  clear K1 X1 B1
  have Kb : Hid (Bk wr b (List.replicate k (-1) ++ List.replicate (n - k) 0) #[]) := hkb
  have X : Hid (Bf wr w.heap.size W H (.slice a1 n c) (.slice b1 os.length d)) := hx
  have B : Hid (Below w.heap.size w wr) := hB
  clear hx hB
  by_cases h0 : k = n
  ·have K2 : Hid (Bk (wr.setCell ⟨b, t, none⟩ (.int .i64 0)) b ((List.replicate n (-1)).set t 0) #[]) := by
    have := Kb.out
    rw [h0, Nat.sub_self, List.replicate_zero, List.append_nil] at this
    exact this.set t 0 (by simp; exact ht)
   have ct : wr.cell? ⟨b, t, none⟩ = some (.int .i64 (-1)) := by
    rw [h0, Nat.sub_self, List.replicate_zero, List.append_nil] at hkb
    exact hkb.cell (by rw [List.getElem?_replicate, if_pos ht])
   have ft := hkb.thaw t
   have k12 := Kp.set (z := b) wr t (.int .i64 0)
   have X2 : Hid (Bf (wr.setCell ⟨b, t, none⟩ (.int .i64 0)) w.heap.size W H (.slice a1 n c) (.slice b1 os.length d)) := X.out.kp k12 (by have := Zb.out; omega)
   have B2 : Hid (Below w.heap.size w (wr.setCell ⟨b, t, none⟩ (.int .i64 0))) := k12.below B.out B.out.size (by have := Zb.out; omega)
   subst h0
   clear k12 Kb X B hkb
   go_wp2_with fail
   generalize wr.setCell ⟨b, t, none⟩ (.int .i64 0) = w2 at *
   clear ct ft
   go_loopw [10] (fun m W' => ∃ l mb, m = .bool mb ∧ Bk W' b l #[] ∧ Rt (Fd.near W H) (fun _ j => ss.getD j 0) t k l ∧ (mb = false → Fine (Fd.near W H) (fun _ j => ss.getD j 0) l k 0) ∧ Bf W' w.heap.size W H (.slice a1 k c) (.slice b1 os.length d) ∧ Below w.heap.size w W') (fun m W' => mleft W' b (2 * k + 1) + one m)
   case atStart => exact ⟨_, true, rfl, K2, Rt.start ht, fun h => (by cases h), X2, B2⟩
   case round =>
    obtain ⟨l, mb, rfl, hkb, hrt, hfn, hx, hB⟩ := hrel
    clear K2 X2 B2
    have Kb : Hid (Bk wr b l #[]) := hkb
    have R : Hid (Rt (Fd.near W H) (fun _ j => ss.getD j 0) t k l) := hrt
    have X : Hid (Bf wr w.heap.size W H (.slice a1 k c) (.slice b1 os.length d)) := hx
    have B : Hid (Below w.heap.size w wr) := hB
    have Fn : Hid (mb = false → Fine (Fd.near W H) (fun _ j => ss.getD j 0) l k 0) := hfn
    clear hkb hrt hx hB hfn
    cases mb with
    | false =>
     have FN : Hid (Fine (Fd.near W H) (fun _ j => ss.getD j 0) l k 0) := Fn.out rfl
     clear Fn
     go_wp2
     go_ret
     exact ToSays.of ⟨b, l, rfl, by have := Zb.out; omega, Kb, ⟨R.out.far E0.out FN.out, R.out.flat⟩, B⟩
    | true =>
     obtain ⟨m0, hm0⟩ : ∃ m0, mleft wr b (2 * k + 1) + one (.bool true) = m0 := ⟨_, rfl⟩
     have M0 : Hid (mleft wr b (2 * k + 1) + one (.bool true) = m0) := hm0
     have ML : Hid (left (2 * k + 1) l + 1 ≤ m0) := by
      unfold Hid
      rw [← hm0, Kb.out.mleft]
      exact Nat.le_refl _
     clear hm0 Fn
     go_wp2_with fail
     go_loopw [10, 11] (fun m i W' => ∃ l mb j, m = .bool mb ∧ i = .int .i64 (j : Nat) ∧ j ≤ k ∧ Bk W' b l #[] ∧ Rt (Fd.near W H) (fun _ j => ss.getD j 0) t k l ∧ (mb = false → Fine (Fd.near W H) (fun _ j => ss.getD j 0) l j 0) ∧ Bf W' w.heap.size W H (.slice a1 k c) (.slice b1 os.length d) ∧ Below w.heap.size w W' ∧ left (2 * k + 1) l + one (.bool mb) < m0) (fun _ i _ => k - (intOf i).toNat)
     case atStart => exact ⟨l, false, 0, rfl, rfl, Nat.zero_le _, Kb, R, fun _ => Fine.start l, X, B, by have := ML.out; show left (2 * k + 1) l + 0 < m0; omega⟩
     case round =>
      clear Kb R X B ML
      obtain ⟨l, mb, i, rfl, rfl, hi, hkb, hrt, hfn, hx, hB, hml⟩ := hrel
      have Kb : Hid (Bk wr b l #[]) := hkb
      have R : Hid (Rt (Fd.near W H) (fun _ j => ss.getD j 0) t k l) := hrt
      have X : Hid (Bf wr w.heap.size W H (.slice a1 k c) (.slice b1 os.length d)) := hx
      have B : Hid (Below w.heap.size w wr) := hB
      have Fn : Hid (mb = false → Fine (Fd.near W H) (fun _ j => ss.getD j 0) l i 0) := hfn
      have ML : Hid (left (2 * k + 1) l + one (.bool mb) < m0) := hml
      clear hkb hrt hx hB hfn hml
      by_cases h1 : i = k
      ·have Fn' : Hid (mb = false → Fine (Fd.near W H) (fun _ j => ss.getD j 0) l k 0) := by rw [← h1]; exact Fn
       subst h1
       clear Fn
       go_wp2
       go_round
       case rel => exact ⟨l, mb, rfl, Kb, R, Fn', X, B⟩
       case measure =>
        rw [Kb.out.mleft]
        exact Nat.lt_of_lt_of_eq ML.out M0.out.symm
      ·have hik : i < k := by omega
       have F1 : Hid (Fl wr (.agg #[.int .i64 W, .int .i64 H, .slice a1 k c, .slice b1 os.length d]) W H gs os) := by
        have := F0.out.below B.out
        rw [Gl.out] at this
        exact this
       obtain ⟨x0, x1, x2, x3⟩ := X.out
       have bwr : Hid (b < wr.heap.size) := Kb.out.lt
       go_wp2_with fail
       refine (ref_near_own _ W H gs os i _ F1.out G0.out.w1 G0.out.w2 G0.out.h2 (by rw [Hn.out]; exact hik)).mono ?_
       rintro e w3 ⟨u, rfl, hu, hb3⟩
       have K3 : Hid (Bk w3 b l #[]) := Kb.out.below hb3
       have X3 : Hid (Bf w3 w.heap.size W H (.slice a1 k c) (.slice b1 os.length d)) := X.out.below hb3 X.out.lt
       have B3 : Hid (Below w.heap.size w w3) := B.out.trans (hb3.mono B.out.size)
       obtain ⟨z3, hz3⟩ : ∃ z3, wr.heap.size = z3 := ⟨_, rfl⟩
       rw [hz3] at hu bwr
       have bz3 : Hid (b < z3) := bwr
       have U3 : Hid (Ow w3 z3 u (Fd.near W H i)) := hu
       obtain ⟨an, cn, rfl, e1, e2, -⟩ := hu.ro
       have Fn3 : Hid (mb = false → Fine (Fd.near W H) (fun _ j => ss.getD j 0) l i 0) := Fn
       have L4 : (Fd.near W H i).length ≤ 4 := Fd.near_len W H i
       clear hu hb3 hz3 bwr Kb X B Fn F1 x0 x1 x2 x3
       go_wp2_with fail
       go_loopw [10, 13] (fun m i' W' => ∃ l mb q, m = .bool mb ∧ i' = .int .i64 (q : Nat) ∧ q ≤ (Fd.near W H i).length ∧ Bk W' b l #[] ∧ Rt (Fd.near W H) (fun _ j => ss.getD j 0) t k l ∧ (mb = false → Fine (Fd.near W H) (fun _ j => ss.getD j 0) l i q) ∧ Bf W' w.heap.size W H (.slice a1 k c) (.slice b1 os.length d) ∧ Below w.heap.size w W' ∧ left (2 * k + 1) l + one (.bool mb) < m0 ∧ Ow W' z3 (.slice an (Fd.near W H i).length cn) (Fd.near W H i)) (fun _ i' _ => (Fd.near W H i).length - (intOf i').toNat)
       case atStart => exact ⟨l, mb, 0, rfl, rfl, Nat.zero_le _, K3, R, Fn3, X3, B3, ML, U3⟩
       case round =>
        clear K3 R Fn3 X3 B3 ML U3
        obtain ⟨l, mb, q, rfl, rfl, hq, hkb, hrt, hfn, hx, hB, hml, hu⟩ := hrel
        have Kb : Hid (Bk wr b l #[]) := hkb
        have R : Hid (Rt (Fd.near W H) (fun _ j => ss.getD j 0) t k l) := hrt
        have X : Hid (Bf wr w.heap.size W H (.slice a1 k c) (.slice b1 os.length d)) := hx
        have B : Hid (Below w.heap.size w wr) := hB
        have Fn : Hid (mb = false → Fine (Fd.near W H) (fun _ j => ss.getD j 0) l i q) := hfn
        have ML : Hid (left (2 * k + 1) l + one (.bool mb) < m0) := hml
        have U : Hid (Ow wr z3 (.slice an (Fd.near W H i).length cn) (Fd.near W H i)) := hu
        clear hkb hrt hx hB hfn hml hu
        by_cases h2 : q = (Fd.near W H i).length
        ·have Fn' : Hid (mb = false → Fine (Fd.near W H) (fun _ j => ss.getD j 0) l (i + 1) 0) := fun h => (by rw [← h2]; exact Fn.out h : Fine (Fd.near W H) (fun _ j => ss.getD j 0) l i (Fd.near W H i).length).next
         subst h2
         clear Fn
         go_wp2
         go_round
         case rel => exact ⟨l, mb, i + 1, rfl, by go_num, by omega, Kb, R, Fn', X, B, ML⟩
         case measure => simp [intOf]; omega
        ·have hql : q < (Fd.near W H i).length := by omega
         obtain ⟨j, hj, jn, -⟩ := E0.out.cell i _ hik (List.getElem_mem hql)
         have Hj : Hid ((Fd.near W H i)[q]? = some (j : Int)) := by unfold Hid; rw [List.getElem?_eq_getElem hql, hj]
         clear hj
         obtain ⟨a4, c4, e4, -, -, ca⟩ := U.out.ro
         injection e4 with e5 e6 e7
         subst e5
         obtain ⟨yn, rfl, hyl, hy⟩ := ca (by intro h; rw [h] at hql; simp at hql)
         have cj := hy q _ Hj.out
         have Yl : Hid (yn.block < wr.heap.size) := hyl
         clear hy e6 e7 ca hyl
         have hgl : j < gs.length := by rw [Gl.out]; exact jn
         obtain ⟨g, hg⟩ : ∃ g, gs[j]? = some g := ⟨_, List.getElem?_eq_getElem hgl⟩
         obtain ⟨o, ho⟩ : ∃ o, os[j]? = some o := ⟨_, List.getElem?_eq_getElem (by rw [G0.out.ol, Hn.out]; exact jn)⟩
         have hcl := G0.out.cell j g o hg ho
         obtain ⟨m, hm⟩ : ∃ m, ss.getD j 0 = m := ⟨_, rfl⟩
         have hon : Fd.onto g fl = m := by rw [← hm, ← Hss.out, List.getD_eq_getElem?_getD, List.getElem?_map, hg]; rfl
         have HD : Hid (ss.getD j 0 = m) := hm
         have l2 : m ≤ 2 := by rw [← hon]; have := E0.out.two i j; rw [← hm] at hon; rw [hon]; exact this
         have F1 : Fl wr (.agg #[.int .i64 W, .int .i64 H, .slice a1 k c, .slice b1 os.length d]) W H gs os := by
          have := F0.out.below B.out
          rw [Gl.out] at this
          exact this
         have CO : Hid (Calls Tryz.prog 28 #[.agg #[.int .i64 W, .int .i64 H, .slice a1 k c, .slice b1 os.length d], .int .i64 (j : Nat), .bool fl] wr.drew fun e w' => e = .returned (.int .i64 m) ∧ Below wr.heap.size wr w' ∧ w'.cell? ⟨w.heap.size, 0, none⟩ = some (.int .i64 W) ∧ w'.cell? ⟨w.heap.size, 1, none⟩ = some (.int .i64 H) ∧ w'.cell? ⟨w.heap.size, 2, none⟩ = some (.slice a1 k c) ∧ w'.cell? ⟨w.heap.size, 3, none⟩ = some (.slice b1 os.length d) ∧ w'.cell? (yn.add q) = some (.int .i64 (j : Nat))) := by
          refine (ref_onto _ W H gs os j g fl wr.drew (F1.below (Below.refl _ _).drew) (by rw [Gl.out]; exact n1) hg hcl.1 hcl.2.1).mono ?_
          rintro e w' ⟨h1, h2⟩
          have h4 : Below wr.heap.size wr w' := ((Below.refl _ _).drew).trans h2
          obtain ⟨y0, y1, y2, y3⟩ := X.out.below h4 X.out.lt
          exact ⟨by rw [h1, hon], h4, y0, y1, y2, y3, by rw [h4.cell (p := yn.add q) (by rw [add_block]; exact Yl.out)]; exact cj⟩
         obtain ⟨x0, x1, x2, x3⟩ := X.out
         clear hg ho hcl hon hm F1 hgl
         go_wp2_with fail
         go_region_held3 (fun w' => w'.cell? ⟨w.heap.size, 0, none⟩ = some (.int .i64 W) ∧ w'.cell? ⟨w.heap.size, 1, none⟩ = some (.int .i64 H) ∧ w'.cell? ⟨w.heap.size, 2, none⟩ = some (.slice a1 k c) ∧ w'.cell? ⟨w.heap.size, 3, none⟩ = some (.slice b1 os.length d) ∧ w'.cell? (yn.add q) = some (.int .i64 (j : Nat)))
          (go_keep)
          ((go_at_call 28; refine Calls.mono CO.out ?_; rintro e w6 ⟨rfl, k6, y0, y1, y2, y3, y4⟩))
         have K5 : Hid (Bk w6 b l #[]) := Kb.out.below k6
         have X5 : Hid (Bf w6 w.heap.size W H (.slice a1 k c) (.slice b1 os.length d)) := X.out.below k6 X.out.lt
         have B5 : Hid (Below w.heap.size w w6) := B.out.trans (k6.mono B.out.size)
         have U5 : Hid (Ow w6 z3 (.slice (some yn) (Fd.near W H i).length cn) (Fd.near W H i)) := U.out.below k6
         clear Kb X B U k6 CO Yl x0 x1 x2 x3 y0 y1 y2 y3
         have Kb : Hid (Bk w6 b l #[]) := K5
         have X : Hid (Bf w6 w.heap.size W H (.slice a1 k c) (.slice b1 os.length d)) := X5
         have B : Hid (Below w.heap.size w w6) := B5
         have U : Hid (Ow w6 z3 (.slice (some yn) (Fd.near W H i).length cn) (Fd.near W H i)) := U5
         clear K5 X5 B5 U5
         have ll : l.length = k := R.out.len
         obtain ⟨xv, hxv⟩ : ∃ xv, l[i]? = some xv := ⟨l[i]'(by rw [ll]; exact hik), List.getElem?_eq_getElem _⟩
         obtain ⟨yv, hyv⟩ : ∃ yv, l[j]? = some yv := ⟨l[j]'(by rw [ll]; exact jn), List.getElem?_eq_getElem _⟩
         have tl := told_le l
         have fx := R.out.flat i xv hxv
         have fy := R.out.flat j yv hyv
         have xb : xv ≤ 288 := by omega
         have yb : yv ≤ 288 := by omega
         have cy := Kb.out.cell hyv
         clear tl fx fy ll
         by_cases h1 : 0 < m
         ·by_cases h2 : 0 ≤ yv
          ·by_cases h3 : xv < 0
           ·have h9 := h3
            have HS := R.out.set E0.out (List.mem_of_getElem? Hj.out) hxv hyv (by rw [HD.out]; exact h1) h2 (.inl h3)
            rw [HD.out] at HS
            have HT : Hid (Rt (Fd.near W H) (fun _ j => ss.getD j 0) t k (l.set i (m + yv)) ∧ left (2 * k + 1) (l.set i (m + yv)) < left (2 * k + 1) l) := HS
            clear HS HD
            have cx := Kb.out.cell hxv
            have fz := Kb.out.thaw i
            have k6 := Kp.set (z := b) w6 i (.int .i64 (m + yv))
            have K6 : Hid (Bk (w6.setCell ⟨b, i, none⟩ (.int .i64 (m + yv))) b (l.set i (m + yv)) #[]) := Kb.out.set i (m + yv) (List.getElem?_eq_some_iff.1 hxv).1
            have X6 : Hid (Bf (w6.setCell ⟨b, i, none⟩ (.int .i64 (m + yv))) w.heap.size W H (.slice a1 k c) (.slice b1 os.length d)) := X.out.kp k6 (by have := Zb.out; omega)
            have B6 : Hid (Below w.heap.size w (w6.setCell ⟨b, i, none⟩ (.int .i64 (m + yv)))) := k6.below B.out B.out.size (by have := Zb.out; omega)
            have U6 : Hid (Ow (w6.setCell ⟨b, i, none⟩ (.int .i64 (m + yv))) z3 (.slice (some yn) (Fd.near W H i).length cn) (Fd.near W H i)) := U.out.kpt k6 bz3.out
            clear k6 Kb X B U
            go_wp2
            go_round
            case rel => exact ⟨l.set i (m + yv), true, q + 1, rfl, by go_num, by omega, K6, HT.out.1, fun h => (by cases h), X6, B6, by have := HT.out.2; have := ML.out; have := one_le mb; show left (2 * k + 1) (l.set i (m + yv)) + 1 < m0; omega, U6⟩
            case measure => simp [intOf]; omega
           ·by_cases h4 : m + yv < xv
            ·have h9 := h4
             have HS := R.out.set E0.out (List.mem_of_getElem? Hj.out) hxv hyv (by rw [HD.out]; exact h1) h2 (.inr (by rw [HD.out]; exact h4))
             rw [HD.out] at HS
             have HT : Hid (Rt (Fd.near W H) (fun _ j => ss.getD j 0) t k (l.set i (m + yv)) ∧ left (2 * k + 1) (l.set i (m + yv)) < left (2 * k + 1) l) := HS
             clear HS HD
             have cx := Kb.out.cell hxv
             have fz := Kb.out.thaw i
             have k6 := Kp.set (z := b) w6 i (.int .i64 (m + yv))
             have K6 : Hid (Bk (w6.setCell ⟨b, i, none⟩ (.int .i64 (m + yv))) b (l.set i (m + yv)) #[]) := Kb.out.set i (m + yv) (List.getElem?_eq_some_iff.1 hxv).1
             have X6 : Hid (Bf (w6.setCell ⟨b, i, none⟩ (.int .i64 (m + yv))) w.heap.size W H (.slice a1 k c) (.slice b1 os.length d)) := X.out.kp k6 (by have := Zb.out; omega)
             have B6 : Hid (Below w.heap.size w (w6.setCell ⟨b, i, none⟩ (.int .i64 (m + yv)))) := k6.below B.out B.out.size (by have := Zb.out; omega)
             have U6 : Hid (Ow (w6.setCell ⟨b, i, none⟩ (.int .i64 (m + yv))) z3 (.slice (some yn) (Fd.near W H i).length cn) (Fd.near W H i)) := U.out.kpt k6 bz3.out
             clear k6 Kb X B U
             go_wp2
             go_round
             case rel => exact ⟨l.set i (m + yv), true, q + 1, rfl, by go_num, by omega, K6, HT.out.1, fun h => (by cases h), X6, B6, by have := HT.out.2; have := ML.out; have := one_le mb; show left (2 * k + 1) (l.set i (m + yv)) + 1 < m0; omega, U6⟩
             case measure => simp [intOf]; omega
            ·have h9 := h4
             have HS : Hid (mb = false → Fine (Fd.near W H) (fun _ j => ss.getD j 0) l i (q + 1)) := fun h => (Fn.out h).step Hj.out hxv hyv (fun p0 p1 => by rw [HD.out] at p0 ⊢; omega)
             clear HD
             have cx := Kb.out.cell hxv
             go_wp2
             go_round
             case rel => exact ⟨l, mb, q + 1, rfl, by go_num, by omega, Kb, R, HS, X, B, ML, U⟩
             case measure => simp [intOf]; omega
          ·have h9 := h2
           have HS : Hid (mb = false → Fine (Fd.near W H) (fun _ j => ss.getD j 0) l i (q + 1)) := fun h => (Fn.out h).step Hj.out hxv hyv (fun p0 p1 => by rw [HD.out] at p0 ⊢; omega)
           clear HD
           have cx := Kb.out.cell hxv
           go_wp2
           go_round
           case rel => exact ⟨l, mb, q + 1, rfl, by go_num, by omega, Kb, R, HS, X, B, ML, U⟩
           case measure => simp [intOf]; omega
         ·have h9 := h1
          have HS : Hid (mb = false → Fine (Fd.near W H) (fun _ j => ss.getD j 0) l i (q + 1)) := fun h => (Fn.out h).step Hj.out hxv hyv (fun p0 p1 => by rw [HD.out] at p0 ⊢; omega)
          clear HD
          have cx := Kb.out.cell hxv
          go_wp2
          go_round
          case rel => exact ⟨l, mb, q + 1, rfl, by go_num, by omega, Kb, R, HS, X, B, ML, U⟩
          case measure => simp [intOf]; omega
  ·have hkn : k < n := by omega
   have ck : wr.cell? ⟨b, k, none⟩ = some (.int .i64 0) := hkb.cell (by rw [List.getElem?_append, if_neg (by simp), List.length_replicate, Nat.sub_self, List.getElem?_replicate, if_pos (by omega)])
   have fk := hkb.thaw k
   have k12 := Kp.set (z := b) wr k (.int .i64 (-1))
   have K2 : Hid (Bk (wr.setCell ⟨b, k, none⟩ (.int .i64 (-1))) b (List.replicate (k + 1) (-1) ++ List.replicate (n - (k + 1)) 0) #[]) := by
    unfold Hid
    rw [← fill_set n k hkn]
    exact Kb.out.set k (-1) (by simp; omega)
   have X2 : Hid (Bf (wr.setCell ⟨b, k, none⟩ (.int .i64 (-1))) w.heap.size W H (.slice a1 n c) (.slice b1 os.length d)) := X.out.kp k12 (by have := Zb.out; omega)
   have B2 : Hid (Below w.heap.size w (wr.setCell ⟨b, k, none⟩ (.int .i64 (-1)))) := k12.below B.out B.out.size (by have := Zb.out; omega)
   clear k12 Kb X B hkb
   go_wp2
   go_round
   case rel => exact ⟨k + 1, by omega, by go_num, K2, X2, B2⟩
   case measure => simp [intOf]; omega
end Go.Proofs.YteieikgkmfglaaaGreatDoor
namespace Go.Proofs.YteieikgkmfglaaaGreatDoor
open Go.RowKit Wy
set_option linter.unusedVariables false
end Go.Proofs.YteieikgkmfglaaaGreatDoor
namespace Go.Proofs.YteieikgkmfglaaaGreatDoor
open Go.RowKit Wy
set_option linter.unusedVariables false
end Go.Proofs.YteieikgkmfglaaaGreatDoor
namespace Go.Proofs.YteieikgkmfglaaaGreatDoor
open Go.RowKit Wy
set_option linter.unusedVariables false
theorem free_on {us : List UnV} {c r : Int} (h : FstU (fun u => u.at_ == c) us r) : freeAt us c = decide (r < 0) := by
 unfold freeAt
 rcases h with ⟨rfl, h⟩ | ⟨k, x, rfl, hx, hp, -⟩
 ·rw [h]; decide
 ·rw [List.any_eq_true.2 ⟨x, List.mem_of_getElem? hx, hp⟩]
  symm
  exact decide_eq_false (by omega)
set_option maxRecDepth 100000 in
set_option maxHeartbeats 16000000 in
theorem rspot_any (vk vw : Value) (ks : List KV) (X : WV) (an kn Wn Hn : Nat) (k : KV) (l : List Int) (w : World) (hk : Kl w vk ks) (hw : Wl w vw X) (G : Fd.Good Wn Hn X.gs X.os) (e1 : X.wide = (Wn : Nat)) (e2 : X.high = (Hn : Nat)) (ha : an < Wn * Hn)
  (hkk : ks[kn]? = some k) (hl : IsFar (Fd.near Wn Hn) (fun i _ => (X.gs.map fun g => Fd.onto g k.f).getD i 0) an (Wn * Hn) l) :
  Calls Tryz.prog 15 #[vk, vw, .int .i64 (an : Nat), .int .i64 (kn : Nat)] w fun e w' => e = .returned (.int .i64 (rsp l (freeAt X.us) (Wn * Hn)).1) ∧ Below w.heap.size w w' := by
 have GD : Hid (Fd.Good Wn Hn X.gs X.os ∧ X.wide = (Wn : Nat) ∧ X.high = (Hn : Nat) ∧ an < Wn * Hn) := ⟨G, e1, e2, ha⟩
 have EV : Hid (Even (Fd.near Wn Hn) (fun _ j => (X.gs.map fun g => Fd.onto g k.f).getD j 0) (Wn * Hn)) := even_to G.w1 X.gs k.f
 have LF : Hid (IsFar (Fd.near Wn Hn) (fun i _ => (X.gs.map fun g => Fd.onto g k.f).getD i 0) an (Wn * Hn) l) := hl
 have H : Hid (Wl w vw X) := hw
 have hkl : kn < ks.length := (List.getElem?_eq_some_iff.1 hkk).1
 have hki : ((kn : Nat) : Int) < (ks.length : Nat) := by omega
 have GL : Hid (X.gs.length = Wn * Hn) := G.gl
 obtain ⟨nm, hnm⟩ : ∃ n, X.gs.length = n := ⟨_, rfl⟩
 have NM : Hid (Wn * Hn = nm ∧ nm ≤ 144) := ⟨by rw [← hnm]; exact G.gl.symm, by have h1 := G.gl; have h2 : Wn * Hn ≤ 12 * 12 := Nat.mul_le_mul G.w2 G.h2; omega⟩
 clear hnm
 obtain ⟨p1, s1, p2, s2, p3, s3, p4, s4, p5, s5, rfl⟩ := wl_shape9 hw
 obtain ⟨pk, qk, rfl, ck1, ck2, kc⟩ := hk
 obtain ⟨xk, rfl, hxk, hkc⟩ := kc (by intro h; rw [h] at hkl; simp at hkl)
 have KC : Hid (Kc w (xk.add (kn * 11)) k ∧ (xk.add (kn * 11)).block < w.heap.size) := ⟨hkc kn k hkk, by rw [add_block]; exact hxk⟩
 obtain ⟨b, hb0⟩ : ∃ z, w.heap.size = z := ⟨_, rfl⟩
 have B0 : Hid (Below w.heap.size w (w.alloc (Obj.cells #[.int .i64 X.turn, .int .i64 X.next, .int .i64 X.wide, .int .i64 X.high, .slice p1 X.gs.length s1, .slice p2 X.os.length s2, .slice p3 X.gold.length s3, .slice p4 X.us.length s4, .slice p5 X.qs.length s5] 29))) := (Below.refl _ _).alloc (Nat.le_refl _) _
 have X0 : Hid (Bw (w.alloc (Obj.cells #[.int .i64 X.turn, .int .i64 X.next, .int .i64 X.wide, .int .i64 X.high, .slice p1 X.gs.length s1, .slice p2 X.os.length s2, .slice p3 X.gold.length s3, .slice p4 X.us.length s4, .slice p5 X.qs.length s5] 29)) b X (.slice p1 X.gs.length s1) (.slice p2 X.os.length s2) (.slice p3 X.gold.length s3) (.slice p4 X.us.length s4) (.slice p5 X.qs.length s5)) := Bw.mk' X _ _ _ _ _ hb0
 clear hw G e1 e2 ha hkk hl kc hkc hxk
 rw [NM.out.1]
 go_enter Tryz.func15, Tryz.ntmps15
 go_upto_region 1 with fail
 (try rw [hb0])
 clear hb0
 generalize w.alloc (Obj.cells #[.int .i64 X.turn, .int .i64 X.next, .int .i64 X.wide, .int .i64 X.high, .slice p1 X.gs.length s1, .slice p2 X.os.length s2, .slice p3 X.gold.length s3, .slice p4 X.us.length s4, .slice p5 X.qs.length s5] 29) = w0 at *
 go_wp2_with fail
 go_loopw [9, 10, 11] (fun v9 v10 v11 V => ∃ n : Nat, n ≤ nm ∧ v11 = .int .i64 (n : Nat) ∧ v9 = .int .i64 (rsp l (freeAt X.us) n).1 ∧ v10 = .int .i64 (rsp l (freeAt X.us) n).2 ∧ Below w0.heap.size w0 V) (fun _ _ v11 _ => nm - (intOf v11).toNat)
 case atStart => exact ⟨0, Nat.zero_le _, rfl, rfl, rfl, Below.refl _ _⟩
 case round =>
 obtain ⟨n, hn, rfl, rfl, rfl, hbr⟩ := hrel
 have BV : Hid (Below w.heap.size w wr) := B0.out.trans (hbr.mono B0.out.size)
 have XV : Hid (Bw wr b X (.slice p1 X.gs.length s1) (.slice p2 X.os.length s2) (.slice p3 X.gold.length s3) (.slice p4 X.us.length s4) (.slice p5 X.qs.length s5)) := X0.out.below hbr X0.out.lt
 have BR : Hid (Below w0.heap.size w0 wr) := hbr
 have SZ : Hid (b < w0.heap.size) := X0.out.lt
 clear hbr
 by_cases h0 : n = nm
 ·have hni : ¬ ((n : Nat) : Int) < (X.gs.length : Nat) := by have := GL.out; have := NM.out.1; omega
  obtain ⟨x0, x1, x2, x3, x4, x5, x6, x7, x8⟩ := XV.out
  subst h0
  go_wp2
  go_ret
  exact ⟨rfl, BV.out⟩
 ·have hni : ((n : Nat) : Int) < (X.gs.length : Nat) := by have := GL.out; have := NM.out.1; omega
  have hnl : n < nm := by omega
  obtain ⟨x0, x1, x2, x3, x4, x5, x6, x7, x8⟩ := XV.out
  obtain ⟨m, hm⟩ : ∃ m, (rsp l (freeAt X.us) n).2 = m := ⟨_, rfl⟩
  obtain ⟨bs, hbs⟩ : ∃ m, (rsp l (freeAt X.us) n).1 = m := ⟨_, rfl⟩
  have RS : Hid ((rsp l (freeAt X.us) n).2 = m ∧ (rsp l (freeAt X.us) n).1 = bs) := ⟨hm, hbs⟩
  rw [hm, hbs]
  clear hm hbs
  go_wp2_with fail
  refine (ron_any _ X (n : Nat) wr (H.out.below BV.out)).mono ?_
  rintro e w2 ⟨r, rfl, hr, hb⟩
  have FR : Hid (freeAt X.us (n : Nat) = decide (r < 0)) := free_on hr
  have BV2 : Hid (Below w.heap.size w w2) := BV.out.trans (hb.mono BV.out.size)
  have BR2 : Hid (Below w0.heap.size w0 w2) := BR.out.trans (hb.mono BR.out.size)
  have XV2 : Hid (Bw w2 b X (.slice p1 X.gs.length s1) (.slice p2 X.os.length s2) (.slice p3 X.gold.length s3) (.slice p4 X.us.length s4) (.slice p5 X.qs.length s5)) := XV.out.below hb XV.out.lt
  clear hb hr x0 x1 x2 x3 x4 x5 x6 x7 x8 XV BV BR
  go_upto_region 7 with fail
  have CB : Hid (∀ V, Below w2.heap.size w2 V → (Bw V b X (.slice p1 X.gs.length s1) (.slice p2 X.os.length s2) (.slice p3 X.gold.length s3) (.slice p4 X.us.length s4) (.slice p5 X.qs.length s5) ∧ V.cell? ⟨(xk.add (kn * 11)).block, (xk.add (kn * 11)).off + 9, none⟩ = some (.bool k.f))) := fun V hb => ⟨XV2.out.below hb XV2.out.lt, (KC.out.1.below (BV2.out.trans (hb.mono BV2.out.size)) KC.out.2).c9⟩
  refine wp_region_two [(true, 0), (true, 1), (true, 2), (true, 3), (true, 4), (true, 5), (true, 6), (true, 7), (true, 9), (false, 8)] [(true, 10), (false, 11), (false, 12)] (fun V => Bw V b X (.slice p1 X.gs.length s1) (.slice p2 X.os.length s2) (.slice p3 X.gold.length s3) (.slice p4 X.us.length s4) (.slice p5 X.qs.length s5) ∧ V.cell? ⟨(xk.add (kn * 11)).block, (xk.add (kn * 11)).off + 9, none⟩ = some (.bool k.f)) (by kernel_rfl) (by kernel_rfl) (by kernel_rfl) (by decide +kernel) (by decide +kernel) (CB.out _ ((Below.refl _ _).drew)) ?_
  have D4 : Hid (Below w2.heap.size w2 { w2 with drawn := w2.drawn + 1 }) := (Below.refl _ _).drew
  have D5 : Hid (Below w.heap.size w { w2 with drawn := w2.drawn + 1 }) := BV2.out.drew
  generalize ({ w2 with drawn := w2.drawn + 1 } : World) = wd at *
  refine headT_read rfl (.pointer (some ⟨b, 2, none⟩)) (by go_simp) (fun V hV => by go_simp) ?_
  go_simp
  refine headT_read rfl (.agg #[.int .i64 X.wide, .int .i64 X.high, .slice p1 X.gs.length s1, .slice p2 X.os.length s2]) (by go_simp) (fun V hV => by obtain ⟨⟨x0, x1, x2, x3, x4, x5, x6, x7, x8⟩, d1⟩ := hV; go_simp) ?_
  go_simp
  refine headT_read rfl (.int .i64 (n : Nat)) (by go_simp) (fun V hV => by go_simp) ?_
  go_simp
  refine headT_read rfl (.slice (some xk) ks.length qk) (by go_simp) (fun V hV => by go_simp) ?_
  go_simp
  refine headT_read rfl (.int .i64 (kn : Nat)) (by go_simp) (fun V hV => by go_simp) ?_
  go_simp
  refine headT_read rfl (.pointer (some (xk.add (kn * 11)))) (by go_simp) (fun V hV => by go_simp) ?_
  go_simp
  refine headT_read rfl (.pointer (some ⟨(xk.add (kn * 11)).block, (xk.add (kn * 11)).off + 9, none⟩)) (by go_simp) (fun V hV => by go_simp) ?_
  go_simp
  refine headT_read rfl (.bool k.f) (by go_simp) (fun V hV => by obtain ⟨⟨x0, x1, x2, x3, x4, x5, x6, x7, x8⟩, d1⟩ := hV; go_simp) ?_
  go_simp
  refine headT_read rfl (.int .i64 (an : Nat)) (by go_simp) (fun V hV => by go_simp) ?_
  go_simp
  refine headT_call rfl 39 #[.agg #[.int .i64 X.wide, .int .i64 X.high, .slice p1 X.gs.length s1, .slice p2 X.os.length s2], .int .i64 (n : Nat), .bool k.f] (by go_simp) (by go_simp) ?_
  have FLD := fl_of (H.out.below D5.out)
  rw [GD.out.2.1, GD.out.2.2.1] at FLD
  have RT := ref_to _ Wn Hn X.gs X.os n k.f wd FLD GD.out.1 (by rw [NM.out.1]; exact hnl) EV.out
  rw [← GD.out.2.1, ← GD.out.2.2.1] at RT
  refine RT.mono ?_
  rintro e wa ⟨bb, l', rfl, -, hbk, hfar, hb⟩
  have FB : l'.getD an 0 = l.getD n 0 := far_back EV.out LF.out hfar.1 GD.out.2.2.2 (by rw [NM.out.1]; exact hnl)
  obtain ⟨d, hd⟩ : ∃ d, l'[an]? = some d := ⟨_, List.getElem?_eq_getElem (by rw [hfar.1.1]; exact GD.out.2.2.2)⟩
  have DD : Hid (l.getD n 0 = d) := by unfold Hid; rw [← FB, List.getD_eq_getElem?_getD, hd]; rfl
  have cd := hbk.cell hd
  have DA : Hid (Below w2.heap.size w2 wa) := D4.out.trans (hb.mono D4.out.size)
  have hai : ((an : Nat) : Int) < ((nm : Nat) : Int) := by have := GD.out.2.2.2; have := NM.out; omega
  refine ⟨_, rfl, CB.out _ DA.out, ?_⟩
  clear hb hbk hfar FB hd D4 D5 FLD RT
  rw [NM.out.1]
  go_simp
  refine sched_read rfl (.pointer (some ⟨bb, an, none⟩)) (by go_simp) (fun V hV => by go_simp) ?_
  go_simp
  refine sched_value rfl (.int .i64 d) wa (by go_simp) (by go_simp) trivial ?_
  go_simp
  refine sched_value rfl (.int .i64 d) wa (by go_simp) (by go_simp) trivial ?_
  go_simp
  unfold wpSched
  clear cd CB
  have BRa : Hid (Below w0.heap.size w0 wa) := BR2.out.trans (DA.out.mono BR2.out.size)
  have WN : IntKind.i64.wrap ((n : Nat) + 1 : Int) = ((n : Nat) : Int) + 1 := by rw [IntKind.wrap_i64]; have := NM.out.2; omega
  by_cases hy : 0 ≤ d ∧ d < m ∧ r < 0
  ·have NX : Hid (rsp l (freeAt X.us) (n + 1) = ((n : Int), d)) := by
    unfold Hid
    rw [rsp_yes (by rw [DD.out, RS.out.1, FR.out]; exact ⟨hy.1, hy.2.1, decide_eq_true hy.2.2⟩), DD.out]
   obtain ⟨y1, y2, y3⟩ := hy
   go_wp2
   go_round
   case rel => exact ⟨n + 1, by omega, by go_num, by rw [NX.out], by rw [NX.out], BRa.out⟩
   case measure => simp [intOf]; omega
  ·have NX : Hid (rsp l (freeAt X.us) (n + 1) = rsp l (freeAt X.us) n) := rsp_no (by rw [DD.out, RS.out.1, FR.out, decide_eq_true_eq]; exact hy)
   have hy2 : (¬ 0 ≤ d) ∨ (0 ≤ d ∧ ¬ d < m) ∨ (0 ≤ d ∧ d < m ∧ ¬ r < 0) := by omega
   clear hy
   rcases hy2 with y1 | ⟨y1, y2⟩ | ⟨y1, y2, y3⟩
   all_goals
    go_wp2
    go_round
    case rel => exact ⟨n + 1, by omega, by go_num, by rw [NX.out, RS.out.2], by rw [NX.out, RS.out.1], BRa.out⟩
    case measure => simp [intOf]; omega
end Go.Proofs.YteieikgkmfglaaaGreatDoor
namespace Go.Proofs.YteieikgkmfglaaaGreatDoor
open Go.RowKit
set_option linter.unusedVariables false
theorem run_un (w : World) (ty : TypeId) (base : Nat) (v : Value) (ks : List UnV) (hown : Uno w base v ks) (b : Nat) (d : UnV) (hd : Unc w ⟨b, 0, none⟩ d) (hl : ks.length ≤ 1000000) (hbase : base ≤ w.heap.size) :
  ∃ g cap w', (Builtin.append_ #[26, 26] ty #[v, .slice (some ⟨b, 0, none⟩) 1 1]).run Tryz.prog w = .ok (.slice (some ⟨g, 0, none⟩) (ks.length + 1) cap) w' ∧ Uno w' base (.slice (some ⟨g, 0, none⟩) (ks.length + 1) cap) (ks ++ [d]) ∧ w.grownBy w' v.ownBlock ∧ (v.ownBlock = some g ∨ g = w.heap.size) ∧ g < w'.heap.size := by
 obtain ⟨i0, hi, hz0, hz1, hz2⟩ := info_parts info_un
 obtain ⟨g, cap, w6, hr, ho6, hg6, ha6, hl6⟩ := run_append_lies (P := Tryz.prog) w 26 26 base 44 i0 _ 8 64 Tryz.underlying26 hi hz0 hz1 hz2 rfl (by decide) v ks.length _ hown ⟨b, 0, none⟩ 1 1 (UnV.cs d) rfl (fun j u hj => by
  have hjn : j < 8 := (List.getElem?_eq_some_iff.1 hj).1
  rw [Addr.add_lit, Nat.zero_add]
  match j, hjn, hj with
  | 0, _, hj => simp [UnV.cs] at hj; subst hj; exact hd.c0
  | 1, _, hj => simp [UnV.cs] at hj; subst hj; exact hd.c1
  | 2, _, hj => simp [UnV.cs] at hj; subst hj; exact hd.c2
  | 3, _, hj => simp [UnV.cs] at hj; subst hj; exact hd.c3
  | 4, _, hj => simp [UnV.cs] at hj; subst hj; exact hd.c4
  | 5, _, hj => simp [UnV.cs] at hj; subst hj; exact hd.c5
  | 6, _, hj => simp [UnV.cs] at hj; subst hj; exact hd.c6
  | 7, _, hj => simp [UnV.cs] at hj; subst hj; exact hd.c7) (fun u hu => by
  simp [UnV.cs] at hu
  rcases hu with rfl | rfl | rfl | rfl | rfl | rfl | rfl | rfl <;> rfl) (by decide) (by unfold maxLen; omega) (by omega) hbase _ rfl
 refine ⟨g, cap, w6, hr, ?_, hg6, ha6, hl6⟩
 unfold Uno
 rw [List.length_append, List.flatMap_append]
 simpa using ho6
end Go.Proofs.YteieikgkmfglaaaGreatDoor
namespace Go.Proofs.YteieikgkmfglaaaGreatDoor
open Go.RowKit
set_option linter.unusedVariables false
/-- block g has these jobs, and more behind them. -/
def Jk (w : World) (g : Nat) (ks : List JbV) (rest : List Value) : Prop := w.heap[g]? = some (.cells (ks.flatMap JbV.cs ++ rest).toArray 71 (0, 0))
theorem Jk.lt {w : World} {g : Nat} {ks : List JbV} {rest : List Value} (h : Jk w g ks rest) : g < w.heap.size := lt_of_block h
theorem Jk.thaw {w : World} {g : Nat} {ks : List JbV} {rest : List Value} (h : Jk w g ks rest) (i : Nat) : w.frozen? ⟨g, i, none⟩ = false := by
 unfold Jk at h
 simp [World.frozen?, h]
theorem Jk.below {w w' : World} {g B : Nat} {ks : List JbV} {rest : List Value} (h : Jk w g ks rest) (hb : Below B w w') (hB : g < B) : Jk w' g ks rest := by
 unfold Jk at *
 rw [hb.block g hB]; exact h
theorem Jk.at_ {w : World} {g : Nat} {ks : List JbV} {rest : List Value} (h : Jk w g ks rest) {i : Nat} {o : JbV} (ho : ks[i]? = some o) {j : Nat} (hj : j < 4) : w.cell? ⟨g, i * 4 + j, none⟩ = o.cs[j]? := by
 unfold Jk at h
 have hi : i < ks.length := (List.getElem?_eq_some_iff.1 ho).1
 simp only [World.cell?, h]
 have e : (ks.flatMap JbV.cs ++ rest).toArray[i * 4 + j]? = o.cs[j]? := by
  rw [List.getElem?_toArray, List.getElem?_append_left (by rw [len_jb]; omega), flat_jb ks i j o ho hj]
 simp only [e]
 simp
theorem Jk.jbc {w : World} {g : Nat} {ks : List JbV} {rest : List Value} (h : Jk w g ks rest) {i : Nat} {o : JbV} (ho : ks[i]? = some o) : Jbc w ⟨g, i * 4, none⟩ o :=
 ⟨h.at_ ho (j := 0) (by decide), h.at_ ho (j := 1) (by decide), h.at_ ho (j := 2) (by decide), h.at_ ho (j := 3) (by decide)⟩
theorem jflat_set3 : ∀ (ks : List JbV) (i : Nat) (o : JbV) (a : Int) (rest : List Value), ks[i]? = some o → (ks.set i { o with left := a }).flatMap JbV.cs ++ rest = (ks.flatMap JbV.cs ++ rest).set (i * 4 + 3) (.int .i64 a)
 | [], i, o, a, rest, h => by simp at h
 | k :: ks, 0, o, a, rest, h => by
  simp at h
  subst h
  simp [JbV.cs]
 | k :: ks, i + 1, o, a, rest, h => by
  have ih := jflat_set3 ks i o a rest (by simpa using h)
  rw [show (i + 1) * 4 + 3 = i * 4 + 3 + 4 by omega, List.set_cons_succ, List.flatMap_cons, List.append_assoc, ih, List.flatMap_cons]
  simp [JbV.cs]
theorem Jk.set3 {w : World} {g : Nat} {ks : List JbV} {rest : List Value} (h : Jk w g ks rest) {i : Nat} {o : JbV} (ho : ks[i]? = some o) (a : Int) : Jk (w.setCell ⟨g, i * 4 + 3, none⟩ (.int .i64 a)) g (ks.set i { o with left := a }) rest := by
 unfold Jk at *
 have h0 := heap_setCell_same w g (i * 4 + 3) _ _ (.int .i64 a) h
 rw [h0, jflat_set3 ks i o a rest ho]
 simp
/-- a list of its own, as a block. -/
theorem Jbo.jk {w : World} {base : Nat} {v : Value} {ks : List JbV} (h : Jbo w base v ks) : (v = .slice none 0 0 ∧ ks = []) ∨ ∃ g cap rest, v = .slice (some ⟨g, 0, none⟩) ks.length cap ∧ base ≤ g ∧ ks.length ≤ cap ∧ cap ≤ maxLen ∧ ks.length * 4 + rest.length = cap * 4 ∧ Jk w g ks rest := by
 rcases h.2 with ⟨h1, h2⟩ | ⟨g, cap, cur, h1, h2, h3, h4, h5, h6, h7⟩
 ·exact .inl ⟨h1, List.length_eq_zero_iff.1 h2⟩
 ·refine .inr ⟨g, cap, cur.toList.drop (ks.length * 4), h1, h2, h4, h5, ?_, ?_⟩
  ·have e6 : cur.toList.length = cap * 4 := by simpa using h6
   rw [List.length_drop, e6]
   have : ks.length * 4 ≤ cap * 4 := Nat.mul_le_mul_right _ h4
   omega
  ·unfold Jk
   rw [← h7, List.take_append_drop, Array.toArray_toList]
   exact h3
end Go.Proofs.YteieikgkmfglaaaGreatDoor
