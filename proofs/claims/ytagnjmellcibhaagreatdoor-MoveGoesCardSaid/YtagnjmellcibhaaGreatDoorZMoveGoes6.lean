/- What the reference says of the cells beside one, and of a step. · Ways, found by going over all cells till nothing gets nearer: plain mathematics. · The reference: how far it is from each cell to one. · The reference: the next cell on a way. · The reference's toward: the next cell on a way. · The reference's Wish: along a wish that is told. · The reference's Copy. · Worlds: the reference's Find. · Worlds: the reference's On and number. -/
import Derived.Test.YtagnjmellcibhaaGreatDoorZMoveGoes5
import Derived.Test.YtagnjmellcibhaaGreatDoorZMoveGoes1
import Derived.Deep.DeepCutAuto
import Derived.Test.YtagnjmellcibhaaGreatDoorZMoveGoes2
import Derived.Deep.RegionHeld3
import Derived.Test.YtagnjmellcibhaaGreatDoorZMoveGoes3
import Derived.Test.YtagnjmellcibhaaGreatDoorZMoveGoes4
namespace Go.Proofs.YtagnjmellcibhaaGreatDoor
open Go.RowKit
set_option linter.unusedVariables false

/-- a list as far as it is made. -/
structure Nr (w : World) (W H : Int) (u1 u2 : Value) (l : List Int) (v : Value) (W' : World) : Prop where
  o : Ow W' (w.heap.size + 1) v l
  x : Bf W' w.heap.size W H u1 u2
  b : Below w.heap.size w W'
theorem Nr.grow {w wr w5 : World} {W H : Int} {u1 u2 v v5 : Value} {l l5 : List Int} {o : Obj} (h : Nr w W H u1 u2 l v wr) (hg : (wr.alloc o).grownBy w5 v.ownBlock) (h5 : Ow w5 (w.heap.size + 1) v5 l5) : Nr w W H u1 u2 l5 v5 w5 := by
  have hob : ∀ k, v.ownBlock = some k → w.heap.size + 1 ≤ k := fun k hk => (h.o.block k hk).1
  have z := h.x.lt
  have h2 : Below wr.heap.size wr (wr.alloc o) := (Below.refl _ _).alloc (Nat.le_refl _) _
  have z2 := h2.size
  have X2 : Bf (wr.alloc o) w.heap.size W H u1 u2 := h.x.below h2 z
  have hne : some w.heap.size ≠ v.ownBlock := fun e => by have := hob _ e.symm; omega
  refine ⟨h5, ⟨?_, ?_, ?_, ?_⟩, (h.b.trans (h2.mono (by omega))).grown hg (by omega) (fun k hk => by have := hob k hk; omega)⟩
  · rw [hg.cell_far ⟨w.heap.size, 0, none⟩ (by show w.heap.size < _; omega) hne]; exact X2.c0
  · rw [hg.cell_far ⟨w.heap.size, 1, none⟩ (by show w.heap.size < _; omega) hne]; exact X2.c1
  · rw [hg.cell_far ⟨w.heap.size, 2, none⟩ (by show w.heap.size < _; omega) hne]; exact X2.c2
  · rw [hg.cell_far ⟨w.heap.size, 3, none⟩ (by show w.heap.size < _; omega) hne]; exact X2.c3
theorem len_if (c : Prop) [Decidable c] (x : Int) : (if c then [x] else []).length ≤ 1 := by split <;> simp

set_option maxRecDepth 100000 in
set_option maxHeartbeats 2000000 in
theorem ref_near_own (v : Value) (W H : Nat) (gs os : List Int) (a : Nat) (w : World) (h : Fl w v W H gs os) (h1 : 0 < W) (h2 : W ≤ 12) (h3 : H ≤ 12) (ha : a < W * H) :
    Calls Tryz.prog 80 #[v, .int .i64 (a : Nat)] w fun e w' => ∃ u, e = .returned u ∧ Ow w' w.heap.size u (Fd.near W H a) ∧ Below w.heap.size w w' := by
  obtain ⟨u1, u2, rfl, ⟨a1, c, rfl, -⟩, ⟨b1, d, rfl, -⟩⟩ := h
  have hm : W * H ≤ 144 := Nat.mul_le_mul h2 h3
  have r1 : a / W < H := Nat.div_lt_of_lt_mul ha
  have p1 := Nat.mod_lt a h1
  have En : Hid (Fd.near W H a = (if 0 < a / W then [(a : Int) - W] else []) ++ ((if 0 < a % W then [(a : Int) - 1] else []) ++ ((if a % W + 1 < W then [(a : Int) + 1] else []) ++ (if a / W + 1 < H then [(a : Int) + W] else [])))) := rfl
  have e1 : (a : Int) % (W : Int) = (a % W : Nat) := rfl
  have e2 : (a : Int) / (W : Int) = (a / W : Nat) := rfl
  generalize a % W = p at *
  generalize a / W = r at *
  have A1 : a ≤ 144 := by omega
  have hw : ¬ (W : Int) = 0 := by omega
  clear ha
  obtain ⟨w0, hw0⟩ : ∃ w0, w.alloc (Obj.cells #[.int .i64 (W : Nat), .int .i64 (H : Nat), .slice a1 gs.length c, .slice b1 os.length d] 25) = w0 := ⟨_, rfl⟩
  have N0 : Hid (Nr w W H (.slice a1 gs.length c) (.slice b1 os.length d) [] (.slice none 0 0) w0) := by
    rw [← hw0]
    exact ⟨Ow.nil _ _, Bf.mk' _ _ _ _ rfl, (Below.refl _ _).alloc (Nat.le_refl _) _⟩
  have Hw : Hid (w.alloc (Obj.cells #[.int .i64 (W : Nat), .int .i64 (H : Nat), .slice a1 gs.length c, .slice b1 os.length d] 25) = w0) := hw0
  clear hw0
  go_enter Tryz.func80, Tryz.ntmps80
  go_upto_region 2 with fail
  rw [Hw.out]
  obtain ⟨x0, x1, x2, x3⟩ := N0.out.x
  go_upto_if 17 with fail
  rw [e1]
  clear e1 e2 x0 x1 x2 x3
  go_cut [5] (fun v5 W' => Nr w W H (.slice a1 gs.length c) (.slice b1 os.length d) (if 0 < r then [(a : Int) - W] else []) v5 W')
  case first =>
    obtain ⟨x0, x1, x2, x3⟩ := N0.out.x
    by_cases q : 0 < r
    · go_wp2_with (at_builtin; refine app_int _ rfl _ _ rfl (w.heap.size + 1) _ [] rfl (N0.out.o.alloc _) ⟨w0.heap.size, 0, none⟩ ((a : Int) - W) rfl (by simp) (by simp) (by have := N0.out.x.lt; simp; omega) ?_)
      intro g cap w5 o5 g5 a5 l5
      have N5 : Hid (Nr w W H (.slice a1 gs.length c) (.slice b1 os.length d) [(a : Int) - W] _ w5) := N0.out.grow g5 o5
      clear o5 g5 a5 l5 x0 x1 x2 x3
      go_wp2
      go_meet
      case rel => rw [if_pos q]; exact N5
    · have q0 : r = 0 := by omega
      subst q0
      go_wp2_with fail
      go_meet
      case rel => rw [if_neg q]; exact N0
  case rest =>
    have L1 : Hid ((if 0 < r then [(a : Int) - W] else []).length ≤ 1) := len_if _ _
    have N1 : Hid (Nr w W H (.slice a1 gs.length c) (.slice b1 os.length d) (if 0 < r then [(a : Int) - W] else []) u5 wc) := hcut
    clear hcut N0
    generalize (if 0 < r then [(a : Int) - W] else []) = l1 at *
    go_upto_if 26 with fail
    go_cut [5] (fun v5 W' => Nr w W H (.slice a1 gs.length c) (.slice b1 os.length d) (l1 ++ (if 0 < p then [(a : Int) - 1] else [])) v5 W')
    case first =>
      by_cases q : 0 < p
      · go_wp2_with (at_builtin; refine app_int _ rfl _ _ rfl (w.heap.size + 1) _ l1 rfl (N1.out.o.alloc _) ⟨wc.heap.size, 0, none⟩ ((a : Int) - 1) rfl (by simp) (by have := L1.out; omega) (by have := N1.out.x.lt; simp; omega) ?_)
        intro g cap w5 o5 g5 a5 l5
        have N5 : Hid (Nr w W H (.slice a1 gs.length c) (.slice b1 os.length d) (l1 ++ [(a : Int) - 1]) _ w5) := N1.out.grow g5 o5
        clear o5 g5 a5 l5
        go_wp2
        go_meet
        case rel => rw [if_pos q]; exact N5
      · have q0 : p = 0 := by omega
        subst q0
        go_wp2_with fail
        go_meet
        case rel => rw [if_neg q, List.append_nil]; exact N1
    case rest =>
      have L2 : Hid ((l1 ++ (if 0 < p then [(a : Int) - 1] else [])).length ≤ 2) := by have h1 := L1.out; have h2 := len_if (0 < p) ((a : Int) - 1); unfold Hid; rw [List.length_append]; omega
      have N2 : Hid (Nr w W H (.slice a1 gs.length c) (.slice b1 os.length d) (l1 ++ (if 0 < p then [(a : Int) - 1] else [])) _ wc) := hcut
      have E2 : Hid (l1 ++ ((if 0 < p then [(a : Int) - 1] else []) ++ ((if p + 1 < W then [(a : Int) + 1] else []) ++ (if r + 1 < H then [(a : Int) + W] else []))) = (l1 ++ (if 0 < p then [(a : Int) - 1] else [])) ++ ((if p + 1 < W then [(a : Int) + 1] else []) ++ (if r + 1 < H then [(a : Int) + W] else []))) := (List.append_assoc _ _ _).symm
      clear hcut N1
      generalize l1 ++ (if 0 < p then [(a : Int) - 1] else []) = l2 at *
      obtain ⟨x0, x1, x2, x3⟩ := N2.out.x
      go_upto_if 36 with fail
      go_cut [5] (fun v5 W' => Nr w W H (.slice a1 gs.length c) (.slice b1 os.length d) (l2 ++ (if p + 1 < W then [(a : Int) + 1] else [])) v5 W')
      case first =>
        by_cases q : p + 1 < W
        · go_wp2_with (at_builtin; refine app_int _ rfl _ _ rfl (w.heap.size + 1) _ l2 rfl (N2.out.o.alloc _) ⟨wc.heap.size, 0, none⟩ ((a : Int) + 1) rfl (by simp) (by have := L2.out; omega) (by have := N2.out.x.lt; simp; omega) ?_)
          intro g cap w5 o5 g5 a5 l5
          have N5 : Hid (Nr w W H (.slice a1 gs.length c) (.slice b1 os.length d) (l2 ++ [(a : Int) + 1]) _ w5) := N2.out.grow g5 o5
          clear o5 g5 a5 l5
          go_wp2
          go_meet
          case rel => rw [if_pos q]; exact N5
        · have q1 : ¬ (p : Int) < (W : Int) - 1 := by omega
          go_wp2_with fail
          go_meet
          case rel => rw [if_neg q, List.append_nil]; exact N2
      case rest =>
        have L3 : Hid ((l2 ++ (if p + 1 < W then [(a : Int) + 1] else [])).length ≤ 3) := by have h1 := L2.out; have h2 := len_if (p + 1 < W) ((a : Int) + 1); unfold Hid; rw [List.length_append]; omega
        have N3 : Hid (Nr w W H (.slice a1 gs.length c) (.slice b1 os.length d) (l2 ++ (if p + 1 < W then [(a : Int) + 1] else [])) _ wc) := hcut
        have E3 : Hid (l2 ++ ((if p + 1 < W then [(a : Int) + 1] else []) ++ (if r + 1 < H then [(a : Int) + W] else [])) = (l2 ++ (if p + 1 < W then [(a : Int) + 1] else [])) ++ (if r + 1 < H then [(a : Int) + W] else [])) := (List.append_assoc _ _ _).symm
        clear hcut N2 x0 x1 x2 x3
        generalize l2 ++ (if p + 1 < W then [(a : Int) + 1] else []) = l3 at *
        obtain ⟨x0, x1, x2, x3⟩ := N3.out.x
        by_cases q : r + 1 < H
        · go_wp2_with (at_builtin; refine app_int _ rfl _ _ rfl (w.heap.size + 1) _ l3 rfl (N3.out.o.alloc _) ⟨wc.heap.size, 0, none⟩ ((a : Int) + W) rfl (by simp) (by have := L3.out; omega) (by have := N3.out.x.lt; simp; omega) ?_)
          intro g cap w5 o5 g5 a5 l5
          have N5 : Hid (Nr w W H (.slice a1 gs.length c) (.slice b1 os.length d) (l3 ++ [(a : Int) + W]) _ w5) := N3.out.grow g5 o5
          clear o5 g5 a5 l5
          go_wp2
          go_ret
          refine ⟨_, rfl, ?_, N5.out.b⟩
          rw [En.out, E2.out, E3.out, if_pos q]
          exact N5.out.o.mono (Nat.le_succ _)
        · have q1 : ¬ (r : Int) < (H : Int) - 1 := by omega
          go_wp2
          go_ret
          refine ⟨_, rfl, ?_, N3.out.b⟩
          rw [En.out, E2.out, E3.out, if_neg q, List.append_nil]
          exact N3.out.o.mono (Nat.le_succ _)
theorem ref_near (v : Value) (W H : Nat) (gs os : List Int) (a : Nat) (w : World) (h : Fl w v W H gs os) (h1 : 0 < W) (h2 : W ≤ 12) (h3 : H ≤ 12) (ha : a < W * H) :
    Calls Tryz.prog 80 #[v, .int .i64 (a : Nat)] w fun e w' => ∃ u, e = .returned u ∧ Ro w' u (Fd.near W H a) ∧ Below w.heap.size w w' :=
  (ref_near_own v W H gs os a w h h1 h2 h3 ha).mono fun e w' ⟨u, h1, h2, h3⟩ => ⟨u, h1, h2.ro, h3⟩
end Go.Proofs.YtagnjmellcibhaaGreatDoor

namespace Go.Proofs.YtagnjmellcibhaaGreatDoor.Wy
set_option linter.unusedVariables false
variable {nb : Nat → List Int} {st : Nat → Nat → Int} {t n : Nat}

/-- what holds all the time. -/
structure Rt (nb : Nat → List Int) (st : Nat → Nat → Int) (t n : Nat) (l : List Int) : Prop where
  len : l.length = n
  here : l[t]? = some 0
  sound : Sound nb st t l
  flat : Flat l
theorem Rt.start (ht : t < n) : Rt nb st t n ((List.replicate n (-1)).set t 0) :=
  have h := Wk.start (nb := nb) (st := st) ht
  ⟨h.len, h.here, h.sound, h.flat⟩
theorem Rt.set (E : Even nb st n) {l : List Int} {i j : Nat} {x y : Int} (h : Rt nb st t n l) (hj : (j : Int) ∈ nb i) (hx : l[i]? = some x) (hy : l[j]? = some y) (h0 : 0 < st i j) (y0 : 0 ≤ y) (hn : x < 0 ∨ st i j + y < x) :
    Rt nb st t n (l.set i (st i j + y)) ∧ left (2 * n + 1) (l.set i (st i j + y)) < left (2 * n + 1) l := by
  refine ⟨⟨by simp [h.len], ?_, h.sound.set hy hj h0 y0, h.flat.set hx hy y0 h0 (E.two _ _) hn⟩, left_set h.flat h.len hx hy y0 h0 (E.two _ _) hn⟩
  rw [List.getElem?_set]
  by_cases e : i = t
  · subst e
    rw [h.here] at hx
    injection hx with hx
    omega
  · rw [if_neg e]
    exact h.here

/-- all ahead of i, and k cells beside it, have been looked at, and nothing got nearer. -/
def Fine (nb : Nat → List Int) (st : Nat → Nat → Int) (l : List Int) (i k : Nat) : Prop := (∀ i', i' < i → Shut nb st l i') ∧ ∀ (q j : Nat), q < k → (nb i)[q]? = some (j : Int) → Pr nb st l i j
theorem Fine.start (l : List Int) : Fine nb st l 0 0 := ⟨fun i h => absurd h (Nat.not_lt_zero _), fun q j h => absurd h (Nat.not_lt_zero _)⟩
theorem Fine.step {l : List Int} {i j k : Nat} {x y : Int} (h : Fine nb st l i k) (hk : (nb i)[k]? = some (j : Int)) (hx : l[i]? = some x) (hy : l[j]? = some y) (hs : 0 < st i j → 0 ≤ y → 0 ≤ x ∧ x ≤ st i j + y) : Fine nb st l i (k + 1) := by
  refine ⟨h.1, fun q j' hq hj => ?_⟩
  by_cases e : q = k
  · subst e
    rw [hk] at hj
    injection hj with hj
    have : j = j' := by omega
    subst this
    intro x' y' hx' hy' _ h0 y0
    rw [hx] at hx'
    rw [hy] at hy'
    injection hx' with hx'
    injection hy' with hy'
    subst hx'
    subst hy'
    exact hs h0 y0
  · exact h.2 q j' (by omega) hj
theorem Fine.next {l : List Int} {i : Nat} (h : Fine nb st l i (nb i).length) : Fine nb st l (i + 1) 0 := by
  refine ⟨fun i' hi => ?_, fun q j h => absurd h (Nat.not_lt_zero _)⟩
  by_cases e : i' = i
  · subst e
    intro j x y hx hy hj h0 y0
    obtain ⟨q, hq⟩ := List.mem_iff_getElem?.1 hj
    exact h.2 q j (List.getElem?_eq_some_iff.1 hq).1 hq x y hx hy hj h0 y0
  · exact h.1 i' (by omega)
theorem Rt.far {l : List Int} (E : Even nb st n) (h : Rt nb st t n l) (hf : Fine nb st l n 0) : IsFar nb st t n l := far_of h.len E.lt h.here h.sound hf.1
end Go.Proofs.YtagnjmellcibhaaGreatDoor.Wy

namespace Go.Proofs.YtagnjmellcibhaaGreatDoor
open Go.RowKit Wy
set_option linter.unusedVariables false

/-- what is left, as memory has it. -/
def mleft (w : World) (b M : Nat) : Nat := match w.heap[b]? with
  | some (.cells cs _ _) => left M (cs.toList.map intOf)
  | _ => 0
theorem Bk.mleft {w : World} {b : Nat} {l : List Int} (h : Bk w b l #[]) (M : Nat) : mleft w b M = Wy.left M l := by
  unfold Bk at h
  unfold Go.Proofs.YtagnjmellcibhaaGreatDoor.mleft
  rw [h]
  simp [intCells, intOf, Function.comp_def]
def one : Value → Nat
  | .bool true => 1
  | _ => 0
theorem one_le (b : Bool) : 0 ≤ one (.bool b) := Nat.zero_le _
theorem Ow.kpt {w w' : World} {base z : Nat} {v : Value} {xs : List Int} (h : Ow w base v xs) (hk : Kp z w w') (hz : z < base) : Ow w' base v xs := by
  have hg : w.grownBy w' (some z) := ⟨hk.os, hk.tape, hk.output, hk.size, fun k h1 h2 => hk.block k h1 (fun e => h2 (by rw [e]))⟩
  refine h.kept hg ?_
  cases hb : v.ownBlock with
  | none => exact .inl rfl
  | some k =>
    have := (h.block k hb).1
    exact .inr (by simp; omega)
theorem Bf.kp {w w' : World} {z b : Nat} {W H : Int} {u1 u2 : Value} (h : Bf w z W H u1 u2) (hk : Kp b w w') (hz : z ≠ b) : Bf w' z W H u1 u2 := by
  have e := hk.block z h.lt hz
  exact ⟨by rw [World.cell?_of_block (w := w) (a := ⟨z, 0, none⟩) e]; exact h.c0, by rw [World.cell?_of_block (w := w) (a := ⟨z, 1, none⟩) e]; exact h.c1, by rw [World.cell?_of_block (w := w) (a := ⟨z, 2, none⟩) e]; exact h.c2, by rw [World.cell?_of_block (w := w) (a := ⟨z, 3, none⟩) e]; exact h.c3⟩

/-- a list of zeros, of which the first k have been made -1. -/
theorem fill_set (n k : Nat) (h : k < n) : (List.replicate k (-1 : Int) ++ List.replicate (n - k) 0).set k (-1) = List.replicate (k + 1) (-1) ++ List.replicate (n - (k + 1)) 0 := by
  rw [List.set_append, if_neg (by simp), List.length_replicate, Nat.sub_self]
  obtain ⟨m, hm⟩ : ∃ m, n - k = m + 1 := ⟨n - k - 1, by omega⟩
  rw [hm, List.replicate_succ, List.set_cons_zero, List.replicate_succ', show n - (k + 1) = m by omega]
  simp

/-- what To says. -/
def ToSays (W H : Nat) (ss : List Int) (t n : Nat) (w : World) (e : Ending) (w' : World) : Prop := ∃ b l, e = .returned (.slice (some ⟨b, 0, none⟩) n n) ∧ w.heap.size ≤ b ∧ Bk w' b l #[] ∧ (IsFar (Fd.near W H) (fun _ j => ss.getD j 0) t n l ∧ Flat l) ∧ Below w.heap.size w w'
theorem ToSays.of {W H : Nat} {ss : List Int} {t n : Nat} {w : World} {e : Ending} {w' : World} (h : ∃ b l, e = .returned (.slice (some ⟨b, 0, none⟩) n n) ∧ w.heap.size ≤ b ∧ Bk w' b l #[] ∧ (IsFar (Fd.near W H) (fun _ j => ss.getD j 0) t n l ∧ Flat l) ∧ Below w.heap.size w w') : ToSays W H ss t n w e w' := h

set_option maxRecDepth 100000 in
set_option maxHeartbeats 4000000 in
theorem ref_to (v : Value) (W H : Nat) (gs os : List Int) (t : Nat) (fl : Bool) (w : World) (h : Fl w v W H gs os) (G : Fd.Good W H gs os) (ht : t < W * H) (E : Even (Fd.near W H) (fun _ j => (gs.map fun g => Fd.onto g fl).getD j 0) (W * H)) :
    Calls Tryz.prog 51 #[v, .int .i64 (t : Nat), .bool fl] w fun e w' => ToSays W H (gs.map fun g => Fd.onto g fl) t (W * H) w e w' := by
  have F0 : Hid (Fl w v W H gs os) := h
  have G0 : Hid (Fd.Good W H gs os) := G
  obtain ⟨u1, u2, rfl, ⟨a1, c, rfl, c1, c2, ca⟩, ⟨b1, d, rfl, d1, d2, cb⟩⟩ := h
  obtain ⟨n, hn⟩ : ∃ n, W * H = n := ⟨_, rfl⟩
  have Hn : Hid (W * H = n) := hn
  have gl : gs.length = n := by rw [← hn]; exact G.gl
  have Gl : Hid (gs.length = n) := gl
  have n0 : 0 < n := by rw [← hn]; have := G.pos; omega
  have n1 : n ≤ 144 := by rw [← hn]; exact G.pos.2
  obtain ⟨ss, hss⟩ : ∃ ss, (gs.map fun g => Fd.onto g fl) = ss := ⟨_, rfl⟩
  have Hss : Hid ((gs.map fun g => Fd.onto g fl) = ss) := hss
  have Sl : Hid (ss.length = n) := by unfold Hid; rw [← hss, List.length_map]; exact gl
  rw [hn] at ht E
  rw [hss] at E
  rw [hn, hss]
  have E0 : Hid (Even (Fd.near W H) (fun _ j => ss.getD j 0) n) := E
  rw [gl] at c1 ⊢
  clear ca cb G hn hss gl E
  generalize hw0 : w.alloc (Obj.cells #[.int .i64 W, .int .i64 H, .slice a1 n c, .slice b1 os.length d] 25) = w0
  have B0 : Hid (Below w.heap.size w w0) := by rw [← hw0]; exact (Below.refl _ _).alloc (Nat.le_refl _) _
  have X0 : Hid (Bf w0 w.heap.size W H (.slice a1 n c) (.slice b1 os.length d)) := by rw [← hw0]; exact Bf.mk' _ _ _ _ rfl
  have Hw : Hid (w.alloc (Obj.cells #[.int .i64 W, .int .i64 H, .slice a1 n c, .slice b1 os.length d] 25) = w0) := hw0
  clear hw0
  go_enter Tryz.func51, Tryz.ntmps51
  go_wp2_with (at_make; rw [Hw.out]; obtain ⟨i0, hi, hz0, hz1, hz2⟩ := info_parts info_int; refine wpList_make_full _ rfl _ _ 23 rfl w0.heap.size 3 i0 (.int .i64 0) 1 Tryz.underlying23 hi hz0 hz1 _ _ _ _ n rfl rfl rfl rfl (by rw [hz2]; omega) (by unfold maxLen; omega) (Nat.le_refl _) ?_)
  intro w1 o1 g1
  clear hi hz0 hz1 hz2
  have K1 : Hid (Bk w1 w0.heap.size (List.replicate n 0) #[]) := by
    rcases o1.2 with ⟨h, _⟩ | ⟨g, cap, cur, hv, hb, hg, h1, h2, h3, h4⟩
    · cases h
    · cases hv
      unfold Hid Bk
      rw [hg]
      congr 1
      have e : cur.toList = List.replicate n (Value.int .i64 0) := by
        have := toList_madeCells_one (.int .i64 0) n
        rw [List.take_of_length_le (by simp; omega)] at h4
        rw [h4]
        exact this
      have e' : cur = (List.replicate n (Value.int .i64 0)).toArray := by rw [← e]
      rw [e']
      simp [intCells]
  have b01 : Below w0.heap.size w0 w1 := (Below.refl _ _).grown g1 (Nat.le_refl _) (fun k hk => by cases hk)
  have X1 : Hid (Bf w1 w.heap.size W H (.slice a1 n c) (.slice b1 os.length d)) := X0.out.below b01 X0.out.lt
  have B1 : Hid (Below w.heap.size w w1) := B0.out.trans (b01.mono B0.out.size)
  have Zb : Hid (w.heap.size < w0.heap.size) := X0.out.lt
  clear o1 g1 b01 X0 B0 Hw
  obtain ⟨b, hb⟩ : ∃ b, w0.heap.size = b := ⟨_, rfl⟩
  rw [hb] at K1 Zb ⊢
  clear hb
  go_wp2
  go_loopw [9] (fun i W' => ∃ k : Nat, k ≤ n ∧ i = .int .i64 (k : Nat) ∧ Bk W' b (List.replicate k (-1) ++ List.replicate (n - k) 0) #[] ∧ Bf W' w.heap.size W H (.slice a1 n c) (.slice b1 os.length d) ∧ Below w.heap.size w W') (fun i _ => n - (intOf i).toNat)
  case atStart => exact ⟨0, Nat.zero_le _, rfl, K1, X1, B1⟩
  case round =>
    obtain ⟨k, hk, rfl, hkb, hx, hB⟩ := hrel
    clear K1 X1 B1
    have Kb : Hid (Bk wr b (List.replicate k (-1) ++ List.replicate (n - k) 0) #[]) := hkb
    have X : Hid (Bf wr w.heap.size W H (.slice a1 n c) (.slice b1 os.length d)) := hx
    have B : Hid (Below w.heap.size w wr) := hB
    clear hx hB
    by_cases h0 : k = n
    · have K2 : Hid (Bk (wr.setCell ⟨b, t, none⟩ (.int .i64 0)) b ((List.replicate n (-1)).set t 0) #[]) := by
        have := Kb.out
        rw [h0, Nat.sub_self, List.replicate_zero, List.append_nil] at this
        exact this.set t 0 (by simp; exact ht)
      have ct : wr.cell? ⟨b, t, none⟩ = some (.int .i64 (-1)) := by
        rw [h0, Nat.sub_self, List.replicate_zero, List.append_nil] at hkb
        exact hkb.cell (by rw [List.getElem?_replicate, if_pos ht])
      have ft := hkb.thaw t
      have k12 := Kp.set (z := b) wr t (.int .i64 0)
      have X2 : Hid (Bf (wr.setCell ⟨b, t, none⟩ (.int .i64 0)) w.heap.size W H (.slice a1 n c) (.slice b1 os.length d)) := X.out.kp k12 (by have := Zb.out; omega)
      have B2 : Hid (Below w.heap.size w (wr.setCell ⟨b, t, none⟩ (.int .i64 0))) := k12.below B.out B.out.size (by have := Zb.out; omega)
      subst h0
      clear k12 Kb X B hkb
      go_wp2_with fail
      generalize wr.setCell ⟨b, t, none⟩ (.int .i64 0) = w2 at *
      clear ct ft
      go_loopw [10] (fun m W' => ∃ l mb, m = .bool mb ∧ Bk W' b l #[] ∧ Rt (Fd.near W H) (fun _ j => ss.getD j 0) t k l ∧ (mb = false → Fine (Fd.near W H) (fun _ j => ss.getD j 0) l k 0) ∧ Bf W' w.heap.size W H (.slice a1 k c) (.slice b1 os.length d) ∧ Below w.heap.size w W') (fun m W' => mleft W' b (2 * k + 1) + one m)
      case atStart => exact ⟨_, true, rfl, K2, Rt.start ht, fun h => (by cases h), X2, B2⟩
      case round =>
        obtain ⟨l, mb, rfl, hkb, hrt, hfn, hx, hB⟩ := hrel
        clear K2 X2 B2
        have Kb : Hid (Bk wr b l #[]) := hkb
        have R : Hid (Rt (Fd.near W H) (fun _ j => ss.getD j 0) t k l) := hrt
        have X : Hid (Bf wr w.heap.size W H (.slice a1 k c) (.slice b1 os.length d)) := hx
        have B : Hid (Below w.heap.size w wr) := hB
        have Fn : Hid (mb = false → Fine (Fd.near W H) (fun _ j => ss.getD j 0) l k 0) := hfn
        clear hkb hrt hx hB hfn
        cases mb with
        | false =>
          have FN : Hid (Fine (Fd.near W H) (fun _ j => ss.getD j 0) l k 0) := Fn.out rfl
          clear Fn
          go_wp2
          go_ret
          exact ToSays.of ⟨b, l, rfl, by have := Zb.out; omega, Kb, ⟨R.out.far E0.out FN.out, R.out.flat⟩, B⟩
        | true =>
          obtain ⟨m0, hm0⟩ : ∃ m0, mleft wr b (2 * k + 1) + one (.bool true) = m0 := ⟨_, rfl⟩
          have M0 : Hid (mleft wr b (2 * k + 1) + one (.bool true) = m0) := hm0
          have ML : Hid (left (2 * k + 1) l + 1 ≤ m0) := by
            unfold Hid
            rw [← hm0, Kb.out.mleft]
            exact Nat.le_refl _
          clear hm0 Fn
          go_wp2_with fail
          go_loopw [10, 11] (fun m i W' => ∃ l mb j, m = .bool mb ∧ i = .int .i64 (j : Nat) ∧ j ≤ k ∧ Bk W' b l #[] ∧ Rt (Fd.near W H) (fun _ j => ss.getD j 0) t k l ∧ (mb = false → Fine (Fd.near W H) (fun _ j => ss.getD j 0) l j 0) ∧ Bf W' w.heap.size W H (.slice a1 k c) (.slice b1 os.length d) ∧ Below w.heap.size w W' ∧ left (2 * k + 1) l + one (.bool mb) < m0) (fun _ i _ => k - (intOf i).toNat)
          case atStart => exact ⟨l, false, 0, rfl, rfl, Nat.zero_le _, Kb, R, fun _ => Fine.start l, X, B, by have := ML.out; show left (2 * k + 1) l + 0 < m0; omega⟩
          case round =>
            clear Kb R X B ML
            obtain ⟨l, mb, i, rfl, rfl, hi, hkb, hrt, hfn, hx, hB, hml⟩ := hrel
            have Kb : Hid (Bk wr b l #[]) := hkb
            have R : Hid (Rt (Fd.near W H) (fun _ j => ss.getD j 0) t k l) := hrt
            have X : Hid (Bf wr w.heap.size W H (.slice a1 k c) (.slice b1 os.length d)) := hx
            have B : Hid (Below w.heap.size w wr) := hB
            have Fn : Hid (mb = false → Fine (Fd.near W H) (fun _ j => ss.getD j 0) l i 0) := hfn
            have ML : Hid (left (2 * k + 1) l + one (.bool mb) < m0) := hml
            clear hkb hrt hx hB hfn hml
            by_cases h1 : i = k
            · have Fn' : Hid (mb = false → Fine (Fd.near W H) (fun _ j => ss.getD j 0) l k 0) := by rw [← h1]; exact Fn
              subst h1
              clear Fn
              go_wp2
              go_round
              case rel => exact ⟨l, mb, rfl, Kb, R, Fn', X, B⟩
              case measure =>
                rw [Kb.out.mleft]
                exact Nat.lt_of_lt_of_eq ML.out M0.out.symm
            · have hik : i < k := by omega
              have F1 : Hid (Fl wr (.agg #[.int .i64 W, .int .i64 H, .slice a1 k c, .slice b1 os.length d]) W H gs os) := by
                have := F0.out.below B.out
                rw [Gl.out] at this
                exact this
              obtain ⟨x0, x1, x2, x3⟩ := X.out
              have bwr : Hid (b < wr.heap.size) := Kb.out.lt
              go_wp2_with fail
              refine (ref_near_own _ W H gs os i _ F1.out G0.out.w1 G0.out.w2 G0.out.h2 (by rw [Hn.out]; exact hik)).mono ?_
              rintro e w3 ⟨u, rfl, hu, hb3⟩
              have K3 : Hid (Bk w3 b l #[]) := Kb.out.below hb3
              have X3 : Hid (Bf w3 w.heap.size W H (.slice a1 k c) (.slice b1 os.length d)) := X.out.below hb3 X.out.lt
              have B3 : Hid (Below w.heap.size w w3) := B.out.trans (hb3.mono B.out.size)
              obtain ⟨z3, hz3⟩ : ∃ z3, wr.heap.size = z3 := ⟨_, rfl⟩
              rw [hz3] at hu bwr
              have bz3 : Hid (b < z3) := bwr
              have U3 : Hid (Ow w3 z3 u (Fd.near W H i)) := hu
              obtain ⟨an, cn, rfl, e1, e2, -⟩ := hu.ro
              have Fn3 : Hid (mb = false → Fine (Fd.near W H) (fun _ j => ss.getD j 0) l i 0) := Fn
              have L4 : (Fd.near W H i).length ≤ 4 := Fd.near_len W H i
              clear hu hb3 hz3 bwr Kb X B Fn F1 x0 x1 x2 x3
              go_wp2_with fail
              go_loopw [10, 13] (fun m i' W' => ∃ l mb q, m = .bool mb ∧ i' = .int .i64 (q : Nat) ∧ q ≤ (Fd.near W H i).length ∧ Bk W' b l #[] ∧ Rt (Fd.near W H) (fun _ j => ss.getD j 0) t k l ∧ (mb = false → Fine (Fd.near W H) (fun _ j => ss.getD j 0) l i q) ∧ Bf W' w.heap.size W H (.slice a1 k c) (.slice b1 os.length d) ∧ Below w.heap.size w W' ∧ left (2 * k + 1) l + one (.bool mb) < m0 ∧ Ow W' z3 (.slice an (Fd.near W H i).length cn) (Fd.near W H i)) (fun _ i' _ => (Fd.near W H i).length - (intOf i').toNat)
              case atStart => exact ⟨l, mb, 0, rfl, rfl, Nat.zero_le _, K3, R, Fn3, X3, B3, ML, U3⟩
              case round =>
                clear K3 R Fn3 X3 B3 ML U3
                obtain ⟨l, mb, q, rfl, rfl, hq, hkb, hrt, hfn, hx, hB, hml, hu⟩ := hrel
                have Kb : Hid (Bk wr b l #[]) := hkb
                have R : Hid (Rt (Fd.near W H) (fun _ j => ss.getD j 0) t k l) := hrt
                have X : Hid (Bf wr w.heap.size W H (.slice a1 k c) (.slice b1 os.length d)) := hx
                have B : Hid (Below w.heap.size w wr) := hB
                have Fn : Hid (mb = false → Fine (Fd.near W H) (fun _ j => ss.getD j 0) l i q) := hfn
                have ML : Hid (left (2 * k + 1) l + one (.bool mb) < m0) := hml
                have U : Hid (Ow wr z3 (.slice an (Fd.near W H i).length cn) (Fd.near W H i)) := hu
                clear hkb hrt hx hB hfn hml hu
                by_cases h2 : q = (Fd.near W H i).length
                · have Fn' : Hid (mb = false → Fine (Fd.near W H) (fun _ j => ss.getD j 0) l (i + 1) 0) := fun h => (by rw [← h2]; exact Fn.out h : Fine (Fd.near W H) (fun _ j => ss.getD j 0) l i (Fd.near W H i).length).next
                  subst h2
                  clear Fn
                  go_wp2
                  go_round
                  case rel => exact ⟨l, mb, i + 1, rfl, by go_num, by omega, Kb, R, Fn', X, B, ML⟩
                  case measure => simp [intOf]; omega
                · have hql : q < (Fd.near W H i).length := by omega
                  obtain ⟨j, hj, jn, -⟩ := E0.out.cell i _ hik (List.getElem_mem hql)
                  have Hj : Hid ((Fd.near W H i)[q]? = some (j : Int)) := by unfold Hid; rw [List.getElem?_eq_getElem hql, hj]
                  clear hj
                  obtain ⟨a4, c4, e4, -, -, ca⟩ := U.out.ro
                  injection e4 with e5 e6 e7
                  subst e5
                  obtain ⟨yn, rfl, hyl, hy⟩ := ca (by intro h; rw [h] at hql; simp at hql)
                  have cj := hy q _ Hj.out
                  have Yl : Hid (yn.block < wr.heap.size) := hyl
                  clear hy e6 e7 ca hyl
                  have hgl : j < gs.length := by rw [Gl.out]; exact jn
                  obtain ⟨g, hg⟩ : ∃ g, gs[j]? = some g := ⟨_, List.getElem?_eq_getElem hgl⟩
                  obtain ⟨o, ho⟩ : ∃ o, os[j]? = some o := ⟨_, List.getElem?_eq_getElem (by rw [G0.out.ol, Hn.out]; exact jn)⟩
                  have hcl := G0.out.cell j g o hg ho
                  obtain ⟨m, hm⟩ : ∃ m, ss.getD j 0 = m := ⟨_, rfl⟩
                  have hon : Fd.onto g fl = m := by rw [← hm, ← Hss.out, List.getD_eq_getElem?_getD, List.getElem?_map, hg]; rfl
                  have HD : Hid (ss.getD j 0 = m) := hm
                  have l2 : m ≤ 2 := by rw [← hon]; have := E0.out.two i j; rw [← hm] at hon; rw [hon]; exact this
                  have F1 : Fl wr (.agg #[.int .i64 W, .int .i64 H, .slice a1 k c, .slice b1 os.length d]) W H gs os := by
                    have := F0.out.below B.out
                    rw [Gl.out] at this
                    exact this
                  have CO : Hid (Calls Tryz.prog 27 #[.agg #[.int .i64 W, .int .i64 H, .slice a1 k c, .slice b1 os.length d], .int .i64 (j : Nat), .bool fl] wr.drew fun e w' => e = .returned (.int .i64 m) ∧ Below wr.heap.size wr w' ∧ w'.cell? ⟨w.heap.size, 0, none⟩ = some (.int .i64 W) ∧ w'.cell? ⟨w.heap.size, 1, none⟩ = some (.int .i64 H) ∧ w'.cell? ⟨w.heap.size, 2, none⟩ = some (.slice a1 k c) ∧ w'.cell? ⟨w.heap.size, 3, none⟩ = some (.slice b1 os.length d) ∧ w'.cell? (yn.add q) = some (.int .i64 (j : Nat))) := by
                    refine (ref_onto _ W H gs os j g fl wr.drew (F1.below (Below.refl _ _).drew) (by rw [Gl.out]; exact n1) hg hcl.1 hcl.2.1).mono ?_
                    rintro e w' ⟨h1, h2⟩
                    have h4 : Below wr.heap.size wr w' := ((Below.refl _ _).drew).trans h2
                    obtain ⟨y0, y1, y2, y3⟩ := X.out.below h4 X.out.lt
                    exact ⟨by rw [h1, hon], h4, y0, y1, y2, y3, by rw [h4.cell (p := yn.add q) (by rw [add_block]; exact Yl.out)]; exact cj⟩
                  obtain ⟨x0, x1, x2, x3⟩ := X.out
                  clear hg ho hcl hon hm F1 hgl
                  go_wp2_with fail
                  go_region_held3 (fun w' => w'.cell? ⟨w.heap.size, 0, none⟩ = some (.int .i64 W) ∧ w'.cell? ⟨w.heap.size, 1, none⟩ = some (.int .i64 H) ∧ w'.cell? ⟨w.heap.size, 2, none⟩ = some (.slice a1 k c) ∧ w'.cell? ⟨w.heap.size, 3, none⟩ = some (.slice b1 os.length d) ∧ w'.cell? (yn.add q) = some (.int .i64 (j : Nat)))
                    (go_keep)
                    ((go_at_call 27; refine Calls.mono CO.out ?_; rintro e w6 ⟨rfl, k6, y0, y1, y2, y3, y4⟩))
                  have K5 : Hid (Bk w6 b l #[]) := Kb.out.below k6
                  have X5 : Hid (Bf w6 w.heap.size W H (.slice a1 k c) (.slice b1 os.length d)) := X.out.below k6 X.out.lt
                  have B5 : Hid (Below w.heap.size w w6) := B.out.trans (k6.mono B.out.size)
                  have U5 : Hid (Ow w6 z3 (.slice (some yn) (Fd.near W H i).length cn) (Fd.near W H i)) := U.out.below k6
                  clear Kb X B U k6 CO Yl x0 x1 x2 x3 y0 y1 y2 y3
                  have Kb : Hid (Bk w6 b l #[]) := K5
                  have X : Hid (Bf w6 w.heap.size W H (.slice a1 k c) (.slice b1 os.length d)) := X5
                  have B : Hid (Below w.heap.size w w6) := B5
                  have U : Hid (Ow w6 z3 (.slice (some yn) (Fd.near W H i).length cn) (Fd.near W H i)) := U5
                  clear K5 X5 B5 U5
                  have ll : l.length = k := R.out.len
                  obtain ⟨xv, hxv⟩ : ∃ xv, l[i]? = some xv := ⟨l[i]'(by rw [ll]; exact hik), List.getElem?_eq_getElem _⟩
                  obtain ⟨yv, hyv⟩ : ∃ yv, l[j]? = some yv := ⟨l[j]'(by rw [ll]; exact jn), List.getElem?_eq_getElem _⟩
                  have tl := told_le l
                  have fx := R.out.flat i xv hxv
                  have fy := R.out.flat j yv hyv
                  have xb : xv ≤ 288 := by omega
                  have yb : yv ≤ 288 := by omega
                  have cy := Kb.out.cell hyv
                  clear tl fx fy ll
                  by_cases h1 : 0 < m
                  · by_cases h2 : 0 ≤ yv
                    · by_cases h3 : xv < 0
                      · have h9 := h3
                        have HS := R.out.set E0.out (List.mem_of_getElem? Hj.out) hxv hyv (by rw [HD.out]; exact h1) h2 (.inl h3)
                        rw [HD.out] at HS
                        have HT : Hid (Rt (Fd.near W H) (fun _ j => ss.getD j 0) t k (l.set i (m + yv)) ∧ left (2 * k + 1) (l.set i (m + yv)) < left (2 * k + 1) l) := HS
                        clear HS HD
                        have cx := Kb.out.cell hxv
                        have fz := Kb.out.thaw i
                        have k6 := Kp.set (z := b) w6 i (.int .i64 (m + yv))
                        have K6 : Hid (Bk (w6.setCell ⟨b, i, none⟩ (.int .i64 (m + yv))) b (l.set i (m + yv)) #[]) := Kb.out.set i (m + yv) (List.getElem?_eq_some_iff.1 hxv).1
                        have X6 : Hid (Bf (w6.setCell ⟨b, i, none⟩ (.int .i64 (m + yv))) w.heap.size W H (.slice a1 k c) (.slice b1 os.length d)) := X.out.kp k6 (by have := Zb.out; omega)
                        have B6 : Hid (Below w.heap.size w (w6.setCell ⟨b, i, none⟩ (.int .i64 (m + yv)))) := k6.below B.out B.out.size (by have := Zb.out; omega)
                        have U6 : Hid (Ow (w6.setCell ⟨b, i, none⟩ (.int .i64 (m + yv))) z3 (.slice (some yn) (Fd.near W H i).length cn) (Fd.near W H i)) := U.out.kpt k6 bz3.out
                        clear k6 Kb X B U
                        go_wp2
                        go_round
                        case rel => exact ⟨l.set i (m + yv), true, q + 1, rfl, by go_num, by omega, K6, HT.out.1, fun h => (by cases h), X6, B6, by have := HT.out.2; have := ML.out; have := one_le mb; show left (2 * k + 1) (l.set i (m + yv)) + 1 < m0; omega, U6⟩
                        case measure => simp [intOf]; omega
                      · by_cases h4 : m + yv < xv
                        · have h9 := h4
                          have HS := R.out.set E0.out (List.mem_of_getElem? Hj.out) hxv hyv (by rw [HD.out]; exact h1) h2 (.inr (by rw [HD.out]; exact h4))
                          rw [HD.out] at HS
                          have HT : Hid (Rt (Fd.near W H) (fun _ j => ss.getD j 0) t k (l.set i (m + yv)) ∧ left (2 * k + 1) (l.set i (m + yv)) < left (2 * k + 1) l) := HS
                          clear HS HD
                          have cx := Kb.out.cell hxv
                          have fz := Kb.out.thaw i
                          have k6 := Kp.set (z := b) w6 i (.int .i64 (m + yv))
                          have K6 : Hid (Bk (w6.setCell ⟨b, i, none⟩ (.int .i64 (m + yv))) b (l.set i (m + yv)) #[]) := Kb.out.set i (m + yv) (List.getElem?_eq_some_iff.1 hxv).1
                          have X6 : Hid (Bf (w6.setCell ⟨b, i, none⟩ (.int .i64 (m + yv))) w.heap.size W H (.slice a1 k c) (.slice b1 os.length d)) := X.out.kp k6 (by have := Zb.out; omega)
                          have B6 : Hid (Below w.heap.size w (w6.setCell ⟨b, i, none⟩ (.int .i64 (m + yv)))) := k6.below B.out B.out.size (by have := Zb.out; omega)
                          have U6 : Hid (Ow (w6.setCell ⟨b, i, none⟩ (.int .i64 (m + yv))) z3 (.slice (some yn) (Fd.near W H i).length cn) (Fd.near W H i)) := U.out.kpt k6 bz3.out
                          clear k6 Kb X B U
                          go_wp2
                          go_round
                          case rel => exact ⟨l.set i (m + yv), true, q + 1, rfl, by go_num, by omega, K6, HT.out.1, fun h => (by cases h), X6, B6, by have := HT.out.2; have := ML.out; have := one_le mb; show left (2 * k + 1) (l.set i (m + yv)) + 1 < m0; omega, U6⟩
                          case measure => simp [intOf]; omega
                        · have h9 := h4
                          have HS : Hid (mb = false → Fine (Fd.near W H) (fun _ j => ss.getD j 0) l i (q + 1)) := fun h => (Fn.out h).step Hj.out hxv hyv (fun p0 p1 => by rw [HD.out] at p0 ⊢; omega)
                          clear HD
                          have cx := Kb.out.cell hxv
                          go_wp2
                          go_round
                          case rel => exact ⟨l, mb, q + 1, rfl, by go_num, by omega, Kb, R, HS, X, B, ML, U⟩
                          case measure => simp [intOf]; omega
                    · have h9 := h2
                      have HS : Hid (mb = false → Fine (Fd.near W H) (fun _ j => ss.getD j 0) l i (q + 1)) := fun h => (Fn.out h).step Hj.out hxv hyv (fun p0 p1 => by rw [HD.out] at p0 ⊢; omega)
                      clear HD
                      have cx := Kb.out.cell hxv
                      go_wp2
                      go_round
                      case rel => exact ⟨l, mb, q + 1, rfl, by go_num, by omega, Kb, R, HS, X, B, ML, U⟩
                      case measure => simp [intOf]; omega
                  · have h9 := h1
                    have HS : Hid (mb = false → Fine (Fd.near W H) (fun _ j => ss.getD j 0) l i (q + 1)) := fun h => (Fn.out h).step Hj.out hxv hyv (fun p0 p1 => by rw [HD.out] at p0 ⊢; omega)
                    clear HD
                    have cx := Kb.out.cell hxv
                    go_wp2
                    go_round
                    case rel => exact ⟨l, mb, q + 1, rfl, by go_num, by omega, Kb, R, HS, X, B, ML, U⟩
                    case measure => simp [intOf]; omega
    · have hkn : k < n := by omega
      have ck : wr.cell? ⟨b, k, none⟩ = some (.int .i64 0) := hkb.cell (by rw [List.getElem?_append, if_neg (by simp), List.length_replicate, Nat.sub_self, List.getElem?_replicate, if_pos (by omega)])
      have fk := hkb.thaw k
      have k12 := Kp.set (z := b) wr k (.int .i64 (-1))
      have K2 : Hid (Bk (wr.setCell ⟨b, k, none⟩ (.int .i64 (-1))) b (List.replicate (k + 1) (-1) ++ List.replicate (n - (k + 1)) 0) #[]) := by
        unfold Hid
        rw [← fill_set n k hkn]
        exact Kb.out.set k (-1) (by simp; omega)
      have X2 : Hid (Bf (wr.setCell ⟨b, k, none⟩ (.int .i64 (-1))) w.heap.size W H (.slice a1 n c) (.slice b1 os.length d)) := X.out.kp k12 (by have := Zb.out; omega)
      have B2 : Hid (Below w.heap.size w (wr.setCell ⟨b, k, none⟩ (.int .i64 (-1)))) := k12.below B.out B.out.size (by have := Zb.out; omega)
      clear k12 Kb X B hkb
      go_wp2
      go_round
      case rel => exact ⟨k + 1, by omega, by go_num, K2, X2, B2⟩
      case measure => simp [intOf]; omega
end Go.Proofs.YtagnjmellcibhaaGreatDoor

namespace Go.Proofs.YtagnjmellcibhaaGreatDoor
open Go.RowKit Wy
set_option linter.unusedVariables false

theorem get_far {l : List Int} {i n : Nat} (hl : l.length = n) (h : i < n) : l[i]? = some (l.getD i 0) := by rw [List.getD_eq_getElem?_getD, List.getElem?_eq_getElem (by omega)]; rfl
theorem nx_none {nb : Nat → List Int} {ss l : List Int} {t n i : Nat} (E : Even nb (fun _ j => ss.getD j 0) n) (h : IsFar nb (fun _ j => ss.getD j 0) t n l) (hi : i < n) (h0 : 0 ≤ l.getD i 0) (hn : (nb i).any (pn ss l i) = false) : Nxt nb ss l t i i := by
  by_cases e : i = t
  · exact .inl ⟨e, rfl⟩
  · obtain ⟨x, hx, hp⟩ := has_next E h hi h0 e
    rw [List.any_eq_false] at hn
    exact absurd hp (hn x hx)
theorem nx_some {nb : Nat → List Int} {ss l : List Int} {t n i j k : Nat} (h : IsFar nb (fun _ j => ss.getD j 0) t n l) (ht : t < n) (hk : (nb i)[k]? = some (j : Int)) (hp : pn ss l i j = true) (hn : ((nb i).take k).any (pn ss l i) = false) : Nxt nb ss l t i j := by
  refine .inr ⟨?_, k, hk, hp, hn⟩
  rintro rfl
  have h1 := pn_true hp
  rw [getD_of (h.here ht)] at h1
  omega

set_option maxRecDepth 100000 in
set_option maxHeartbeats 4000000 in
theorem ref_next (v uf : Value) (W H : Nat) (gs os l : List Int) (i t : Nat) (fl : Bool) (w : World) (h : Fl w v W H gs os) (G : Fd.Good W H gs os) (hi : i < W * H) (E : Even (Fd.near W H) (fun _ j => (gs.map fun g => Fd.onto g fl).getD j 0) (W * H)) (hf : Ro w uf l) (hl : IsFar (Fd.near W H) (fun _ j => (gs.map fun g => Fd.onto g fl).getD j 0) t (W * H) l) (hfl : ∀ j, l.getD j 0 ≤ 288) (hd : 0 ≤ l.getD i 0) (ht : t < W * H) :
    Calls Tryz.prog 79 #[v, uf, .int .i64 (i : Nat), .bool fl] w fun e w' => ∃ j : Nat, e = .returned (.int .i64 (j : Nat)) ∧ Nxt (Fd.near W H) (gs.map fun g => Fd.onto g fl) l t i j ∧ Below w.heap.size w w' := by
  have F0 : Hid (Fl w v W H gs os) := h
  have G0 : Hid (Fd.Good W H gs os) := G
  obtain ⟨u1, u2, rfl, ⟨a1, c, rfl, c1, c2, ca⟩, ⟨b1, d, rfl, d1, d2, cb⟩⟩ := h
  obtain ⟨n, hn⟩ : ∃ n, W * H = n := ⟨_, rfl⟩
  have Hn : Hid (W * H = n) := hn
  have gl : gs.length = n := by rw [← hn]; exact G.gl
  have Gl : Hid (gs.length = n) := gl
  have n1 : n ≤ 144 := by rw [← hn]; exact G.pos.2
  obtain ⟨ss, hss⟩ : ∃ ss, (gs.map fun g => Fd.onto g fl) = ss := ⟨_, rfl⟩
  have Hss : Hid ((gs.map fun g => Fd.onto g fl) = ss) := hss
  rw [hn] at hi E hl ht
  rw [hss] at E hl
  rw [hss]
  have E0 : Hid (Even (Fd.near W H) (fun _ j => ss.getD j 0) n) := E
  have HL : Hid (IsFar (Fd.near W H) (fun _ j => ss.getD j 0) t n l) := hl
  have LB : Hid (∀ j, l.getD j 0 ≤ 288) := hfl
  have D0 : Hid (0 ≤ l.getD i 0) := hd
  have T0 : Hid (t < n) := ht
  have ll : l.length = n := hl.1
  have R0 : Hid (Ro w uf l) := hf
  obtain ⟨af, cf, rfl, f1, f2, cfa⟩ := hf
  obtain ⟨yf, rfl, -, -⟩ := cfa (by intro e; rw [e] at ll; simp at ll; omega)
  rw [ll] at f1 R0 ⊢
  rw [gl] at c1 ⊢
  have Ll : Hid (l.length = n) := ll
  clear ca cb G hn hss gl E hl hfl hd ht cfa ll
  have b0 : Hid (Below w.heap.size w (w.alloc (Obj.cells #[.int .i64 W, .int .i64 H, .slice a1 n c, .slice b1 os.length d] 25))) := (Below.refl _ _).alloc (Nat.le_refl _) _
  have X0 : Hid (Bf (w.alloc (Obj.cells #[.int .i64 W, .int .i64 H, .slice a1 n c, .slice b1 os.length d] 25)) w.heap.size W H (.slice a1 n c) (.slice b1 os.length d)) := Bf.mk' _ _ _ _ rfl
  go_enter Tryz.func79, Tryz.ntmps79
  go_wp2_with fail
  have F1 : Fl (w.alloc (Obj.cells #[.int .i64 W, .int .i64 H, .slice a1 n c, .slice b1 os.length d] 25)) (.agg #[.int .i64 W, .int .i64 H, .slice a1 n c, .slice b1 os.length d]) W H gs os := by
    have := F0.out
    rw [Gl.out] at this
    exact this.below b0.out
  refine (ref_near_own _ W H gs os i _ F1 G0.out.w1 G0.out.w2 G0.out.h2 (by rw [Hn.out]; exact hi)).mono ?_
  rintro e w3 ⟨u, rfl, hu, hb3⟩
  have X3 : Hid (Bf w3 w.heap.size W H (.slice a1 n c) (.slice b1 os.length d)) := X0.out.below hb3 X0.out.lt
  have B3 : Hid (Below w.heap.size w w3) := b0.out.trans (hb3.mono b0.out.size)
  have U3 : Hid (Ro w3 u (Fd.near W H i)) := hu.ro
  obtain ⟨an, cn, rfl, e1, e2, -⟩ := hu.ro
  have L4 : (Fd.near W H i).length ≤ 4 := Fd.near_len W H i
  clear hu hb3 F1 b0 X0
  go_wp2_with fail
  go_loopw [10] (fun i' W' => ∃ q, i' = .int .i64 (q : Nat) ∧ q ≤ (Fd.near W H i).length ∧ ((Fd.near W H i).take q).any (pn ss l i) = false ∧ Bf W' w.heap.size W H (.slice a1 n c) (.slice b1 os.length d) ∧ Below w.heap.size w W' ∧ Ro W' (.slice an (Fd.near W H i).length cn) (Fd.near W H i)) (fun i' _ => (Fd.near W H i).length - (intOf i').toNat)
  case atStart => exact ⟨0, rfl, Nat.zero_le _, by simp, X3, B3, U3⟩
  case round =>
    clear X3 B3 U3
    obtain ⟨q, rfl, hq, hany, hx, hB, hu⟩ := hrel
    have X : Hid (Bf wr w.heap.size W H (.slice a1 n c) (.slice b1 os.length d)) := hx
    have B : Hid (Below w.heap.size w wr) := hB
    have U : Hid (Ro wr (.slice an (Fd.near W H i).length cn) (Fd.near W H i)) := hu
    have An : Hid (((Fd.near W H i).take q).any (pn ss l i) = false) := hany
    clear hx hB hu hany
    by_cases h2 : q = (Fd.near W H i).length
    · have NN : Hid (Nxt (Fd.near W H) ss l t i i) := nx_none E0.out HL.out hi D0.out (by have := An.out; rw [h2, List.take_of_length_le (Nat.le_refl _)] at this; exact this)
      subst h2
      clear An
      go_wp2
      go_ret
      exact ⟨i, rfl, NN, B⟩
    · have hql : q < (Fd.near W H i).length := by omega
      obtain ⟨j, hj, jn, -⟩ := E0.out.cell i _ hi (List.getElem_mem hql)
      have Hj : Hid ((Fd.near W H i)[q]? = some (j : Int)) := by unfold Hid; rw [List.getElem?_eq_getElem hql, hj]
      have As : Hid (((Fd.near W H i).take (q + 1)).any (pn ss l i) = (((Fd.near W H i).take q).any (pn ss l i) || pn ss l i j)) := by unfold Hid; rw [any_next hql, hj]
      clear hj
      obtain ⟨a4, c4, e4, -, -, ca⟩ := U.out
      injection e4 with e5 e6 e7
      subst e5
      obtain ⟨yn, rfl, hyl, hy⟩ := ca (by intro h; rw [h] at hql; simp at hql)
      have cj := hy q _ Hj.out
      have Yl : Hid (yn.block < wr.heap.size) := hyl
      clear hy e6 e7 ca hyl
      have hgl : j < gs.length := by rw [Gl.out]; exact jn
      obtain ⟨g, hg⟩ : ∃ g, gs[j]? = some g := ⟨_, List.getElem?_eq_getElem hgl⟩
      obtain ⟨o, ho⟩ : ∃ o, os[j]? = some o := ⟨_, List.getElem?_eq_getElem (by rw [G0.out.ol, Hn.out]; exact jn)⟩
      have hcl := G0.out.cell j g o hg ho
      obtain ⟨m, hm⟩ : ∃ m, ss.getD j 0 = m := ⟨_, rfl⟩
      have hon : Fd.onto g fl = m := by rw [← hm, ← Hss.out, List.getD_eq_getElem?_getD, List.getElem?_map, hg]; rfl
      have HD : Hid (ss.getD j 0 = m) := hm
      have l2 : m ≤ 2 := by rw [← hon]; have := E0.out.two i j; rw [← hm] at hon; rw [hon]; exact this
      have F1 : Fl wr (.agg #[.int .i64 W, .int .i64 H, .slice a1 n c, .slice b1 os.length d]) W H gs os := by
        have := F0.out.below B.out
        rw [Gl.out] at this
        exact this
      have CO : Hid (Calls Tryz.prog 27 #[.agg #[.int .i64 W, .int .i64 H, .slice a1 n c, .slice b1 os.length d], .int .i64 (j : Nat), .bool fl] wr.drew fun e w' => e = .returned (.int .i64 m) ∧ Below wr.heap.size wr w' ∧ w'.cell? ⟨w.heap.size, 0, none⟩ = some (.int .i64 W) ∧ w'.cell? ⟨w.heap.size, 1, none⟩ = some (.int .i64 H) ∧ w'.cell? ⟨w.heap.size, 2, none⟩ = some (.slice a1 n c) ∧ w'.cell? ⟨w.heap.size, 3, none⟩ = some (.slice b1 os.length d) ∧ w'.cell? (yn.add q) = some (.int .i64 (j : Nat))) := by
        refine (ref_onto _ W H gs os j g fl wr.drew (F1.below (Below.refl _ _).drew) (by rw [Gl.out]; exact n1) hg hcl.1 hcl.2.1).mono ?_
        rintro e w' ⟨h1, h2⟩
        have h4 : Below wr.heap.size wr w' := ((Below.refl _ _).drew).trans h2
        obtain ⟨y0, y1, y2, y3⟩ := X.out.below h4 X.out.lt
        exact ⟨by rw [h1, hon], h4, y0, y1, y2, y3, by rw [h4.cell (p := yn.add q) (by rw [add_block]; exact Yl.out)]; exact cj⟩
      obtain ⟨x0, x1, x2, x3⟩ := X.out
      clear hg ho hcl hon hm F1 hgl
      go_wp2_with fail
      go_region_held3 (fun w' => w'.cell? ⟨w.heap.size, 0, none⟩ = some (.int .i64 W) ∧ w'.cell? ⟨w.heap.size, 1, none⟩ = some (.int .i64 H) ∧ w'.cell? ⟨w.heap.size, 2, none⟩ = some (.slice a1 n c) ∧ w'.cell? ⟨w.heap.size, 3, none⟩ = some (.slice b1 os.length d) ∧ w'.cell? (yn.add q) = some (.int .i64 (j : Nat)))
        (go_keep)
        ((go_at_call 27; refine Calls.mono CO.out ?_; rintro e w6 ⟨rfl, k6, y0, y1, y2, y3, y4⟩))
      have X5 : Hid (Bf w6 w.heap.size W H (.slice a1 n c) (.slice b1 os.length d)) := X.out.below k6 X.out.lt
      have B5 : Hid (Below w.heap.size w w6) := B.out.trans (k6.mono B.out.size)
      have U5 : Hid (Ro w6 (.slice (some yn) (Fd.near W H i).length cn) (Fd.near W H i)) := U.out.below k6
      obtain ⟨a5, c5, e5, -, -, ca⟩ := R0.out.below B5.out
      injection e5 with e5 e6 e7
      subst e5
      obtain ⟨yy, hyy, -, hy⟩ := ca (by intro h; have := Ll.out; rw [h] at this; simp at this; omega)
      injection hyy with hyy
      subst hyy
      have cd := hy j _ (get_far Ll.out jn)
      have ce := hy i _ (get_far Ll.out hi)
      have P : Hid (pn ss l i j = (decide (0 < m) && (decide (0 ≤ l.getD j 0) && decide (m + l.getD j 0 = l.getD i 0)))) := by unfold Hid pn; rw [Int.toNat_natCast, HD.out]
      have yb := LB.out j
      clear X B U k6 CO Yl x0 x1 x2 x3 y0 y1 y2 y3 hy ca e6 e7 HD
      generalize l.getD j 0 = yv at *
      generalize l.getD i 0 = xv at *
      by_cases h1 : 0 < m
      · by_cases h2 : 0 ≤ yv
        · by_cases h3 : m + yv = xv
          · have NN : Hid (Nxt (Fd.near W H) ss l t i j) := nx_some HL.out T0.out Hj.out (by rw [P.out, decide_eq_true h1, decide_eq_true h2, decide_eq_true h3]; rfl) An.out
            clear P As
            go_wp2
            go_ret
            exact ⟨j, rfl, NN, B5⟩
          · have h3' : (m + yv == xv) = false := by simpa using h3
            have A' : Hid (((Fd.near W H i).take (q + 1)).any (pn ss l i) = false) := by
              unfold Hid
              rw [As.out, An.out, P.out, decide_eq_true h1, decide_eq_true h2, decide_eq_false h3]
              rfl
            clear P As An
            go_wp2
            go_round
            case rel => exact ⟨q + 1, by go_num, by omega, A', X5, B5, U5⟩
            case measure => simp [intOf]; omega
        · have h2x := h2
          have A' : Hid (((Fd.near W H i).take (q + 1)).any (pn ss l i) = false) := by
            unfold Hid
            rw [As.out, An.out, P.out, decide_eq_true h1, decide_eq_false h2]
            rfl
          clear P As An
          go_wp2
          go_round
          case rel => exact ⟨q + 1, by go_num, by omega, A', X5, B5, U5⟩
          case measure => simp [intOf]; omega
      · have h1x := h1
        have A' : Hid (((Fd.near W H i).take (q + 1)).any (pn ss l i) = false) := by
          unfold Hid
          rw [As.out, An.out, P.out, decide_eq_false h1]
          rfl
        clear P As An
        go_wp2
        go_round
        case rel => exact ⟨q + 1, by go_num, by omega, A', X5, B5, U5⟩
        case measure => simp [intOf]; omega
end Go.Proofs.YtagnjmellcibhaaGreatDoor

namespace Go.Proofs.YtagnjmellcibhaaGreatDoor
open Go.RowKit Wy
set_option linter.unusedVariables false

set_option maxRecDepth 100000 in
set_option maxHeartbeats 4000000 in
theorem rtoward_any (vw : Value) (X : WV) (a b c : Nat) (fl : Bool) (l : List Int) (Wn Hn : Nat) (w : World) (G : Fd.Good Wn Hn X.gs X.os) (e1 : X.wide = (Wn : Nat)) (e2 : X.high = (Hn : Nat)) (ha : a < Wn * Hn) (hb : b < Wn * Hn) (hw : Wl w vw X)
    (hl : IsFar (Fd.near Wn Hn) (fun _ j => (X.gs.map fun g => Fd.onto g fl).getD j 0) b (Wn * Hn) l ∧ Flat l)
    (hc : (l.getD a 0 < 0 ∧ c = a) ∨ (0 ≤ l.getD a 0 ∧ Nxt (Fd.near Wn Hn) (X.gs.map fun g => Fd.onto g fl) l b a c)) :
    Calls Tryz.prog 50 #[vw, .int .i64 (a : Nat), .int .i64 (b : Nat), .bool fl] w fun e w' => e = .returned (.int .i64 (c : Nat)) ∧ Below w.heap.size w w' := by
  have GD : Hid (Fd.Good Wn Hn X.gs X.os ∧ X.wide = (Wn : Nat) ∧ X.high = (Hn : Nat) ∧ a < Wn * Hn ∧ b < Wn * Hn) := ⟨G, e1, e2, ha, hb⟩
  have HL : Hid (IsFar (Fd.near Wn Hn) (fun _ j => (X.gs.map fun g => Fd.onto g fl).getD j 0) b (Wn * Hn) l ∧ Flat l) := hl
  have HC : Hid ((l.getD a 0 < 0 ∧ c = a) ∨ (0 ≤ l.getD a 0 ∧ Nxt (Fd.near Wn Hn) (X.gs.map fun g => Fd.onto g fl) l b a c)) := hc
  have H : Hid (Wl w vw X) := hw
  have EV : Hid (Even (Fd.near Wn Hn) (fun _ j => (X.gs.map fun g => Fd.onto g fl).getD j 0) (Wn * Hn)) := even_to G.w1 X.gs fl
  have NM : Hid (Wn * Hn ≤ 144) := G.pos.2
  obtain ⟨p1, s1, p2, s2, p3, s3, p4, s4, p5, s5, rfl⟩ := wl_shape9 hw
  clear G e1 e2 ha hb hw hl hc
  have B0 : Hid (Below w.heap.size w (w.alloc (Obj.cells #[.int .i64 X.turn, .int .i64 X.next, .int .i64 X.wide, .int .i64 X.high, .slice p1 X.gs.length s1, .slice p2 X.os.length s2, .slice p3 X.gold.length s3, .slice p4 X.us.length s4, .slice p5 X.qs.length s5] 29))) := (Below.refl _ _).alloc (Nat.le_refl _) _
  have X0 : Hid (Bw (w.alloc (Obj.cells #[.int .i64 X.turn, .int .i64 X.next, .int .i64 X.wide, .int .i64 X.high, .slice p1 X.gs.length s1, .slice p2 X.os.length s2, .slice p3 X.gold.length s3, .slice p4 X.us.length s4, .slice p5 X.qs.length s5] 29)) w.heap.size X (.slice p1 X.gs.length s1) (.slice p2 X.os.length s2) (.slice p3 X.gold.length s3) (.slice p4 X.us.length s4) (.slice p5 X.qs.length s5)) := Bw.mk' X _ _ _ _ _ rfl
  go_enter Tryz.func50, Tryz.ntmps50
  go_upto_region 1 with fail
  generalize (w.alloc (Obj.cells #[.int .i64 X.turn, .int .i64 X.next, .int .i64 X.wide, .int .i64 X.high, .slice p1 X.gs.length s1, .slice p2 X.os.length s2, .slice p3 X.gold.length s3, .slice p4 X.us.length s4, .slice p5 X.qs.length s5] 29)) = w0 at *
  have FW : Hid (∀ V, Below w.heap.size w V → Fl V (.agg #[.int .i64 (Wn : Nat), .int .i64 (Hn : Nat), .slice p1 X.gs.length s1, .slice p2 X.os.length s2]) Wn Hn X.gs X.os) := fun V hV => by
    have h := fl_of (H.out.below hV)
    rw [GD.out.2.1, GD.out.2.2.1] at h
    exact h
  obtain ⟨x0, x1, x2, x3, x4, x5, x6, x7, x8⟩ := X0.out
  rw [GD.out.2.1] at x2
  rw [GD.out.2.2.1] at x3
  go_wp2_with fail
  refine (ref_to _ Wn Hn X.gs X.os b fl w0 (FW.out w0 B0.out) GD.out.1 GD.out.2.2.2.2 EV.out).mono ?_
  rintro e w1 ⟨bb, l', rfl, -, hbk, hfar, hb⟩
  obtain rfl : l' = l := hfar.1.uniq HL.out.1
  have BK : Hid (Bk w1 bb l' #[]) := hbk
  have B1 : Hid (Below w.heap.size w w1) := B0.out.trans (hb.mono B0.out.size)
  have X1 : Hid (Bw w1 w.heap.size X (.slice p1 X.gs.length s1) (.slice p2 X.os.length s2) (.slice p3 X.gold.length s3) (.slice p4 X.us.length s4) (.slice p5 X.qs.length s5)) := X0.out.below hb X0.out.lt
  clear hb hbk hfar x0 x1 x2 x3 x4 x5 x6 x7 x8 X0 B0
  have hlen : l'.length = Wn * Hn := HL.out.1.1
  obtain ⟨x, hx⟩ : ∃ x, l'[a]? = some x := ⟨_, List.getElem?_eq_getElem (by rw [hlen]; exact GD.out.2.2.2.1)⟩
  have ca := BK.out.cell hx
  have gx : l'.getD a 0 = x := by rw [List.getD_eq_getElem?_getD, hx]; rfl
  have hai : ((a : Nat) : Int) < ((Wn * Hn : Nat) : Int) := by have := GD.out.2.2.2.1; omega
  have RO : Hid (Ro w1 (.slice (some ⟨bb, 0, none⟩) (Wn * Hn) (Wn * Hn)) l') := by
    have h := BK.out.ro (c := Wn * Hn) (by rw [hlen]; exact Nat.le_refl _) (by have := NM.out; omega)
    rw [hlen] at h
    exact h
  have FLE : Hid (∀ j, l'.getD j 0 ≤ 288) := fun j => flat_le HL.out.2 hlen NM.out j
  obtain ⟨n, hn⟩ : ∃ n, Wn * Hn = n := ⟨_, rfl⟩
  have HN : Hid (Wn * Hn = n) := hn
  rw [hn] at hai ⊢
  clear hlen hn hx
  by_cases h0 : x < 0
  · have EC : Hid (c = a) := by
      rcases HC.out with ⟨-, h⟩ | ⟨h, -⟩
      · exact h
      · rw [gx] at h; omega
    clear gx
    go_wp2
    go_ret
    exact ⟨by rw [EC.out]; rfl, B1.out⟩
  · have NX : Hid (Nxt (Fd.near Wn Hn) (X.gs.map fun g => Fd.onto g fl) l' b a c ∧ 0 ≤ l'.getD a 0) := by
      rcases HC.out with ⟨h, -⟩ | ⟨h, h'⟩
      · rw [gx] at h; omega
      · exact ⟨h', h⟩
    clear gx
    obtain ⟨x0, x1, x2, x3, x4, x5, x6, x7, x8⟩ := X1.out
    rw [GD.out.2.1] at x2
    rw [GD.out.2.2.1] at x3
    go_wp2_with fail
    rw [← HN.out]
    refine (ref_next _ _ Wn Hn X.gs X.os l' a b fl w1 (FW.out w1 B1.out) GD.out.1 GD.out.2.2.2.1 EV.out RO.out HL.out.1 FLE.out NX.out.2 GD.out.2.2.2.2).mono ?_
    rintro e w2 ⟨j, rfl, hj, hb⟩
    obtain rfl : j = c := hj.uniq NX.out.1
    have B2 : Hid (Below w.heap.size w w2) := B1.out.trans (hb.mono B1.out.size)
    clear hb hj x0 x1 x2 x3 x4 x5 x6 x7 x8
    go_wp2
    go_ret
    exact ⟨rfl, B2.out⟩
end Go.Proofs.YtagnjmellcibhaaGreatDoor

namespace Go.Proofs.YtagnjmellcibhaaGreatDoor
open Go.RowKit Wy
set_option linter.unusedVariables false

theorem below_dq {B : Nat} {a w : World} (h : Below B a w) (q : Nat) : Below B a (w.drewN q) := ⟨h.os, h.tape, h.output, h.size, h.block⟩
theorem wish_here {nb : Nat → List Int} {ss l : List Int} {a c : Nat} (h : (l.getD a 0 < 0 ∧ c = a) ∨ (0 ≤ l.getD a 0 ∧ Nxt nb ss l a a c)) : c = a := by
  rcases h with ⟨-, h⟩ | ⟨-, ⟨-, h⟩ | ⟨h, -⟩⟩
  · exact h
  · exact h
  · exact absurd rfl h
theorem other_no {ks : List KV} {l : List Int} {pl : Int} {h : UnV} (hp : ¬ h.player = pl) : otherU ks l pl h = true := by
  have : (h.player == pl) = false := by rw [beq_eq_false_iff_ne]; exact hp
  unfold otherU
  rw [this]
  rfl
theorem other_is {ks : List KV} {l : List Int} {pl : Int} {h : UnV} {k : KV} (hp : h.player = pl) (hk : ks[h.kind.toNat]? = some k) : otherU ks l pl h = (!k.t || decide (l.getD h.at_.toNat 0 < 0)) := by
  unfold otherU
  rw [hp, hk]
  simp
set_option maxRecDepth 100000 in
set_option maxHeartbeats 16000000 in
theorem rwish_any (vk vw : Value) (ks : List KV) (X : WV) (i Wn Hn : Nat) (u : UnV) (k : KV) (c : Nat) (w : World) (hk : Kl w vk ks) (hw : Wl w vw X) (G : Fd.Good Wn Hn X.gs X.os) (e1 : X.wide = (Wn : Nat)) (e2 : X.high = (Hn : Nat)) (hl : X.us.length ≤ 40)
    (hu : X.us[i]? = some u) (hk' : ks[u.kind.toNat]? = some k) (fits : ∀ h ∈ X.us, Fit ks (Wn * Hn) h) (hgo : 0 ≤ u.goal ∧ u.goal < (Wn * Hn : Nat)) (ab : Able X u k) (hW : WishSays ks X Wn Hn u k c) :
    Calls Tryz.prog 22 #[vk, vw, .int .i64 (i : Nat)] w fun e w' => e = .returned (.int .i64 (c : Nat)) ∧ Below w.heap.size w w' := by
  have RS : Hid (u.task = 0 → u.at_ = (c : Nat)) := fun h => wish_rest hW h
  obtain ⟨an, bn, l2, hat, haim, hbn, hl2, hcc⟩ := hW
  have fu := fits u (List.mem_of_getElem? hu)
  have GD : Hid (Fd.Good Wn Hn X.gs X.os ∧ X.wide = (Wn : Nat) ∧ X.high = (Hn : Nat) ∧ an < Wn * Hn) := ⟨G, e1, e2, by have := fu.2; omega⟩
  have FT : Hid (∀ h ∈ X.us, Fit ks (Wn * Hn) h) := fits
  have HL : Hid (X.us.length ≤ 40) := hl
  have AIM : Hid (AimSays ks X Wn Hn u k (bn : Nat)) := haim
  have BN0 : Hid (bn < Wn * Hn) := hbn
  have L20 : Hid (IsFar (Fd.near Wn Hn) (fun _ j => (X.gs.map fun g => Fd.onto g k.f).getD j 0) bn (Wn * Hn) l2 ∧ Flat l2) := hl2
  have HC0 : Hid ((l2.getD an 0 < 0 ∧ c = an) ∨ (0 ≤ l2.getD an 0 ∧ Nxt (Fd.near Wn Hn) (X.gs.map fun g => Fd.onto g k.f) l2 bn an c)) := hcc
  have EV : Hid (Even (Fd.near Wn Hn) (fun _ j => (X.gs.map fun g => Fd.onto g k.f).getD j 0) (Wn * Hn)) := even_to G.w1 X.gs k.f
  have K : Hid (Kl w vk ks) := hk
  have H : Hid (Wl w vw X) := hw
  obtain ⟨kn, hkn⟩ : ∃ n : Nat, u.kind = n := ⟨u.kind.toNat, by have := fu.1.1; omega⟩
  obtain ⟨gn, hgn⟩ : ∃ n : Nat, u.goal = n := ⟨u.goal.toNat, by have := hgo.1; omega⟩
  have hkk : ks[kn]? = some k := by have := hk'; rw [hkn] at this; exact this
  have hkl : kn < ks.length := (List.getElem?_eq_some_iff.1 hkk).1
  have hki : ((kn : Nat) : Int) < (ks.length : Nat) := by omega
  have hil : i < X.us.length := (List.getElem?_eq_some_iff.1 hu).1
  have hii : ((i : Nat) : Int) < (X.us.length : Nat) := by omega
  have hgl : gn < X.os.length := by have := G.ol; omega
  have hgi : ((gn : Nat) : Int) < (X.os.length : Nat) := by omega
  obtain ⟨o, ho⟩ : ∃ o, X.os[gn]? = some o := ⟨_, List.getElem?_eq_getElem hgl⟩
  obtain ⟨gg, hgg⟩ : ∃ g, X.gs[gn]? = some g := ⟨_, List.getElem?_eq_getElem (by rw [G.gl, ← G.ol]; exact hgl)⟩
  have OP : Hid (0 ≤ o) := (G.cell gn gg o hgg ho).2.2.1
  have DN : Hid (doneU X.os u k = ((u.load == k.n7) || (o == 0))) := by unfold Hid doneU; rw [hgn, Int.toNat_natCast, List.getD_eq_getElem?_getD, ho]; rfl
  have AB : Hid (Able X u k) := ab
  have HE : Hid (u.at_ = (an : Nat) ∧ u.kind = (kn : Nat) ∧ u.goal = (gn : Nat)) := ⟨hat, hkn, hgn⟩
  obtain ⟨p1, s1, p2, s2, p3, s3, p4, s4, p5, s5, rfl⟩ := wl_shape9 hw
  obtain ⟨pa, pc, he, -, -, hus⟩ := H.out.slices.2.2.2.1
  obtain ⟨xu, hxu, hxul, hxuc⟩ := hus (by intro h; rw [h] at hil; simp at hil)
  injection he with he1 he2 he3
  subst he1
  subst hxu
  obtain ⟨pa', pc', he', -, -, hos⟩ := H.out.slices.2.1
  obtain ⟨xo, hxo, hxol, hxoc⟩ := hos (by intro h; rw [h] at hgl; simp at hgl)
  injection he' with he1' he2' he3'
  subst he1'
  subst hxo
  obtain ⟨pk, qk, rfl, ck1, ck2, kc⟩ := hk
  obtain ⟨xk, rfl, hxk, hkc⟩ := kc (by intro h; rw [h] at hkl; simp at hkl)
  have KC : Hid (∀ (j : Nat) k, ks[j]? = some k → Kc w (xk.add (j * 11)) k ∧ (xk.add (j * 11)).block < w.heap.size) := fun j k hj => ⟨hkc j k hj, by rw [add_block]; exact hxk⟩
  have UC : Hid (∀ (j : Nat) u, X.us[j]? = some u → Unc w (xu.add (j * 8)) u ∧ (xu.add (j * 8)).block < w.heap.size) := fun j u hj => ⟨hxuc j u hj, by rw [add_block]; exact hxul⟩
  have OC : Hid (w.cell? (xo.add gn) = some (.int .i64 o) ∧ (xo.add gn).block < w.heap.size) := ⟨hxoc gn o ho, by rw [add_block]; exact hxol⟩
  have UI : Hid (X.us[i]? = some u ∧ ks[kn]? = some k) := ⟨hu, hkk⟩
  clear hw hl hu hk' fits hgo ab haim hbn hl2 hcc fu G e1 e2 hat hkn hgn hkk hkl hgl ho hgg hus he2 he3 hxul hxuc hos he2' he3' hxol hxoc kc hkc hxk
  have B0 : Hid (Below w.heap.size w (w.alloc (Obj.cells #[.int .i64 X.turn, .int .i64 X.next, .int .i64 X.wide, .int .i64 X.high, .slice p1 X.gs.length s1, .slice (some xo) X.os.length s2, .slice p3 X.gold.length s3, .slice (some xu) X.us.length s4, .slice p5 X.qs.length s5] 29))) := (Below.refl _ _).alloc (Nat.le_refl _) _
  have X0 : Hid (Bw (w.alloc (Obj.cells #[.int .i64 X.turn, .int .i64 X.next, .int .i64 X.wide, .int .i64 X.high, .slice p1 X.gs.length s1, .slice (some xo) X.os.length s2, .slice p3 X.gold.length s3, .slice (some xu) X.us.length s4, .slice p5 X.qs.length s5] 29)) w.heap.size X (.slice p1 X.gs.length s1) (.slice (some xo) X.os.length s2) (.slice p3 X.gold.length s3) (.slice (some xu) X.us.length s4) (.slice p5 X.qs.length s5)) := Bw.mk' X _ _ _ _ _ rfl
  go_enter Tryz.func22, Tryz.ntmps22
  go_upto_region 1 with fail
  generalize (w.alloc (Obj.cells #[.int .i64 X.turn, .int .i64 X.next, .int .i64 X.wide, .int .i64 X.high, .slice p1 X.gs.length s1, .slice (some xo) X.os.length s2, .slice p3 X.gold.length s3, .slice (some xu) X.us.length s4, .slice p5 X.qs.length s5] 29)) = w0 at *
  have x7 := X0.out.c7
  obtain ⟨y0, y1, y2, y3, y4, y5, y6, y7⟩ := (UC.out i u UI.out.1).1.below B0.out (UC.out i u UI.out.1).2
  go_upto_region 2 with fail
  have BA : Hid (Below w0.heap.size w0 (w0.alloc (Obj.cells #[.int .i64 u.id, .int .i64 u.player, .int .i64 u.kind, .int .i64 u.at_, .int .i64 u.life, .int .i64 u.load, .int .i64 u.task, .int .i64 u.goal] 59))) := (Below.refl _ _).alloc (Nat.le_refl _) _
  obtain ⟨bu, hbu⟩ : ∃ z, w0.heap.size = z := ⟨_, rfl⟩
  have U1 : Hid (Unc (w0.alloc (Obj.cells #[.int .i64 u.id, .int .i64 u.player, .int .i64 u.kind, .int .i64 u.at_, .int .i64 u.life, .int .i64 u.load, .int .i64 u.task, .int .i64 u.goal] 59)) ⟨bu, 0, none⟩ u) := Unc.mk' u hbu
  rw [hbu]
  generalize (w0.alloc (Obj.cells #[.int .i64 u.id, .int .i64 u.player, .int .i64 u.kind, .int .i64 u.at_, .int .i64 u.life, .int .i64 u.load, .int .i64 u.task, .int .i64 u.goal] 59)) = w1 at *
  have BV : Hid (Below w.heap.size w w1) := B0.out.trans (BA.out.mono B0.out.size)
  have XV : Hid (Bw w1 w.heap.size X (.slice p1 X.gs.length s1) (.slice (some xo) X.os.length s2) (.slice p3 X.gold.length s3) (.slice (some xu) X.us.length s4) (.slice p5 X.qs.length s5)) := X0.out.below BA.out X0.out.lt
  clear x7 y0 y1 y2 y3 y4 y5 y6 y7 hbu BA B0 X0
  obtain ⟨q0, q1, q2, q3, q4, q5, q6, q7⟩ := U1.out
  rw [HE.out.1] at q3
  rw [HE.out.2.1] at q2
  rw [HE.out.2.2] at q7
  obtain ⟨z0, z1, z2, z3, z4, z5, z6, z7, z8, z9, z10⟩ := (KC.out kn k UI.out.2).1.below BV.out (KC.out kn k UI.out.2).2
  by_cases ht0 : u.task = 0
  · have EC : Hid (((an : Nat) : Int) = (c : Nat)) := by have := RS.out ht0; rw [HE.out.1] at this; exact this
    rw [ht0] at q6
    clear ht0
    go_wp2
    go_ret
    exact ⟨by rw [← EC.out]; rfl, BV.out⟩
  have TN : Hid (u.task ≠ 0) := ht0
  have x5 := XV.out.c5
  have co : w1.cell? (xo.add gn) = some (.int .i64 o) := by rw [BV.out.cell (p := xo.add gn) OC.out.2]; exact OC.out.1
  by_cases ht1 : u.task = 1
  · have EB : bn = gn := by
      rcases AIM.out with ⟨h, -⟩ | ⟨-, -, h⟩ | ⟨h, -⟩
      · omega
      · rw [HE.out.2.2] at h; omega
      · omega
    subst EB
    have BN := BN0
    have L2 := L20
    have HC := HC0
    rw [ht1] at q6
    clear ht0 ht1
    go_upto_region 5 with fail
    go_quiet (fail)
    clear q0 q1 q2 q4 q5 q6 z0 z1 z2 z3 z4 z5 z6 z7 z8 z9 z10 x5 co
    have BQ : Hid (Below w.heap.size w (w1.drewN nq)) := below_dq BV.out nq
    have XQ : Hid (Bw (w1.drewN nq) w.heap.size X (.slice p1 X.gs.length s1) (.slice (some xo) X.os.length s2) (.slice p3 X.gold.length s3) (.slice (some xu) X.us.length s4) (.slice p5 X.qs.length s5)) := XV.out.below (below_dq (Below.refl _ _) nq) XV.out.lt
    have q3' : (w1.drewN nq).cell? ⟨bu, 3, none⟩ = some (.int .i64 (an : Nat)) := by have := (U1.out.below (below_dq (Below.refl _ _) nq) U1.out.lt).c3; rw [Nat.zero_add, HE.out.1] at this; exact this
    have q7' : (w1.drewN nq).cell? ⟨bu, 7, none⟩ = some (.int .i64 (bn : Nat)) := by have := (U1.out.below (below_dq (Below.refl _ _) nq) U1.out.lt).c7; rw [Nat.zero_add, HE.out.2.2] at this; exact this
    clear BV XV q3 q7
    generalize w1.drewN nq = w2 at *
    have BV := BQ
    have XV := XQ
    obtain ⟨x0, x1, x2, x3, x4, x5, x6, x7, x8⟩ := XV.out
    go_wp2_with fail
    refine (rtoward_any _ X an bn c k.f l2 Wn Hn w2 GD.out.1 GD.out.2.1 GD.out.2.2.1 GD.out.2.2.2 BN.out (H.out.below BV.out) L2.out HC.out).mono ?_
    rintro e wz ⟨rfl, hb⟩
    have BZ : Hid (Below w.heap.size w wz) := BV.out.trans (hb.mono BV.out.size)
    clear hb x0 x1 x2 x3 x4 x5 x6 x7 x8
    go_wp2
    go_ret
    exact ⟨rfl, BZ.out⟩
  have ht2 : u.task = 2 := by have := AB.out.task; omega
  rw [ht2] at q6
  clear ht0 ht1
  by_cases hdn : u.load < k.n7 ∧ 0 < o
  · have EB : bn = gn := by
      rcases AIM.out with ⟨h, -⟩ | ⟨-, -, h⟩ | ⟨-, h, -⟩
      · omega
      · rw [HE.out.2.2] at h; omega
      · rw [DN.out, Bool.or_eq_true] at h
        rcases h with h | h
        · have : u.load = k.n7 := by simpa using h
          omega
        · have : o = 0 := by simpa using h
          omega
    subst EB
    have BN := BN0
    have L2 := L20
    have HC := HC0
    obtain ⟨h1, h2⟩ := hdn
    have d1 : decide (u.load < k.n7) = true := decide_eq_true h1
    have d2 : decide (0 < o) = true := decide_eq_true h2
    clear ht2
    go_upto_region 5 with fail
    go_quiet (fail)
    clear q0 q1 q2 q4 q5 q6 z0 z1 z2 z3 z4 z5 z6 z7 z8 z9 z10 x5 co
    have BQ : Hid (Below w.heap.size w (w1.drewN nq)) := below_dq BV.out nq
    have XQ : Hid (Bw (w1.drewN nq) w.heap.size X (.slice p1 X.gs.length s1) (.slice (some xo) X.os.length s2) (.slice p3 X.gold.length s3) (.slice (some xu) X.us.length s4) (.slice p5 X.qs.length s5)) := XV.out.below (below_dq (Below.refl _ _) nq) XV.out.lt
    have q3' : (w1.drewN nq).cell? ⟨bu, 3, none⟩ = some (.int .i64 (an : Nat)) := by have := (U1.out.below (below_dq (Below.refl _ _) nq) U1.out.lt).c3; rw [Nat.zero_add, HE.out.1] at this; exact this
    have q7' : (w1.drewN nq).cell? ⟨bu, 7, none⟩ = some (.int .i64 (bn : Nat)) := by have := (U1.out.below (below_dq (Below.refl _ _) nq) U1.out.lt).c7; rw [Nat.zero_add, HE.out.2.2] at this; exact this
    clear BV XV q3 q7
    generalize w1.drewN nq = w2 at *
    have BV := BQ
    have XV := XQ
    obtain ⟨x0, x1, x2, x3, x4, x5, x6, x7, x8⟩ := XV.out
    go_wp2_with fail
    refine (rtoward_any _ X an bn c k.f l2 Wn Hn w2 GD.out.1 GD.out.2.1 GD.out.2.2.1 GD.out.2.2.2 BN.out (H.out.below BV.out) L2.out HC.out).mono ?_
    rintro e wz ⟨rfl, hb⟩
    have BZ : Hid (Below w.heap.size w wz) := BV.out.trans (hb.mono BV.out.size)
    clear hb x0 x1 x2 x3 x4 x5 x6 x7 x8
    go_wp2
    go_ret
    exact ⟨rfl, BZ.out⟩
  obtain ⟨lf, hlf, hbn⟩ : ∃ l, (IsFar (Fd.near Wn Hn) (fun i _ => (X.gs.map fun g => Fd.onto g k.f).getD i 0) an (Wn * Hn) l ∧ Flat l) ∧ ((bn : Nat) : Int) = homeAt ks X.us l u := by
    rcases AIM.out with ⟨h, -⟩ | ⟨-, h, -⟩ | ⟨-, -, l, h, h'⟩
    · omega
    · exfalso
      refine h ⟨ht2, ?_⟩
      rw [DN.out, Bool.or_eq_true]
      have hl := AB.out.load
      have ho := OP.out
      by_cases h1 : u.load < k.n7
      · have h2 : ¬ 0 < o := fun h2 => hdn ⟨h1, h2⟩
        have : o = 0 := by omega
        exact .inr (by rw [this]; rfl)
      · have : u.load = k.n7 := by omega
        exact .inl (by rw [this]; exact beq_self_eq_true _)
    · rw [HE.out.1, Int.toNat_natCast] at h
      exact ⟨l, h, h'⟩
  have LF : Hid (IsFar (Fd.near Wn Hn) (fun i _ => (X.gs.map fun g => Fd.onto g k.f).getD i 0) an (Wn * Hn) lf ∧ Flat lf) := hlf
  have HB : Hid (((bn : Nat) : Int) = homeAt ks X.us lf u) := hbn
  have POS : Hid (∀ x ∈ X.us, 0 ≤ x.at_) := fun x hx => (FT.out x hx).2.1
  clear hlf hbn ht2
  obtain ⟨bu1, hbu1⟩ : ∃ z, w1.heap.size = z := ⟨_, rfl⟩
  clear hbu1 bu1
  go_upto_region 5 with fail
  go_cut [53] (fun v53 V => v53 = .bool false ∧ ∃ q, V = w1.drewN q)
  case first =>
    by_cases h1 : u.load < k.n7
    · have h2 : ¬ 0 < o := fun h2 => hdn ⟨h1, h2⟩
      have d1 : decide (u.load < k.n7) = true := decide_eq_true h1
      have d2 : decide (0 < o) = false := decide_eq_false h2
      go_quiet (fail)
      go_wp2_with fail
      go_meet
      case rel => exact ⟨rfl, _, rfl⟩
    · have d1 : decide (u.load < k.n7) = false := decide_eq_false h1
      go_quiet (fail)
      go_wp2_with fail
      go_meet
      case rel => exact ⟨rfl, _, rfl⟩
  case rest =>
    obtain ⟨rfl, qq, hV⟩ := hcut
    have B2 : Hid (Below w1.heap.size w1 wc) := by rw [hV]; exact below_dq (Below.refl _ _) _
    have BB : Hid (Below w.heap.size w wc) := BV.out.trans (B2.out.mono BV.out.size)
    have XX : Hid (Bw wc w.heap.size X (.slice p1 X.gs.length s1) (.slice (some xo) X.os.length s2) (.slice p3 X.gold.length s3) (.slice (some xu) X.us.length s4) (.slice p5 X.qs.length s5)) := XV.out.below B2.out XV.out.lt
    have UU : Hid (Unc wc ⟨bu, 0, none⟩ u) := U1.out.below B2.out U1.out.lt
    clear hV B2 BV XV U1 q0 q1 q2 q3 q4 q5 q6 q7 z0 z1 z2 z3 z4 z5 z6 z7 z8 z9 z10 x5 co hdn
    obtain ⟨nm, hnm⟩ : ∃ m, Wn * Hn = m := ⟨_, rfl⟩
    have NM : Hid (Wn * Hn = nm) := hnm
    clear hnm
    go_upto_region 10 with fail
    go_loopw [9, 10, 11] (fun v9 v10 v11 V => ∃ (n : Nat) (best least : Int), v11 = .int .i64 (n : Nat) ∧ n ≤ X.us.length ∧ v9 = .int .i64 best ∧ v10 = .int .i64 least ∧ bestOf ks lf u.player (X.us.take n) best least ∧ (best = -1 ∨ (0 ≤ best ∧ best < (nm : Nat))) ∧ Below wc.heap.size wc V) (fun _ _ v11 _ => X.us.length - (intOf v11).toNat)
    case atStart => exact ⟨0, -1, 0, rfl, Nat.zero_le _, rfl, rfl, .inl ⟨by simp [homes], rfl⟩, .inl rfl, Below.refl _ _⟩
    case round =>
      obtain ⟨n, best, least, rfl, hn, rfl, rfl, hbest, hb01, hb⟩ := hrel
      have BO : Hid (bestOf ks lf u.player (X.us.take n) best least) := hbest
      have BR : Hid (Below wc.heap.size wc wr) := hb
      have BV : Hid (Below w.heap.size w wr) := BB.out.trans (hb.mono BB.out.size)
      have XV : Hid (Bw wr w.heap.size X (.slice p1 X.gs.length s1) (.slice (some xo) X.os.length s2) (.slice p3 X.gold.length s3) (.slice (some xu) X.us.length s4) (.slice p5 X.qs.length s5)) := XX.out.below hb XX.out.lt
      have UV : Hid (Unc wr ⟨bu, 0, none⟩ u) := UU.out.below hb UU.out.lt
      clear hbest hb
      have x7 := XV.out.c7
      by_cases h0 : n = X.us.length
      · subst h0
        have hnn : ¬ (((X.us.length : Nat) : Int) < (X.us.length : Nat)) := by omega
        have HH : Hid (((bn : Nat) : Int) = if best < 0 then u.at_ else best) := by
          have h := BO.out
          rw [List.take_of_length_le (Nat.le_refl _)] at h
          unfold Hid
          rw [HB.out]
          exact best_home h POS.out
        obtain ⟨q0, q1, q2, q3, q4, q5, q6, q7⟩ := UV.out
        rw [HE.out.1] at q3
        by_cases hbe : best < 0
        · have EB : bn = an := by have h := HH.out; rw [if_pos hbe, HE.out.1] at h; omega
          have EC : Hid (c = an) := by have h := HC0.out; rw [EB] at h; exact wish_here h
          go_wp2
          go_ret
          exact ⟨by rw [EC.out]; rfl, BV.out⟩
        · have EB : ((bn : Nat) : Int) = best := by have h := HH.out; rw [if_neg hbe] at h; exact h
          subst EB
          have BN := BN0
          have L2 := L20
          have HC := HC0
          obtain ⟨x0, x1, x2, x3, x4, x5, x6, x7, x8⟩ := XV.out
          go_wp2_with fail
          refine (rtoward_any _ X an bn c k.f l2 Wn Hn wr GD.out.1 GD.out.2.1 GD.out.2.2.1 GD.out.2.2.2 BN.out (H.out.below BV.out) L2.out HC.out).mono ?_
          rintro e wz ⟨rfl, hb⟩
          have BZ : Hid (Below w.heap.size w wz) := BV.out.trans (hb.mono BV.out.size)
          clear hb x0 x1 x2 x3 x4 x5 x6 x7 x8
          go_wp2
          go_ret
          exact ⟨rfl, BZ.out⟩
      · have hnl : n < X.us.length := by omega
        have hni : ((n : Nat) : Int) < (X.us.length : Nat) := by omega
        have HN : Hid (n < X.us.length) := hnl
        have WN : IntKind.i64.wrap ((n : Nat) + 1 : Int) = ((n : Nat) : Int) + 1 := by have := HL.out; rw [IntKind.wrap_i64]; omega
        obtain ⟨h, hh⟩ : ∃ h, X.us[n]? = some h := ⟨_, List.getElem?_eq_getElem hnl⟩
        have HI : Hid (X.us[n]? = some h) := hh
        have fh := FT.out h (List.mem_of_getElem? hh)
        obtain ⟨hk0, hhk⟩ : ∃ a : Nat, h.kind = a := ⟨h.kind.toNat, by have := fh.1.1; omega⟩
        obtain ⟨hn', hha⟩ : ∃ a : Nat, h.at_ = a := ⟨h.at_.toNat, by have := fh.2.1; omega⟩
        generalize hn' = hn at *
        have hkl : hk0 < ks.length := by have := fh.1.2; omega
        have hki : ((hk0 : Nat) : Int) < (ks.length : Nat) := by omega
        obtain ⟨kh, hkh⟩ : ∃ k, ks[hk0]? = some k := ⟨_, List.getElem?_eq_getElem hkl⟩
        have HE2 : Hid (h.kind = (hk0 : Nat) ∧ h.at_ = (hn : Nat) ∧ hn < Wn * Hn ∧ ks[h.kind.toNat]? = some kh) := ⟨hhk, hha, by have := fh.2.2; omega, by rw [hhk]; exact hkh⟩
        obtain ⟨y0, y1, y2, y3, y4, y5, y6, y7⟩ := (UC.out n h hh).1.below BV.out (UC.out n h hh).2
        have KH : Hid (Kc w (xk.add (hk0 * 11)) kh ∧ (xk.add (hk0 * 11)).block < w.heap.size) := KC.out hk0 kh hkh
        clear hh fh hhk hha hkh
        go_upto_region 13 with fail
        have BA : Hid (Below wr.heap.size wr (wr.alloc (Obj.cells #[.int .i64 h.id, .int .i64 h.player, .int .i64 h.kind, .int .i64 h.at_, .int .i64 h.life, .int .i64 h.load, .int .i64 h.task, .int .i64 h.goal] 59))) := (Below.refl _ _).alloc (Nat.le_refl _) _
        obtain ⟨bh, hbh⟩ : ∃ z, wr.heap.size = z := ⟨_, rfl⟩
        have HU : Hid (Unc (wr.alloc (Obj.cells #[.int .i64 h.id, .int .i64 h.player, .int .i64 h.kind, .int .i64 h.at_, .int .i64 h.life, .int .i64 h.load, .int .i64 h.task, .int .i64 h.goal] 59)) ⟨bh, 0, none⟩ h) := Unc.mk' h hbh
        rw [hbh]
        generalize (wr.alloc (Obj.cells #[.int .i64 h.id, .int .i64 h.player, .int .i64 h.kind, .int .i64 h.at_, .int .i64 h.life, .int .i64 h.load, .int .i64 h.task, .int .i64 h.goal] 59)) = w2 at *
        have BR2 : Hid (Below wc.heap.size wc w2) := BR.out.trans (BA.out.mono BR.out.size)
        have BV2 : Hid (Below w.heap.size w w2) := BV.out.trans (BA.out.mono BV.out.size)
        have XV2 : Hid (Bw w2 w.heap.size X (.slice p1 X.gs.length s1) (.slice (some xo) X.os.length s2) (.slice p3 X.gold.length s3) (.slice (some xu) X.us.length s4) (.slice p5 X.qs.length s5)) := XV.out.below BA.out XV.out.lt
        have UV2 : Hid (Unc w2 ⟨bu, 0, none⟩ u) := UV.out.below BA.out UV.out.lt
        clear y0 y1 y2 y3 y4 y5 y6 y7 x7 hbh BA BR BV XV UV
        obtain ⟨e0, e1, e2, e3, e4, e5, e6, e7⟩ := HU.out
        obtain ⟨q0, q1, q2, q3, q4, q5, q6, q7⟩ := UV2.out
        have z10 := (KH.out.1.below BV2.out KH.out.2).c10
        rw [HE2.out.1] at e2
        by_cases hp : h.player = u.player
        case neg =>
          have hp' : (h.player == u.player) = false := by rw [beq_eq_false_iff_ne]; exact hp
          have NB : Hid (bestOf ks lf u.player (X.us.take (n + 1)) best least) := best_skip BO.out HI.out (other_no hp)
          go_wp2
          go_round
          case rel => exact ⟨n + 1, best, least, by go_num, by have := HN.out; omega, rfl, rfl, NB.out, hb01, BR2.out⟩
          case measure => simp [intOf]; omega
        have OT : Hid (otherU ks lf u.player h = (!kh.t || decide (lf.getD hn 0 < 0))) := by have := other_is (l := lf) hp HE2.out.2.2.2; rw [HE2.out.2.1, Int.toNat_natCast] at this; exact this
        rw [hp] at e1
        clear hp
        cases hkt : kh.t with
        | false =>
          have NB : Hid (bestOf ks lf u.player (X.us.take (n + 1)) best least) := best_skip BO.out HI.out (by rw [OT.out, hkt]; rfl)
          rw [hkt] at z10
          go_wp2
          go_round
          case rel => exact ⟨n + 1, best, least, by go_num, by have := HN.out; omega, rfl, rfl, NB.out, hb01, BR2.out⟩
          case measure => simp [intOf]; omega
        | true =>
          rw [hkt] at z10
          have OU : Hid (otherU ks lf u.player h = decide (lf.getD hn 0 < 0)) := by unfold Hid; rw [OT.out, hkt]; rfl
          clear OT hkt
          go_upto_region 14 with fail
          clear e0 e1 e2 e3 e4 e5 e6 e7 q0 q1 q2 q3 q4 q5 q6 q7 z10
          have CB : Hid (∀ V, Below w2.heap.size w2 V → (Bw V w.heap.size X (.slice p1 X.gs.length s1) (.slice (some xo) X.os.length s2) (.slice p3 X.gold.length s3) (.slice (some xu) X.us.length s4) (.slice p5 X.qs.length s5) ∧ V.cell? ⟨bh, 3, none⟩ = some (.int .i64 (hn : Nat)) ∧ V.cell? ⟨bu, 3, none⟩ = some (.int .i64 (an : Nat)))) := fun V hb => ⟨XV2.out.below hb XV2.out.lt, by have := (HU.out.below hb HU.out.lt).c3; rw [Nat.zero_add, HE2.out.2.1] at this; exact this, by have := (UV2.out.below hb UV2.out.lt).c3; rw [Nat.zero_add, HE.out.1] at this; exact this⟩
          refine wp_region_two [(true, 0), (true, 1), (true, 2), (true, 3), (true, 4), (true, 6), (true, 7), (false, 5)] [(true, 8), (false, 9), (false, 10)] (fun V => Bw V w.heap.size X (.slice p1 X.gs.length s1) (.slice (some xo) X.os.length s2) (.slice p3 X.gold.length s3) (.slice (some xu) X.us.length s4) (.slice p5 X.qs.length s5) ∧ V.cell? ⟨bh, 3, none⟩ = some (.int .i64 (hn : Nat)) ∧ V.cell? ⟨bu, 3, none⟩ = some (.int .i64 (an : Nat))) (by kernel_rfl) (by kernel_rfl) (by kernel_rfl) (by decide +kernel) (by decide +kernel) (CB.out _ ((Below.refl _ _).drew)) ?_
          have D4 : Hid (Below w2.heap.size w2 { w2 with drawn := w2.drawn + 1 }) := (Below.refl _ _).drew
          have D5 : Hid (Below w.heap.size w { w2 with drawn := w2.drawn + 1 }) := BV2.out.drew
          generalize ({ w2 with drawn := w2.drawn + 1 } : World) = wd at *
          refine headT_read rfl (.pointer (some ⟨w.heap.size, 2, none⟩)) (by go_simp) (fun V hV => by go_simp) ?_
          go_simp
          refine headT_read rfl (.agg #[.int .i64 X.wide, .int .i64 X.high, .slice p1 X.gs.length s1, .slice (some xo) X.os.length s2]) (by go_simp) (fun V hV => by obtain ⟨⟨x0, x1, x2, x3, x4, x5, x6, x7, x8⟩, d1, d2⟩ := hV; go_simp) ?_
          go_simp
          refine headT_read rfl (.pointer (some ⟨bh, 3, none⟩)) (by go_simp) (fun V hV => by go_simp) ?_
          go_simp
          refine headT_read rfl (.int .i64 (hn : Nat)) (by go_simp) (fun V hV => by obtain ⟨⟨x0, x1, x2, x3, x4, x5, x6, x7, x8⟩, d1, d2⟩ := hV; go_simp) ?_
          go_simp
          refine headT_read rfl (.bool k.f) (by go_simp) (fun V hV => by go_simp) ?_
          go_simp
          refine headT_read rfl (.pointer (some ⟨bu, 3, none⟩)) (by go_simp) (fun V hV => by go_simp) ?_
          go_simp
          refine headT_read rfl (.int .i64 (an : Nat)) (by go_simp) (fun V hV => by obtain ⟨⟨x0, x1, x2, x3, x4, x5, x6, x7, x8⟩, d1, d2⟩ := hV; go_simp) ?_
          go_simp
          refine headT_call rfl 51 #[.agg #[.int .i64 X.wide, .int .i64 X.high, .slice p1 X.gs.length s1, .slice (some xo) X.os.length s2], .int .i64 (hn : Nat), .bool k.f] (by go_simp) (by go_simp) ?_
          have FLD := fl_of (H.out.below D5.out)
          rw [GD.out.2.1, GD.out.2.2.1] at FLD
          have RT := ref_to _ Wn Hn X.gs X.os hn k.f wd FLD GD.out.1 HE2.out.2.2.1 EV.out
          rw [← GD.out.2.1, ← GD.out.2.2.1] at RT
          refine RT.mono ?_
          rintro e wa ⟨bb, l', rfl, -, hbk, hfar, hb⟩
          have FB : l'.getD an 0 = lf.getD hn 0 := far_back EV.out LF.out.1 hfar.1 GD.out.2.2.2 HE2.out.2.2.1
          obtain ⟨d, hd⟩ : ∃ d, l'[an]? = some d := ⟨_, List.getElem?_eq_getElem (by rw [hfar.1.1]; exact GD.out.2.2.2)⟩
          have DD : Hid (lf.getD hn 0 = d) := by unfold Hid; rw [← FB, List.getD_eq_getElem?_getD, hd]; rfl
          have cd := hbk.cell hd
          have DA : Hid (Below w2.heap.size w2 wa) := D4.out.trans (hb.mono D4.out.size)
          have hai : ((an : Nat) : Int) < ((nm : Nat) : Int) := by have := GD.out.2.2.2; have := NM.out; omega
          refine ⟨_, rfl, CB.out _ DA.out, ?_⟩
          clear hb hbk hfar FB hd D4 D5 FLD RT
          rw [NM.out]
          go_simp
          refine sched_read rfl (.pointer (some ⟨bb, an, none⟩)) (by go_simp) (fun V hV => by go_simp) ?_
          go_simp
          refine sched_value rfl (.int .i64 d) wa (by go_simp) (by go_simp) trivial ?_
          go_simp
          refine sched_value rfl (.int .i64 d) wa (by go_simp) (by go_simp) trivial ?_
          go_simp
          unfold wpSched
          clear cd CB
          have BRa : Hid (Below wc.heap.size wc wa) := BR2.out.trans (DA.out.mono BR2.out.size)
          have e3 : wa.cell? ⟨bh, 3, none⟩ = some (.int .i64 (hn : Nat)) := by have := (HU.out.below DA.out HU.out.lt).c3; rw [Nat.zero_add, HE2.out.2.1] at this; exact this
          have HNB : Hid (hn < nm) := by have := HE2.out.2.2.1; rw [NM.out] at this; exact this
          by_cases hd0 : d < 0
          · have NB : Hid (bestOf ks lf u.player (X.us.take (n + 1)) best least) := best_skip BO.out HI.out (by rw [OU.out, DD.out]; exact decide_eq_true hd0)
            have c1 : decide (0 ≤ d) = false := decide_eq_false (by omega)
            go_wp2
            go_round
            case rel => exact ⟨n + 1, best, least, by go_num, by have := HN.out; omega, rfl, rfl, NB.out, hb01, BRa.out⟩
            case measure => simp [intOf]; omega
          have c1 : decide (0 ≤ d) = true := decide_eq_true (by omega)
          have OF : Hid (otherU ks lf u.player h = false) := by unfold Hid; rw [OU.out, DD.out]; exact decide_eq_false hd0
          by_cases hb0 : best < 0
          · have NB : Hid (bestOf ks lf u.player (X.us.take (n + 1)) (hn : Nat) d) := by
              have h := best_new BO.out HI.out OF.out (.inl hb0) POS.out
              rw [HE2.out.2.1, Int.toNat_natCast, DD.out] at h
              exact h
            have c2 : decide (best < 0) = true := decide_eq_true hb0
            go_wp2
            go_round
            case rel => exact ⟨n + 1, _, d, by go_num, by have := HN.out; omega, rfl, rfl, NB.out, .inr ⟨by omega, by have := HNB.out; omega⟩, BRa.out⟩
            case measure => simp [intOf]; omega
          have c2 : decide (best < 0) = false := decide_eq_false hb0
          by_cases hdl : d < least
          · have NB : Hid (bestOf ks lf u.player (X.us.take (n + 1)) (hn : Nat) d) := by
              have h := best_new BO.out HI.out OF.out (.inr (by rw [HE2.out.2.1, Int.toNat_natCast, DD.out]; exact hdl)) POS.out
              rw [HE2.out.2.1, Int.toNat_natCast, DD.out] at h
              exact h
            have c3 : decide (d < least) = true := decide_eq_true hdl
            go_wp2
            go_round
            case rel => exact ⟨n + 1, _, d, by go_num, by have := HN.out; omega, rfl, rfl, NB.out, .inr ⟨by omega, by have := HNB.out; omega⟩, BRa.out⟩
            case measure => simp [intOf]; omega
          · have NB : Hid (bestOf ks lf u.player (X.us.take (n + 1)) best least) := best_old BO.out HI.out OF.out (by omega) (by rw [HE2.out.2.1, Int.toNat_natCast, DD.out]; exact hdl)
            have c3 : decide (d < least) = false := decide_eq_false hdl
            go_wp2
            go_round
            case rel => exact ⟨n + 1, best, least, by go_num, by have := HN.out; omega, rfl, rfl, NB.out, hb01, BRa.out⟩
            case measure => simp [intOf]; omega
end Go.Proofs.YtagnjmellcibhaaGreatDoor

namespace Go.Proofs.YtagnjmellcibhaaGreatDoor
open Go.RowKit
set_option linter.unusedVariables false

/-- a field's four cells, in a block of their own. -/
def Fx (w : World) (z : Nat) (c0 c1 c2 c3 : Value) : Prop := w.heap[z]? = some (.cells #[c0, c1, c2, c3] 25 (0, 0))
theorem Fx.lt {w : World} {z : Nat} {c0 c1 c2 c3 : Value} (h : Fx w z c0 c1 c2 c3) : z < w.heap.size := lt_of_block h
theorem Fx.cells {w : World} {z : Nat} {c0 c1 c2 c3 : Value} (h : Fx w z c0 c1 c2 c3) : w.cell? ⟨z, 0, none⟩ = some c0 ∧ w.cell? ⟨z, 1, none⟩ = some c1 ∧ w.cell? ⟨z, 2, none⟩ = some c2 ∧ w.cell? ⟨z, 3, none⟩ = some c3 := by
  unfold Fx at h
  refine ⟨?_, ?_, ?_, ?_⟩ <;> simp [World.cell?, h]
theorem Fx.thaw {w : World} {z : Nat} {c0 c1 c2 c3 : Value} (h : Fx w z c0 c1 c2 c3) (i : Nat) : w.frozen? ⟨z, i, none⟩ = false := by
  unfold Fx at h
  simp [World.frozen?, h]
theorem Fx.new {w : World} {z : Nat} (c0 c1 c2 c3 : Value) (hz : w.heap.size = z) : Fx (w.alloc (.cells #[c0, c1, c2, c3] 25)) z c0 c1 c2 c3 := by
  subst hz
  exact heap_alloc_new _ _
theorem Fx.below {w w' : World} {z n : Nat} {c0 c1 c2 c3 : Value} (h : Fx w z c0 c1 c2 c3) (hb : Below n w w') (hn : z < n) : Fx w' z c0 c1 c2 c3 := (hb.block z hn).trans h
theorem Fx.kp {w w' : World} {z y : Nat} {c0 c1 c2 c3 : Value} (h : Fx w z c0 c1 c2 c3) (k : Kp y w w') (hn : z ≠ y) : Fx w' z c0 c1 c2 c3 := (k.block z h.lt hn).trans h
theorem Fx.set0 {w : World} {z : Nat} {c0 c1 c2 c3 : Value} (h : Fx w z c0 c1 c2 c3) (u : Value) : Fx (w.setCell ⟨z, 0, none⟩ u) z u c1 c2 c3 := heap_setCell_same w z 0 _ _ u h
theorem Fx.set1 {w : World} {z : Nat} {c0 c1 c2 c3 : Value} (h : Fx w z c0 c1 c2 c3) (u : Value) : Fx (w.setCell ⟨z, 1, none⟩ u) z c0 u c2 c3 := heap_setCell_same w z 1 _ _ u h
theorem Fx.set2 {w : World} {z : Nat} {c0 c1 c2 c3 : Value} (h : Fx w z c0 c1 c2 c3) (u : Value) : Fx (w.setCell ⟨z, 2, none⟩ u) z c0 c1 u c3 := heap_setCell_same w z 2 _ _ u h
theorem Fx.set3 {w : World} {z : Nat} {c0 c1 c2 c3 : Value} (h : Fx w z c0 c1 c2 c3) (u : Value) : Fx (w.setCell ⟨z, 3, none⟩ u) z c0 c1 c2 u := heap_setCell_same w z 3 _ _ u h
theorem owns_kpn {z : Nat} {w w' : World} {base : Nat} {T : TypeId} {size : Nat} {u : Value} {n : Nat} {cs : List Value} (h : w.ownsRow base T size u n cs) (k : Kp z w w') (hz : ∀ b, u.ownBlock = some b → b ≠ z) : w'.ownsRow base T size u n cs := by
  refine ⟨h.1, ?_⟩
  rcases h.2 with h1 | ⟨g, cap, cur, h1, h2, h3, h4⟩
  · exact .inl h1
  · exact .inr ⟨g, cap, cur, h1, h2, (k.block g (lt_of_block h3) (hz g (by rw [h1]; rfl))).trans h3, h4⟩
theorem Bw.kp {w w' : World} {z y : Nat} {W : WV} {u1 u2 u3 u4 u5 : Value} (h : Bw w z W u1 u2 u3 u4 u5) (k : Kp y w w') (hn : z ≠ y) : Bw w' z W u1 u2 u3 u4 u5 := by
  have hz := h.lt
  have hc : ∀ i, w'.cell? ⟨z, i, none⟩ = w.cell? ⟨z, i, none⟩ := fun i => by
    have := k.block z hz hn
    simp only [World.cell?, this]
  exact ⟨by rw [hc]; exact h.c0, by rw [hc]; exact h.c1, by rw [hc]; exact h.c2, by rw [hc]; exact h.c3, by rw [hc]; exact h.c4, by rw [hc]; exact h.c5, by rw [hc]; exact h.c6, by rw [hc]; exact h.c7, by rw [hc]; exact h.c8⟩
set_option maxRecDepth 100000 in
set_option maxHeartbeats 8000000 in
theorem rcopy_any (v : Value) (W : WV) (w : World) (h : Wl w v W) (hl : WLen W) :
    Calls Tryz.prog 30 #[v] w fun e w' => ∃ u, e = .returned u ∧ Wi w' w.heap.size u W ∧ Below w.heap.size w w' := by
  have H : Hid (Wl w v W) := h
  have L : Hid (WLen W) := hl
  obtain ⟨u1, u2, u3, u4, u5, rfl, -, -, -, -, -⟩ := h
  clear hl
  go_enter Tryz.func30, Tryz.ntmps30
  go_upto_region 2 with fail
  have B0 : Hid (Below w.heap.size w (((w.alloc (.cells #[.int .i64 W.turn, .int .i64 W.next, .int .i64 W.wide, .int .i64 W.high, u1, u2, u3, u4, u5] 29)).alloc (.cells #[.int .i64 0, .int .i64 0, .int .i64 0, .int .i64 0, .slice none 0 0, .slice none 0 0, .slice none 0 0, .slice none 0 0, .slice none 0 0] 29)).alloc (.cells #[.int .i64 0, .int .i64 0, .slice none 0 0, .slice none 0 0] 25))) := (((Below.refl _ _).alloc (Nat.le_refl _) _).alloc (by simp) _).alloc (by simp; omega) _
  have X0 : Hid (Bw (((w.alloc (.cells #[.int .i64 W.turn, .int .i64 W.next, .int .i64 W.wide, .int .i64 W.high, u1, u2, u3, u4, u5] 29)).alloc (.cells #[.int .i64 0, .int .i64 0, .int .i64 0, .int .i64 0, .slice none 0 0, .slice none 0 0, .slice none 0 0, .slice none 0 0, .slice none 0 0] 29)).alloc (.cells #[.int .i64 0, .int .i64 0, .slice none 0 0, .slice none 0 0] 25)) w.heap.size W u1 u2 u3 u4 u5) := ((Bw.mk' (w := w) W u1 u2 u3 u4 u5 rfl).below ((Below.refl _ _).alloc (Nat.le_refl _) _) (by simp)).below ((Below.refl _ _).alloc (Nat.le_refl _) _) (by simp; omega)
  have R0 : Hid (Wx (((w.alloc (.cells #[.int .i64 W.turn, .int .i64 W.next, .int .i64 W.wide, .int .i64 W.high, u1, u2, u3, u4, u5] 29)).alloc (.cells #[.int .i64 0, .int .i64 0, .int .i64 0, .int .i64 0, .slice none 0 0, .slice none 0 0, .slice none 0 0, .slice none 0 0, .slice none 0 0] 29)).alloc (.cells #[.int .i64 0, .int .i64 0, .slice none 0 0, .slice none 0 0] 25)) (w.heap.size + 1) (.int .i64 0) (.int .i64 0) (.int .i64 0) (.int .i64 0) (.slice none 0 0) (.slice none 0 0) (.slice none 0 0) (.slice none 0 0) (.slice none 0 0)) := (Wx.new _ _ _ _ _ _ _ _ _ (by simp)).below ((Below.refl _ _).alloc (Nat.le_refl _) _) (by simp)
  have F0 : Hid (Fx (((w.alloc (.cells #[.int .i64 W.turn, .int .i64 W.next, .int .i64 W.wide, .int .i64 W.high, u1, u2, u3, u4, u5] 29)).alloc (.cells #[.int .i64 0, .int .i64 0, .int .i64 0, .int .i64 0, .slice none 0 0, .slice none 0 0, .slice none 0 0, .slice none 0 0, .slice none 0 0] 29)).alloc (.cells #[.int .i64 0, .int .i64 0, .slice none 0 0, .slice none 0 0] 25)) (w.heap.size + 1 + 1) (.int .i64 0) (.int .i64 0) (.slice none 0 0) (.slice none 0 0)) := Fx.new _ _ _ _ (by simp)
  have S0 : Hid (w.heap.size + 3 ≤ (((w.alloc (.cells #[.int .i64 W.turn, .int .i64 W.next, .int .i64 W.wide, .int .i64 W.high, u1, u2, u3, u4, u5] 29)).alloc (.cells #[.int .i64 0, .int .i64 0, .int .i64 0, .int .i64 0, .slice none 0 0, .slice none 0 0, .slice none 0 0, .slice none 0 0, .slice none 0 0] 29)).alloc (.cells #[.int .i64 0, .int .i64 0, .slice none 0 0, .slice none 0 0] 25)).heap.size) := by unfold Hid; simp
  generalize (((w.alloc (.cells #[.int .i64 W.turn, .int .i64 W.next, .int .i64 W.wide, .int .i64 W.high, u1, u2, u3, u4, u5] 29)).alloc (.cells #[.int .i64 0, .int .i64 0, .int .i64 0, .int .i64 0, .slice none 0 0, .slice none 0 0, .slice none 0 0, .slice none 0 0, .slice none 0 0] 29)).alloc (.cells #[.int .i64 0, .int .i64 0, .slice none 0 0, .slice none 0 0] 25)) = w0 at *
  have t := F0.out.thaw 0
  obtain ⟨x, -, -, -⟩ := F0.out.cells
  have y := X0.out.c2
  go_upto_region 3 with fail
  have KW : Hid (Kp (w.heap.size + 1 + 1) w0 (w0.setCell ⟨(w.heap.size + 1 + 1), 0, none⟩ (.int .i64 W.wide))) := Kp.set _ _ _
  have F1 : Hid (Fx (w0.setCell ⟨(w.heap.size + 1 + 1), 0, none⟩ (.int .i64 W.wide)) (w.heap.size + 1 + 1) (.int .i64 W.wide) (.int .i64 0) (.slice none 0 0) (.slice none 0 0)) := F0.out.set0 _
  clear t x y
  generalize (w0.setCell ⟨(w.heap.size + 1 + 1), 0, none⟩ (.int .i64 W.wide)) = w1 at *
  have B1 : Hid (Below w.heap.size w w1) := KW.out.below B0.out B0.out.size (by omega)
  have X1 : Hid (Bw w1 w.heap.size W u1 u2 u3 u4 u5) := X0.out.kp KW.out (by omega)
  have R1 : Hid (Wx w1 (w.heap.size + 1) (.int .i64 0) (.int .i64 0) (.int .i64 0) (.int .i64 0) (.slice none 0 0) (.slice none 0 0) (.slice none 0 0) (.slice none 0 0) (.slice none 0 0)) := R0.out.kp KW.out (by omega)
  have S1 : Hid (w.heap.size + 3 ≤ w1.heap.size) := Nat.le_trans S0.out KW.out.size
  clear KW B0 X0 R0 S0
  have t := F1.out.thaw 1
  obtain ⟨-, x, -, -⟩ := F1.out.cells
  have y := X1.out.c3
  go_upto_region 4 with fail
  have KW : Hid (Kp (w.heap.size + 1 + 1) w1 (w1.setCell ⟨(w.heap.size + 1 + 1), 1, none⟩ (.int .i64 W.high))) := Kp.set _ _ _
  have F2 : Hid (Fx (w1.setCell ⟨(w.heap.size + 1 + 1), 1, none⟩ (.int .i64 W.high)) (w.heap.size + 1 + 1) (.int .i64 W.wide) (.int .i64 W.high) (.slice none 0 0) (.slice none 0 0)) := F1.out.set1 _
  clear t x y
  generalize (w1.setCell ⟨(w.heap.size + 1 + 1), 1, none⟩ (.int .i64 W.high)) = w2 at *
  have B2 : Hid (Below w.heap.size w w2) := KW.out.below B1.out B1.out.size (by omega)
  have X2 : Hid (Bw w2 w.heap.size W u1 u2 u3 u4 u5) := X1.out.kp KW.out (by omega)
  have R2 : Hid (Wx w2 (w.heap.size + 1) (.int .i64 0) (.int .i64 0) (.int .i64 0) (.int .i64 0) (.slice none 0 0) (.slice none 0 0) (.slice none 0 0) (.slice none 0 0) (.slice none 0 0)) := R1.out.kp KW.out (by omega)
  have S2 : Hid (w.heap.size + 3 ≤ w2.heap.size) := Nat.le_trans S1.out KW.out.size
  clear KW B1 X1 R1 S1
  obtain ⟨-, -, x, -⟩ := F2.out.cells
  have y := X2.out.c4
  go_wp2_with (at_builtin; refine app_row _ rfl _ _ rfl (w.heap.size + 3) _ [] rfl (Ow.nil _ _) _ W.gs rfl ((H.out.below B2.out).slices.1) (by have := L.out.g; simp only [List.length_nil]; omega) S2.out ?_)
  intro v0 a0 on gn dn
  have BG : Hid (Below w2.heap.size w2 a0) := (Below.refl _ _).grown gn (Nat.le_refl _) (fun k hk => by cases hk)
  try rw [List.nil_append] at on
  have BA : Hid (Below w.heap.size w a0) := B2.out.trans (BG.out.mono B2.out.size)
  have XA : Hid (Bw a0 w.heap.size W u1 u2 u3 u4 u5) := X2.out.below BG.out X2.out.lt
  have RA : Hid (Wx a0 (w.heap.size + 1) (.int .i64 0) (.int .i64 0) (.int .i64 0) (.int .i64 0) (.slice none 0 0) (.slice none 0 0) (.slice none 0 0) (.slice none 0 0) (.slice none 0 0)) := R2.out.below BG.out R2.out.lt
  have FA : Hid (Fx a0 (w.heap.size + 1 + 1) (.int .i64 W.wide) (.int .i64 W.high) (.slice none 0 0) (.slice none 0 0)) := F2.out.below BG.out F2.out.lt
  have SA : Hid (w.heap.size + 3 ≤ a0.heap.size) := Nat.le_trans S2.out BG.out.size
  have P0A : Hid (Ow a0 (w.heap.size + 3) v0 W.gs) := on
  obtain ⟨p0, q0, rfl⟩ := on.len
  clear gn dn on BG x y B2 X2 R2 F2 S2 
  have t := FA.out.thaw 2
  obtain ⟨-, -, x, -⟩ := FA.out.cells
  go_upto_region 5 with fail
  have KW : Hid (Kp (w.heap.size + 1 + 1) a0 (a0.setCell ⟨(w.heap.size + 1 + 1), 2, none⟩ (.slice p0 W.gs.length q0))) := Kp.set _ _ _
  have F3 : Hid (Fx (a0.setCell ⟨(w.heap.size + 1 + 1), 2, none⟩ (.slice p0 W.gs.length q0)) (w.heap.size + 1 + 1) (.int .i64 W.wide) (.int .i64 W.high) (.slice p0 W.gs.length q0) (.slice none 0 0)) := FA.out.set2 _
  clear t x FA
  generalize (a0.setCell ⟨(w.heap.size + 1 + 1), 2, none⟩ (.slice p0 W.gs.length q0)) = w3 at *
  have B3 : Hid (Below w.heap.size w w3) := KW.out.below BA.out BA.out.size (by omega)
  have X3 : Hid (Bw w3 w.heap.size W u1 u2 u3 u4 u5) := XA.out.kp KW.out (by omega)
  have R3 : Hid (Wx w3 (w.heap.size + 1) (.int .i64 0) (.int .i64 0) (.int .i64 0) (.int .i64 0) (.slice none 0 0) (.slice none 0 0) (.slice none 0 0) (.slice none 0 0) (.slice none 0 0)) := RA.out.kp KW.out (by omega)
  have S3 : Hid (w.heap.size + 3 ≤ w3.heap.size) := Nat.le_trans SA.out KW.out.size
  have P0_3 : Hid (Ow w3 (w.heap.size + 3) (.slice p0 W.gs.length q0) W.gs) := owns_kpn P0A.out KW.out (fun b hb => by have := (P0A.out.block b hb).1; omega)
  clear KW BA XA RA SA P0A
  obtain ⟨-, -, -, x⟩ := F3.out.cells
  have y := X3.out.c5
  go_wp2_with (at_builtin; refine app_row _ rfl _ _ rfl (w.heap.size + 3) _ [] rfl (Ow.nil _ _) _ W.os rfl ((H.out.below B3.out).slices.2.1) (by have := L.out.o; simp only [List.length_nil]; omega) S3.out ?_)
  intro v1 a1 on gn dn
  have BG : Hid (Below w3.heap.size w3 a1) := (Below.refl _ _).grown gn (Nat.le_refl _) (fun k hk => by cases hk)
  try rw [List.nil_append] at on
  have BA : Hid (Below w.heap.size w a1) := B3.out.trans (BG.out.mono B3.out.size)
  have XA : Hid (Bw a1 w.heap.size W u1 u2 u3 u4 u5) := X3.out.below BG.out X3.out.lt
  have RA : Hid (Wx a1 (w.heap.size + 1) (.int .i64 0) (.int .i64 0) (.int .i64 0) (.int .i64 0) (.slice none 0 0) (.slice none 0 0) (.slice none 0 0) (.slice none 0 0) (.slice none 0 0)) := R3.out.below BG.out R3.out.lt
  have FA : Hid (Fx a1 (w.heap.size + 1 + 1) (.int .i64 W.wide) (.int .i64 W.high) (.slice p0 W.gs.length q0) (.slice none 0 0)) := F3.out.below BG.out F3.out.lt
  have SA : Hid (w.heap.size + 3 ≤ a1.heap.size) := Nat.le_trans S3.out BG.out.size
  have P0A : Hid (Ow a1 (w.heap.size + 3) (.slice p0 W.gs.length q0) W.gs) := P0_3.out.below BG.out
  have D0_1 : Hid (Dif (.slice p0 W.gs.length q0) v1) := Dif.of (n := w3.heap.size) (fun b hb => (P0_3.out.block b hb).2) (fun b hb => by
    rcases dn with dn | dn
    · rw [hb] at dn; cases dn
    · rw [hb] at dn; injection dn with dn; omega)
  have P1A : Hid (Ow a1 (w.heap.size + 3) v1 W.os) := on
  obtain ⟨p1, q1, rfl⟩ := on.len
  clear gn dn on BG x y B3 X3 R3 F3 S3 P0_3
  have t := FA.out.thaw 3
  obtain ⟨-, -, -, x⟩ := FA.out.cells
  go_upto_region 6 with fail
  have KW : Hid (Kp (w.heap.size + 1 + 1) a1 (a1.setCell ⟨(w.heap.size + 1 + 1), 3, none⟩ (.slice p1 W.os.length q1))) := Kp.set _ _ _
  have F4 : Hid (Fx (a1.setCell ⟨(w.heap.size + 1 + 1), 3, none⟩ (.slice p1 W.os.length q1)) (w.heap.size + 1 + 1) (.int .i64 W.wide) (.int .i64 W.high) (.slice p0 W.gs.length q0) (.slice p1 W.os.length q1)) := FA.out.set3 _
  clear t x FA
  generalize (a1.setCell ⟨(w.heap.size + 1 + 1), 3, none⟩ (.slice p1 W.os.length q1)) = w4 at *
  have B4 : Hid (Below w.heap.size w w4) := KW.out.below BA.out BA.out.size (by omega)
  have X4 : Hid (Bw w4 w.heap.size W u1 u2 u3 u4 u5) := XA.out.kp KW.out (by omega)
  have R4 : Hid (Wx w4 (w.heap.size + 1) (.int .i64 0) (.int .i64 0) (.int .i64 0) (.int .i64 0) (.slice none 0 0) (.slice none 0 0) (.slice none 0 0) (.slice none 0 0) (.slice none 0 0)) := RA.out.kp KW.out (by omega)
  have S4 : Hid (w.heap.size + 3 ≤ w4.heap.size) := Nat.le_trans SA.out KW.out.size
  have P0_4 : Hid (Ow w4 (w.heap.size + 3) (.slice p0 W.gs.length q0) W.gs) := owns_kpn P0A.out KW.out (fun b hb => by have := (P0A.out.block b hb).1; omega)
  have P1_4 : Hid (Ow w4 (w.heap.size + 3) (.slice p1 W.os.length q1) W.os) := owns_kpn P1A.out KW.out (fun b hb => by have := (P1A.out.block b hb).1; omega)
  clear KW BA XA RA SA P0A P1A
  go_upto_region 7 with fail
  obtain ⟨z, hz⟩ : ∃ z, w4.heap.size = z := ⟨_, rfl⟩
  have SZ : Hid (w.heap.size + 3 ≤ z) := by rw [← hz]; exact S4.out
  have BN : Hid (Below w4.heap.size w4 (w4.alloc (.cells #[.int .i64 0, .int .i64 0, .int .i64 0, .int .i64 0, .slice none 0 0, .slice none 0 0, .slice none 0 0, .slice none 0 0, .slice none 0 0] 29))) := (Below.refl _ _).alloc (Nat.le_refl _) _
  have Y5 : Hid (Wx (w4.alloc (.cells #[.int .i64 0, .int .i64 0, .int .i64 0, .int .i64 0, .slice none 0 0, .slice none 0 0, .slice none 0 0, .slice none 0 0, .slice none 0 0] 29)) z (.int .i64 0) (.int .i64 0) (.int .i64 0) (.int .i64 0) (.slice none 0 0) (.slice none 0 0) (.slice none 0 0) (.slice none 0 0) (.slice none 0 0)) := Wx.new _ _ _ _ _ _ _ _ _ hz
  have Q0 : Hid (∀ b, ((.slice p0 W.gs.length q0) : Value).ownBlock = some b → b ≠ z) := fun b hb => by have := (P0_4.out.block b hb).2; omega
  have Q1 : Hid (∀ b, ((.slice p1 W.os.length q1) : Value).ownBlock = some b → b ≠ z) := fun b hb => by have := (P1_4.out.block b hb).2; omega
  rw [hz]
  generalize (w4.alloc (.cells #[.int .i64 0, .int .i64 0, .int .i64 0, .int .i64 0, .slice none 0 0, .slice none 0 0, .slice none 0 0, .slice none 0 0, .slice none 0 0] 29)) = w5 at *
  have B5 : Hid (Below w.heap.size w w5) := B4.out.trans (BN.out.mono B4.out.size)
  have X5 : Hid (Bw w5 w.heap.size W u1 u2 u3 u4 u5) := X4.out.below BN.out X4.out.lt
  have R5 : Hid (Wx w5 (w.heap.size + 1) (.int .i64 0) (.int .i64 0) (.int .i64 0) (.int .i64 0) (.slice none 0 0) (.slice none 0 0) (.slice none 0 0) (.slice none 0 0) (.slice none 0 0)) := R4.out.below BN.out R4.out.lt
  have F5 : Hid (Fx w5 (w.heap.size + 1 + 1) (.int .i64 W.wide) (.int .i64 W.high) (.slice p0 W.gs.length q0) (.slice p1 W.os.length q1)) := F4.out.below BN.out F4.out.lt
  have S5 : Hid (w.heap.size + 3 ≤ w5.heap.size) := Nat.le_trans S4.out BN.out.size
  have P0_5 : Hid (Ow w5 (w.heap.size + 3) (.slice p0 W.gs.length q0) W.gs) := P0_4.out.below BN.out
  have P1_5 : Hid (Ow w5 (w.heap.size + 3) (.slice p1 W.os.length q1) W.os) := P1_4.out.below BN.out
  clear hz BN B4 X4 R4 F4 S4 P0_4 P1_4
  have t := Y5.out.thaw 0
  obtain ⟨x, -, -, -, -, -, -, -, -⟩ := Y5.out.cells
  have y := X5.out.c0
  go_upto_region 8 with fail
  have KW : Hid (Kp z w5 (w5.setCell ⟨z, 0, none⟩ (.int .i64 W.turn))) := Kp.set _ _ _
  have Y6 : Hid (Wx (w5.setCell ⟨z, 0, none⟩ (.int .i64 W.turn)) z (.int .i64 W.turn) (.int .i64 0) (.int .i64 0) (.int .i64 0) (.slice none 0 0) (.slice none 0 0) (.slice none 0 0) (.slice none 0 0) (.slice none 0 0)) := Y5.out.set0 _
  clear t x y Y5
  generalize (w5.setCell ⟨z, 0, none⟩ (.int .i64 W.turn)) = w6 at *
  have B6 : Hid (Below w.heap.size w w6) := KW.out.below B5.out B5.out.size (by have := SZ.out; omega)
  have X6 : Hid (Bw w6 w.heap.size W u1 u2 u3 u4 u5) := X5.out.kp KW.out (by have := SZ.out; omega)
  have R6 : Hid (Wx w6 (w.heap.size + 1) (.int .i64 0) (.int .i64 0) (.int .i64 0) (.int .i64 0) (.slice none 0 0) (.slice none 0 0) (.slice none 0 0) (.slice none 0 0) (.slice none 0 0)) := R5.out.kp KW.out (by have := SZ.out; omega)
  have S6 : Hid (w.heap.size + 3 ≤ w6.heap.size) := Nat.le_trans S5.out KW.out.size
  have F6 : Hid (Fx w6 (w.heap.size + 1 + 1) (.int .i64 W.wide) (.int .i64 W.high) (.slice p0 W.gs.length q0) (.slice p1 W.os.length q1)) := F5.out.kp KW.out (by have := SZ.out; omega)
  have P0_6 : Hid (Ow w6 (w.heap.size + 3) (.slice p0 W.gs.length q0) W.gs) := owns_kpn P0_5.out KW.out (fun b hb => by have := (P0_5.out.block b hb).1; have := Q0.out b hb; have := SZ.out; omega)
  have P1_6 : Hid (Ow w6 (w.heap.size + 3) (.slice p1 W.os.length q1) W.os) := owns_kpn P1_5.out KW.out (fun b hb => by have := (P1_5.out.block b hb).1; have := Q1.out b hb; have := SZ.out; omega)
  clear KW B5 X5 R5 S5 F5 P0_5 P1_5
  have t := Y6.out.thaw 1
  obtain ⟨-, x, -, -, -, -, -, -, -⟩ := Y6.out.cells
  have y := X6.out.c1
  go_upto_region 9 with fail
  have KW : Hid (Kp z w6 (w6.setCell ⟨z, 1, none⟩ (.int .i64 W.next))) := Kp.set _ _ _
  have Y7 : Hid (Wx (w6.setCell ⟨z, 1, none⟩ (.int .i64 W.next)) z (.int .i64 W.turn) (.int .i64 W.next) (.int .i64 0) (.int .i64 0) (.slice none 0 0) (.slice none 0 0) (.slice none 0 0) (.slice none 0 0) (.slice none 0 0)) := Y6.out.set1 _
  clear t x y Y6
  generalize (w6.setCell ⟨z, 1, none⟩ (.int .i64 W.next)) = w7 at *
  have B7 : Hid (Below w.heap.size w w7) := KW.out.below B6.out B6.out.size (by have := SZ.out; omega)
  have X7 : Hid (Bw w7 w.heap.size W u1 u2 u3 u4 u5) := X6.out.kp KW.out (by have := SZ.out; omega)
  have R7 : Hid (Wx w7 (w.heap.size + 1) (.int .i64 0) (.int .i64 0) (.int .i64 0) (.int .i64 0) (.slice none 0 0) (.slice none 0 0) (.slice none 0 0) (.slice none 0 0) (.slice none 0 0)) := R6.out.kp KW.out (by have := SZ.out; omega)
  have S7 : Hid (w.heap.size + 3 ≤ w7.heap.size) := Nat.le_trans S6.out KW.out.size
  have F7 : Hid (Fx w7 (w.heap.size + 1 + 1) (.int .i64 W.wide) (.int .i64 W.high) (.slice p0 W.gs.length q0) (.slice p1 W.os.length q1)) := F6.out.kp KW.out (by have := SZ.out; omega)
  have P0_7 : Hid (Ow w7 (w.heap.size + 3) (.slice p0 W.gs.length q0) W.gs) := owns_kpn P0_6.out KW.out (fun b hb => by have := (P0_6.out.block b hb).1; have := Q0.out b hb; have := SZ.out; omega)
  have P1_7 : Hid (Ow w7 (w.heap.size + 3) (.slice p1 W.os.length q1) W.os) := owns_kpn P1_6.out KW.out (fun b hb => by have := (P1_6.out.block b hb).1; have := Q1.out b hb; have := SZ.out; omega)
  clear KW B6 X6 R6 S6 F6 P0_6 P1_6
  obtain ⟨f0, f1, f2, f3⟩ := F7.out.cells
  obtain ⟨-, -, x2, x3, x4, x5, -, -, -⟩ := Y7.out.cells
  have t2 := Y7.out.thaw 2
  have t3 := Y7.out.thaw 3
  have t4 := Y7.out.thaw 4
  have t5 := Y7.out.thaw 5
  go_upto_region 10 with fail
  have KW : Hid (Kp z w7 ((((w7.setCell ⟨z, 2, none⟩ (.int .i64 W.wide)).setCell ⟨z, 3, none⟩ (.int .i64 W.high)).setCell ⟨z, 4, none⟩ (.slice p0 W.gs.length q0)).setCell ⟨z, 5, none⟩ (.slice p1 W.os.length q1))) := (((Kp.set w7 2 (.int .i64 W.wide)).trans (Kp.set _ 3 (.int .i64 W.high))).trans (Kp.set _ 4 (.slice p0 W.gs.length q0))).trans (Kp.set _ 5 (.slice p1 W.os.length q1))
  have Y8 : Hid (Wx ((((w7.setCell ⟨z, 2, none⟩ (.int .i64 W.wide)).setCell ⟨z, 3, none⟩ (.int .i64 W.high)).setCell ⟨z, 4, none⟩ (.slice p0 W.gs.length q0)).setCell ⟨z, 5, none⟩ (.slice p1 W.os.length q1)) z (.int .i64 W.turn) (.int .i64 W.next) (.int .i64 W.wide) (.int .i64 W.high) (.slice p0 W.gs.length q0) (.slice p1 W.os.length q1) (.slice none 0 0) (.slice none 0 0) (.slice none 0 0)) := (((Y7.out.set2 (.int .i64 W.wide)).set3 (.int .i64 W.high)).set4 (.slice p0 W.gs.length q0)).set5 (.slice p1 W.os.length q1)
  clear f0 f1 f2 f3 x2 x3 x4 x5 t2 t3 t4 t5 Y7
  generalize ((((w7.setCell ⟨z, 2, none⟩ (.int .i64 W.wide)).setCell ⟨z, 3, none⟩ (.int .i64 W.high)).setCell ⟨z, 4, none⟩ (.slice p0 W.gs.length q0)).setCell ⟨z, 5, none⟩ (.slice p1 W.os.length q1)) = w8 at *
  have B8 : Hid (Below w.heap.size w w8) := KW.out.below B7.out B7.out.size (by have := SZ.out; omega)
  have X8 : Hid (Bw w8 w.heap.size W u1 u2 u3 u4 u5) := X7.out.kp KW.out (by have := SZ.out; omega)
  have R8 : Hid (Wx w8 (w.heap.size + 1) (.int .i64 0) (.int .i64 0) (.int .i64 0) (.int .i64 0) (.slice none 0 0) (.slice none 0 0) (.slice none 0 0) (.slice none 0 0) (.slice none 0 0)) := R7.out.kp KW.out (by have := SZ.out; omega)
  have S8 : Hid (w.heap.size + 3 ≤ w8.heap.size) := Nat.le_trans S7.out KW.out.size
  have F8 : Hid (Fx w8 (w.heap.size + 1 + 1) (.int .i64 W.wide) (.int .i64 W.high) (.slice p0 W.gs.length q0) (.slice p1 W.os.length q1)) := F7.out.kp KW.out (by have := SZ.out; omega)
  have P0_8 : Hid (Ow w8 (w.heap.size + 3) (.slice p0 W.gs.length q0) W.gs) := owns_kpn P0_7.out KW.out (fun b hb => by have := (P0_7.out.block b hb).1; have := Q0.out b hb; have := SZ.out; omega)
  have P1_8 : Hid (Ow w8 (w.heap.size + 3) (.slice p1 W.os.length q1) W.os) := owns_kpn P1_7.out KW.out (fun b hb => by have := (P1_7.out.block b hb).1; have := Q1.out b hb; have := SZ.out; omega)
  clear KW B7 X7 R7 S7 F7 P0_7 P1_7
  obtain ⟨-, -, -, -, -, -, x, -, -⟩ := Y8.out.cells
  have y := X8.out.c6
  go_wp2_with (at_builtin; refine app_row _ rfl _ _ rfl (w.heap.size + 3) _ [] rfl (Ow.nil _ _) _ W.gold rfl ((H.out.below B8.out).slices.2.2.1) (by have := L.out.p; simp only [List.length_nil]; omega) S8.out ?_)
  intro v2 a2 on gn dn
  have BG : Hid (Below w8.heap.size w8 a2) := (Below.refl _ _).grown gn (Nat.le_refl _) (fun k hk => by cases hk)
  try rw [List.nil_append] at on
  have BA : Hid (Below w.heap.size w a2) := B8.out.trans (BG.out.mono B8.out.size)
  have XA : Hid (Bw a2 w.heap.size W u1 u2 u3 u4 u5) := X8.out.below BG.out X8.out.lt
  have RA : Hid (Wx a2 (w.heap.size + 1) (.int .i64 0) (.int .i64 0) (.int .i64 0) (.int .i64 0) (.slice none 0 0) (.slice none 0 0) (.slice none 0 0) (.slice none 0 0) (.slice none 0 0)) := R8.out.below BG.out R8.out.lt
  have FA : Hid (Fx a2 (w.heap.size + 1 + 1) (.int .i64 W.wide) (.int .i64 W.high) (.slice p0 W.gs.length q0) (.slice p1 W.os.length q1)) := F8.out.below BG.out F8.out.lt
  have SA : Hid (w.heap.size + 3 ≤ a2.heap.size) := Nat.le_trans S8.out BG.out.size
  have YA : Hid (Wx a2 z (.int .i64 W.turn) (.int .i64 W.next) (.int .i64 W.wide) (.int .i64 W.high) (.slice p0 W.gs.length q0) (.slice p1 W.os.length q1) (.slice none 0 0) (.slice none 0 0) (.slice none 0 0)) := Y8.out.below BG.out Y8.out.lt
  have QN : Hid (∀ b, v2.ownBlock = some b → z < b) := fun b hb => by
    have h1 := Y8.out.lt
    rcases dn with dn | dn
    · rw [hb] at dn; cases dn
    · rw [hb] at dn; injection dn with dn; omega
  have P0A : Hid (Ow a2 (w.heap.size + 3) (.slice p0 W.gs.length q0) W.gs) := P0_8.out.below BG.out
  have D0_2 : Hid (Dif (.slice p0 W.gs.length q0) v2) := Dif.of (n := w8.heap.size) (fun b hb => (P0_8.out.block b hb).2) (fun b hb => by
    rcases dn with dn | dn
    · rw [hb] at dn; cases dn
    · rw [hb] at dn; injection dn with dn; omega)
  have P1A : Hid (Ow a2 (w.heap.size + 3) (.slice p1 W.os.length q1) W.os) := P1_8.out.below BG.out
  have D1_2 : Hid (Dif (.slice p1 W.os.length q1) v2) := Dif.of (n := w8.heap.size) (fun b hb => (P1_8.out.block b hb).2) (fun b hb => by
    rcases dn with dn | dn
    · rw [hb] at dn; cases dn
    · rw [hb] at dn; injection dn with dn; omega)
  have P2A : Hid (Ow a2 (w.heap.size + 3) v2 W.gold) := on
  obtain ⟨p2, q2, rfl⟩ := on.len
  clear gn dn on BG x y B8 X8 R8 F8 S8 Y8 P0_8 P1_8
  have t := YA.out.thaw 6
  obtain ⟨-, -, -, -, -, -, x, -, -⟩ := YA.out.cells
  go_upto_region 11 with fail
  have Q2 : Hid (∀ b, ((.slice p2 W.gold.length q2) : Value).ownBlock = some b → b ≠ z) := fun b hb => by have := QN.out b hb; omega
  clear QN
  have KW : Hid (Kp z a2 (a2.setCell ⟨z, 6, none⟩ (.slice p2 W.gold.length q2))) := Kp.set _ _ _
  have Y9 : Hid (Wx (a2.setCell ⟨z, 6, none⟩ (.slice p2 W.gold.length q2)) z (.int .i64 W.turn) (.int .i64 W.next) (.int .i64 W.wide) (.int .i64 W.high) (.slice p0 W.gs.length q0) (.slice p1 W.os.length q1) (.slice p2 W.gold.length q2) (.slice none 0 0) (.slice none 0 0)) := YA.out.set6 _
  clear t x YA
  generalize (a2.setCell ⟨z, 6, none⟩ (.slice p2 W.gold.length q2)) = w9 at *
  have B9 : Hid (Below w.heap.size w w9) := KW.out.below BA.out BA.out.size (by have := SZ.out; omega)
  have X9 : Hid (Bw w9 w.heap.size W u1 u2 u3 u4 u5) := XA.out.kp KW.out (by have := SZ.out; omega)
  have R9 : Hid (Wx w9 (w.heap.size + 1) (.int .i64 0) (.int .i64 0) (.int .i64 0) (.int .i64 0) (.slice none 0 0) (.slice none 0 0) (.slice none 0 0) (.slice none 0 0) (.slice none 0 0)) := RA.out.kp KW.out (by have := SZ.out; omega)
  have S9 : Hid (w.heap.size + 3 ≤ w9.heap.size) := Nat.le_trans SA.out KW.out.size
  have F9 : Hid (Fx w9 (w.heap.size + 1 + 1) (.int .i64 W.wide) (.int .i64 W.high) (.slice p0 W.gs.length q0) (.slice p1 W.os.length q1)) := FA.out.kp KW.out (by have := SZ.out; omega)
  have P0_9 : Hid (Ow w9 (w.heap.size + 3) (.slice p0 W.gs.length q0) W.gs) := owns_kpn P0A.out KW.out (fun b hb => by have := (P0A.out.block b hb).1; have := Q0.out b hb; have := SZ.out; omega)
  have P1_9 : Hid (Ow w9 (w.heap.size + 3) (.slice p1 W.os.length q1) W.os) := owns_kpn P1A.out KW.out (fun b hb => by have := (P1A.out.block b hb).1; have := Q1.out b hb; have := SZ.out; omega)
  have P2_9 : Hid (Ow w9 (w.heap.size + 3) (.slice p2 W.gold.length q2) W.gold) := owns_kpn P2A.out KW.out (fun b hb => by have := (P2A.out.block b hb).1; have := Q2.out b hb; have := SZ.out; omega)
  clear KW BA XA RA SA FA P0A P1A P2A
  obtain ⟨-, -, -, -, -, -, -, x, -⟩ := Y9.out.cells
  have y := X9.out.c7
  go_wp2_with (at_builtin; refine app_uns _ rfl _ _ rfl (w.heap.size + 3) _ [] rfl (Uno.nil _ _) _ W.us rfl ((H.out.below B9.out).slices.2.2.2.1) (by have := L.out.u; simp only [List.length_nil]; omega) S9.out ?_)
  intro v3 a3 on gn dn
  have BG : Hid (Below w9.heap.size w9 a3) := (Below.refl _ _).grown gn (Nat.le_refl _) (fun k hk => by cases hk)
  try rw [List.nil_append] at on
  have BA : Hid (Below w.heap.size w a3) := B9.out.trans (BG.out.mono B9.out.size)
  have XA : Hid (Bw a3 w.heap.size W u1 u2 u3 u4 u5) := X9.out.below BG.out X9.out.lt
  have RA : Hid (Wx a3 (w.heap.size + 1) (.int .i64 0) (.int .i64 0) (.int .i64 0) (.int .i64 0) (.slice none 0 0) (.slice none 0 0) (.slice none 0 0) (.slice none 0 0) (.slice none 0 0)) := R9.out.below BG.out R9.out.lt
  have FA : Hid (Fx a3 (w.heap.size + 1 + 1) (.int .i64 W.wide) (.int .i64 W.high) (.slice p0 W.gs.length q0) (.slice p1 W.os.length q1)) := F9.out.below BG.out F9.out.lt
  have SA : Hid (w.heap.size + 3 ≤ a3.heap.size) := Nat.le_trans S9.out BG.out.size
  have YA : Hid (Wx a3 z (.int .i64 W.turn) (.int .i64 W.next) (.int .i64 W.wide) (.int .i64 W.high) (.slice p0 W.gs.length q0) (.slice p1 W.os.length q1) (.slice p2 W.gold.length q2) (.slice none 0 0) (.slice none 0 0)) := Y9.out.below BG.out Y9.out.lt
  have QN : Hid (∀ b, v3.ownBlock = some b → z < b) := fun b hb => by
    have h1 := Y9.out.lt
    rcases dn with dn | dn
    · rw [hb] at dn; cases dn
    · rw [hb] at dn; injection dn with dn; omega
  have P0A : Hid (Ow a3 (w.heap.size + 3) (.slice p0 W.gs.length q0) W.gs) := P0_9.out.below BG.out
  have D0_3 : Hid (Dif (.slice p0 W.gs.length q0) v3) := Dif.of (n := w9.heap.size) (fun b hb => (P0_9.out.block b hb).2) (fun b hb => by
    rcases dn with dn | dn
    · rw [hb] at dn; cases dn
    · rw [hb] at dn; injection dn with dn; omega)
  have P1A : Hid (Ow a3 (w.heap.size + 3) (.slice p1 W.os.length q1) W.os) := P1_9.out.below BG.out
  have D1_3 : Hid (Dif (.slice p1 W.os.length q1) v3) := Dif.of (n := w9.heap.size) (fun b hb => (P1_9.out.block b hb).2) (fun b hb => by
    rcases dn with dn | dn
    · rw [hb] at dn; cases dn
    · rw [hb] at dn; injection dn with dn; omega)
  have P2A : Hid (Ow a3 (w.heap.size + 3) (.slice p2 W.gold.length q2) W.gold) := P2_9.out.below BG.out
  have D2_3 : Hid (Dif (.slice p2 W.gold.length q2) v3) := Dif.of (n := w9.heap.size) (fun b hb => (P2_9.out.block b hb).2) (fun b hb => by
    rcases dn with dn | dn
    · rw [hb] at dn; cases dn
    · rw [hb] at dn; injection dn with dn; omega)
  have P3A : Hid (Uno a3 (w.heap.size + 3) v3 W.us) := on
  obtain ⟨p3, q3, rfl⟩ := on.len
  clear gn dn on BG x y B9 X9 R9 F9 S9 Y9 P0_9 P1_9 P2_9
  have t := YA.out.thaw 7
  obtain ⟨-, -, -, -, -, -, -, x, -⟩ := YA.out.cells
  go_upto_region 12 with fail
  have Q3 : Hid (∀ b, ((.slice p3 W.us.length q3) : Value).ownBlock = some b → b ≠ z) := fun b hb => by have := QN.out b hb; omega
  clear QN
  have KW : Hid (Kp z a3 (a3.setCell ⟨z, 7, none⟩ (.slice p3 W.us.length q3))) := Kp.set _ _ _
  have Y10 : Hid (Wx (a3.setCell ⟨z, 7, none⟩ (.slice p3 W.us.length q3)) z (.int .i64 W.turn) (.int .i64 W.next) (.int .i64 W.wide) (.int .i64 W.high) (.slice p0 W.gs.length q0) (.slice p1 W.os.length q1) (.slice p2 W.gold.length q2) (.slice p3 W.us.length q3) (.slice none 0 0)) := YA.out.set7 _
  clear t x YA
  generalize (a3.setCell ⟨z, 7, none⟩ (.slice p3 W.us.length q3)) = w10 at *
  have B10 : Hid (Below w.heap.size w w10) := KW.out.below BA.out BA.out.size (by have := SZ.out; omega)
  have X10 : Hid (Bw w10 w.heap.size W u1 u2 u3 u4 u5) := XA.out.kp KW.out (by have := SZ.out; omega)
  have R10 : Hid (Wx w10 (w.heap.size + 1) (.int .i64 0) (.int .i64 0) (.int .i64 0) (.int .i64 0) (.slice none 0 0) (.slice none 0 0) (.slice none 0 0) (.slice none 0 0) (.slice none 0 0)) := RA.out.kp KW.out (by have := SZ.out; omega)
  have S10 : Hid (w.heap.size + 3 ≤ w10.heap.size) := Nat.le_trans SA.out KW.out.size
  have F10 : Hid (Fx w10 (w.heap.size + 1 + 1) (.int .i64 W.wide) (.int .i64 W.high) (.slice p0 W.gs.length q0) (.slice p1 W.os.length q1)) := FA.out.kp KW.out (by have := SZ.out; omega)
  have P0_10 : Hid (Ow w10 (w.heap.size + 3) (.slice p0 W.gs.length q0) W.gs) := owns_kpn P0A.out KW.out (fun b hb => by have := (P0A.out.block b hb).1; have := Q0.out b hb; have := SZ.out; omega)
  have P1_10 : Hid (Ow w10 (w.heap.size + 3) (.slice p1 W.os.length q1) W.os) := owns_kpn P1A.out KW.out (fun b hb => by have := (P1A.out.block b hb).1; have := Q1.out b hb; have := SZ.out; omega)
  have P2_10 : Hid (Ow w10 (w.heap.size + 3) (.slice p2 W.gold.length q2) W.gold) := owns_kpn P2A.out KW.out (fun b hb => by have := (P2A.out.block b hb).1; have := Q2.out b hb; have := SZ.out; omega)
  have P3_10 : Hid (Uno w10 (w.heap.size + 3) (.slice p3 W.us.length q3) W.us) := owns_kpn P3A.out KW.out (fun b hb => by have := (P3A.out.block b hb).1; have := Q3.out b hb; have := SZ.out; omega)
  clear KW BA XA RA SA FA P0A P1A P2A P3A
  obtain ⟨-, -, -, -, -, -, -, -, x⟩ := Y10.out.cells
  have y := X10.out.c8
  go_wp2_with (at_builtin; refine app_jbs _ rfl _ _ rfl (w.heap.size + 3) _ [] rfl (Jbo.nil _ _) _ W.qs rfl ((H.out.below B10.out).slices.2.2.2.2) (by have := L.out.q; simp only [List.length_nil]; omega) S10.out ?_)
  intro v4 a4 on gn dn
  have BG : Hid (Below w10.heap.size w10 a4) := (Below.refl _ _).grown gn (Nat.le_refl _) (fun k hk => by cases hk)
  try rw [List.nil_append] at on
  have BA : Hid (Below w.heap.size w a4) := B10.out.trans (BG.out.mono B10.out.size)
  have XA : Hid (Bw a4 w.heap.size W u1 u2 u3 u4 u5) := X10.out.below BG.out X10.out.lt
  have RA : Hid (Wx a4 (w.heap.size + 1) (.int .i64 0) (.int .i64 0) (.int .i64 0) (.int .i64 0) (.slice none 0 0) (.slice none 0 0) (.slice none 0 0) (.slice none 0 0) (.slice none 0 0)) := R10.out.below BG.out R10.out.lt
  have FA : Hid (Fx a4 (w.heap.size + 1 + 1) (.int .i64 W.wide) (.int .i64 W.high) (.slice p0 W.gs.length q0) (.slice p1 W.os.length q1)) := F10.out.below BG.out F10.out.lt
  have SA : Hid (w.heap.size + 3 ≤ a4.heap.size) := Nat.le_trans S10.out BG.out.size
  have YA : Hid (Wx a4 z (.int .i64 W.turn) (.int .i64 W.next) (.int .i64 W.wide) (.int .i64 W.high) (.slice p0 W.gs.length q0) (.slice p1 W.os.length q1) (.slice p2 W.gold.length q2) (.slice p3 W.us.length q3) (.slice none 0 0)) := Y10.out.below BG.out Y10.out.lt
  have QN : Hid (∀ b, v4.ownBlock = some b → z < b) := fun b hb => by
    have h1 := Y10.out.lt
    rcases dn with dn | dn
    · rw [hb] at dn; cases dn
    · rw [hb] at dn; injection dn with dn; omega
  have P0A : Hid (Ow a4 (w.heap.size + 3) (.slice p0 W.gs.length q0) W.gs) := P0_10.out.below BG.out
  have D0_4 : Hid (Dif (.slice p0 W.gs.length q0) v4) := Dif.of (n := w10.heap.size) (fun b hb => (P0_10.out.block b hb).2) (fun b hb => by
    rcases dn with dn | dn
    · rw [hb] at dn; cases dn
    · rw [hb] at dn; injection dn with dn; omega)
  have P1A : Hid (Ow a4 (w.heap.size + 3) (.slice p1 W.os.length q1) W.os) := P1_10.out.below BG.out
  have D1_4 : Hid (Dif (.slice p1 W.os.length q1) v4) := Dif.of (n := w10.heap.size) (fun b hb => (P1_10.out.block b hb).2) (fun b hb => by
    rcases dn with dn | dn
    · rw [hb] at dn; cases dn
    · rw [hb] at dn; injection dn with dn; omega)
  have P2A : Hid (Ow a4 (w.heap.size + 3) (.slice p2 W.gold.length q2) W.gold) := P2_10.out.below BG.out
  have D2_4 : Hid (Dif (.slice p2 W.gold.length q2) v4) := Dif.of (n := w10.heap.size) (fun b hb => (P2_10.out.block b hb).2) (fun b hb => by
    rcases dn with dn | dn
    · rw [hb] at dn; cases dn
    · rw [hb] at dn; injection dn with dn; omega)
  have P3A : Hid (Uno a4 (w.heap.size + 3) (.slice p3 W.us.length q3) W.us) := P3_10.out.below BG.out
  have D3_4 : Hid (Dif (.slice p3 W.us.length q3) v4) := Dif.of (n := w10.heap.size) (fun b hb => (P3_10.out.block b hb).2) (fun b hb => by
    rcases dn with dn | dn
    · rw [hb] at dn; cases dn
    · rw [hb] at dn; injection dn with dn; omega)
  have P4A : Hid (Jbo a4 (w.heap.size + 3) v4 W.qs) := on
  obtain ⟨p4, q4, rfl⟩ := on.len
  clear gn dn on BG x y B10 X10 R10 F10 S10 Y10 P0_10 P1_10 P2_10 P3_10
  have t := YA.out.thaw 8
  obtain ⟨-, -, -, -, -, -, -, -, x⟩ := YA.out.cells
  go_upto_region 13 with fail
  have Q4 : Hid (∀ b, ((.slice p4 W.qs.length q4) : Value).ownBlock = some b → b ≠ z) := fun b hb => by have := QN.out b hb; omega
  clear QN
  have KW : Hid (Kp z a4 (a4.setCell ⟨z, 8, none⟩ (.slice p4 W.qs.length q4))) := Kp.set _ _ _
  have Y11 : Hid (Wx (a4.setCell ⟨z, 8, none⟩ (.slice p4 W.qs.length q4)) z (.int .i64 W.turn) (.int .i64 W.next) (.int .i64 W.wide) (.int .i64 W.high) (.slice p0 W.gs.length q0) (.slice p1 W.os.length q1) (.slice p2 W.gold.length q2) (.slice p3 W.us.length q3) (.slice p4 W.qs.length q4)) := YA.out.set8 _
  clear t x YA
  generalize (a4.setCell ⟨z, 8, none⟩ (.slice p4 W.qs.length q4)) = w11 at *
  have B11 : Hid (Below w.heap.size w w11) := KW.out.below BA.out BA.out.size (by have := SZ.out; omega)
  have X11 : Hid (Bw w11 w.heap.size W u1 u2 u3 u4 u5) := XA.out.kp KW.out (by have := SZ.out; omega)
  have R11 : Hid (Wx w11 (w.heap.size + 1) (.int .i64 0) (.int .i64 0) (.int .i64 0) (.int .i64 0) (.slice none 0 0) (.slice none 0 0) (.slice none 0 0) (.slice none 0 0) (.slice none 0 0)) := RA.out.kp KW.out (by have := SZ.out; omega)
  have S11 : Hid (w.heap.size + 3 ≤ w11.heap.size) := Nat.le_trans SA.out KW.out.size
  have F11 : Hid (Fx w11 (w.heap.size + 1 + 1) (.int .i64 W.wide) (.int .i64 W.high) (.slice p0 W.gs.length q0) (.slice p1 W.os.length q1)) := FA.out.kp KW.out (by have := SZ.out; omega)
  have P0_11 : Hid (Ow w11 (w.heap.size + 3) (.slice p0 W.gs.length q0) W.gs) := owns_kpn P0A.out KW.out (fun b hb => by have := (P0A.out.block b hb).1; have := Q0.out b hb; have := SZ.out; omega)
  have P1_11 : Hid (Ow w11 (w.heap.size + 3) (.slice p1 W.os.length q1) W.os) := owns_kpn P1A.out KW.out (fun b hb => by have := (P1A.out.block b hb).1; have := Q1.out b hb; have := SZ.out; omega)
  have P2_11 : Hid (Ow w11 (w.heap.size + 3) (.slice p2 W.gold.length q2) W.gold) := owns_kpn P2A.out KW.out (fun b hb => by have := (P2A.out.block b hb).1; have := Q2.out b hb; have := SZ.out; omega)
  have P3_11 : Hid (Uno w11 (w.heap.size + 3) (.slice p3 W.us.length q3) W.us) := owns_kpn P3A.out KW.out (fun b hb => by have := (P3A.out.block b hb).1; have := Q3.out b hb; have := SZ.out; omega)
  have P4_11 : Hid (Jbo w11 (w.heap.size + 3) (.slice p4 W.qs.length q4) W.qs) := owns_kpn P4A.out KW.out (fun b hb => by have := (P4A.out.block b hb).1; have := Q4.out b hb; have := SZ.out; omega)
  clear KW BA XA RA SA FA P0A P1A P2A P3A P4A
  obtain ⟨x0, x1, x2, x3, x4, x5, x6, x7, x8⟩ := Y11.out.cells
  obtain ⟨z0, z1, z2, z3, z4, z5, z6, z7, z8⟩ := R11.out.cells
  obtain ⟨t0, t1, t2, t3, t4, t5, t6, t7, t8⟩ := R11.out.thaws
  have KZ : Hid (Kp (w.heap.size + 1) w11 (((((((((w11.setCell ⟨w.heap.size + 1, 0, none⟩ (.int .i64 W.turn)).setCell ⟨w.heap.size + 1, 1, none⟩ (.int .i64 W.next)).setCell ⟨w.heap.size + 1, 2, none⟩ (.int .i64 W.wide)).setCell ⟨w.heap.size + 1, 3, none⟩ (.int .i64 W.high)).setCell ⟨w.heap.size + 1, 4, none⟩ (.slice p0 W.gs.length q0)).setCell ⟨w.heap.size + 1, 5, none⟩ (.slice p1 W.os.length q1)).setCell ⟨w.heap.size + 1, 6, none⟩ (.slice p2 W.gold.length q2)).setCell ⟨w.heap.size + 1, 7, none⟩ (.slice p3 W.us.length q3)).setCell ⟨w.heap.size + 1, 8, none⟩ (.slice p4 W.qs.length q4))) := put_kp _ _ _ _ _ _ _ _ _ _ _
  obtain ⟨y0, y1, y2, y3, y4, y5, y6, y7, y8⟩ := (R11.out.put (.int .i64 W.turn) (.int .i64 W.next) (.int .i64 W.wide) (.int .i64 W.high) (.slice p0 W.gs.length q0) (.slice p1 W.os.length q1) (.slice p2 W.gold.length q2) (.slice p3 W.us.length q3) (.slice p4 W.qs.length q4)).cells
  go_wp2
  clear x0 x1 x2 x3 x4 x5 x6 x7 x8 z0 z1 z2 z3 z4 z5 z6 z7 z8 t0 t1 t2 t3 t4 t5 t6 t7 t8
  have s0 := S11.out
  generalize (((((((((w11.setCell ⟨w.heap.size + 1, 0, none⟩ (.int .i64 W.turn)).setCell ⟨w.heap.size + 1, 1, none⟩ (.int .i64 W.next)).setCell ⟨w.heap.size + 1, 2, none⟩ (.int .i64 W.wide)).setCell ⟨w.heap.size + 1, 3, none⟩ (.int .i64 W.high)).setCell ⟨w.heap.size + 1, 4, none⟩ (.slice p0 W.gs.length q0)).setCell ⟨w.heap.size + 1, 5, none⟩ (.slice p1 W.os.length q1)).setCell ⟨w.heap.size + 1, 6, none⟩ (.slice p2 W.gold.length q2)).setCell ⟨w.heap.size + 1, 7, none⟩ (.slice p3 W.us.length q3)).setCell ⟨w.heap.size + 1, 8, none⟩ (.slice p4 W.qs.length q4)) = wz at *
  refine bodyPost_ret (v := .agg #[.int .i64 W.turn, .int .i64 W.next, .int .i64 W.wide, .int .i64 W.high, .slice p0 W.gs.length q0, .slice p1 W.os.length q1, .slice p2 W.gold.length q2, .slice p3 W.us.length q3, .slice p4 W.qs.length q4]) (by simp [results, Tryz.results30, go_sem, y0, y1, y2, y3, y4, y5, y6, y7, y8]) rfl ⟨_, rfl, ⟨_, _, _, _, _, rfl, ⟨Ow.mono (owns_kp P0_11.out KZ.out (by omega)) (by omega), Ow.mono (owns_kp P1_11.out KZ.out (by omega)) (by omega), Ow.mono (owns_kp P2_11.out KZ.out (by omega)) (by omega), Uno.mono (owns_kp P3_11.out KZ.out (by omega)) (by omega), Jbo.mono (owns_kp P4_11.out KZ.out (by omega)) (by omega)⟩, D0_1.out, D0_2.out, D0_3.out, D0_4.out, D1_2.out, D1_3.out, D1_4.out, D2_3.out, D2_4.out, D3_4.out⟩, KZ.out.below B11.out B11.out.size (by omega)⟩
end Go.Proofs.YtagnjmellcibhaaGreatDoor

namespace Go.Proofs.YtagnjmellcibhaaGreatDoor
open Go.RowKit
set_option linter.unusedVariables false

set_option maxRecDepth 100000 in
set_option maxHeartbeats 2000000 in
theorem rfind_any (v : Value) (W : WV) (id : Int) (w : World) (h : Wl w v W) :
    Calls Tryz.prog 29 #[v, .int .i64 id] w fun e w' => ∃ r : Int, e = .returned (.int .i64 r) ∧ FstU (fun u => u.id == id) W.us r ∧ Below w.heap.size w w' := by
  obtain ⟨u1, u2, u3, u4, u5, rfl, -, -, -, ⟨a, c, rfl, c1, c2, ca⟩, -⟩ := h
  have Ca : Hid (W.us ≠ [] → ∃ x, a = some x ∧ x.block < w.heap.size ∧ ∀ (i : Nat) k, W.us[i]? = some k → Unc w (x.add (i * 8)) k) := ca
  clear ca
  go_enter Tryz.func29, Tryz.ntmps29
  go_wp2
  have B0 : Hid (Below w.heap.size w (w.alloc (Obj.cells #[.int .i64 W.turn, .int .i64 W.next, .int .i64 W.wide, .int .i64 W.high, u1, u2, u3, .slice a W.us.length c, u5] 29))) := (Below.refl _ _).alloc (Nat.le_refl _) _
  have X0 : Hid (Bw (w.alloc (Obj.cells #[.int .i64 W.turn, .int .i64 W.next, .int .i64 W.wide, .int .i64 W.high, u1, u2, u3, .slice a W.us.length c, u5] 29)) w.heap.size W u1 u2 u3 (.slice a W.us.length c) u5) := Bw.mk' W _ _ _ _ _ rfl
  generalize w.alloc (Obj.cells #[.int .i64 W.turn, .int .i64 W.next, .int .i64 W.wide, .int .i64 W.high, u1, u2, u3, .slice a W.us.length c, u5] 29) = w0 at *
  go_loopw [5] (fun iv V => ∃ k : Nat, k ≤ W.us.length ∧ iv = .int .i64 (k : Nat) ∧ (W.us.take k).any (fun u => u.id == id) = false ∧ V = w0) (fun iv _ => W.us.length - (intOf iv).toNat)
  case atStart => exact ⟨0, Nat.zero_le _, rfl, rfl, rfl⟩
  case round =>
    obtain ⟨k, hk, rfl, hn, rfl⟩ := hrel
    have HN : Hid ((W.us.take k).any (fun u => u.id == id) = false) := hn
    have c7 := X0.out.c7
    clear hn
    by_cases hkl : k = W.us.length
    · have F : Hid (FstU (fun u => u.id == id) W.us (-1)) := .inl ⟨rfl, by have := HN.out; rwa [hkl, List.take_length] at this⟩
      subst hkl
      clear hk
      go_wp2
      go_ret
      exact ⟨-1, rfl, F.out, B0.out⟩
    · have hlt : k < W.us.length := by omega
      have hli : (k : Int) < (W.us.length : Int) := by omega
      obtain ⟨u, hu⟩ : ∃ u, W.us[k]? = some u := ⟨_, List.getElem?_eq_getElem hlt⟩
      obtain ⟨x, rfl, hx, hcell⟩ := Ca.out (by intro e; rw [e] at hlt; simp at hlt)
      obtain ⟨d0, -, -, -, -, -, -, -⟩ := (hcell k u hu).below B0.out (by rw [add_block]; exact hx)
      have HU : Hid (W.us[k]? = some u) := hu
      clear hcell hx hu hkl
      by_cases hid : u.id = id
      · have F : Hid (FstU (fun u => u.id == id) W.us (k : Nat)) := .inr ⟨k, u, rfl, HU.out, by simp [hid], HN.out⟩
        go_wp2
        go_ret
        exact ⟨_, rfl, F.out, B0.out⟩
      · have hidb : (u.id == id) = false := by simpa using hid
        have N2 : Hid ((W.us.take (k + 1)).any (fun u => u.id == id) = false) := by unfold Hid; rw [anyu_next HU.out, HN.out, hidb]; rfl
        clear hid
        go_wp2
        go_roundw
        case rel => exact ⟨k + 1, by omega, rfl, N2.out, trivial⟩
        case measure => simp [intOf]; omega
end Go.Proofs.YtagnjmellcibhaaGreatDoor

namespace Go.Proofs.YtagnjmellcibhaaGreatDoor
open Go.RowKit
set_option linter.unusedVariables false

set_option maxHeartbeats 1000000 in
theorem rnumber_q (n : Int) (q : Bool) (w : World) (hq : Hid (decide (0 ≤ n ∧ n ≤ 1000000) = q)) :
    Calls Tryz.prog 26 #[.int .i64 n] w fun e w' => e = .returned (.bool q) ∧ w' = w := by
  go_enter Tryz.func26, Tryz.ntmps26
  by_cases h0 : 0 ≤ n
  · by_cases h1 : n ≤ 1000000
    · have E : Hid (q = true) := by unfold Hid; rw [← hq.out]; simp [h0, h1]
      go_wp2
      go_ret
      exact ⟨by rw [E.out]; rfl, rfl⟩
    · have E : Hid (q = false) := by unfold Hid; rw [← hq.out]; simp [h1]
      go_wp2
      go_ret
      exact ⟨by rw [E.out]; rfl, rfl⟩
  · have E : Hid (q = false) := by unfold Hid; rw [← hq.out]; simp [h0]
    go_wp2
    go_ret
    exact ⟨by rw [E.out]; rfl, rfl⟩
set_option maxRecDepth 100000 in
set_option maxHeartbeats 2000000 in
theorem ron_any (v : Value) (W : WV) (at_ : Int) (w : World) (h : Wl w v W) :
    Calls Tryz.prog 28 #[v, .int .i64 at_] w fun e w' => ∃ r : Int, e = .returned (.int .i64 r) ∧ FstU (fun u => u.at_ == at_) W.us r ∧ Below w.heap.size w w' := by
  obtain ⟨u1, u2, u3, u4, u5, rfl, -, -, -, ⟨a, c, rfl, c1, c2, ca⟩, -⟩ := h
  have Ca : Hid (W.us ≠ [] → ∃ x, a = some x ∧ x.block < w.heap.size ∧ ∀ (i : Nat) k, W.us[i]? = some k → Unc w (x.add (i * 8)) k) := ca
  clear ca
  go_enter Tryz.func28, Tryz.ntmps28
  go_wp2
  have B0 : Hid (Below w.heap.size w (w.alloc (Obj.cells #[.int .i64 W.turn, .int .i64 W.next, .int .i64 W.wide, .int .i64 W.high, u1, u2, u3, .slice a W.us.length c, u5] 29))) := (Below.refl _ _).alloc (Nat.le_refl _) _
  have X0 : Hid (Bw (w.alloc (Obj.cells #[.int .i64 W.turn, .int .i64 W.next, .int .i64 W.wide, .int .i64 W.high, u1, u2, u3, .slice a W.us.length c, u5] 29)) w.heap.size W u1 u2 u3 (.slice a W.us.length c) u5) := Bw.mk' W _ _ _ _ _ rfl
  generalize w.alloc (Obj.cells #[.int .i64 W.turn, .int .i64 W.next, .int .i64 W.wide, .int .i64 W.high, u1, u2, u3, .slice a W.us.length c, u5] 29) = w0 at *
  go_loopw [5] (fun iv V => ∃ k : Nat, k ≤ W.us.length ∧ iv = .int .i64 (k : Nat) ∧ (W.us.take k).any (fun u => u.at_ == at_) = false ∧ V = w0) (fun iv _ => W.us.length - (intOf iv).toNat)
  case atStart => exact ⟨0, Nat.zero_le _, rfl, rfl, rfl⟩
  case round =>
    obtain ⟨k, hk, rfl, hn, rfl⟩ := hrel
    have HN : Hid ((W.us.take k).any (fun u => u.at_ == at_) = false) := hn
    have c7 := X0.out.c7
    clear hn
    by_cases hkl : k = W.us.length
    · have F : Hid (FstU (fun u => u.at_ == at_) W.us (-1)) := .inl ⟨rfl, by have := HN.out; rwa [hkl, List.take_length] at this⟩
      subst hkl
      clear hk
      go_wp2
      go_ret
      exact ⟨-1, rfl, F.out, B0.out⟩
    · have hlt : k < W.us.length := by omega
      have hli : (k : Int) < (W.us.length : Int) := by omega
      obtain ⟨u, hu⟩ : ∃ u, W.us[k]? = some u := ⟨_, List.getElem?_eq_getElem hlt⟩
      obtain ⟨x, rfl, hx, hcell⟩ := Ca.out (by intro e; rw [e] at hlt; simp at hlt)
      obtain ⟨-, -, -, d3, -, -, -, -⟩ := (hcell k u hu).below B0.out (by rw [add_block]; exact hx)
      have HU : Hid (W.us[k]? = some u) := hu
      clear hcell hx hu hkl
      by_cases hid : u.at_ = at_
      · have F : Hid (FstU (fun u => u.at_ == at_) W.us (k : Nat)) := .inr ⟨k, u, rfl, HU.out, by simp [hid], HN.out⟩
        go_wp2
        go_ret
        exact ⟨_, rfl, F.out, B0.out⟩
      · have hidb : (u.at_ == at_) = false := by simpa using hid
        have N2 : Hid ((W.us.take (k + 1)).any (fun u => u.at_ == at_) = false) := by unfold Hid; rw [anyu_next HU.out, HN.out, hidb]; rfl
        clear hid
        go_wp2
        go_roundw
        case rel => exact ⟨k + 1, by omega, rfl, N2.out, trivial⟩
        case measure => simp [intOf]; omega
end Go.Proofs.YtagnjmellcibhaaGreatDoor

