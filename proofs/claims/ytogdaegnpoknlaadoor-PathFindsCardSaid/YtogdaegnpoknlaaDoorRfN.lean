/- What the reference says of the cells beside one, and of a step. -/
import Derived.Test.YtogdaegnpoknlaaDoorFdOwn
import Derived.Test.YtogdaegnpoknlaaDoorFdB
import Derived.Test.YtogdaegnpoknlaaDoorFdMath
import Derived.Deep.DeepCutAuto
namespace Go.Proofs.YtogdaegnpoknlaaDoor
open Go.RowKit
set_option linter.unusedVariables false

set_option maxRecDepth 100000 in
set_option maxHeartbeats 1000000 in
theorem ref_onto (v : Value) (W H : Int) (gs os : List Int) (a : Nat) (g : Int) (fl : Bool) (w : World) (h : Fl w v W H gs os) (hl : gs.length ≤ 144) (hg : gs[a]? = some g) (g0 : 0 ≤ g) (g3 : g ≤ 3) :
    Calls Tryd.prog 19 #[v, .int .i64 (a : Nat), .bool fl] w fun e w' => e = .returned (.int .i64 (Fd.onto g fl)) ∧ Below w.heap.size w w' := by
  obtain ⟨u1, u2, rfl, ⟨a1, c, rfl, c1, c2, ca⟩, ⟨b1, d, rfl, d1, d2, cb⟩⟩ := h
  have hal : a < gs.length := (List.getElem?_eq_some_iff.1 hg).1
  obtain ⟨x, rfl, xl, hx⟩ := ca (by intro e; rw [e] at hal; simp at hal)
  have j0 : (0 : Int) ≤ (a : Int) := by omega
  have j1 : (a : Int) < (gs.length : Int) := by omega
  obtain ⟨w0, hw0⟩ : ∃ w0, w.alloc (Obj.cells #[.int .i64 W, .int .i64 H, .slice (some x) gs.length c, .slice b1 os.length d] 24) = w0 := ⟨_, rfl⟩
  have B0 : Hid (Below w.heap.size w w0) := by rw [← hw0]; exact (Below.refl _ _).alloc (Nat.le_refl _) _
  have cg : w0.cell? (x.add a) = some (.int .i64 g) := by rw [B0.out.cell (p := x.add a) (by rw [add_block]; exact xl)]; exact hx a g hg
  have x2 : w0.cell? ⟨w.heap.size, 2, none⟩ = some (.slice (some x) gs.length c) := by rw [← hw0]; simp
  have Hw : Hid (w.alloc (Obj.cells #[.int .i64 W, .int .i64 H, .slice (some x) gs.length c, .slice b1 os.length d] 24) = w0) := hw0
  have O : Hid (∀ u, u = Fd.onto g fl → Ending.returned (.int .i64 u) = .returned (.int .i64 (Fd.onto g fl))) := fun u h => by rw [h]
  clear hw0 cb hx xl ca hg
  go_enter Tryd.func19, Tryd.ntmps19
  go_upto_region 1 with fail
  rw [Hw.out]
  have hg' : g = 0 ∨ g = 1 ∨ g = 2 ∨ g = 3 := by omega
  rcases hg' with rfl | rfl | rfl | rfl
  all_goals cases fl
  all_goals
    go_wp2
    go_ret
    exact ⟨O.out _ rfl, B0⟩

/-- a list as far as it is made. -/
structure Nr (w : World) (W H : Int) (u1 u2 : Value) (l : List Int) (v : Value) (W' : World) : Prop where
  o : Ow W' (w.heap.size + 1) v l
  x : Bf W' w.heap.size W H u1 u2
  b : Below w.heap.size w W'
theorem Nr.grow {w wr w5 : World} {W H : Int} {u1 u2 v v5 : Value} {l l5 : List Int} {o : Obj} (h : Nr w W H u1 u2 l v wr) (hg : (wr.alloc o).grownBy w5 v.ownBlock) (h5 : Ow w5 (w.heap.size + 1) v5 l5) : Nr w W H u1 u2 l5 v5 w5 := by
  have hob : ∀ k, v.ownBlock = some k → w.heap.size + 1 ≤ k := fun k hk => (h.o.block k hk).1
  have z := h.x.lt
  have h2 : Below wr.heap.size wr (wr.alloc o) := (Below.refl _ _).alloc (Nat.le_refl _) _
  have z2 := h2.size
  have X2 : Bf (wr.alloc o) w.heap.size W H u1 u2 := h.x.below h2 z
  have hne : some w.heap.size ≠ v.ownBlock := fun e => by have := hob _ e.symm; omega
  refine ⟨h5, ⟨?_, ?_, ?_, ?_⟩, (h.b.trans (h2.mono (by omega))).grown hg (by omega) (fun k hk => by have := hob k hk; omega)⟩
  · rw [hg.cell_far ⟨w.heap.size, 0, none⟩ (by show w.heap.size < _; omega) hne]; exact X2.c0
  · rw [hg.cell_far ⟨w.heap.size, 1, none⟩ (by show w.heap.size < _; omega) hne]; exact X2.c1
  · rw [hg.cell_far ⟨w.heap.size, 2, none⟩ (by show w.heap.size < _; omega) hne]; exact X2.c2
  · rw [hg.cell_far ⟨w.heap.size, 3, none⟩ (by show w.heap.size < _; omega) hne]; exact X2.c3
theorem len_if (c : Prop) [Decidable c] (x : Int) : (if c then [x] else []).length ≤ 1 := by split <;> simp

set_option maxRecDepth 100000 in
set_option maxHeartbeats 2000000 in
theorem ref_near_own (v : Value) (W H : Nat) (gs os : List Int) (a : Nat) (w : World) (h : Fl w v W H gs os) (h1 : 0 < W) (h2 : W ≤ 12) (h3 : H ≤ 12) (ha : a < W * H) :
    Calls Tryd.prog 18 #[v, .int .i64 (a : Nat)] w fun e w' => ∃ u, e = .returned u ∧ Ow w' w.heap.size u (Fd.near W H a) ∧ Below w.heap.size w w' := by
  obtain ⟨u1, u2, rfl, ⟨a1, c, rfl, -⟩, ⟨b1, d, rfl, -⟩⟩ := h
  have hm : W * H ≤ 144 := Nat.mul_le_mul h2 h3
  have r1 : a / W < H := Nat.div_lt_of_lt_mul ha
  have p1 := Nat.mod_lt a h1
  have En : Hid (Fd.near W H a = (if 0 < a / W then [(a : Int) - W] else []) ++ ((if 0 < a % W then [(a : Int) - 1] else []) ++ ((if a % W + 1 < W then [(a : Int) + 1] else []) ++ (if a / W + 1 < H then [(a : Int) + W] else [])))) := rfl
  have e1 : (a : Int) % (W : Int) = (a % W : Nat) := rfl
  have e2 : (a : Int) / (W : Int) = (a / W : Nat) := rfl
  generalize a % W = p at *
  generalize a / W = r at *
  have A1 : a ≤ 144 := by omega
  have hw : ¬ (W : Int) = 0 := by omega
  clear ha
  obtain ⟨w0, hw0⟩ : ∃ w0, w.alloc (Obj.cells #[.int .i64 (W : Nat), .int .i64 (H : Nat), .slice a1 gs.length c, .slice b1 os.length d] 24) = w0 := ⟨_, rfl⟩
  have N0 : Hid (Nr w W H (.slice a1 gs.length c) (.slice b1 os.length d) [] (.slice none 0 0) w0) := by
    rw [← hw0]
    exact ⟨Ow.nil _ _, Bf.mk' _ _ _ _ rfl, (Below.refl _ _).alloc (Nat.le_refl _) _⟩
  have Hw : Hid (w.alloc (Obj.cells #[.int .i64 (W : Nat), .int .i64 (H : Nat), .slice a1 gs.length c, .slice b1 os.length d] 24) = w0) := hw0
  clear hw0
  go_enter Tryd.func18, Tryd.ntmps18
  go_upto_region 2 with fail
  rw [Hw.out]
  obtain ⟨x0, x1, x2, x3⟩ := N0.out.x
  go_upto_if 17 with fail
  rw [e1]
  clear e1 e2 x0 x1 x2 x3
  go_cut [5] (fun v5 W' => Nr w W H (.slice a1 gs.length c) (.slice b1 os.length d) (if 0 < r then [(a : Int) - W] else []) v5 W')
  case first =>
    obtain ⟨x0, x1, x2, x3⟩ := N0.out.x
    by_cases q : 0 < r
    · go_wp2_with (at_builtin; refine app_int _ rfl _ _ rfl (w.heap.size + 1) _ [] rfl (N0.out.o.alloc _) ⟨w0.heap.size, 0, none⟩ ((a : Int) - W) rfl (by simp) (by simp) (by have := N0.out.x.lt; simp; omega) ?_)
      intro g cap w5 o5 g5 a5 l5
      have N5 : Hid (Nr w W H (.slice a1 gs.length c) (.slice b1 os.length d) [(a : Int) - W] _ w5) := N0.out.grow g5 o5
      clear o5 g5 a5 l5 x0 x1 x2 x3
      go_wp2
      go_meet
      case rel => rw [if_pos q]; exact N5
    · have q0 : r = 0 := by omega
      subst q0
      go_wp2_with fail
      go_meet
      case rel => rw [if_neg q]; exact N0
  case rest =>
    have L1 : Hid ((if 0 < r then [(a : Int) - W] else []).length ≤ 1) := len_if _ _
    have N1 : Hid (Nr w W H (.slice a1 gs.length c) (.slice b1 os.length d) (if 0 < r then [(a : Int) - W] else []) u5 wc) := hcut
    clear hcut N0
    generalize (if 0 < r then [(a : Int) - W] else []) = l1 at *
    go_upto_if 26 with fail
    go_cut [5] (fun v5 W' => Nr w W H (.slice a1 gs.length c) (.slice b1 os.length d) (l1 ++ (if 0 < p then [(a : Int) - 1] else [])) v5 W')
    case first =>
      by_cases q : 0 < p
      · go_wp2_with (at_builtin; refine app_int _ rfl _ _ rfl (w.heap.size + 1) _ l1 rfl (N1.out.o.alloc _) ⟨wc.heap.size, 0, none⟩ ((a : Int) - 1) rfl (by simp) (by have := L1.out; omega) (by have := N1.out.x.lt; simp; omega) ?_)
        intro g cap w5 o5 g5 a5 l5
        have N5 : Hid (Nr w W H (.slice a1 gs.length c) (.slice b1 os.length d) (l1 ++ [(a : Int) - 1]) _ w5) := N1.out.grow g5 o5
        clear o5 g5 a5 l5
        go_wp2
        go_meet
        case rel => rw [if_pos q]; exact N5
      · have q0 : p = 0 := by omega
        subst q0
        go_wp2_with fail
        go_meet
        case rel => rw [if_neg q, List.append_nil]; exact N1
    case rest =>
      have L2 : Hid ((l1 ++ (if 0 < p then [(a : Int) - 1] else [])).length ≤ 2) := by have h1 := L1.out; have h2 := len_if (0 < p) ((a : Int) - 1); unfold Hid; rw [List.length_append]; omega
      have N2 : Hid (Nr w W H (.slice a1 gs.length c) (.slice b1 os.length d) (l1 ++ (if 0 < p then [(a : Int) - 1] else [])) _ wc) := hcut
      have E2 : Hid (l1 ++ ((if 0 < p then [(a : Int) - 1] else []) ++ ((if p + 1 < W then [(a : Int) + 1] else []) ++ (if r + 1 < H then [(a : Int) + W] else []))) = (l1 ++ (if 0 < p then [(a : Int) - 1] else [])) ++ ((if p + 1 < W then [(a : Int) + 1] else []) ++ (if r + 1 < H then [(a : Int) + W] else []))) := (List.append_assoc _ _ _).symm
      clear hcut N1
      generalize l1 ++ (if 0 < p then [(a : Int) - 1] else []) = l2 at *
      obtain ⟨x0, x1, x2, x3⟩ := N2.out.x
      go_upto_if 36 with fail
      go_cut [5] (fun v5 W' => Nr w W H (.slice a1 gs.length c) (.slice b1 os.length d) (l2 ++ (if p + 1 < W then [(a : Int) + 1] else [])) v5 W')
      case first =>
        by_cases q : p + 1 < W
        · go_wp2_with (at_builtin; refine app_int _ rfl _ _ rfl (w.heap.size + 1) _ l2 rfl (N2.out.o.alloc _) ⟨wc.heap.size, 0, none⟩ ((a : Int) + 1) rfl (by simp) (by have := L2.out; omega) (by have := N2.out.x.lt; simp; omega) ?_)
          intro g cap w5 o5 g5 a5 l5
          have N5 : Hid (Nr w W H (.slice a1 gs.length c) (.slice b1 os.length d) (l2 ++ [(a : Int) + 1]) _ w5) := N2.out.grow g5 o5
          clear o5 g5 a5 l5
          go_wp2
          go_meet
          case rel => rw [if_pos q]; exact N5
        · have q1 : ¬ (p : Int) < (W : Int) - 1 := by omega
          go_wp2_with fail
          go_meet
          case rel => rw [if_neg q, List.append_nil]; exact N2
      case rest =>
        have L3 : Hid ((l2 ++ (if p + 1 < W then [(a : Int) + 1] else [])).length ≤ 3) := by have h1 := L2.out; have h2 := len_if (p + 1 < W) ((a : Int) + 1); unfold Hid; rw [List.length_append]; omega
        have N3 : Hid (Nr w W H (.slice a1 gs.length c) (.slice b1 os.length d) (l2 ++ (if p + 1 < W then [(a : Int) + 1] else [])) _ wc) := hcut
        have E3 : Hid (l2 ++ ((if p + 1 < W then [(a : Int) + 1] else []) ++ (if r + 1 < H then [(a : Int) + W] else [])) = (l2 ++ (if p + 1 < W then [(a : Int) + 1] else [])) ++ (if r + 1 < H then [(a : Int) + W] else [])) := (List.append_assoc _ _ _).symm
        clear hcut N2 x0 x1 x2 x3
        generalize l2 ++ (if p + 1 < W then [(a : Int) + 1] else []) = l3 at *
        obtain ⟨x0, x1, x2, x3⟩ := N3.out.x
        by_cases q : r + 1 < H
        · go_wp2_with (at_builtin; refine app_int _ rfl _ _ rfl (w.heap.size + 1) _ l3 rfl (N3.out.o.alloc _) ⟨wc.heap.size, 0, none⟩ ((a : Int) + W) rfl (by simp) (by have := L3.out; omega) (by have := N3.out.x.lt; simp; omega) ?_)
          intro g cap w5 o5 g5 a5 l5
          have N5 : Hid (Nr w W H (.slice a1 gs.length c) (.slice b1 os.length d) (l3 ++ [(a : Int) + W]) _ w5) := N3.out.grow g5 o5
          clear o5 g5 a5 l5
          go_wp2
          go_ret
          refine ⟨_, rfl, ?_, N5.out.b⟩
          rw [En.out, E2.out, E3.out, if_pos q]
          exact N5.out.o.mono (Nat.le_succ _)
        · have q1 : ¬ (r : Int) < (H : Int) - 1 := by omega
          go_wp2
          go_ret
          refine ⟨_, rfl, ?_, N3.out.b⟩
          rw [En.out, E2.out, E3.out, if_neg q, List.append_nil]
          exact N3.out.o.mono (Nat.le_succ _)
theorem ref_near (v : Value) (W H : Nat) (gs os : List Int) (a : Nat) (w : World) (h : Fl w v W H gs os) (h1 : 0 < W) (h2 : W ≤ 12) (h3 : H ≤ 12) (ha : a < W * H) :
    Calls Tryd.prog 18 #[v, .int .i64 (a : Nat)] w fun e w' => ∃ u, e = .returned u ∧ Ro w' u (Fd.near W H a) ∧ Below w.heap.size w w' :=
  (ref_near_own v W H gs os a w h h1 h2 h3 ha).mono fun e w' ⟨u, h1, h2, h3⟩ => ⟨u, h1, h2.ro, h3⟩
end Go.Proofs.YtogdaegnpoknlaaDoor
