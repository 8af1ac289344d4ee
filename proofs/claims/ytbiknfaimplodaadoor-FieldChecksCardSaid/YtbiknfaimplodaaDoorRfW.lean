/- What the reference says of a field as text. -/
import Derived.Test.YtbiknfaimplodaaDoorFdText
import Derived.Test.YtbiknfaimplodaaDoorFdB
import Derived.StillTactics
import Derived.Laws.Concat
namespace Go.Proofs.YtbiknfaimplodaaDoor
open Go.RowKit
set_option linter.unusedVariables false

/-- the sign of an ore above none, as far as k. -/
def dg (o : Int) (k : Nat) : UInt8 := if o % 10 = 0 ∧ o / 10 < k then (48 + (o / 10).toNat).toUInt8 else 43
theorem dg_one {o : Int} (h : 0 < o) : dg o 1 = 43 := by
  unfold dg
  rw [if_neg (by omega)]
theorem dg_hit {o : Int} {k : Nat} (h : o = 10 * k) : dg o (k + 1) = (48 + k).toUInt8 := by
  unfold dg
  have e : (o / 10).toNat = k := by omega
  rw [if_pos (by omega), e]
theorem dg_miss {o : Int} {k : Nat} (h : ¬ o = 10 * k) : dg o (k + 1) = dg o k := by
  unfold dg
  by_cases q : o % 10 = 0 ∧ o / 10 < k
  · rw [if_pos (by omega), if_pos q]
  · rw [if_neg (by omega), if_neg q]
theorem dg_ten {g o : Int} (h : 0 < o) : dg o 10 = Fd.sgn g o := by
  unfold dg Fd.sgn
  rw [if_neg (show ¬ o = 0 by omega)]
  by_cases q : o % 10 = 0 ∧ o ≤ 90
  · rw [if_pos q, if_pos (by omega)]
  · rw [if_neg q, if_neg (by omega)]

theorem cut0 (w : World) : (Instr.slice 9 (.string ⟨#[46, 35, 126, 94]⟩) (some (.int .i64 0)) (some (.int .i64 1)) none).run Tryd.prog w = .ok (.string ⟨#[46]⟩) w := by kernel_rfl
theorem cut1 (w : World) : (Instr.slice 9 (.string ⟨#[46, 35, 126, 94]⟩) (some (.int .i64 1)) (some (.int .i64 2)) none).run Tryd.prog w = .ok (.string ⟨#[35]⟩) w := by kernel_rfl
theorem cut2 (w : World) : (Instr.slice 9 (.string ⟨#[46, 35, 126, 94]⟩) (some (.int .i64 2)) (some (.int .i64 3)) none).run Tryd.prog w = .ok (.string ⟨#[126]⟩) w := by kernel_rfl
theorem cut3 (w : World) : (Instr.slice 9 (.string ⟨#[46, 35, 126, 94]⟩) (some (.int .i64 3)) (some (.int .i64 4)) none).run Tryd.prog w = .ok (.string ⟨#[94]⟩) w := by kernel_rfl
theorem cut_ground (g : Int) (h0 : 0 ≤ g) (h3 : g ≤ 3) (w : World) : (Instr.slice 9 (.string ⟨#[46, 35, 126, 94]⟩) (some (.int .i64 g)) (some (.int .i64 (g + 1))) none).run Tryd.prog w = .ok (.string ⟨#[Fd.gsign g]⟩) w := by
  have hg : g = 0 ∨ g = 1 ∨ g = 2 ∨ g = 3 := by omega
  rcases hg with rfl | rfl | rfl | rfl
  · exact cut0 w
  · exact cut1 w
  · exact cut2 w
  · exact cut3 w
theorem dig1 (w : World) : (Instr.slice 9 (.string ⟨#[48, 49, 50, 51, 52, 53, 54, 55, 56, 57]⟩) (some (.int .i64 1)) (some (.int .i64 2)) none).run Tryd.prog w = .ok (.string ⟨#[49]⟩) w := by kernel_rfl
theorem dig2 (w : World) : (Instr.slice 9 (.string ⟨#[48, 49, 50, 51, 52, 53, 54, 55, 56, 57]⟩) (some (.int .i64 2)) (some (.int .i64 3)) none).run Tryd.prog w = .ok (.string ⟨#[50]⟩) w := by kernel_rfl
theorem dig3 (w : World) : (Instr.slice 9 (.string ⟨#[48, 49, 50, 51, 52, 53, 54, 55, 56, 57]⟩) (some (.int .i64 3)) (some (.int .i64 4)) none).run Tryd.prog w = .ok (.string ⟨#[51]⟩) w := by kernel_rfl
theorem dig4 (w : World) : (Instr.slice 9 (.string ⟨#[48, 49, 50, 51, 52, 53, 54, 55, 56, 57]⟩) (some (.int .i64 4)) (some (.int .i64 5)) none).run Tryd.prog w = .ok (.string ⟨#[52]⟩) w := by kernel_rfl
theorem dig5 (w : World) : (Instr.slice 9 (.string ⟨#[48, 49, 50, 51, 52, 53, 54, 55, 56, 57]⟩) (some (.int .i64 5)) (some (.int .i64 6)) none).run Tryd.prog w = .ok (.string ⟨#[53]⟩) w := by kernel_rfl
theorem dig6 (w : World) : (Instr.slice 9 (.string ⟨#[48, 49, 50, 51, 52, 53, 54, 55, 56, 57]⟩) (some (.int .i64 6)) (some (.int .i64 7)) none).run Tryd.prog w = .ok (.string ⟨#[54]⟩) w := by kernel_rfl
theorem dig7 (w : World) : (Instr.slice 9 (.string ⟨#[48, 49, 50, 51, 52, 53, 54, 55, 56, 57]⟩) (some (.int .i64 7)) (some (.int .i64 8)) none).run Tryd.prog w = .ok (.string ⟨#[55]⟩) w := by kernel_rfl
theorem dig8 (w : World) : (Instr.slice 9 (.string ⟨#[48, 49, 50, 51, 52, 53, 54, 55, 56, 57]⟩) (some (.int .i64 8)) (some (.int .i64 9)) none).run Tryd.prog w = .ok (.string ⟨#[56]⟩) w := by kernel_rfl
theorem dig9 (w : World) : (Instr.slice 9 (.string ⟨#[48, 49, 50, 51, 52, 53, 54, 55, 56, 57]⟩) (some (.int .i64 9)) (some (.int .i64 10)) none).run Tryd.prog w = .ok (.string ⟨#[57]⟩) w := by kernel_rfl
theorem cut_digit (k : Nat) (h1 : 1 ≤ k) (h9 : k ≤ 9) (w : World) : (Instr.slice 9 (.string ⟨#[48, 49, 50, 51, 52, 53, 54, 55, 56, 57]⟩) (some (.int .i64 (k : Nat))) (some (.int .i64 ((k : Int) + 1))) none).run Tryd.prog w = .ok (.string ⟨#[(48 + k).toUInt8]⟩) w := by
  have hk : k = 1 ∨ k = 2 ∨ k = 3 ∨ k = 4 ∨ k = 5 ∨ k = 6 ∨ k = 7 ∨ k = 8 ∨ k = 9 := by omega
  rcases hk with rfl | rfl | rfl | rfl | rfl | rfl | rfl | rfl | rfl
  · exact dig1 w
  · exact dig2 w
  · exact dig3 w
  · exact dig4 w
  · exact dig5 w
  · exact dig6 w
  · exact dig7 w
  · exact dig8 w
  · exact dig9 w

theorem add_one (l : List UInt8) (b : UInt8) (hl : l.length ≤ 1000) (w : World) : (Op.stringOp .add ⟨l.toArray⟩ ⟨#[b]⟩).run Tryd.prog w = .ok (.string ⟨(l ++ [b]).toArray⟩) w := run_string_add_lists w l [b] (by omega) (by simp)

set_option maxRecDepth 100000 in
set_option maxHeartbeats 4000000 in
theorem ref_print (v : Value) (W H : Nat) (gs os : List Int) (w : World) (h : Fl w v W H gs os) (G : Fd.Good W H gs os) :
    Calls Tryd.prog 8 #[v] w fun e w' => e = .returned (.string ⟨(Fd.prt W H gs os).toArray⟩) ∧ Below w.heap.size w w' := by
  have HG : Hid (Fd.Good W H gs os) := G
  have W1 := G.w1
  have W2 := G.w2
  have H1 := G.h1
  have H2 := G.h2
  have gl : Hid (gs.length = W * H) := G.gl
  have ol : Hid (os.length = W * H) := G.ol
  have gp := G.pos
  obtain ⟨u1, u2, rfl, ⟨a1, c, rfl, c1, c2, ca⟩, ⟨b1, d, rfl, d1, d2, cb⟩⟩ := h
  obtain ⟨x, rfl, xl, hx⟩ := ca (by intro e; have := gl.out; rw [e] at this; simp only [List.length_nil] at this; omega)
  obtain ⟨y, rfl, yl, hy⟩ := cb (by intro e; have := ol.out; rw [e] at this; simp only [List.length_nil] at this; omega)
  obtain ⟨w0, hw0⟩ : ∃ w0, w.alloc (Obj.cells #[.int .i64 (W : Nat), .int .i64 (H : Nat), .slice (some x) gs.length c, .slice (some y) os.length d] 24) = w0 := ⟨_, rfl⟩
  have B0 : Hid (Below w.heap.size w w0) := by rw [← hw0]; exact (Below.refl _ _).alloc (Nat.le_refl _) _
  have X0 : Hid (Bf w0 w.heap.size W H (.slice (some x) gs.length c) (.slice (some y) os.length d)) := by rw [← hw0]; exact Bf.mk' _ _ _ _ rfl
  have Cx : Hid (∀ i d, gs[i]? = some d → w0.cell? (x.add i) = some (.int .i64 d)) := fun i d h => by rw [B0.out.cell (p := x.add i) (by rw [add_block]; exact xl)]; exact hx i d h
  have Cy : Hid (∀ i d, os[i]? = some d → w0.cell? (y.add i) = some (.int .i64 d)) := fun i d h => by rw [B0.out.cell (p := y.add i) (by rw [add_block]; exact yl)]; exact hy i d h
  have Hw : Hid (w.alloc (Obj.cells #[.int .i64 (W : Nat), .int .i64 (H : Nat), .slice (some x) gs.length c, .slice (some y) os.length d] 24) = w0) := hw0
  clear hw0 ca cb hx hy xl yl G
  go_enter Tryd.func8, Tryd.ntmps8
  go_wp2_with fail
  rw [Hw.out]
  clear Hw
  go_loopw [3, 4] (fun v i W' => ∃ r q : Nat, r ≤ H ∧ i = .int .i64 (r : Nat) ∧ v = .string ⟨(Fd.rowsTo W gs os r).toArray⟩ ∧ W' = w0.drewN q) (fun _ i _ => H - (intOf i).toNat)
  case atStart => exact ⟨0, 0, Nat.zero_le _, rfl, rfl, rfl⟩
  case round =>
    obtain ⟨r, q, hr, rfl, rfl, rfl⟩ := hrel
    have X : Hid (Bf (w0.drewN q) w.heap.size W H (.slice (some x) gs.length c) (.slice (some y) os.length d)) := X0.out.drewN q
    obtain ⟨x0, x1, x2, x3⟩ := X.out
    by_cases h0 : r = H
    · subst h0
      have P : Hid (Fd.prt W r gs os = Fd.rowsTo W gs os r) := rfl
      generalize Fd.rowsTo W gs os r = tx at *
      have B1 : Hid (Below w.heap.size w (w0.drewN q)) := below_drewN B0.out q
      generalize w0.drewN q = w1 at *
      go_wp2
      go_ret
      refine ⟨?_, B1⟩
      rw [P.out]
      rfl
    · have hrH : r < H := by omega
      generalize e1 : w0.drewN q = w1 at *
      have E1 : Hid (w1 = w0.drewN q) := e1.symm
      have E0 : Hid (Fd.rowsTo W gs os r = Fd.rowsTo W gs os r ++ Fd.cellsTo W gs os r 0) := by simp [Hid, Fd.cellsTo]
      have LR : Hid (∀ k, k ≤ W → (Fd.rowsTo W gs os r ++ Fd.cellsTo W gs os r k).length ≤ 900) := by
        intro k hk
        rw [List.length_append, Fd.rowsTo_len, Fd.cellsTo_len]
        have : r * (W + 1) ≤ 12 * 13 := Nat.mul_le_mul (by omega) (by omega)
        omega
      clear e1
      go_wp2_with fail
      clear x0 x1 x2 x3
      go_loopw [3, 5] (fun v i W' => ∃ k q : Nat, k ≤ W ∧ i = .int .i64 (k : Nat) ∧ v = .string ⟨(Fd.rowsTo W gs os r ++ Fd.cellsTo W gs os r k).toArray⟩ ∧ W' = w0.drewN q) (fun _ i _ => W - (intOf i).toNat)
      case atStart => exact ⟨0, _, Nat.zero_le _, rfl, by rw [← E0.out], E1⟩
      case round =>
        clear X E0 E1
        obtain ⟨k, q2, hk, rfl, rfl, rfl⟩ := hrel
        have X : Hid (Bf (w0.drewN q2) w.heap.size W H (.slice (some x) gs.length c) (.slice (some y) os.length d)) := X0.out.drewN q2
        obtain ⟨x0, x1, x2, x3⟩ := X.out
        have L : Hid ((Fd.rowsTo W gs os r ++ Fd.cellsTo W gs os r k).length ≤ 900) := LR.out k hk
        by_cases h1 : k = W
        · have ES : Hid (Fd.rowsTo W gs os (r + 1) = (Fd.rowsTo W gs os r ++ Fd.cellsTo W gs os r k) ++ [10]) := by unfold Hid; rw [h1, List.append_assoc]; rfl
          subst h1
          generalize Fd.rowsTo k gs os r ++ Fd.cellsTo k gs os r k = tx at *
          generalize e1 : w0.drewN q2 = w2 at *
          have E2 : Hid (w2 = w0.drewN q2) := e1.symm
          have ha := add_one tx 10 (by have := L.out; omega) w2
          clear e1
          go_wp2
          go_round
          case rel => exact ⟨r + 1, q2, by omega, by go_num, by rw [ES.out], E2⟩
          case measure => simp [intOf]; omega
        · have hkW : k < W := by omega
          have ES : Hid (Fd.rowsTo W gs os r ++ Fd.cellsTo W gs os r (k + 1) = (Fd.rowsTo W gs os r ++ Fd.cellsTo W gs os r k) ++ [Fd.sgn (gs.getD (r * W + k) 0) (os.getD (r * W + k) 0)]) := by unfold Hid; rw [Fd.cellsTo_succ, List.append_assoc]
          generalize Fd.rowsTo W gs os r ++ Fd.cellsTo W gs os r k = tx at *
          have m0 : 0 ≤ (r : Int) * (W : Int) := Int.mul_nonneg (by omega) (by omega)
          have m1 : (r : Int) * (W : Int) ≤ 11 * 12 := Int.mul_le_mul (by omega) (by omega) (by omega) (by omega)
          have hat : r * W + k < W * H := by
            have e1 : (r + 1) * W ≤ H * W := Nat.mul_le_mul_right _ (by omega)
            rw [Nat.add_mul, Nat.one_mul, Nat.mul_comm H W] at e1
            omega
          have g1 : r * W + k < gs.length := by rw [gl.out]; exact hat
          have o1 : r * W + k < os.length := by rw [ol.out]; exact hat
          have Eg : gs[r * W + k]? = some (gs.getD (r * W + k) 0) := by rw [List.getD_eq_getElem?_getD, List.getElem?_eq_getElem g1]; rfl
          have Eo : os[r * W + k]? = some (os.getD (r * W + k) 0) := by rw [List.getD_eq_getElem?_getD, List.getElem?_eq_getElem o1]; rfl
          have y2 : (w0.drewN q2).cell? (x.add (r * W + k)) = some (.int .i64 (gs.getD (r * W + k) 0)) := Cx.out _ _ Eg
          have y3 : (w0.drewN q2).cell? (y.add (r * W + k)) = some (.int .i64 (os.getD (r * W + k) 0)) := Cy.out _ _ Eo
          generalize e2 : w0.drewN q2 = w2 at *
          have E2 : Hid (w2 = w0.drewN q2) := e2.symm
          have hp := HG.out.cell _ _ _ Eg Eo
          clear e2 Eg Eo
          go_wp2_with fail
          rw [show (r : Int) * W + k = ((r * W + k : Nat) : Int) by push_cast; rfl]
          clear m0 m1 hat
          generalize r * W + k = t at *
          generalize gs.getD t 0 = gv at *
          generalize os.getD t 0 = ov at *
          obtain ⟨p0, p1, p2, p3, -⟩ := hp
          have j0 : (0 : Int) ≤ (t : Int) := by omega
          have j1 : (t : Int) < (gs.length : Int) := by omega
          have j2 : (t : Int) < (os.length : Int) := by omega
          have hcut := cut_ground gv p0 p1
          by_cases h2 : 0 < ov
          · have D1 := dg_one h2
            have D10 : Hid (dg ov 10 = Fd.sgn gv ov) := dg_ten h2
            go_quiet (fail)
            have z0 : (w2.drewN nq).cell? ⟨w.heap.size, 0, none⟩ = some (.int .i64 (W : Nat)) := x0
            have z1 : (w2.drewN nq).cell? ⟨w.heap.size, 1, none⟩ = some (.int .i64 (H : Nat)) := x1
            have z3 : (w2.drewN nq).cell? ⟨w.heap.size, 3, none⟩ = some (.slice (some y) os.length d) := x3
            have z4 : (w2.drewN nq).cell? (y.add t) = some (.int .i64 ov) := y3
            have E3 : Hid (w2.drewN nq = w0.drewN (q2 + nq)) := by unfold Hid; rw [E2.out, World.drewN_drewN]
            clear x0 x1 x2 x3 y2 y3 E2 hcut
            generalize w2.drewN nq = w3 at *
            go_wp2_with fail
            clear z3 z4
            go_loop [7, 9] (fun t i => ∃ j : Nat, 1 ≤ j ∧ j ≤ 10 ∧ i = .int .i64 (j : Nat) ∧ t = .string ⟨#[dg ov j]⟩) (fun _ i => 10 - (intOf i).toNat)
            case atStart => exact ⟨1, Nat.le_refl _, by omega, rfl, by rw [D1]⟩
            case round =>
              obtain ⟨j, hj1, hj2, rfl, rfl⟩ := hrel
              by_cases q3 : j = 10
              · subst q3
                rw [D10.out]
                generalize Fd.sgn gv ov = sg at *
                have ha := add_one tx sg (by have := L.out; omega) w3
                clear D1 D10
                go_wp2
                go_round
                case rel => exact ⟨k + 1, q2 + nq, by omega, by go_num, by rw [ES.out], E3⟩
                case measure => simp [intOf]; omega
              · have hj9 : j ≤ 9 := by omega
                by_cases q4 : ov = 10 * (j : Int)
                · have hd := cut_digit j hj1 hj9
                  have DH : Hid (dg ov (j + 1) = (48 + j).toUInt8) := dg_hit q4
                  generalize (48 + j).toUInt8 = dd at *
                  go_wp2
                  go_round
                  case rel => exact ⟨j + 1, by omega, by omega, by go_num, by rw [DH.out]⟩
                  case measure => simp [intOf]; omega
                · have DM : Hid (dg ov (j + 1) = dg ov j) := dg_miss q4
                  generalize dg ov j = dd at *
                  go_wp2
                  go_round
                  case rel => exact ⟨j + 1, by omega, by omega, by go_num, by rw [DM.out]⟩
                  case measure => simp [intOf]; omega
          · obtain rfl : ov = 0 := by omega
            have SG : Hid (Fd.sgn gv 0 = Fd.gsign gv) := rfl
            generalize Fd.sgn gv 0 = sg at *
            obtain rfl : sg = Fd.gsign gv := SG.out
            go_quiet (fail)
            have z0 : (w2.drewN nq).cell? ⟨w.heap.size, 0, none⟩ = some (.int .i64 (W : Nat)) := x0
            have z1 : (w2.drewN nq).cell? ⟨w.heap.size, 1, none⟩ = some (.int .i64 (H : Nat)) := x1
            have z3 : (w2.drewN nq).cell? ⟨w.heap.size, 3, none⟩ = some (.slice (some y) os.length d) := x3
            have z4 : (w2.drewN nq).cell? (y.add t) = some (.int .i64 0) := y3
            have E3 : Hid (w2.drewN nq = w0.drewN (q2 + nq)) := by unfold Hid; rw [E2.out, World.drewN_drewN]
            clear x0 x1 x2 x3 y2 y3 E2 hcut
            generalize w2.drewN nq = w3 at *
            have ha := add_one tx (Fd.gsign gv) (by have := L.out; omega) w3
            generalize Fd.gsign gv = sg at *
            go_wp2
            go_round
            case rel => exact ⟨k + 1, q2 + nq, by omega, by go_num, by rw [ES.out], E3⟩
            case measure => simp [intOf]; omega
end Go.Proofs.YtbiknfaimplodaaDoor
