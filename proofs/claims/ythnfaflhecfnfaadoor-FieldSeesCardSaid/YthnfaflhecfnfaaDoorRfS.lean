/- What the reference sees. -/
import Derived.Test.YthnfaflhecfnfaaDoorRfL
import Derived.Test.YthnfaflhecfnfaaDoorFdSb
import Derived.Test.YthnfaflhecfnfaaDoorRefFar
namespace Go.Proofs.YthnfaflhecfnfaaDoor
open Go.RowKit
set_option linter.unusedVariables false

namespace Fd
/-- does a ground hide? -/
def dark (g : Int) : Prop := g = 1 ∨ g = 3
section
variable {W H a b : Nat} {gs : List Int} (hW : 0 < W) (ha : a < W * H) (hb : b < W * H)
include hW ha hb
theorem see_no {k : Nat} (h0 : 0 < k) (h1 : k < span W a b) (hd : ∃ t g : Nat × Int, spot W a b k = t.1 ∧ gs[t.1]? = some g.2 ∧ dark g.2) : (line W a b).any (hide gs a b) = true := by
  obtain ⟨t, g, e, hgt, hd⟩ := hd
  rw [List.any_eq_true]
  refine ⟨spot W a b k, ?_, ?_⟩
  · refine List.mem_of_getElem? (i := k) ?_
    rw [line_get (by omega), if_neg (by omega)]
  · obtain ⟨i1, i2⟩ := spot_inner hW ha hb (by omega) h0 h1
    unfold hide
    rw [decide_eq_true i1, decide_eq_true i2, e, Int.toNat_natCast, List.getD_eq_getElem?_getD, hgt]
    rcases hd with hd | hd
    · simp [hd]
    · simp [hd]
theorem see_yes (hg : gs.length = W * H) (hd : ∀ k, 0 < k → k < span W a b → ∀ t : Nat, spot W a b k = t → ∀ g, gs[t]? = some g → ¬ dark g) : (line W a b).any (hide gs a b) = false := by
  rw [List.any_eq_false]
  intro x hx
  obtain ⟨k, hk, e⟩ := List.mem_iff_getElem.1 hx
  rw [line_len] at hk
  have e2 := line_get (W := W) (a := a) (b := b) (k := k) (by omega)
  rw [List.getElem?_eq_getElem (by rw [line_len]; omega), e] at e2
  injection e2 with e2
  unfold hide
  by_cases h0 : span W a b = 0
  · rw [if_pos h0] at e2
    simp [e2]
  · rw [if_neg h0] at e2
    by_cases hk0 : k = 0
    · rw [hk0, spot_zero (by omega)] at e2
      simp [e2]
    · by_cases hk1 : k = span W a b
      · rw [hk1, spot_end (by omega)] at e2
        simp [e2]
      · obtain ⟨r, c, -, -, -, -, es, el, -, -⟩ := spot_in hW ha hb (show 0 < span W a b by omega) (show k ≤ span W a b by omega)
        have hgt : r * W + c < gs.length := by rw [hg]; exact el
        have h := hd k (by omega) (by omega) _ es _ (List.getElem?_eq_getElem hgt)
        rw [e2, es, Int.toNat_natCast, List.getD_eq_getElem?_getD, List.getElem?_eq_getElem hgt]
        unfold dark at h
        simp
        omega
end
end Fd

theorem sq_ex (n : Nat) : ∃ r : Int, Ma.Sq r n := by
  induction n with
  | zero => exact ⟨0, by decide, by decide, by decide⟩
  | succ n ih =>
    obtain ⟨r, h0, h1, h2⟩ := ih
    by_cases h : ((n + 1 : Nat) : Int) < (r + 1) * (r + 1)
    · exact ⟨r, h0, by omega, h⟩
    · have e := Ma.sq_expand (r + 1) 1
      exact ⟨r + 1, by omega, by omega, by omega⟩

set_option maxHeartbeats 1000000 in
theorem ref_apart (v : Value) (W H : Nat) (gs os : List Int) (a b : Nat) (r : Int) (w : World) (h : Fl w v W H gs os) (h1 : 0 < W) (h2 : W ≤ 12) (h3 : H ≤ 12) (ha : a < W * H) (hb : b < W * H)
    (hr : Ma.Sq r ((((a % W : Nat) : Int) - (b % W : Nat)) * (((a % W : Nat) : Int) - (b % W : Nat)) + (((a / W : Nat) : Int) - (b / W : Nat)) * (((a / W : Nat) : Int) - (b / W : Nat)))) :
    Calls Tryd.prog 33 #[v, .int .i64 (a : Nat), .int .i64 (b : Nat)] w fun e w' => e = .returned (.int .i64 r) ∧ Below w.heap.size w w' := by
  obtain ⟨u1, u2, rfl, -, -⟩ := h
  have hm : W * H ≤ 144 := Nat.mul_le_mul h2 h3
  have a1 : a / W < H := Nat.div_lt_of_lt_mul ha
  have a2 : b / W < H := Nat.div_lt_of_lt_mul hb
  have a3 := Nat.mod_lt a h1
  have a4 := Nat.mod_lt b h1
  have e1 : (a : Int) % (W : Int) = (a % W : Nat) := rfl
  have e2 : (a : Int) / (W : Int) = (a / W : Nat) := rfl
  have e3 : (b : Int) % (W : Int) = (b % W : Nat) := rfl
  have e4 : (b : Int) / (W : Int) = (b / W : Nat) := rfl
  have A1 : a ≤ 144 := by omega
  have B1 : b ≤ 144 := by omega
  generalize a % W = p at *
  generalize a / W = m at *
  generalize b % W = q at *
  generalize b / W = n at *
  have hw : ¬ (W : Int) = 0 := by omega
  have K : Hid (∀ W', Calls Tryd.prog 42 #[.int .i64 (p : Nat), .int .i64 (m : Nat), .int .i64 (q : Nat), .int .i64 (n : Nat)] W' fun e w' => e = .returned (.int .i64 r) ∧ w' = W') := fun W' =>
    (ref_far p m q n W' ⟨by omega, by omega⟩ ⟨by omega, by omega⟩ ⟨by omega, by omega⟩ ⟨by omega, by omega⟩).mono fun e w' ⟨r', h1, h2, h3⟩ => ⟨by rw [h2, Ma.sq_uniq _ _ _ h1 hr], h3⟩
  have m1 : m ≤ 144 := by omega
  have n1 : n ≤ 144 := by omega
  clear ha hb hr a1 a2 a3 a4
  generalize hw0 : w.alloc (Obj.cells #[.int .i64 (W : Nat), .int .i64 (H : Nat), u1, u2] 24) = w0
  have B0 : Hid (Below w.heap.size w w0) := by rw [← hw0]; exact (Below.refl _ _).alloc (Nat.le_refl _) _
  have f0 : w0.cell? ⟨w.heap.size, 0, none⟩ = some (.int .i64 (W : Nat)) := by rw [← hw0]; simp
  have Hw : Hid (w.alloc (Obj.cells #[.int .i64 (W : Nat), .int .i64 (H : Nat), u1, u2] 24) = w0) := hw0
  clear hw0
  go_enter Tryd.func33, Tryd.ntmps33
  go_wp2_with fail
  rw [Hw.out]
  go_quiet ((go_at_call 42; exact Calls.quiet_of_same (K.out _)))
  go_wp2
  go_ret
  exact ⟨rfl, below_drewN B0.out _⟩

set_option maxHeartbeats 2000000 in
theorem ref_sees (v : Value) (W H : Nat) (gs os : List Int) (a b : Nat) (s r : Int) (w : World) (h : Fl w v W H gs os) (G : Fd.Good W H gs os) (ha : a < W * H) (hb : b < W * H)
    (hr : Ma.Sq r ((((a % W : Nat) : Int) - (b % W : Nat)) * (((a % W : Nat) : Int) - (b % W : Nat)) + (((a / W : Nat) : Int) - (b / W : Nat)) * (((a / W : Nat) : Int) - (b / W : Nat)))) :
    Calls Tryd.prog 23 #[v, .int .i64 (a : Nat), .int .i64 (b : Nat), .int .i64 s] w fun e w' => e = .returned (.bool (decide (r ≤ s) && !(Fd.line W a b).any (Fd.hide gs a b))) ∧ Below w.heap.size w w' := by
  have F0 : Hid (Fl w v W H gs os) := h
  have HR : Hid (Ma.Sq r _) := hr
  have HA : Hid (a < W * H) := ha
  have HB : Hid (b < W * H) := hb
  have W1 := G.w1
  have W2 := G.w2
  have H2 := G.h2
  have gp := G.pos.2
  have GL : Hid (gs.length = W * H) := G.gl
  have gl2 : gs.length ≤ 144 := by rw [G.gl]; exact gp
  have Yes : Hid ((∀ k, 0 < k → k < Fd.span W a b → ∀ t : Nat, Fd.spot W a b k = t → ∀ g, gs[t]? = some g → ¬ Fd.dark g) → (Fd.line W a b).any (Fd.hide gs a b) = false) := Fd.see_yes W1 ha hb G.gl
  have No : Hid (∀ k, 0 < k → k < Fd.span W a b → (∃ t g : Nat × Int, Fd.spot W a b k = t.1 ∧ gs[t.1]? = some g.2 ∧ Fd.dark g.2) → (Fd.line W a b).any (Fd.hide gs a b) = true) := fun k h0 h1 hd => Fd.see_no W1 ha hb h0 h1 hd
  obtain ⟨u1, u2, rfl, ⟨a1, c, rfl, c1, c2, ca⟩, ⟨b1, d, rfl, d1, d2, cb⟩⟩ := h
  obtain ⟨y, rfl, yl, hy⟩ := ca (by intro e; have h3 := G.gl; have h4 := G.pos; rw [e] at h3; simp only [List.length_nil] at h3; omega)
  have Cy : Hid (y.block < w.heap.size ∧ ∀ i d, gs[i]? = some d → w.cell? (y.add i) = some (.int .i64 d)) := ⟨yl, hy⟩
  clear cb hy yl G ha hb hr
  go_enter Tryd.func23, Tryd.ntmps23
  go_wp2_with fail
  refine (ref_apart _ W H gs os a b r _ (F0.out.below ((Below.refl _ _).alloc (Nat.le_refl _) _)) W1 W2 H2 HA.out HB.out HR.out).mono ?_
  rintro e w1 ⟨rfl, k1⟩
  have B1 : Hid (Below w.heap.size w w1) := ((Below.refl _ _).alloc (Nat.le_refl _) _).trans (k1.mono (by simp))
  have X1 : Hid (Bf w1 w.heap.size W H (Value.slice (some y) gs.length c) (Value.slice b1 os.length d)) := (Bf.mk' (w := w) W H (Value.slice (some y) gs.length c) (Value.slice b1 os.length d) rfl).below k1 (by simp)
  have F1 : Hid (Fl w1 (.agg #[Value.int IntKind.i64 W, Value.int IntKind.i64 H, Value.slice (some y) gs.length c, Value.slice b1 os.length d]) W H gs os) := F0.out.below B1.out
  clear k1 F0
  obtain ⟨x0, x1, x2, x3⟩ := X1.out
  by_cases hrs : r ≤ s
  · have Hrs : Hid (r ≤ s) := hrs
    go_wp2_with fail
    refine (ref_line _ W H gs os a b _ F1.out W1 W2 H2 HA.out HB.out).mono ?_
    rintro e w2 ⟨u, rfl, hr2, k2⟩
    have B2 : Hid (Below w.heap.size w w2) := B1.out.trans (k2.mono B1.out.size)
    have X2 : Hid (Bf w2 w.heap.size W H (Value.slice (some y) gs.length c) (Value.slice b1 os.length d)) := X1.out.below k2 X1.out.lt
    clear k2 B1 X1 F1 x0 x1 x2 x3
    obtain ⟨xa, cu, rfl, cu1, cu2, hc⟩ := hr2
    have hl := Fd.line_len W a b
    obtain ⟨x, rfl, -, hx⟩ := hc (by intro e; rw [e] at hl; simp at hl)
    have hs := Fd.span_le W1 W2 H2 HA.out HB.out
    have Lx : Hid (∀ k, 0 < k → k < Fd.span W a b → ∃ t : Nat, Fd.spot W a b k = t ∧ t < gs.length ∧ w2.cell? (x.add k) = some (.int .i64 (t : Nat))) := by
      intro k h0 h1
      obtain ⟨r', c', -, -, -, -, es, el, -⟩ := Fd.spot_in W1 HA.out HB.out (show 0 < Fd.span W a b by omega) (show k ≤ Fd.span W a b by omega)
      refine ⟨_, es, by rw [GL.out]; exact el, hx k _ ?_⟩
      rw [Fd.line_get (by omega), if_neg (by omega), es]
    rw [hl]
    generalize Fd.span W a b = n at *
    clear hc hx hl cu2
    go_wp2_with fail
    go_loopw [11] (fun i W' => ∃ (j q : Nat), 1 ≤ j ∧ j ≤ n + 1 ∧ (j ≤ n ∨ n = 0) ∧ i = .int .i64 (j : Nat) ∧ W' = w2.drewN q ∧ ∀ k, 0 < k → k < j → ∀ t : Nat, Fd.spot W a b k = t → ∀ g, gs[t]? = some g → ¬ Fd.dark g) (fun i _ => n + 1 - (intOf i).toNat)
    case atStart => exact ⟨1, 0, Nat.le_refl _, by omega, by omega, rfl, rfl, fun k h0 h1 => by omega⟩
    case round =>
      obtain ⟨j, q, j1, j2, j3, rfl, rfl, hj⟩ := hrel
      have Hj : Hid (∀ k, 0 < k → k < j → ∀ t : Nat, Fd.spot W a b k = t → ∀ g, gs[t]? = some g → ¬ Fd.dark g) := hj
      have X3 : Bf (w2.drewN q) w.heap.size W H (Value.slice (some y) gs.length c) (Value.slice b1 os.length d) := X2.out.drewN q
      have B3 : Hid (Below w.heap.size w (w2.drewN q)) := below_drewN B2.out q
      have Q : Hid (∀ n, (w2.drewN q).drewN n = w2.drewN (q + n)) := fun n => by rw [World.drewN_drewN]
      have Lq : Hid (∀ k, 0 < k → k < n → ∃ t : Nat, Fd.spot W a b k = t ∧ t < gs.length ∧ (w2.drewN q).cell? (x.add k) = some (.int .i64 (t : Nat))) := Lx.out
      obtain ⟨x0, x1, x2, x3⟩ := X3
      clear hj
      generalize w2.drewN q = w3 at *
      by_cases h0 : j < n
      · obtain ⟨t, et, tl, ct⟩ := Lq.out j (by omega) h0
        have cg : w3.cell? (y.add t) = some (.int .i64 gs[t]) := by
          rw [B3.out.cell (p := y.add t) (by rw [add_block]; exact Cy.out.1)]
          exact Cy.out.2 t _ (List.getElem?_eq_getElem tl)
        have Hg : Hid (gs[t]? = some gs[t]) := List.getElem?_eq_getElem tl
        have Et : Hid (Fd.spot W a b j = (t : Nat)) := et
        clear et
        generalize gs[t] = g at *
        have t0 : (0 : Int) ≤ (t : Int) := by omega
        have t1 : (t : Int) < (gs.length : Int) := by omega
        by_cases q1 : g = 1
        · subst q1
          have e := No.out j (by omega) h0 ⟨(t, 0), (0, 1), Et.out, Hg.out, .inl rfl⟩
          have E : Hid (_ = true) := e
          clear e
          go_wp2
          go_quiet (fail)
          go_wp2
          go_ret
          exact ⟨by rw [E.out, Bool.not_true, Bool.and_false]; rfl, below_drewN B3.out _⟩
        · by_cases q3 : g = 3
          · subst q3
            have e := No.out j (by omega) h0 ⟨(t, 0), (0, 3), Et.out, Hg.out, .inr rfl⟩
            have E : Hid (_ = true) := e
            clear e
            go_wp2
            go_quiet (fail)
            go_wp2
            go_ret
            exact ⟨by rw [E.out, Bool.not_true, Bool.and_false]; rfl, below_drewN B3.out _⟩
          · have q1b : (g == 1) = false := by rw [beq_eq_false_iff_ne]; exact q1
            have q3b : (g == 3) = false := by rw [beq_eq_false_iff_ne]; exact q3
            go_wp2
            go_quiet (fail)
            go_wp2
            go_round
            case rel =>
              refine ⟨j + 1, _, by omega, by omega, by omega, by go_num, Q.out _, fun k h1 h2 t' e' g' hg' => ?_⟩
              by_cases hkj : k = j
              · subst hkj
                have : t = t' := by have := Et.out; omega
                subst this
                rw [Hg.out] at hg'
                injection hg' with hg'
                subst hg'
                unfold Fd.dark
                omega
              · exact Hj.out k h1 (by omega) t' e' g' hg'
            case measure => simp [intOf]; omega
      · have e := Yes.out (fun k h1 h2 => Hj.out k h1 (by omega))
        have E : Hid (_ = false) := e
        clear e
        have hjn : ¬ ((j : Int) < (n : Int) + 1 - 1) := by omega
        go_wp2
        go_ret
        exact ⟨by first | (rw [E.out, decide_eq_true Hrs.out]; rfl) | (rw [E.out]; rfl), B3⟩
  · have hrs' : s < r := by omega
    go_wp2
    go_ret
    exact ⟨by rw [decide_eq_false (by omega), Bool.false_and]; rfl, B1⟩
end Go.Proofs.YthnfaflhecfnfaaDoor
