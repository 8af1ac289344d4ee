/- The walk of FieldLines. -/
import Derived.Test.YthnfaflhecfnfaaFdSb
import Derived.Test.YthnfaflhecfnfaaFdArgs
import Derived.ProofKit
import Derived.OpenShut
import Derived.IntWalk
namespace Go.Proofs.Ythnfaflhecfnfaa.fieldLines
open Go.RowKit
set_option linter.unusedVariables false

theorem Ro.lit3 {w : World} {z : Nat} (a b c : Int) (hz : w.heap.size = z) : Ro (w.alloc (.cells #[.int .i64 a, .int .i64 b, .int .i64 c] 3)) (.slice (some ⟨z, 0, none⟩) 3 3) [a, b, c] := by
  subst hz
  refine ⟨_, 3, rfl, Nat.le_refl _, by omega, fun _ => ⟨_, rfl, by simp, fun i d hd => ?_⟩⟩
  rw [Addr.add_lit, Nat.zero_add]
  match i, hd with
  | 0, hd => simp at hd; subst hd; simp
  | 1, hd => simp at hd; subst hd; simp
  | 2, hd => simp at hd; subst hd; simp

theorem good3 : Fd.Good 3 1 [0, 1, 0] [0, 0, 0] := by
  refine ⟨by decide, by decide, by decide, by decide, rfl, rfl, fun i g o hg ho => ?_⟩
  match i, hg, ho with
  | 0, hg, ho => simp at hg ho; omega
  | 1, hg, ho => simp at hg ho; omega
  | 2, hg, ho => simp at hg ho; omega

theorem one_02 (v : Value) (w : World) (h : Fl w v 3 1 [0, 1, 0] [0, 0, 0]) :
    Calls Try.prog 8 #[v, .int .i64 0, .int .i64 2, .int .i64 5] w fun e w' => e = .returned (.tuple #[.bool false, .nilIface]) ∧ Below w.heap.size w w' := by
  refine (Sees_ok v 3 1 [0, 1, 0] [0, 0, 0] 0 2 5 w h good3 (by decide) (by decide) (by decide) (by decide)).mono ?_
  rintro e w' ⟨r, hr, rfl, hb⟩
  have e : (Fd.line 3 0 2).any (Fd.hide [0, 1, 0] ((0 : Nat) : Int) ((2 : Nat) : Int)) = true := by decide
  exact ⟨by rw [e]; simp, hb⟩
theorem one_01 (v : Value) (w : World) (h : Fl w v 3 1 [0, 1, 0] [0, 0, 0]) :
    Calls Try.prog 8 #[v, .int .i64 0, .int .i64 1, .int .i64 5] w fun e w' => e = .returned (.tuple #[.bool true, .nilIface]) ∧ Below w.heap.size w w' := by
  refine (Sees_ok v 3 1 [0, 1, 0] [0, 0, 0] 0 1 5 w h good3 (by decide) (by decide) (by decide) (by decide)).mono ?_
  rintro e w' ⟨r, hr, rfl, hb⟩
  have e : (Fd.line 3 0 1).any (Fd.hide [0, 1, 0] ((0 : Nat) : Int) ((1 : Nat) : Int)) = false := by decide
  have e2 : r ≤ 5 := by
    have := Ma.le_of_sq r 5 (by decide) (by have := hr.2.1; simp at this; omega)
    exact this
  exact ⟨by rw [e, decide_eq_true e2]; rfl, hb⟩

set_option maxRecDepth 100000 in
set_option maxHeartbeats 4000000 in
theorem walk_any (v : Value) (W H : Int) (gs os : List Int) (a b s m : Int) (w : World) (hf : Fl w v W H gs os) :
    Calls Try.prog 4 #[v, .int .i64 a, .int .i64 b, .int .i64 s, .int .i64 m] w fun e w' => e = .returned (.bool true) ∧ Below w.heap.size w w' := by
  have F0 : Hid (Fl w v W H gs os) := hf
  obtain ⟨u1, u2, rfl, ⟨a1, c, rfl, c1, c2, -⟩, ⟨b1, d, rfl, d1, d2, -⟩⟩ := hf
  go_enter Try.func4, Try.ntmps4
  go_wp2_with fail
  have b0 : Below w.heap.size w ((w.alloc (Obj.cells #[Value.int IntKind.i64 W, Value.int IntKind.i64 H, Value.slice a1 gs.length c, Value.slice b1 os.length d] 24)).alloc (Obj.cells #[Value.int IntKind.i64 0, Value.int IntKind.i64 1, Value.int IntKind.i64 0] 3)) := ((Below.refl _ _).alloc (Nat.le_refl _) _).alloc (by simp) _
  have X0 := Bf.mk' (w := w) W H (Value.slice a1 gs.length c) (Value.slice b1 os.length d) rfl
  have l0 := Ro.lit3 (w := w.alloc (Obj.cells #[Value.int IntKind.i64 W, Value.int IntKind.i64 H, Value.slice a1 gs.length c, Value.slice b1 os.length d] 24)) (z := w.heap.size + 1) 0 1 0 (by simp)
  have z0 : ((w.alloc (Obj.cells #[Value.int IntKind.i64 W, Value.int IntKind.i64 H, Value.slice a1 gs.length c, Value.slice b1 os.length d] 24)).alloc (Obj.cells #[Value.int IntKind.i64 0, Value.int IntKind.i64 1, Value.int IntKind.i64 0] 3)).heap.size = w.heap.size + 1 + 1 := by simp
  have X1 := X0.below ((Below.refl _ _).alloc (Nat.le_refl _) (Obj.cells #[Value.int IntKind.i64 0, Value.int IntKind.i64 1, Value.int IntKind.i64 0] 3)) X0.lt
  generalize (w.alloc (Obj.cells #[Value.int IntKind.i64 W, Value.int IntKind.i64 H, Value.slice a1 gs.length c, Value.slice b1 os.length d] 24)).alloc (Obj.cells #[Value.int IntKind.i64 0, Value.int IntKind.i64 1, Value.int IntKind.i64 0] 3) = w0 at *
  have k1 := (Below.refl w0.heap.size w0).alloc (Nat.le_refl _) (Obj.cells #[Value.int IntKind.i64 0, Value.int IntKind.i64 0, Value.int IntKind.i64 0] 3)
  have l1 := Ro.lit3 (w := w0) (z := w.heap.size + 1 + 1) 0 0 0 z0
  have z1 : (w0.alloc (Obj.cells #[Value.int IntKind.i64 0, Value.int IntKind.i64 0, Value.int IntKind.i64 0] 3)).heap.size = w.heap.size + 1 + 1 + 1 := by simp [z0]
  have l2 := l0.below k1
  have X2 := X1.below k1 X1.lt
  have b1' := b0.trans (k1.mono b0.size)
  clear b0 X0 l0 z0 X1 k1
  generalize w0.alloc (Obj.cells #[Value.int IntKind.i64 0, Value.int IntKind.i64 0, Value.int IntKind.i64 0] 3) = w1 at *
  have k2 := (Below.refl w1.heap.size w1).alloc (Nat.le_refl _) (Obj.cells #[Value.int IntKind.i64 3, Value.int IntKind.i64 1, Value.slice (some { block := w.heap.size + 1, off := 0 }) 3 3, Value.slice (some { block := w.heap.size + 1 + 1, off := 0 }) 3 3] 24)
  have B2 : Hid _ := b1'.trans (k2.mono b1'.size)
  have Fo : Hid (Fl _ (.agg #[Value.int IntKind.i64 3, Value.int IntKind.i64 1, Value.slice (some { block := w.heap.size + 1, off := 0 }) 3 3, Value.slice (some { block := w.heap.size + 1 + 1, off := 0 }) 3 3]) 3 1 [0, 1, 0] [0, 0, 0]) := ⟨_, _, rfl, l2.below k2, l1.below k2⟩
  have X3 : Hid _ := X2.below k2 X2.lt
  have Y3 : Hid _ := Bf.mk' (w := w1) 3 1 (Value.slice (some { block := w.heap.size + 1, off := 0 }) 3 3) (Value.slice (some { block := w.heap.size + 1 + 1, off := 0 }) 3 3) z1
  have Zx : Hid (w.heap.size + 1 + 1 + 1 < (w1.alloc (Obj.cells #[Value.int IntKind.i64 3, Value.int IntKind.i64 1, Value.slice (some { block := w.heap.size + 1, off := 0 }) 3 3, Value.slice (some { block := w.heap.size + 1 + 1, off := 0 }) 3 3] 24)).heap.size) := by unfold Hid; simp; omega
  clear b1' l1 l2 z1 X2 k2
  generalize w1.alloc (Obj.cells #[Value.int IntKind.i64 3, Value.int IntKind.i64 1, Value.slice (some { block := w.heap.size + 1, off := 0 }) 3 3, Value.slice (some { block := w.heap.size + 1 + 1, off := 0 }) 3 3] 24) = w2 at *
  refine (one_02 _ _ Fo.out).mono ?_
  rintro e w3 ⟨rfl, k3⟩
  have B3 : Hid _ := B2.out.trans (k3.mono B2.out.size)
  have X4 : Hid _ := X3.out.below k3 X3.out.lt
  have Y4 : Hid _ := Y3.out.below k3 Y3.out.lt
  have Fo4 : Hid _ := Fo.out.below k3
  clear k3 B2 X3 Y3 Fo Zx
  obtain ⟨y0, y1, y2, y3⟩ := Y4.out
  go_wp2_with fail
  refine (one_01 _ _ Fo4.out).mono ?_
  rintro e w4 ⟨rfl, k4⟩
  have B4 : Hid _ := B3.out.trans (k4.mono B3.out.size)
  have X5 : Hid _ := X4.out.below k4 X4.out.lt
  have F4 : Hid (Fl w4 (.agg #[Value.int IntKind.i64 W, Value.int IntKind.i64 H, Value.slice a1 gs.length c, Value.slice b1 os.length d]) W H gs os) := F0.out.below B4.out
  clear k4 B3 X4 Y4 Fo4 y0 y1 y2 y3 F0
  obtain ⟨x0, x1, x2, x3⟩ := X5.out
  by_cases hF : Fd.askFault (Fd.fault W H gs os) gs.length [a, b] = 0
  · obtain ⟨hF0, ha0, ha1, hb0, hb1⟩ := ask2_zero hF
    obtain ⟨W', H', rfl, rfl, G⟩ := Fd.fault_zero hF0
    obtain ⟨a', rfl⟩ : ∃ a' : Nat, a = a' := ⟨a.toNat, by omega⟩
    obtain ⟨b', rfl⟩ : ∃ b' : Nat, b = b' := ⟨b.toNat, by omega⟩
    have gl := G.gl
    have HA : Hid (a' < W' * H') := by unfold Hid; omega
    have HB : Hid (b' < W' * H') := by unfold Hid; omega
    have HG : Hid (Fd.Good W' H' gs os) := G
    have W1 : 0 < W' := G.w1
    have W2 : W' ≤ 12 := G.w2
    have hm := G.pos.2
    have A1 : a' ≤ 144 := by have := HA.out; omega
    have B1 : b' ≤ 144 := by have := HB.out; omega
    clear hF hF0 ha0 ha1 hb0 hb1 gl G
    go_wp2_with fail
    refine (Line_ok _ W' H' gs os a' b' _ F4.out HG.out HA.out HB.out).mono ?_
    rintro e w5 ⟨u, rfl, hr, k5⟩
    have B5 : Hid _ := B4.out.trans (k5.mono B4.out.size)
    have X6 : Hid _ := X5.out.below k5 X5.out.lt
    have F5 : Hid (Fl w5 (.agg #[Value.int IntKind.i64 W', Value.int IntKind.i64 H', Value.slice a1 gs.length c, Value.slice b1 os.length d]) W' H' gs os) := F4.out.below k5
    clear k5 B4 X5 F4 x0 x1 x2 x3
    obtain ⟨xa, cu, rfl, cu1, cu2, hc⟩ := hr
    obtain ⟨x, rfl, -, hx⟩ := hc (by intro e; have := Fd.line_len W' a' b'; rw [e] at this; simp at this)
    have hl := Fd.line_len W' a' b'
    have hs := Fd.span_le W1 W2 HG.out.h2 HA.out HB.out
    have g0 : w5.cell? x = some (.int .i64 (a' : Nat)) := by
      have := hx 0 a' (by
        rw [Fd.line_get (Nat.zero_le _)]
        split
        · rfl
        · rw [Fd.spot_zero (by omega)])
      exact this
    have g1 : w5.cell? (x.add (Fd.span W' a' b')) = some (.int .i64 (b' : Nat)) := hx _ b' (by
        rw [Fd.line_get (Nat.le_refl _)]
        split
        · rename_i h0
          rw [Fd.span_zero h0]
        · rw [Fd.spot_end (by omega)])
    have St : Hid (∀ j : Nat, j < Fd.span W' a' b' → ∃ p q : Nat, w5.cell? (x.add j) = some (.int .i64 (p : Nat)) ∧ w5.cell? (x.add (j + 1)) = some (.int .i64 (q : Nat)) ∧ p ≤ 144 ∧ q ≤ 144 ∧ -1 ≤ ((q % W' : Nat) : Int) - (p % W' : Nat) ∧ ((q % W' : Nat) : Int) - (p % W' : Nat) ≤ 1 ∧ -1 ≤ ((q / W' : Nat) : Int) - (p / W' : Nat) ∧ ((q / W' : Nat) : Int) - (p / W' : Nat) ≤ 1 ∧
        ¬ (((q % W' : Nat) : Int) - (p % W' : Nat) = 0 ∧ ((q / W' : Nat) : Int) - (p / W' : Nat) = 0)) := by
      intro j hj
      obtain ⟨p, q, e1, e2, l1, l2, r1⟩ := Fd.spot_step W1 HA.out HB.out (show 0 < Fd.span W' a' b' by omega) (show j + 1 ≤ Fd.span W' a' b' by omega)
      refine ⟨p, q, hx j p ?_, hx (j + 1) q ?_, by omega, by omega, r1⟩
      · rw [Fd.line_get (by omega), if_neg (by omega), e1]
      · rw [Fd.line_get (by omega), if_neg (by omega), e2]
    rw [hl]
    generalize Fd.span W' a' b' = n at *
    clear hx hc hl cu2
    have hl0 : ((n : Int) + 1 == 0) = false := by rw [beq_eq_false_iff_ne]; omega
    go_wp2_with fail
    clear g0 g1 hl0
    go_loopw [18] (fun i W => ∃ (j q : Nat), 1 ≤ j ∧ j ≤ n + 1 ∧ i = .int .i64 (j : Nat) ∧ W = w5.drewN q) (fun i _ => n + 1 - (intOf i).toNat)
    case atStart => exact ⟨1, 0, Nat.le_refl _, by omega, rfl, rfl⟩
    case round =>
      obtain ⟨j, q, hj1, hj2, rfl, hq⟩ := hrel
      have kq : Below w5.heap.size w5 wr := by rw [hq]; exact below_drewN (Below.refl _ _) _
      have B6 : Hid (Below w.heap.size w wr) := B5.out.trans (kq.mono B5.out.size)
      have X7 : Hid (Bf wr w.heap.size W' H' (Value.slice a1 gs.length c) (Value.slice b1 os.length d)) := X6.out.below kq X6.out.lt
      have F6 : Hid (Fl wr (.agg #[Value.int IntKind.i64 W', Value.int IntKind.i64 H', Value.slice a1 gs.length c, Value.slice b1 os.length d]) W' H' gs os) := F5.out.below kq
      have Q : Hid (wr = w5.drewN q) := hq
      clear kq hq
      obtain ⟨x0, x1, x2, x3⟩ := X7.out
      by_cases h0 : j = n + 1
      · subst h0
        by_cases hs0 : 0 ≤ s ∧ s ≤ 1000000
        · obtain ⟨s0, s1⟩ := hs0
          go_wp2_with fail
          refine (Sees_ok _ W' H' gs os a' b' s _ F6.out HG.out HA.out HB.out s0 s1).mono ?_
          rintro e w7 ⟨r, hr, rfl, k7⟩
          have B7 : Hid _ := B6.out.trans (k7.mono B6.out.size)
          have X8 : Hid (Bf w7 w.heap.size W' H' (Value.slice a1 gs.length c) (Value.slice b1 os.length d)) := X7.out.below k7 X7.out.lt
          have F7 : Hid (Fl w7 (.agg #[Value.int IntKind.i64 W', Value.int IntKind.i64 H', Value.slice a1 gs.length c, Value.slice b1 os.length d]) W' H' gs os) := F6.out.below k7
          have R : Hid (Ma.Sq r _) := hr
          clear k7 hr x0 x1 x2 x3
          obtain ⟨x0, x1, x2, x3⟩ := X8.out
          generalize hhd : List.any (Fd.line W' a' b') (Fd.hide gs a' b') = hd
          have Hhd : Hid (List.any (Fd.line W' a' b') (Fd.hide gs a' b') = hd) := hhd
          clear hhd
          by_cases hm0 : 0 ≤ m ∧ m ≤ 1000000
          · obtain ⟨m0, m1⟩ := hm0
            go_wp2_with fail
            refine (Sees_ok _ W' H' gs os a' b' m _ F7.out HG.out HA.out HB.out m0 m1).mono ?_
            rintro e w8 ⟨r', hr, rfl, k8⟩
            have B8 : Hid _ := B7.out.trans (k8.mono B7.out.size)
            obtain rfl := Ma.sq_uniq _ _ _ R.out hr
            rw [Hhd.out]
            clear k8 hr R Hhd
            by_cases h1 : m < s
            · go_wp2
              go_ret
              exact ⟨rfl, B8⟩
            · cases hd
              · by_cases h2 : r ≤ s
                · have h3 : r ≤ m := by omega
                  rw [decide_eq_true h2, decide_eq_true h3]
                  go_wp2
                  go_ret
                  exact ⟨rfl, B8⟩
                · rw [decide_eq_false h2]
                  go_wp2
                  go_ret
                  exact ⟨rfl, B8⟩
              · rw [Bool.not_true, Bool.and_false, Bool.and_false]
                go_wp2
                go_ret
                exact ⟨rfl, B8⟩
          · have hm1 : m < 0 ∨ 1000000 < m := by omega
            clear hm0
            go_wp2_with fail
            refine (Sees_range _ W' H' gs os a' b' m _ F7.out HG.out HA.out HB.out hm1).mono ?_
            rintro e w8 ⟨rfl, k8⟩
            have B8 : Hid _ := B7.out.trans (k8.mono B7.out.size)
            clear k8
            go_wp2
            go_ret
            exact ⟨rfl, B8⟩
        · have hs1 : s < 0 ∨ 1000000 < s := by omega
          clear hs0
          go_wp2_with fail
          refine (Sees_range _ W' H' gs os a' b' s _ F6.out HG.out HA.out HB.out hs1).mono ?_
          rintro e w7 ⟨rfl, k7⟩
          have B7 : Hid _ := B6.out.trans (k7.mono B6.out.size)
          have X8 : Hid (Bf w7 w.heap.size W' H' (Value.slice a1 gs.length c) (Value.slice b1 os.length d)) := X7.out.below k7 X7.out.lt
          have F7 : Hid (Fl w7 (.agg #[Value.int IntKind.i64 W', Value.int IntKind.i64 H', Value.slice a1 gs.length c, Value.slice b1 os.length d]) W' H' gs os) := F6.out.below k7
          clear k7 x0 x1 x2 x3
          obtain ⟨x0, x1, x2, x3⟩ := X8.out
          by_cases hm0 : 0 ≤ m ∧ m ≤ 1000000
          · obtain ⟨m0, m1⟩ := hm0
            go_wp2_with fail
            refine (Sees_ok _ W' H' gs os a' b' m _ F7.out HG.out HA.out HB.out m0 m1).mono ?_
            rintro e w8 ⟨r', hr, rfl, k8⟩
            have B8 : Hid _ := B7.out.trans (k8.mono B7.out.size)
            clear k8 hr
            go_wp2
            go_ret
            exact ⟨rfl, B8⟩
          · have hm1 : m < 0 ∨ 1000000 < m := by omega
            clear hm0
            go_wp2_with fail
            refine (Sees_range _ W' H' gs os a' b' m _ F7.out HG.out HA.out HB.out hm1).mono ?_
            rintro e w8 ⟨rfl, k8⟩
            have B8 : Hid _ := B7.out.trans (k8.mono B7.out.size)
            clear k8
            go_wp2
            go_ret
            exact ⟨rfl, B8⟩
      · obtain ⟨k, hjk⟩ : ∃ k, j = k + 1 := ⟨j - 1, by omega⟩
        have hkn : k < n := by omega
        have hjn : j < n + 1 := by omega
        have ej : (j : Int) - 1 = (k : Nat) := by omega
        obtain ⟨p, t, cp, ct, p1, t1, r1, r2, r3, r4, r5⟩ := St.out k hkn
        have cp' : wr.cell? (x.add k) = some (.int .i64 (p : Nat)) := by rw [Q.out]; exact cp
        have ct' : wr.cell? (x.add j) = some (.int .i64 (t : Nat)) := by rw [Q.out, hjk]; exact ct
        clear hjk
        have e1 : (p : Int) % (W' : Int) = (p % W' : Nat) := rfl
        have e2 : (p : Int) / (W' : Int) = (p / W' : Nat) := rfl
        have e3 : (t : Int) % (W' : Int) = (t % W' : Nat) := rfl
        have e4 : (t : Int) / (W' : Int) = (t / W' : Nat) := rfl
        have l1 : p / W' ≤ 144 := Nat.le_trans (Nat.div_le_self _ _) p1
        have l2 : t / W' ≤ 144 := Nat.le_trans (Nat.div_le_self _ _) t1
        have l3 : p % W' ≤ 144 := Nat.le_trans (Nat.mod_le _ _) p1
        have l4 : t % W' ≤ 144 := Nat.le_trans (Nat.mod_le _ _) t1
        generalize p % W' = pc at *
        generalize p / W' = pr at *
        generalize t % W' = tc at *
        generalize t / W' = tr at *
        have hw : ¬ (W' : Int) = 0 := by omega
        clear cp ct
        obtain ⟨dc, hdc⟩ : ∃ dc : Int, (tc : Int) - pc = dc := ⟨_, rfl⟩
        obtain ⟨dr, hdr⟩ : ∃ dr : Int, (tr : Int) - pr = dr := ⟨_, rfl⟩
        rw [hdc] at r1 r2 r5
        rw [hdr] at r3 r4 r5
        by_cases h5 : dc = 0
        · subst h5
          have h6 : ¬ dr = 0 := fun h => r5 ⟨rfl, h⟩
          have h7 : (dr == 0) = false := by rw [beq_eq_false_iff_ne]; exact h6
          clear r5
          go_wp2
          go_quiet (fail)
          go_wp2
          go_quiet (fail)
          go_wp2
          go_roundw
          case rel => exact ⟨j + 1, _, by omega, by omega, by go_num, by rw [Q.out]; simp only [World.drewN_drewN]; rfl⟩
          case measure => simp [intOf]; omega
        · clear r5
          have h7 : (dc == 0) = false := by rw [beq_eq_false_iff_ne]; exact h5
          go_wp2
          go_quiet (fail)
          go_wp2
          go_quiet (fail)
          go_wp2
          go_roundw
          case rel => exact ⟨j + 1, _, by omega, by omega, by go_num, by rw [Q.out]; simp only [World.drewN_drewN]; rfl⟩
          case measure => simp [intOf]; omega
  · have HF : Hid (Fd.askFault (Fd.fault W H gs os) gs.length [a, b] ≠ 0) := hF
    clear hF
    go_wp2_with fail
    refine (Line_bad _ W H gs os a b _ _ F4.out rfl HF.out).mono ?_
    rintro e w5 ⟨rfl, k5⟩
    have B5 : Hid _ := B4.out.trans (k5.mono B4.out.size)
    clear k5
    go_wp2
    go_ret
    exact ⟨rfl, B5⟩
theorem walk (v0 : Value) (W0 H0 : Int) (gs0 os0 : List Int) (a1 a2 a3 a4 : Int) (w : World) (f0 : Fl w v0 W0 H0 gs0 os0) (_ : (Lit.int .i64 a1).wf = true) (_ : (Lit.int .i64 a2).wf = true) (_ : (Lit.int .i64 a3).wf = true) (_ : (Lit.int .i64 a4).wf = true) :
    Calls Try.prog 4 #[v0, .int .i64 a1, .int .i64 a2, .int .i64 a3, .int .i64 a4] w fun e w' => e = .returned (.bool true) ∧ Below w.heap.size w w' := walk_any v0 W0 H0 gs0 os0 a1 a2 a3 a4 w f0
end Go.Proofs.Ythnfaflhecfnfaa.fieldLines
