/- The walk of FieldSees. -/
import Derived.Test.YthnfaflhecfnfaaDoorRfA
import Derived.Test.YthnfaflhecfnfaaDoorRfS
import Derived.Test.YthnfaflhecfnfaaDoorInts
import Derived.Test.YthnfaflhecfnfaaDoorTold
import Derived.Test.YthnfaflhecfnfaaDoorFdArgs
import Derived.ProofKit
import Derived.OpenShut
import Derived.IntWalk
namespace Go.Proofs.YthnfaflhecfnfaaDoor.fieldSees
open Go.RowKit
set_option linter.unusedVariables false

theorem ask2 (F : Int) (n : Nat) (a b : Int) : Fd.askFault F n [a, b] = if Fd.askFault F n [a] ≠ 0 then Fd.askFault F n [a] else Fd.askFault F n [b] := by
  unfold Fd.askFault
  by_cases h : F ≠ 0
  · simp [h]
  · simp only [h, if_false]
    by_cases ha : 0 ≤ a ∧ a < n
    · by_cases hb : 0 ≤ b ∧ b < n
      · simp [ha, hb]
      · simp [ha]
    · simp [ha]

theorem ro_nil (w : World) : Ro w (.slice none 0 0) [] := ⟨none, 0, rfl, Nat.le_refl _, by omega, fun h => absurd rfl h⟩

set_option maxRecDepth 100000 in
set_option maxHeartbeats 4000000 in
theorem walk_any (v : Value) (W H : Int) (gs os : List Int) (a b s : Int) (w : World) (hf : Fl w v W H gs os) (hg : Et w) :
    Calls Tryd.prog 5 #[v, .int .i64 a, .int .i64 b, .int .i64 s] w fun e w' => e = .returned (.bool true) ∧ Below w.heap.size w w' := by
  have F0 : Hid (Fl w v W H gs os) := hf
  have G0 : Hid (Et w) := hg
  obtain ⟨u1, u2, rfl, ⟨a1, c, rfl, c1, c2, -⟩, ⟨b1, d, rfl, d1, d2, -⟩⟩ := hf
  clear hg
  have E2 : Hid (Fd.askFault (Fd.fault W H gs os) gs.length [a, b] = if Fd.askFault (Fd.fault W H gs os) gs.length [a] ≠ 0 then Fd.askFault (Fd.fault W H gs os) gs.length [a] else Fd.askFault (Fd.fault W H gs os) gs.length [b]) := ask2 _ _ _ _
  go_enter Tryd.func5, Tryd.ntmps5
  go_wp2_with fail
  have X0 : Hid (Bf _ w.heap.size W H (Value.slice a1 gs.length c) (Value.slice b1 os.length d)) := Bf.mk' (w := w) W H (Value.slice a1 gs.length c) (Value.slice b1 os.length d) rfl
  have B0 : Hid (Below w.heap.size w (w.alloc (Obj.cells #[Value.int IntKind.i64 W, Value.int IntKind.i64 H, Value.slice a1 gs.length c, Value.slice b1 os.length d] 24))) := (Below.refl _ _).alloc (Nat.le_refl _) _
  generalize w.alloc (Obj.cells #[Value.int IntKind.i64 W, Value.int IntKind.i64 H, Value.slice a1 gs.length c, Value.slice b1 os.length d] 24) = w0 at *
  refine (ref_cell _ W H gs os a _ (F0.out.below B0.out)).mono ?_
  rintro e w1 ⟨rfl, k1⟩
  have B1 : Hid (Below w.heap.size w w1) := B0.out.trans (k1.mono B0.out.size)
  have X1 : Hid (Bf w1 w.heap.size W H (Value.slice a1 gs.length c) (Value.slice b1 os.length d)) := X0.out.below k1 X0.out.lt
  clear k1 B0 X0
  obtain ⟨x0, x1, x2, x3⟩ := X1.out
  by_cases hA : Fd.askFault (Fd.fault W H gs os) gs.length [a] = 0
  · have HA : Hid (Fd.askFault (Fd.fault W H gs os) gs.length [a] = 0) := hA
    rw [hA]
    clear hA
    go_wp2_with fail
    refine (ref_cell _ W H gs os b _ (F0.out.below B1.out)).mono ?_
    rintro e w2 ⟨rfl, k2⟩
    have B2 : Hid (Below w.heap.size w w2) := B1.out.trans (k2.mono B1.out.size)
    have X2 : Hid (Bf w2 w.heap.size W H (Value.slice a1 gs.length c) (Value.slice b1 os.length d)) := X1.out.below k2 X1.out.lt
    clear k2 B1 X1 x0 x1 x2 x3
    obtain ⟨x0, x1, x2, x3⟩ := X2.out
    by_cases hB : Fd.askFault (Fd.fault W H gs os) gs.length [b] = 0
    · have HE : Fd.askFault (Fd.fault W H gs os) gs.length [a, b] = 0 := by rw [E2.out, HA.out, if_neg (by decide), hB]
      rw [hB]
      clear hB HA E2
      obtain ⟨hF0, ha0, ha1, hb0, hb1⟩ := ask2_zero HE
      obtain ⟨W', H', rfl, rfl, G⟩ := Fd.fault_zero hF0
      obtain ⟨a', rfl⟩ : ∃ a' : Nat, a = a' := ⟨a.toNat, by omega⟩
      obtain ⟨b', rfl⟩ : ∃ b' : Nat, b = b' := ⟨b.toNat, by omega⟩
      have gl := G.gl
      have HA : Hid (a' < W' * H') := by unfold Hid; omega
      have HB : Hid (b' < W' * H') := by unfold Hid; omega
      have HG : Hid (Fd.Good W' H' gs os) := G
      have F2 : Hid (∀ w', Below w.heap.size w w' → Fl w' (.agg #[Value.int IntKind.i64 W', Value.int IntKind.i64 H', Value.slice a1 gs.length c, Value.slice b1 os.length d]) W' H' gs os) := fun w' h => F0.out.below h
      have hs2 : Fd.span W' a' b' ≤ 11 := Fd.span_le G.w1 G.w2 G.h2 HA.out HB.out
      clear HE hF0 ha0 ha1 hb0 hb1 gl G F0
      go_wp2_with fail
      refine (ref_line _ W' H' gs os a' b' _ (F2.out _ B2.out) HG.out.w1 HG.out.w2 HG.out.h2 HA.out HB.out).mono ?_
      rintro e w3 ⟨l1, rfl, hl1, k3⟩
      have B3 : Hid (Below w.heap.size w w3) := B2.out.trans (k3.mono B2.out.size)
      have X3 : Hid (Bf w3 w.heap.size W' H' (Value.slice a1 gs.length c) (Value.slice b1 os.length d)) := X2.out.below k3 X2.out.lt
      have L3 : Hid (Ro w3 l1 (Fd.line W' a' b')) := hl1
      clear k3 B2 X2 x0 x1 x2 x3 hl1
      obtain ⟨x0, x1, x2, x3⟩ := X3.out
      go_wp2_with fail
      refine (Line_ok _ W' H' gs os a' b' _ (F2.out _ B3.out) HG.out HA.out HB.out).mono ?_
      rintro e w4 ⟨l2, rfl, hl2, k4⟩
      have B4 : Hid (Below w.heap.size w w4) := B3.out.trans (k4.mono B3.out.size)
      have X4 : Hid (Bf w4 w.heap.size W' H' (Value.slice a1 gs.length c) (Value.slice b1 os.length d)) := X3.out.below k4 X3.out.lt
      have L4 : Hid (Ro w4 l1 (Fd.line W' a' b')) := L3.out.below k4
      have M4 : Hid (Ro w4 l2 (Fd.line W' a' b')) := hl2
      clear k4 B3 X3 x0 x1 x2 x3 hl2 L3
      go_wp2_with fail
      refine (same_nil _ _).mono ?_
      rintro e w5 ⟨rfl, rfl⟩
      go_wp2_with fail
      refine (ints_any _ _ _ _ _ M4.out L4.out).mono ?_
      rintro e w6 ⟨rfl, q6, hq6⟩
      have k6 : Below w5.heap.size w5 w6 := by rw [hq6]; exact below_drewN (Below.refl _ _) _
      have B6 : Hid (Below w.heap.size w w6) := B4.out.trans (k6.mono B4.out.size)
      have X6 : Hid (Bf w6 w.heap.size W' H' (Value.slice a1 gs.length c) (Value.slice b1 os.length d)) := X4.out.below k6 X4.out.lt
      rw [decide_eq_true rfl]
      clear k6 hq6 B4 X4 L4 M4
      obtain ⟨x0, x1, x2, x3⟩ := X6.out
      obtain ⟨r, hr⟩ := sq_ex ((((a' % W' : Nat) : Int) - (b' % W' : Nat)) * (((a' % W' : Nat) : Int) - (b' % W' : Nat)) + (((a' / W' : Nat) : Int) - (b' / W' : Nat)) * (((a' / W' : Nat) : Int) - (b' / W' : Nat))).toNat
      have HR : Hid (Ma.Sq r ((((a' % W' : Nat) : Int) - (b' % W' : Nat)) * (((a' % W' : Nat) : Int) - (b' % W' : Nat)) + (((a' / W' : Nat) : Int) - (b' / W' : Nat)) * (((a' / W' : Nat) : Int) - (b' / W' : Nat)))) := by
        rw [Int.toNat_of_nonneg] at hr
        · exact hr
        · have g1 : ∀ z : Int, 0 ≤ z * z := fun z => by
            rcases Int.le_total 0 z with h | h
            · exact Int.mul_nonneg h h
            · rw [← Int.neg_mul_neg]; exact Int.mul_nonneg (by omega) (by omega)
          have := g1 (((a' % W' : Nat) : Int) - (b' % W' : Nat))
          have := g1 (((a' / W' : Nat) : Int) - (b' / W' : Nat))
          omega
      clear hr
      by_cases hs0 : 0 ≤ s ∧ s ≤ 1000000
      · obtain ⟨s0, s1⟩ := hs0
        go_wp2_with fail
        refine (ref_sees _ W' H' gs os a' b' s r _ (F2.out _ B6.out) HG.out HA.out HB.out HR.out).mono ?_
        rintro e w7 ⟨rfl, k7⟩
        have B7 : Hid (Below w.heap.size w w7) := B6.out.trans (k7.mono B6.out.size)
        have X7 : Hid (Bf w7 w.heap.size W' H' (Value.slice a1 gs.length c) (Value.slice b1 os.length d)) := X6.out.below k7 X6.out.lt
        clear k7 B6 X6 x0 x1 x2 x3
        obtain ⟨x0, x1, x2, x3⟩ := X7.out
        generalize hy : (decide (r ≤ s) && !(Fd.line W' a' b').any (Fd.hide gs a' b')) = y
        have Y : Hid ((decide (r ≤ s) && !(Fd.line W' a' b').any (Fd.hide gs a' b')) = y) := hy
        clear hy
        go_wp2_with fail
        refine (Sees_ok _ W' H' gs os a' b' s _ (F2.out _ B7.out) HG.out HA.out HB.out s0 s1).mono ?_
        rintro e w8 ⟨r', hr', rfl, k8⟩
        obtain rfl := Ma.sq_uniq _ _ _ HR.out hr'
        rw [Y.out]
        have B8 : Hid (Below w.heap.size w w8) := B7.out.trans (k8.mono B7.out.size)
        clear k8 hr' HR Y B7 X7 x0 x1 x2 x3
        go_wp2_with fail
        refine (same_nil _ _).mono ?_
        rintro e w9 ⟨rfl, rfl⟩
        cases y
        · go_wp2
          go_ret
          exact ⟨rfl, B8⟩
        · go_wp2
          go_ret
          exact ⟨rfl, B8⟩
      · have hs1 : s < 0 ∨ 1000000 < s := by omega
        have HS : Hid (s < 0 ∨ 1000000 < s) := hs1
        clear hs0
        have done : Hid True := trivial
        rcases hs1 with q | q
        all_goals
          go_wp2_with fail
          refine (Sees_range _ W' H' gs os a' b' s _ (F2.out _ B6.out) HG.out HA.out HB.out HS.out).mono ?_
          rintro e w8 ⟨rfl, k8⟩
          have B8 : Hid (Below w.heap.size w w8) := B6.out.trans (k8.mono B6.out.size)
          have G8 : Hid (Et w8) := G0.out.below B8.out
          clear k8
          go_wp2_with fail
          refine (same_hit 1 1 _ G8.out).mono ?_
          rintro e w9 ⟨rfl, k9⟩
          have B9 : Hid (Below w.heap.size w w9) := B8.out.trans (k9.mono B8.out.size)
          clear k9
          go_wp2
          go_ret
          exact ⟨rfl, B9⟩
    · have HE : Hid (Fd.askFault (Fd.fault W H gs os) gs.length [a, b] = Fd.askFault (Fd.fault W H gs os) gs.length [b]) := by unfold Hid; rw [E2.out, HA.out, if_neg (by decide)]
      have HN : Hid (Fd.askFault (Fd.fault W H gs os) gs.length [b] ≠ 0) := hB
      generalize Fd.askFault (Fd.fault W H gs os) gs.length [b] = F at *
      have hn : ¬ F = 0 := HN.out
      have hnb : (F == 0) = false := by rw [beq_eq_false_iff_ne]; exact hn
      clear E2 HA hB
      go_wp2_with fail
      refine (Line_bad _ W H gs os a b F _ (F0.out.below B2.out) HE.out HN.out).mono ?_
      rintro e w4 ⟨rfl, k4⟩
      have B4 : Hid (Below w.heap.size w w4) := B2.out.trans (k4.mono B2.out.size)
      have X4 : Hid (Bf w4 w.heap.size W H (Value.slice a1 gs.length c) (Value.slice b1 os.length d)) := X2.out.below k4 X2.out.lt
      have G4 : Hid (Et w4) := G0.out.below B4.out
      clear k4 B2 X2 x0 x1 x2 x3
      go_wp2_with fail
      refine (same_hit F F _ G4.out).mono ?_
      rintro e w5 ⟨rfl, k5⟩
      have B5 : Hid (Below w.heap.size w w5) := B4.out.trans (k5.mono B4.out.size)
      have X5 : Hid (Bf w5 w.heap.size W H (Value.slice a1 gs.length c) (Value.slice b1 os.length d)) := X4.out.below k5 X4.out.lt
      rw [beq_self_eq_true]
      clear k5 B4 X4 G4
      go_wp2_with fail
      refine (ints_any _ _ [] [] _ (ro_nil _) (ro_nil _)).mono ?_
      rintro e w6 ⟨rfl, q6, hq6⟩
      have k6 : Below w5.heap.size w5 w6 := by rw [hq6]; exact below_drewN (Below.refl _ _) _
      have B6 : Hid (Below w.heap.size w w6) := B5.out.trans (k6.mono B5.out.size)
      have X6 : Hid (Bf w6 w.heap.size W H (Value.slice a1 gs.length c) (Value.slice b1 os.length d)) := X5.out.below k6 X5.out.lt
      rw [decide_eq_true rfl]
      clear k6 hq6 B5 X5
      obtain ⟨x0, x1, x2, x3⟩ := X6.out
      go_wp2_with fail
      refine (Sees_bad _ W H gs os a b s F _ (F0.out.below B6.out) HE.out HN.out).mono ?_
      rintro e w8 ⟨rfl, k8⟩
      have B8 : Hid (Below w.heap.size w w8) := B6.out.trans (k8.mono B6.out.size)
      have G8 : Hid (Et w8) := G0.out.below B8.out
      clear k8 B6 X6 x0 x1 x2 x3
      go_wp2_with fail
      refine (same_hit F F _ G8.out).mono ?_
      rintro e w9 ⟨rfl, k9⟩
      rw [beq_self_eq_true]
      have B9 : Hid (Below w.heap.size w w9) := B8.out.trans (k9.mono B8.out.size)
      clear k9
      go_wp2
      go_ret
      exact ⟨rfl, B9⟩
  · have HE : Hid (Fd.askFault (Fd.fault W H gs os) gs.length [a, b] = Fd.askFault (Fd.fault W H gs os) gs.length [a]) := by unfold Hid; rw [E2.out, if_pos hA]
    have HN : Hid (Fd.askFault (Fd.fault W H gs os) gs.length [a] ≠ 0) := hA
    generalize Fd.askFault (Fd.fault W H gs os) gs.length [a] = F at *
    have hn : ¬ F = 0 := HN.out
    have hnb : (F == 0) = false := by rw [beq_eq_false_iff_ne]; exact hn
    clear E2 hA
    go_wp2_with fail
    refine (Line_bad _ W H gs os a b F _ (F0.out.below B1.out) HE.out HN.out).mono ?_
    rintro e w4 ⟨rfl, k4⟩
    have B4 : Hid (Below w.heap.size w w4) := B1.out.trans (k4.mono B1.out.size)
    have X4 : Hid (Bf w4 w.heap.size W H (Value.slice a1 gs.length c) (Value.slice b1 os.length d)) := X1.out.below k4 X1.out.lt
    have G4 : Hid (Et w4) := G0.out.below B4.out
    clear k4 B1 X1 x0 x1 x2 x3
    go_wp2_with fail
    refine (same_hit F F _ G4.out).mono ?_
    rintro e w5 ⟨rfl, k5⟩
    have B5 : Hid (Below w.heap.size w w5) := B4.out.trans (k5.mono B4.out.size)
    have X5 : Hid (Bf w5 w.heap.size W H (Value.slice a1 gs.length c) (Value.slice b1 os.length d)) := X4.out.below k5 X4.out.lt
    rw [beq_self_eq_true]
    clear k5 B4 X4 G4
    go_wp2_with fail
    refine (ints_any _ _ [] [] _ (ro_nil _) (ro_nil _)).mono ?_
    rintro e w6 ⟨rfl, q6, hq6⟩
    have k6 : Below w5.heap.size w5 w6 := by rw [hq6]; exact below_drewN (Below.refl _ _) _
    have B6 : Hid (Below w.heap.size w w6) := B5.out.trans (k6.mono B5.out.size)
    have X6 : Hid (Bf w6 w.heap.size W H (Value.slice a1 gs.length c) (Value.slice b1 os.length d)) := X5.out.below k6 X5.out.lt
    rw [decide_eq_true rfl]
    clear k6 hq6 B5 X5
    obtain ⟨x0, x1, x2, x3⟩ := X6.out
    go_wp2_with fail
    refine (Sees_bad _ W H gs os a b s F _ (F0.out.below B6.out) HE.out HN.out).mono ?_
    rintro e w8 ⟨rfl, k8⟩
    have B8 : Hid (Below w.heap.size w w8) := B6.out.trans (k8.mono B6.out.size)
    have G8 : Hid (Et w8) := G0.out.below B8.out
    clear k8 B6 X6 x0 x1 x2 x3
    go_wp2_with fail
    refine (same_hit F F _ G8.out).mono ?_
    rintro e w9 ⟨rfl, k9⟩
    rw [beq_self_eq_true]
    have B9 : Hid (Below w.heap.size w w9) := B8.out.trans (k9.mono B8.out.size)
    clear k9
    go_wp2
    go_ret
    exact ⟨rfl, B9⟩

theorem walk (v0 : Value) (W0 H0 : Int) (gs0 os0 : List Int) (a1 a2 a3 : Int) (w : World) (f0 : Fl w v0 W0 H0 gs0 os0) (_ : (Lit.int .i64 a1).wf = true) (_ : (Lit.int .i64 a2).wf = true) (_ : (Lit.int .i64 a3).wf = true) (hg : Et w) :
    Calls Tryd.prog 5 #[v0, .int .i64 a1, .int .i64 a2, .int .i64 a3] w fun e w' => e = .returned (.bool true) ∧ Below w.heap.size w w' := walk_any v0 W0 H0 gs0 os0 a1 a2 a3 w f0 hg
end Go.Proofs.YthnfaflhecfnfaaDoor.fieldSees
