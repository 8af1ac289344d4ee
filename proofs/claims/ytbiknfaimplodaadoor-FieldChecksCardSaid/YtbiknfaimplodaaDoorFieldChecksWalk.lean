/- The walk of FieldChecks. -/
import Derived.Test.YtbiknfaimplodaaDoorRfA
import Derived.Test.YtbiknfaimplodaaDoorRfN
import Derived.Test.YtbiknfaimplodaaDoorRfW
import Derived.Test.YtbiknfaimplodaaDoorFdW
import Derived.Test.YtbiknfaimplodaaDoorFdN
import Derived.Test.YtbiknfaimplodaaDoorInts
import Derived.Test.YtbiknfaimplodaaDoorTold
import Derived.Test.YtbiknfaimplodaaDoorFdArgs
import Derived.Test.YtbiknfaimplodaaDoorFdLaid
import Derived.ProofKit
import Derived.OpenShut
import Derived.IntWalk
namespace Go.Proofs.YtbiknfaimplodaaDoor.fieldChecks
open Go.RowKit
set_option linter.unusedVariables false

theorem same_er (u : Value) (n : Int) (w : World) (h : Er u n) (hg : Et w) :
    Calls Tryd.prog 6 #[u, .int .i64 n] w fun e w' => e = .returned (.bool true) ∧ Below w.heap.size w w' := by
  rcases h with ⟨rfl, rfl⟩ | ⟨h0, rfl⟩
  · exact (same_nil 0 w).mono fun e w' ⟨h1, h2⟩ => ⟨h1, by rw [h2]; exact Below.refl _ _⟩
  · exact (same_hit n n w hg).mono fun e w' ⟨h1, h2⟩ => ⟨by rw [h1, beq_self_eq_true], h2⟩
theorem ints_same (u v : Value) (xs : List Int) (w : World) (hu : Ro w u xs) (hv : Ro w v xs) :
    Calls Tryd.prog 15 #[u, v] w fun e w' => e = .returned (.bool true) ∧ Below w.heap.size w w' :=
  (ints_any u v xs xs w hu hv).mono fun e w' ⟨h1, n, h2⟩ => ⟨by rw [h1, decide_eq_true rfl], by rw [h2]; exact below_drewN (Below.refl _ _) _⟩
theorem ask_fault {F : Int} (h : F ≠ 0) (n : Nat) (l : List Int) : Fd.askFault F n l = F := by
  unfold Fd.askFault
  rw [if_pos h]

set_option maxRecDepth 100000 in
set_option maxHeartbeats 4000000 in
theorem walk_any (v : Value) (W H : Int) (gs os : List Int) (a : Int) (fl : Bool) (w : World) (hf : Fl w v W H gs os) (hg : Et w) (hs : Sd w) :
    Calls Tryd.prog 3 #[v, .int .i64 a, .bool fl] w fun e w' => e = .returned (.bool true) ∧ Below w.heap.size w w' := by
  have F0 : Hid (Fl w v W H gs os) := hf
  have G0 : Hid (Et w) := hg
  have S0 : Hid (Sd w) := hs
  obtain ⟨u1, u2, rfl, ⟨a1, c, rfl, c1, c2, -⟩, ⟨b1, d, rfl, d1, d2, -⟩⟩ := hf
  clear hg hs
  go_enter Tryd.func3, Tryd.ntmps3
  go_wp2_with fail
  have X0 : Hid (Bf _ w.heap.size W H (Value.slice a1 gs.length c) (Value.slice b1 os.length d)) := Bf.mk' (w := w) W H (Value.slice a1 gs.length c) (Value.slice b1 os.length d) rfl
  have B0 : Hid (Below w.heap.size w (w.alloc (Obj.cells #[Value.int IntKind.i64 W, Value.int IntKind.i64 H, Value.slice a1 gs.length c, Value.slice b1 os.length d] 24))) := (Below.refl _ _).alloc (Nat.le_refl _) _
  generalize w.alloc (Obj.cells #[Value.int IntKind.i64 W, Value.int IntKind.i64 H, Value.slice a1 gs.length c, Value.slice b1 os.length d] 24) = w0 at *
  obtain ⟨x0, x1, x2, x3⟩ := X0.out
  refine (ref_field _ W H gs os _ (F0.out.below B0.out)).mono ?_
  rintro e w1 ⟨rfl, k1⟩
  have B1 : Hid (Below w.heap.size w w1) := B0.out.trans (k1.mono B0.out.size)
  have X1 : Hid (Bf w1 w.heap.size W H (.slice a1 gs.length c) (.slice b1 os.length d)) := X0.out.below k1 X0.out.lt
  clear k1 x0 x1 x2 x3
  obtain ⟨x0, x1, x2, x3⟩ := X1.out
  go_wp2_with fail
  refine (check_any _ W H gs os _ (F0.out.below B1.out)).mono ?_
  rintro e w2 ⟨q1, rfl, e1, k2⟩
  have B2 : Hid (Below w.heap.size w w2) := B1.out.trans (k2.mono B1.out.size)
  have X2 : Hid (Bf w2 w.heap.size W H (.slice a1 gs.length c) (.slice b1 os.length d)) := X1.out.below k2 X1.out.lt
  clear k2 x0 x1 x2 x3
  obtain ⟨x0, x1, x2, x3⟩ := X2.out
  have Q1 : Hid (Er q1 (Fd.fault W H gs os)) := e1
  clear e1
  go_wp2_with fail
  refine (same_er _ _ _ Q1.out (G0.out.below B2.out)).mono ?_
  rintro e w3 ⟨rfl, k3⟩
  have B3 : Hid (Below w.heap.size w w3) := B2.out.trans (k3.mono B2.out.size)
  have X3 : Hid (Bf w3 w.heap.size W H (.slice a1 gs.length c) (.slice b1 os.length d)) := X2.out.below k3 X2.out.lt
  clear k3 x0 x1 x2 x3
  obtain ⟨x0, x1, x2, x3⟩ := X3.out
  clear Q1
  by_cases hF : Fd.fault W H gs os = 0
  · obtain ⟨W', H', hW, hH, hG⟩ := Fd.fault_zero hF
    subst hW
    subst hH
    have HG : Hid (Fd.Good W' H' gs os) := hG
    have HF : Hid (Fd.fault W' H' gs os = 0) := hF
    rw [hF]
    clear hG hF
    go_wp2_with fail
    refine (ref_print _ W' H' gs os _ (F0.out.below B3.out) HG.out).mono ?_
    rintro e w4 ⟨rfl, k4⟩
    have B4 : Hid (Below w.heap.size w w4) := B3.out.trans (k4.mono B3.out.size)
    have X4 : Hid (Bf w4 w.heap.size W' H' (.slice a1 gs.length c) (.slice b1 os.length d)) := X3.out.below k4 X3.out.lt
    clear k4 x0 x1 x2 x3
    obtain ⟨x0, x1, x2, x3⟩ := X4.out
    generalize hP : Fd.prt W' H' gs os = tx at *
    have HP : Hid (Fd.prt W' H' gs os = tx) := hP
    clear hP
    go_wp2_with fail
    refine (print_ok _ W' H' gs os _ (F0.out.below B4.out) HG.out).mono ?_
    rintro e w5 ⟨rfl, k5⟩
    have B5 : Hid (Below w.heap.size w w5) := B4.out.trans (k5.mono B4.out.size)
    have X5 : Hid (Bf w5 w.heap.size W' H' (.slice a1 gs.length c) (.slice b1 os.length d)) := X4.out.below k5 X4.out.lt
    clear k5 x0 x1 x2 x3
    obtain ⟨x0, x1, x2, x3⟩ := X5.out
    rw [HP.out]
    go_wp2_with fail
    refine (same_er _ _ _ Er.nil (G0.out.below B5.out)).mono ?_
    rintro e w6 ⟨rfl, k6⟩
    have B6 : Hid (Below w.heap.size w w6) := B5.out.trans (k6.mono B5.out.size)
    have X6 : Hid (Bf w6 w.heap.size W' H' (.slice a1 gs.length c) (.slice b1 os.length d)) := X5.out.below k6 X5.out.lt
    clear k6 x0 x1 x2 x3
    obtain ⟨x0, x1, x2, x3⟩ := X6.out
    go_wp2_with fail
    refine (ref_cell _ W' H' gs os a _ (F0.out.below B6.out)).mono ?_
    rintro e w7 ⟨rfl, k7⟩
    have B7 : Hid (Below w.heap.size w w7) := B6.out.trans (k7.mono B6.out.size)
    have X7 : Hid (Bf w7 w.heap.size W' H' (.slice a1 gs.length c) (.slice b1 os.length d)) := X6.out.below k7 X6.out.lt
    clear k7 x0 x1 x2 x3
    obtain ⟨x0, x1, x2, x3⟩ := X7.out
    by_cases hA : Fd.askFault (Fd.fault W' H' gs os) gs.length [a] = 0
    · have HA := ask1_zero hA
      rw [hA]
      obtain ⟨-, ha0, ha1⟩ := HA
      obtain ⟨a', rfl⟩ : ∃ a' : Nat, a = a' := ⟨a.toNat, by omega⟩
      have HL : Hid (a' < W' * H') := by have := HG.out.gl; unfold Hid; omega
      obtain ⟨g, hgv⟩ : ∃ g, gs[a']? = some g := ⟨_, List.getElem?_eq_getElem (show a' < gs.length by omega)⟩
      obtain ⟨ov, hov⟩ : ∃ g, os[a']? = some g := ⟨_, List.getElem?_eq_getElem (show a' < os.length by rw [HG.out.ol]; exact HL.out)⟩
      have HV : Hid (gs[a']? = some g) := hgv
      have HC : Hid (0 ≤ g ∧ g ≤ 3) := ⟨(HG.out.cell _ _ _ hgv hov).1, (HG.out.cell _ _ _ hgv hov).2.1⟩
      have GL : Hid (gs.length ≤ 144) := by
        have h1 := HG.out.gl
        have h2 : W' * H' ≤ 12 * 12 := Nat.mul_le_mul HG.out.w2 HG.out.h2
        unfold Hid
        omega
      clear hA ha0 ha1 hgv hov
      go_wp2_with fail
      refine (ref_near _ W' H' gs os a' _ (F0.out.below B7.out) HG.out.w1 HG.out.w2 HG.out.h2 HL.out).mono ?_
      rintro e w8 ⟨l1, rfl, hl1, k8⟩
      have B8 : Hid (Below w.heap.size w w8) := B7.out.trans (k8.mono B7.out.size)
      have X8 : Hid (Bf w8 w.heap.size W' H' (.slice a1 gs.length c) (.slice b1 os.length d)) := X7.out.below k8 X7.out.lt
      have L8 : Hid (Ro w8 l1 (Fd.near W' H' a')) := hl1
      clear hl1
      clear k8 x0 x1 x2 x3
      obtain ⟨x0, x1, x2, x3⟩ := X8.out
      go_wp2_with fail
      refine (ref_onto _ W' H' gs os a' g fl _ (F0.out.below B8.out) GL.out HV.out HC.out.1 HC.out.2).mono ?_
      rintro e w9 ⟨rfl, k9⟩
      have B9 : Hid (Below w.heap.size w w9) := B8.out.trans (k9.mono B8.out.size)
      have X9 : Hid (Bf w9 w.heap.size W' H' (.slice a1 gs.length c) (.slice b1 os.length d)) := X8.out.below k9 X8.out.lt
      have L9 : Hid (Ro w9 l1 (Fd.near W' H' a')) := L8.out.below k9
      clear k9 x0 x1 x2 x3
      obtain ⟨x0, x1, x2, x3⟩ := X9.out
      generalize hT : Fd.onto g fl = st at *
      have HT : Hid (Fd.onto g fl = st) := hT
      clear hT
      go_wp2_with fail
      refine (Near_ok _ W' H' gs os a' _ (F0.out.below B9.out) HG.out HL.out (S0.out.below B9.out)).mono ?_
      rintro e w10 ⟨l2, rfl, hl2, k10⟩
      have B10 : Hid (Below w.heap.size w w10) := B9.out.trans (k10.mono B9.out.size)
      have X10 : Hid (Bf w10 w.heap.size W' H' (.slice a1 gs.length c) (.slice b1 os.length d)) := X9.out.below k10 X9.out.lt
      have L10 : Hid (Ro w10 l1 (Fd.near W' H' a')) := L9.out.below k10
      have M10 : Hid (Ro w10 l2 (Fd.near W' H' a')) := hl2
      clear hl2
      clear k10 x0 x1 x2 x3
      obtain ⟨x0, x1, x2, x3⟩ := X10.out
      go_wp2_with fail
      refine (same_er _ _ _ Er.nil (G0.out.below B10.out)).mono ?_
      rintro e w11 ⟨rfl, k11⟩
      have B11 : Hid (Below w.heap.size w w11) := B10.out.trans (k11.mono B10.out.size)
      have X11 : Hid (Bf w11 w.heap.size W' H' (.slice a1 gs.length c) (.slice b1 os.length d)) := X10.out.below k11 X10.out.lt
      have L11 : Hid (Ro w11 l1 (Fd.near W' H' a')) := L10.out.below k11
      have M11 : Hid (Ro w11 l2 (Fd.near W' H' a')) := M10.out.below k11
      clear k11 x0 x1 x2 x3
      obtain ⟨x0, x1, x2, x3⟩ := X11.out
      go_wp2_with fail
      refine (Step_ok _ W' H' gs os a' g fl _ (F0.out.below B11.out) HG.out HL.out HV.out).mono ?_
      rintro e w12 ⟨rfl, k12⟩
      have B12 : Hid (Below w.heap.size w w12) := B11.out.trans (k12.mono B11.out.size)
      have X12 : Hid (Bf w12 w.heap.size W' H' (.slice a1 gs.length c) (.slice b1 os.length d)) := X11.out.below k12 X11.out.lt
      have L12 : Hid (Ro w12 l1 (Fd.near W' H' a')) := L11.out.below k12
      have M12 : Hid (Ro w12 l2 (Fd.near W' H' a')) := M11.out.below k12
      clear k12 x0 x1 x2 x3
      obtain ⟨x0, x1, x2, x3⟩ := X12.out
      rw [HT.out]
      go_wp2_with fail
      refine (same_er _ _ _ Er.nil (G0.out.below B12.out)).mono ?_
      rintro e w13 ⟨rfl, k13⟩
      have B13 : Hid (Below w.heap.size w w13) := B12.out.trans (k13.mono B12.out.size)
      have X13 : Hid (Bf w13 w.heap.size W' H' (.slice a1 gs.length c) (.slice b1 os.length d)) := X12.out.below k13 X12.out.lt
      have L13 : Hid (Ro w13 l1 (Fd.near W' H' a')) := L12.out.below k13
      have M13 : Hid (Ro w13 l2 (Fd.near W' H' a')) := M12.out.below k13
      clear k13 x0 x1 x2 x3
      obtain ⟨x0, x1, x2, x3⟩ := X13.out
      go_wp2_with fail
      refine (ints_same _ _ _ _ M13.out L13.out).mono ?_
      rintro e w14 ⟨rfl, k14⟩
      have B14 : Hid (Below w.heap.size w w14) := B13.out.trans (k14.mono B13.out.size)
      have X14 : Hid (Bf w14 w.heap.size W' H' (.slice a1 gs.length c) (.slice b1 os.length d)) := X13.out.below k14 X13.out.lt
      clear k14 x0 x1 x2 x3
      obtain ⟨x0, x1, x2, x3⟩ := X14.out
      go_wp2
      go_ret
      exact ⟨rfl, B14⟩
    · obtain ⟨K, hK⟩ : ∃ K, Fd.askFault (Fd.fault W' H' gs os) gs.length [a] = K := ⟨_, rfl⟩
      rw [hK] at hA ⊢
      have K0 : Hid (K ≠ 0) := hA
      have hK0 : (K == 0) = false := by rw [beq_eq_false_iff_ne]; exact hA
      have HK : Hid (Fd.askFault (Fd.fault W' H' gs os) gs.length [a] = K) := hK
      clear hK
      go_wp2_with fail
      refine (Near_bad _ W' H' gs os a _ _ (F0.out.below B7.out) HK.out K0.out).mono ?_
      rintro e w15 ⟨rfl, k15⟩
      have B15 : Hid (Below w.heap.size w w15) := B7.out.trans (k15.mono B7.out.size)
      have X15 : Hid (Bf w15 w.heap.size W' H' (.slice a1 gs.length c) (.slice b1 os.length d)) := X7.out.below k15 X7.out.lt
      clear k15 x0 x1 x2 x3
      obtain ⟨x0, x1, x2, x3⟩ := X15.out
      go_wp2_with fail
      refine (same_er _ _ _ (Er.no K0.out) (G0.out.below B15.out)).mono ?_
      rintro e w16 ⟨rfl, k16⟩
      have B16 : Hid (Below w.heap.size w w16) := B15.out.trans (k16.mono B15.out.size)
      have X16 : Hid (Bf w16 w.heap.size W' H' (.slice a1 gs.length c) (.slice b1 os.length d)) := X15.out.below k16 X15.out.lt
      clear k16 x0 x1 x2 x3
      obtain ⟨x0, x1, x2, x3⟩ := X16.out
      go_wp2_with fail
      refine (Step_bad _ W' H' gs os a _ fl _ (F0.out.below B16.out) HK.out K0.out).mono ?_
      rintro e w17 ⟨rfl, k17⟩
      have B17 : Hid (Below w.heap.size w w17) := B16.out.trans (k17.mono B16.out.size)
      have X17 : Hid (Bf w17 w.heap.size W' H' (.slice a1 gs.length c) (.slice b1 os.length d)) := X16.out.below k17 X16.out.lt
      clear k17 x0 x1 x2 x3
      obtain ⟨x0, x1, x2, x3⟩ := X17.out
      go_wp2_with fail
      refine (same_er _ _ _ (Er.no K0.out) (G0.out.below B17.out)).mono ?_
      rintro e w18 ⟨rfl, k18⟩
      have B18 : Hid (Below w.heap.size w w18) := B17.out.trans (k18.mono B17.out.size)
      have X18 : Hid (Bf w18 w.heap.size W' H' (.slice a1 gs.length c) (.slice b1 os.length d)) := X17.out.below k18 X17.out.lt
      clear k18 x0 x1 x2 x3
      obtain ⟨x0, x1, x2, x3⟩ := X18.out
      go_wp2_with fail
      refine (ints_same _ _ [] _ (ro_none _) (ro_none _)).mono ?_
      rintro e w19 ⟨rfl, k19⟩
      have B19 : Hid (Below w.heap.size w w19) := B18.out.trans (k19.mono B18.out.size)
      have X19 : Hid (Bf w19 w.heap.size W' H' (.slice a1 gs.length c) (.slice b1 os.length d)) := X18.out.below k19 X18.out.lt
      clear k19 x0 x1 x2 x3
      obtain ⟨x0, x1, x2, x3⟩ := X19.out
      go_wp2
      go_ret
      exact ⟨rfl, B19⟩
  · obtain ⟨K, hK⟩ : ∃ K, Fd.fault W H gs os = K := ⟨_, rfl⟩
    rw [hK] at hF ⊢
    have K0 : Hid (K ≠ 0) := hF
    have hK0 : (K == 0) = false := by rw [beq_eq_false_iff_ne]; exact hF
    have HF : Hid (Fd.fault W H gs os = K) := hK
    have HK : Hid (Fd.askFault (Fd.fault W H gs os) gs.length [a] = K) := by unfold Hid; rw [hK]; exact ask_fault hF _ _
    clear hK
    go_wp2_with fail
    refine (print_bad _ W H gs os _ _ (F0.out.below B3.out) HF.out K0.out).mono ?_
    rintro e w20 ⟨rfl, k20⟩
    have B20 : Hid (Below w.heap.size w w20) := B3.out.trans (k20.mono B3.out.size)
    have X20 : Hid (Bf w20 w.heap.size W H (.slice a1 gs.length c) (.slice b1 os.length d)) := X3.out.below k20 X3.out.lt
    clear k20 x0 x1 x2 x3
    obtain ⟨x0, x1, x2, x3⟩ := X20.out
    go_wp2_with fail
    refine (same_er _ _ _ (Er.no K0.out) (G0.out.below B20.out)).mono ?_
    rintro e w21 ⟨rfl, k21⟩
    have B21 : Hid (Below w.heap.size w w21) := B20.out.trans (k21.mono B20.out.size)
    have X21 : Hid (Bf w21 w.heap.size W H (.slice a1 gs.length c) (.slice b1 os.length d)) := X20.out.below k21 X20.out.lt
    clear k21 x0 x1 x2 x3
    obtain ⟨x0, x1, x2, x3⟩ := X21.out
    go_wp2_with fail
    refine (ref_cell _ W H gs os a _ (F0.out.below B21.out)).mono ?_
    rintro e w22 ⟨rfl, k22⟩
    have B22 : Hid (Below w.heap.size w w22) := B21.out.trans (k22.mono B21.out.size)
    have X22 : Hid (Bf w22 w.heap.size W H (.slice a1 gs.length c) (.slice b1 os.length d)) := X21.out.below k22 X21.out.lt
    clear k22 x0 x1 x2 x3
    obtain ⟨x0, x1, x2, x3⟩ := X22.out
    rw [HK.out]
    go_wp2_with fail
    refine (Near_bad _ W H gs os a _ _ (F0.out.below B22.out) HK.out K0.out).mono ?_
    rintro e w23 ⟨rfl, k23⟩
    have B23 : Hid (Below w.heap.size w w23) := B22.out.trans (k23.mono B22.out.size)
    have X23 : Hid (Bf w23 w.heap.size W H (.slice a1 gs.length c) (.slice b1 os.length d)) := X22.out.below k23 X22.out.lt
    clear k23 x0 x1 x2 x3
    obtain ⟨x0, x1, x2, x3⟩ := X23.out
    go_wp2_with fail
    refine (same_er _ _ _ (Er.no K0.out) (G0.out.below B23.out)).mono ?_
    rintro e w24 ⟨rfl, k24⟩
    have B24 : Hid (Below w.heap.size w w24) := B23.out.trans (k24.mono B23.out.size)
    have X24 : Hid (Bf w24 w.heap.size W H (.slice a1 gs.length c) (.slice b1 os.length d)) := X23.out.below k24 X23.out.lt
    clear k24 x0 x1 x2 x3
    obtain ⟨x0, x1, x2, x3⟩ := X24.out
    go_wp2_with fail
    refine (Step_bad _ W H gs os a _ fl _ (F0.out.below B24.out) HK.out K0.out).mono ?_
    rintro e w25 ⟨rfl, k25⟩
    have B25 : Hid (Below w.heap.size w w25) := B24.out.trans (k25.mono B24.out.size)
    have X25 : Hid (Bf w25 w.heap.size W H (.slice a1 gs.length c) (.slice b1 os.length d)) := X24.out.below k25 X24.out.lt
    clear k25 x0 x1 x2 x3
    obtain ⟨x0, x1, x2, x3⟩ := X25.out
    go_wp2_with fail
    refine (same_er _ _ _ (Er.no K0.out) (G0.out.below B25.out)).mono ?_
    rintro e w26 ⟨rfl, k26⟩
    have B26 : Hid (Below w.heap.size w w26) := B25.out.trans (k26.mono B25.out.size)
    have X26 : Hid (Bf w26 w.heap.size W H (.slice a1 gs.length c) (.slice b1 os.length d)) := X25.out.below k26 X25.out.lt
    clear k26 x0 x1 x2 x3
    obtain ⟨x0, x1, x2, x3⟩ := X26.out
    go_wp2_with fail
    refine (ints_same _ _ [] _ (ro_none _) (ro_none _)).mono ?_
    rintro e w27 ⟨rfl, k27⟩
    have B27 : Hid (Below w.heap.size w w27) := B26.out.trans (k27.mono B26.out.size)
    have X27 : Hid (Bf w27 w.heap.size W H (.slice a1 gs.length c) (.slice b1 os.length d)) := X26.out.below k27 X26.out.lt
    clear k27 x0 x1 x2 x3
    obtain ⟨x0, x1, x2, x3⟩ := X27.out
    go_wp2
    go_ret
    exact ⟨rfl, B27⟩
theorem walk (v0 : Value) (W0 H0 : Int) (gs0 os0 : List Int) (a1 : Int) (a2 : Bool) (w : World) (f0 : Fl w v0 W0 H0 gs0 os0) (_ : (Lit.int .i64 a1).wf = true) (hg : Et w) (hs : Sd w) :
    Calls Tryd.prog 3 #[v0, .int .i64 a1, .bool a2] w fun e w' => e = .returned (.bool true) ∧ Below w.heap.size w w' := walk_any v0 W0 H0 gs0 os0 a1 a2 w f0 hg hs
end Go.Proofs.YtbiknfaimplodaaDoor.fieldChecks
