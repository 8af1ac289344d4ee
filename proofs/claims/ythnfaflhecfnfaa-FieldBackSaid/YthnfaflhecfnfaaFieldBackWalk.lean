/- The walk of FieldBack. -/
import Derived.Test.YthnfaflhecfnfaaFdW
import Derived.Test.YthnfaflhecfnfaaFdQ
import Derived.Test.YthnfaflhecfnfaaSmF
import Derived.Test.YthnfaflhecfnfaaFdArgs
import Derived.Deep.CutBlock
import Derived.Deep.DeepCutAuto
import Derived.ProofKit
import Derived.OpenShut
import Derived.IntWalk
namespace Go.Proofs.Ythnfaflhecfnfaa.fieldBack
open Go.RowKit
set_option linter.unusedVariables false

theorem fact3 : Fd.parse [46, 51, 10] = .inr ⟨0, 2, 1, [0, 0], [0, 30]⟩ := by rfl
theorem str_eq (s : ByteArray) : (⟨s.data.toList.toArray⟩ : ByteArray) = s := by
  cases s
  rfl

/-- a box that may be written. -/
def Gb (w : World) (z : Nat) (W H : Int) (u1 u2 : Value) : Prop := Bf w z W H u1 u2 ∧ ∀ i, w.frozen? ⟨z, i, none⟩ = false
theorem Gb.new {w : World} {z : Nat} (W H : Int) (u1 u2 : Value) (hz : w.heap.size = z) : Gb (w.alloc (.cells #[.int .i64 W, .int .i64 H, u1, u2] 24)) z W H u1 u2 := by
  refine ⟨Bf.mk' W H u1 u2 hz, fun i => ?_⟩
  subst hz
  simp
theorem Gb.below {w w' : World} {z : Nat} {W H : Int} {u1 u2 : Value} (h : Gb w z W H u1 u2) (hb : Below w.heap.size w w') : Gb w' z W H u1 u2 :=
  ⟨h.1.below hb h.1.lt, fun i => by rw [hb.frozen (p := ⟨z, i, none⟩) h.1.lt]; exact h.2 i⟩

set_option maxRecDepth 100000 in
set_option maxHeartbeats 4000000 in
theorem walk (v0 : Value) (W0 H0 : Int) (gs0 os0 : List Int) (s1 : ByteArray) (w : World) (f0 : Fl w v0 W0 H0 gs0 os0) (w1 : s1.size ≤ maxLen) :
    Calls Try.prog 3 #[v0, .string s1] w fun e w' => e = .returned (.bool true) ∧ Below w.heap.size w w' := by
  have F0 : Hid (Fl w v0 W0 H0 gs0 os0) := f0
  have HS : Hid (s1.size ≤ maxLen) := w1
  obtain ⟨u1, u2, rfl, ⟨a1, c, rfl, c1, c2, ca⟩, ⟨b1, d, rfl, d1, d2, cb⟩⟩ := f0
  clear w1 ca cb
  go_enter Try.func3, Try.ntmps3
  go_wp2_with fail
  have X0 := Bf.mk' (w := w) W0 H0 (.slice a1 gs0.length c) (.slice b1 os0.length d) rfl
  have K0 : Hid (Below w.heap.size w (w.alloc (Obj.cells #[.int .i64 W0, .int .i64 H0, .slice a1 gs0.length c, .slice b1 os0.length d] 24))) := (Below.refl _ _).alloc (Nat.le_refl _) _
  generalize w.alloc (Obj.cells #[.int .i64 W0, .int .i64 H0, .slice a1 gs0.length c, .slice b1 os0.length d] 24) = wa at *
  refine (parse_any ⟨#[46, 51, 10]⟩ _ (by unfold maxLen; decide)).mono ?_
  rintro e wb ⟨hr, kb⟩
  rcases hr with ⟨i, f, hp, rfl, hf⟩ | ⟨st, u1, u2, hp, rfl, r1, r2⟩
  · rw [fact3] at hp
    cases hp
  · rw [fact3] at hp
    injection hp with hp
    subst hp
    have K1 : Hid (Below w.heap.size w wb) := K0.out.trans (kb.mono K0.out.size)
    have X1 := X0.below kb X0.lt
    obtain ⟨p1, q1, rfl, -⟩ := r1
    obtain ⟨p2, q2, rfl, e1, e2, e3⟩ := r2
    obtain ⟨y, rfl, yl, hy⟩ := e3 (by simp)
    have y1 : wb.cell? ⟨y.block, y.off + 1, none⟩ = some (.int .i64 30) := hy 1 30 rfl
    clear K0 X0 kb hy e1
    go_wp2_with fail
    have k2 : Below wb.heap.size wb (wb.alloc (Obj.cells #[.int .i64 2, .int .i64 1, .slice p1 2 q1, .slice (some y) 2 q2] 24)) := (Below.refl _ _).alloc (Nat.le_refl _) _
    have K2 : Hid (Below w.heap.size w (wb.alloc (Obj.cells #[.int .i64 2, .int .i64 1, .slice p1 2 q1, .slice (some y) 2 q2] 24))) := K1.out.trans (k2.mono K1.out.size)
    have X2 := X1.below k2 X1.lt
    clear K1 X1 k2 y1 yl e2
    generalize wb.alloc (Obj.cells #[.int .i64 2, .int .i64 1, .slice p1 2 q1, .slice (some y) 2 q2] 24) = w2 at *
    refine (parse_any s1 _ HS.out).mono ?_
    rintro e w3 ⟨hr, k3⟩
    have K3 : Hid (Below w.heap.size w w3) := K2.out.trans (k3.mono K2.out.size)
    have X3 : Hid (Bf w3 w.heap.size W0 H0 (.slice a1 gs0.length c) (.slice b1 os0.length d)) := X2.below k3 X2.lt
    have L3 : Hid (w.heap.size < w3.heap.size) := X3.out.lt
    clear k3 X2 K2
    rcases hr with ⟨i, f, hp, rfl, hf⟩ | ⟨st, u1, u2, hp, rfl, r1, r2⟩
    focus
      clear hp hf
      obtain ⟨x0, x1, x2, x3⟩ := X3.out
      have xl := X3.out.lt
      go_wp2_with fail
      clear x0 x1 x2 x3 xl
      have k4 : Below w3.heap.size w3 (w3.alloc (Obj.cells #[.int .i64 0, .int .i64 0, .slice none 0 0, .slice none 0 0] 24)) := (Below.refl _ _).alloc (Nat.le_refl _) _
      have G4 : Hid (∃ (W H : Int) (u1 u2 : Value), Gb (w3.alloc (Obj.cells #[.int .i64 0, .int .i64 0, .slice none 0 0, .slice none 0 0] 24)) w3.heap.size W H u1 u2) := ⟨_, _, _, _, Gb.new _ _ _ _ rfl⟩
      generalize w3.alloc (Obj.cells #[.int .i64 0, .int .i64 0, .slice none 0 0, .slice none 0 0] 24) = w5 at *
      have X5 : Hid (Bf w5 w.heap.size W0 H0 (.slice a1 gs0.length c) (.slice b1 os0.length d)) := X3.out.below k4 X3.out.lt
      have K5 : Hid (Below w.heap.size w w5) := K3.out.trans (k4.mono K3.out.size)
      clear k4 K3 X3
    rotate_left
    focus
      have PB : Hid _ := Fd.parse_back hp
      have R1 : Hid (Ro w3 u1 st.gs) := r1
      have R2 : Hid (Ro w3 u2 st.os) := r2
      obtain ⟨n1, t1, rfl, -⟩ := r1
      obtain ⟨n2, t2, rfl, -⟩ := r2
      clear hp
      go_wp2_with fail
      have k4 : Below w3.heap.size w3 (w3.alloc (Obj.cells #[.int .i64 (st.W : Nat), .int .i64 (st.H : Nat), .slice n1 st.gs.length t1, .slice n2 st.os.length t2] 24)) := (Below.refl _ _).alloc (Nat.le_refl _) _
      have G4 : Hid (Gb (w3.alloc (Obj.cells #[.int .i64 (st.W : Nat), .int .i64 (st.H : Nat), .slice n1 st.gs.length t1, .slice n2 st.os.length t2] 24)) w3.heap.size st.W st.H (.slice n1 st.gs.length t1) (.slice n2 st.os.length t2)) := Gb.new _ _ _ _ rfl
      generalize w3.alloc (Obj.cells #[.int .i64 (st.W : Nat), .int .i64 (st.H : Nat), .slice n1 st.gs.length t1, .slice n2 st.os.length t2] 24) = w4 at *
      have X4 : Hid (Bf w4 w.heap.size W0 H0 (.slice a1 gs0.length c) (.slice b1 os0.length d)) := X3.out.below k4 X3.out.lt
      have K4 : Hid (Below w.heap.size w w4) := K3.out.trans (k4.mono K3.out.size)
      have F4 : Hid (Fl w4 (.agg #[.int .i64 (st.W : Nat), .int .i64 (st.H : Nat), .slice n1 st.gs.length t1, .slice n2 st.os.length t2]) st.W st.H st.gs st.os) := ⟨_, _, rfl, R1.out.below k4, R2.out.below k4⟩
      clear k4 K3 X3 R1 R2
      obtain ⟨y0, y1, y2, y3⟩ := G4.out.1
      go_wp2_with fail
      refine (print_ok _ st.W st.H st.gs st.os _ F4.out PB.out.1).mono ?_
      rintro e w5 ⟨rfl, k5⟩
      rw [PB.out.2.1, str_eq]
      have G4 : Hid (∃ (W H : Int) (u1 u2 : Value), Gb w5 w3.heap.size W H u1 u2) := ⟨_, _, _, _, G4.out.below k5⟩
      have X5 : Hid (Bf w5 w.heap.size W0 H0 (.slice a1 gs0.length c) (.slice b1 os0.length d)) := X4.out.below k5 X4.out.lt
      have K5 : Hid (Below w.heap.size w w5) := K4.out.trans (k5.mono K4.out.size)
      clear k5 K4 X4 F4 PB y0 y1 y2 y3
      obtain ⟨x0, x1, x2, x3⟩ := X5.out
      go_wp2_with fail
      clear x0 x1 x2 x3
    all_goals
      have F5 : Hid (Fl w5 (.agg #[.int .i64 W0, .int .i64 H0, .slice a1 gs0.length c, .slice b1 os0.length d]) W0 H0 gs0 os0) := F0.out.below K5.out
      by_cases hF : Fd.fault W0 H0 gs0 os0 = 0
      · obtain ⟨W, H, rfl, rfl, hG⟩ := Fd.fault_zero hF
        have HG : Hid (Fd.Good W H gs0 os0) := hG
        refine (print_ok _ W H gs0 os0 _ F5.out hG).mono ?_
        rintro e w6 ⟨rfl, k6⟩
        have Pl : Hid ((Fd.prt W H gs0 os0).length ≤ 1000) := by
          unfold Hid Fd.prt
          rw [Fd.rowsTo_len]
          have : H * (W + 1) ≤ 12 * 13 := Nat.mul_le_mul hG.h2 (by have := hG.w2; omega)
          omega
        have ON : os0 ≠ [] := by
          intro e
          have h1 := hG.ol
          have h2 := hG.h1
          have h3 := hG.w1
          rw [e] at h1
          simp only [List.length_nil] at h1
          have := Nat.mul_pos h3 h2
          omega
        have PP : Hid ((∀ o ∈ os0, o ≤ 90 ∧ o % 10 = 0) → Fd.parse (Fd.prt W H gs0 os0) = .inr ⟨0, W, H, gs0, os0⟩) := fun ht => Fd.parse_prt hG ht
        generalize Fd.prt W H gs0 os0 = tx at *
        have F6 : Hid (Fl w6 (.agg #[.int .i64 W, .int .i64 H, .slice a1 gs0.length c, .slice b1 os0.length d]) W H gs0 os0) := F5.out.below k6
        have X6 : Hid (Bf w6 w.heap.size W H (.slice a1 gs0.length c) (.slice b1 os0.length d)) := X5.out.below k6 X5.out.lt
        have K6 : Hid (Below w.heap.size w w6) := K5.out.trans (k6.mono K5.out.size)
        have G6 : Hid (∃ (W H : Int) (u1 u2 : Value), Gb w6 w3.heap.size W H u1 u2) := by
          obtain ⟨a, b, e, f, h⟩ := G4.out
          exact ⟨a, b, e, f, h.below k6⟩
        obtain ⟨y, rfl, cy⟩ : ∃ y, b1 = some y ∧ ∀ (i : Nat) (o : Int), os0[i]? = some o → w6.cell? (y.add i) = some (.int .i64 o) := by
          obtain ⟨u1, u2, h1, -, ⟨a, c, h2, -, -, h4⟩⟩ := F6.out
          obtain ⟨x, rfl, -, h6⟩ := h4 ON
          have e := h1
          rw [h2] at e
          simp only [Value.agg.injEq] at e
          exact ⟨x, by grind, h6⟩
        have CY : Hid (∀ (i : Nat) (o : Int), os0[i]? = some o → w6.cell? (y.add i) = some (.int .i64 o)) := cy
        clear hF hG k6 K5 X5 F5 G4 cy ON
        go_wp2_with fail
        go_loopw [14] (fun i W' => ∃ (k q : Nat), k ≤ os0.length ∧ i = .int .i64 (k : Nat) ∧ W' = w6.drewN q ∧ ∀ (j : Nat) (o : Int), j < k → os0[j]? = some o → o ≤ 90 ∧ o % 10 = 0) (fun i _ => os0.length - (intOf i).toNat)
        case atStart => exact ⟨0, 0, Nat.zero_le _, rfl, rfl, fun j o h => by omega⟩
        case round =>
          obtain ⟨k, q, hk, rfl, rfl, hall⟩ := hrel
          have HA : Hid (∀ (j : Nat) (o : Int), j < k → os0[j]? = some o → o ≤ 90 ∧ o % 10 = 0) := hall
          have F7 : Hid (Fl (w6.drewN q) (.agg #[.int .i64 W, .int .i64 H, .slice a1 gs0.length c, .slice (some y) os0.length d]) W H gs0 os0) := F6.out.below (below_drewN (Below.refl _ _) q)
          have X7 : Hid (Bf (w6.drewN q) w.heap.size W H (.slice a1 gs0.length c) (.slice (some y) os0.length d)) := X6.out.drewN q
          have K7 : Hid (Below w.heap.size w (w6.drewN q)) := below_drewN K6.out q
          have G7 : Hid (∃ (W H : Int) (u1 u2 : Value), Gb (w6.drewN q) w3.heap.size W H u1 u2) := by
            obtain ⟨a, b, e, f, h⟩ := G6.out
            exact ⟨a, b, e, f, h.below (below_drewN (Below.refl _ _) q)⟩
          have C7 : Hid (∀ (i : Nat) (o : Int), os0[i]? = some o → (w6.drewN q).cell? (y.add i) = some (.int .i64 o)) := CY.out
          generalize e7 : w6.drewN q = w7 at *
          have E7 : Hid (w7 = w6.drewN q) := e7.symm
          clear e7
          clear hall
          obtain ⟨x0, x1, x2, x3⟩ := X7.out
          by_cases h0 : k = os0.length
          · subst h0
            have PE : Hid (Fd.parse tx = .inr ⟨0, W, H, gs0, os0⟩) := PP.out fun o ho => by
              obtain ⟨j, hj, e⟩ := List.mem_iff_getElem.1 ho
              exact HA.out j o hj (by rw [List.getElem?_eq_getElem hj, e])
            clear HA
            go_wp2_with fail
            refine (parse_own _ _ (by show tx.toArray.size ≤ _; have := Pl.out; unfold maxLen; simp; omega)).mono ?_
            rintro e w8 ⟨hr, k8⟩
            rcases hr with ⟨i, f, hp, rfl, hf⟩ | ⟨st, u1, u2, hp, rfl, r1⟩
            · rw [show (ByteArray.mk tx.toArray).data.toList = tx from rfl, PE.out] at hp
              cases hp
            · rw [show (ByteArray.mk tx.toArray).data.toList = tx from rfl, PE.out] at hp
              injection hp with hp
              subst hp
              simp only at r1 ⊢
              have T8 : Hid (Two w8 (w7.heap.size + 1 + 1) u1 u2 gs0 os0) := r1
              obtain ⟨n1, t1, rfl⟩ := r1.o1.len
              obtain ⟨n2, t2, rfl⟩ := r1.o2.len
              obtain ⟨ga, gb, gc, gd, hgb⟩ := G7.out
              have L8 : Hid (w3.heap.size < w7.heap.size) := hgb.1.lt
              have g8 := hgb.below k8
              obtain ⟨y0, y1, y2, y3⟩ := g8.1
              have z0 := g8.2 0
              have z1 := g8.2 1
              have z2 := g8.2 2
              have z3 := g8.2 3
              have X8 : Hid (Bf w8 w.heap.size W H (.slice a1 gs0.length c) (.slice (some y) os0.length d)) := X7.out.below k8 X7.out.lt
              have F8 : Hid (Fl w8 (.agg #[.int .i64 W, .int .i64 H, .slice a1 gs0.length c, .slice (some y) os0.length d]) W H gs0 os0) := F7.out.below k8
              have K8 : Hid (Below w.heap.size w w8) := K7.out.trans (k8.mono K7.out.size)
              clear r1 hgb g8 k8 x0 x1 x2 x3
              go_upto_region 18 with fail
              have KK : Hid (Kp w3.heap.size w8 ((((w8.setCell ⟨w3.heap.size, 0, none⟩ (.int .i64 (W : Nat))).setCell ⟨w3.heap.size, 1, none⟩ (.int .i64 (H : Nat))).setCell ⟨w3.heap.size, 2, none⟩ (.slice n1 gs0.length t1)).setCell ⟨w3.heap.size, 3, none⟩ (.slice n2 os0.length t2))) := (((Kp.set _ _ _).trans (Kp.set _ _ _)).trans (Kp.set _ _ _)).trans (Kp.set _ _ _)
              have Y9 : Hid (Bf ((((w8.setCell ⟨w3.heap.size, 0, none⟩ (.int .i64 (W : Nat))).setCell ⟨w3.heap.size, 1, none⟩ (.int .i64 (H : Nat))).setCell ⟨w3.heap.size, 2, none⟩ (.slice n1 gs0.length t1)).setCell ⟨w3.heap.size, 3, none⟩ (.slice n2 os0.length t2)) w3.heap.size W H (.slice n1 gs0.length t1) (.slice n2 os0.length t2)) := ⟨by simp [go_sem, y0], by simp [go_sem, y1], by simp [go_sem, y2], by simp [go_sem, y3]⟩
              have K9 : Hid (Below w.heap.size w ((((w8.setCell ⟨w3.heap.size, 0, none⟩ (.int .i64 (W : Nat))).setCell ⟨w3.heap.size, 1, none⟩ (.int .i64 (H : Nat))).setCell ⟨w3.heap.size, 2, none⟩ (.slice n1 gs0.length t1)).setCell ⟨w3.heap.size, 3, none⟩ (.slice n2 os0.length t2))) := (((K8.out.setCell (Nat.le_of_lt L3.out) _).setCell (Nat.le_of_lt L3.out) _).setCell (Nat.le_of_lt L3.out) _).setCell (Nat.le_of_lt L3.out) _
              generalize (((w8.setCell ⟨w3.heap.size, 0, none⟩ (.int .i64 (W : Nat))).setCell ⟨w3.heap.size, 1, none⟩ (.int .i64 (H : Nat))).setCell ⟨w3.heap.size, 2, none⟩ (.slice n1 gs0.length t1)).setCell ⟨w3.heap.size, 3, none⟩ (.slice n2 os0.length t2) = w9 at *
              have T9 := T8.out.kp KK.out (by have := L8.out; omega)
              have F9 : Hid (Fl w9 (.agg #[.int .i64 W, .int .i64 H, .slice a1 gs0.length c, .slice (some y) os0.length d]) W H gs0 os0) := F0.out.below K9.out
              have E9 : Hid (Fl w9 (.agg #[.int .i64 W, .int .i64 H, .slice n1 gs0.length t1, .slice n2 os0.length t2]) W H gs0 os0) := ⟨_, _, rfl, T9.o1.ro, T9.o2.ro⟩
              have X9 : Bf w9 w.heap.size W H (.slice a1 gs0.length c) (.slice (some y) os0.length d) := by
                have hb := KK.out.block w.heap.size X8.out.lt (Nat.ne_of_lt L3.out)
                exact ⟨by rw [World.cell?_of_block (a := ⟨w.heap.size, 0, none⟩) hb]; exact X8.out.c0, by rw [World.cell?_of_block (a := ⟨w.heap.size, 1, none⟩) hb]; exact X8.out.c1, by rw [World.cell?_of_block (a := ⟨w.heap.size, 2, none⟩) hb]; exact X8.out.c2, by rw [World.cell?_of_block (a := ⟨w.heap.size, 3, none⟩) hb]; exact X8.out.c3⟩
              clear T9 y0 y1 y2 y3 z0 z1 z2 z3
              obtain ⟨x0, x1, x2, x3⟩ := X9
              obtain ⟨y0, y1, y2, y3⟩ := Y9.out
              go_wp2_with fail
              refine (same_field _ _ W H gs0 os0 _ E9.out F9.out).mono ?_
              rintro e w10 ⟨rfl, ka⟩
              have K10 : Hid (Below w.heap.size w w10) := K9.out.trans (ka.mono K9.out.size)
              clear ka x0 x1 x2 x3 y0 y1 y2 y3
              go_wp2
              go_ret
              exact ⟨rfl, K10⟩
          · have hkl : k < os0.length := by omega
            have c7 := C7.out k _ (List.getElem?_eq_getElem hkl)
            have hk1 := HA.out
            have HO : Hid (os0[k]? = some os0[k]) := List.getElem?_eq_getElem hkl
            generalize os0[k] = o at *
            have j0 : (0 : Int) ≤ (k : Int) := by omega
            have j1 : (k : Int) < (os0.length : Int) := by omega
            have hgk : k < gs0.length := by rw [HG.out.gl, ← HG.out.ol]; exact hkl
            obtain ⟨-, -, o0, o1, -⟩ := HG.out.cell k _ o (List.getElem?_eq_getElem hgk) HO.out
            clear hk1 hgk
            by_cases h1 : 90 < o
            · go_wp2
              go_ret
              exact ⟨rfl, K7⟩
            · by_cases h2 : o % 10 = 0
              · go_wp2
                go_round
                case rel => exact ⟨k + 1, q, by omega, by go_num, E7.out, fun j p hj hp => by
                  by_cases e : j = k
                  · subst e
                    rw [HO.out] at hp
                    injection hp with hp
                    subst hp
                    exact ⟨by omega, h2⟩
                  · exact HA.out j p (by omega) hp⟩
                case measure => simp [intOf]; omega
              · go_wp2
                go_ret
                exact ⟨rfl, K7⟩
      · refine (print_bad _ W0 H0 gs0 os0 _ _ F5.out rfl hF).mono ?_
        rintro e w6 ⟨rfl, k6⟩
        have K6 : Hid (Below w.heap.size w w6) := K5.out.trans (k6.mono K5.out.size)
        clear k6 hF
        go_wp2
        go_ret
        exact ⟨rfl, K6⟩
end Go.Proofs.Ythnfaflhecfnfaa.fieldBack
