/- What the reference reads. -/
import Derived.Test.YthnfaflhecfnfaaDoorFdQ
import Derived.Deep.DeepCutAuto
import Derived.Deep.CutBlock
namespace Go.Proofs.YthnfaflhecfnfaaDoor
open Go.RowKit
set_option linter.unusedVariables false

/-- what the reference says of a text. -/
def RSays (l : List UInt8) (e : Ending) (w' : World) : Prop :=
  (∃ (i : Nat) (f : Int), Fd.parse l = .inl (i, f) ∧ e = .returned (.tuple #[.agg #[.int .i64 0, .int .i64 0, .slice none 0 0, .slice none 0 0], .int .i64 (i : Nat), .int .i64 f]) ∧ f ≠ 0) ∨
  (∃ st u1 u2, Fd.parse l = .inr st ∧ e = .returned (.tuple #[.agg #[.int .i64 (st.W : Nat), .int .i64 (st.H : Nat), u1, u2], .int .i64 0, .int .i64 0]) ∧ Ro w' u1 st.gs ∧ Ro w' u2 st.os)

/-- the block of the reference's field. -/
def Ft (w : World) (z : Nat) (u1 u2 : Value) (W H : Nat) : Prop := w.heap[z]? = some (.cells #[.int .i64 (W : Nat), .int .i64 (H : Nat), u1, u2] 24 (0, 0))
section
variable {w : World} {z : Nat} {u1 u2 : Value} {W H : Nat}
theorem Ft.c0 (h : Ft w z u1 u2 W H) : w.cell? ⟨z, 0, none⟩ = some (.int .i64 (W : Nat)) := by unfold Ft at h; simp [World.cell?, h]
theorem Ft.c1 (h : Ft w z u1 u2 W H) : w.cell? ⟨z, 1, none⟩ = some (.int .i64 (H : Nat)) := by unfold Ft at h; simp [World.cell?, h]
theorem Ft.c2 (h : Ft w z u1 u2 W H) : w.cell? ⟨z, 2, none⟩ = some u1 := by unfold Ft at h; simp [World.cell?, h]
theorem Ft.c3 (h : Ft w z u1 u2 W H) : w.cell? ⟨z, 3, none⟩ = some u2 := by unfold Ft at h; simp [World.cell?, h]
theorem Ft.fz (h : Ft w z u1 u2 W H) (i : Nat) : w.frozen? ⟨z, i, none⟩ = false := by unfold Ft at h; simp [World.frozen?, h]
theorem Ft.lt (h : Ft w z u1 u2 W H) : z < w.heap.size := lt_of_block h
theorem Ft.below {w' : World} {n : Nat} (h : Ft w z u1 u2 W H) (hb : Below n w w') (hz : z < n) : Ft w' z u1 u2 W H := (hb.block z hz).trans h
end

set_option maxRecDepth 100000 in
set_option maxHeartbeats 4000000 in
theorem ref_parse (s : ByteArray) (w : World) (hs : s.size ≤ maxLen) :
    Calls Tryd.prog 18 #[.string s] w fun e w' => RSays s.data.toList e w' ∧ Below w.heap.size w w' := by
  unfold maxLen at hs
  generalize hl : s.data.toList = l
  have Hl : Hid (s.data.toList = l) := hl
  have Ll : Hid (l.length = s.size) := by unfold Hid; rw [← hl]; rfl
  clear hl
  have P : Hid (Fd.parse l = match Fd.run Fd.st0 0 l with | .inl x => .inl x | .inr s => if 0 < s.c ∨ s.H = 0 then .inl (l.length, 2) else .inr s) := rfl
  go_enter Tryd.func18, Tryd.ntmps18
  go_wp2_with fail
  have B0 : Hid (Below w.heap.size w ((w.alloc (Obj.cells #[.int .i64 0, .int .i64 0, .slice none 0 0, .slice none 0 0] 24)).alloc (Obj.cells #[.int .i64 0, .int .i64 0, .slice none 0 0, .slice none 0 0] 24))) := ((Below.refl _ _).alloc (Nat.le_refl _) _).alloc (by simp) _
  have D0 : Hid (Ft ((w.alloc (Obj.cells #[.int .i64 0, .int .i64 0, .slice none 0 0, .slice none 0 0] 24)).alloc (Obj.cells #[.int .i64 0, .int .i64 0, .slice none 0 0, .slice none 0 0] 24)) (w.heap.size + 1) (.slice none 0 0) (.slice none 0 0) 0 0) := by
    have e : (w.alloc (Obj.cells #[.int .i64 0, .int .i64 0, .slice none 0 0, .slice none 0 0] 24)).heap.size = w.heap.size + 1 := by simp
    unfold Hid Ft
    rw [← e]
    exact heap_alloc_new _ _
  have X0 : Hid (Bf ((w.alloc (Obj.cells #[.int .i64 0, .int .i64 0, .slice none 0 0, .slice none 0 0] 24)).alloc (Obj.cells #[.int .i64 0, .int .i64 0, .slice none 0 0, .slice none 0 0] 24)) w.heap.size 0 0 (.slice none 0 0) (.slice none 0 0)) :=
    (Bf.mk' (w := w) 0 0 (.slice none 0 0) (.slice none 0 0) rfl).below ((Below.refl _ _).alloc (Nat.le_refl _) _) (by simp)
  have Z0 : Hid (∀ i, ((w.alloc (Obj.cells #[.int .i64 0, .int .i64 0, .slice none 0 0, .slice none 0 0] 24)).alloc (Obj.cells #[.int .i64 0, .int .i64 0, .slice none 0 0, .slice none 0 0] 24)).frozen? ⟨w.heap.size, i, none⟩ = false) := by
    intro i
    rw [((Below.refl _ (w.alloc (Obj.cells #[.int .i64 0, .int .i64 0, .slice none 0 0, .slice none 0 0] 24))).alloc (Nat.le_refl _) _).frozen (p := ⟨w.heap.size, i, none⟩) (by simp)]
    simp
  generalize (w.alloc (Obj.cells #[.int .i64 0, .int .i64 0, .slice none 0 0, .slice none 0 0] 24)).alloc (Obj.cells #[.int .i64 0, .int .i64 0, .slice none 0 0, .slice none 0 0] 24) = w0 at *
  go_loopw [6, 7] (fun c i W' => ∃ (k : Nat) (st : Fd.St) (u1 u2 : Value), k ≤ s.size ∧ i = .int .i64 (k : Nat) ∧ c = .int .i64 (st.c : Nat) ∧ Ft W' (w.heap.size + 1) u1 u2 st.W st.H ∧ Two W' (w.heap.size + 1 + 1) u1 u2 st.gs st.os ∧ Fd.Inv st (l.take k) ∧ Fd.run st k (l.drop k) = Fd.run Fd.st0 0 l ∧ Below (w.heap.size + 1) w0 W') (fun _ i _ => s.size - (intOf i).toNat)
  case atStart => exact ⟨0, Fd.st0, _, _, Nat.zero_le _, rfl, rfl, D0, ⟨Ow.nil _ _, Ow.nil _ _, fun k h => by cases h⟩, by simpa using Fd.inv0, by simp, Below.refl _ _⟩
  case round =>
    obtain ⟨k, st, u1, u2, hk, rfl, rfl, hd, ht, hi, hrun, hb⟩ := hrel
    have D : Hid (Ft wr (w.heap.size + 1) u1 u2 st.W st.H) := hd
    have T : Hid (Two wr (w.heap.size + 1 + 1) u1 u2 st.gs st.os) := ht
    have I : Hid (Fd.Inv st (l.take k)) := hi
    have R : Hid (Fd.run st k (l.drop k) = Fd.run Fd.st0 0 l) := hrun
    have B : Hid (Below (w.heap.size + 1) w0 wr) := hb
    have X : Hid (Bf wr w.heap.size 0 0 (.slice none 0 0) (.slice none 0 0)) := X0.out.below hb (Nat.lt_succ_self _)
    have Z : Hid (∀ i, wr.frozen? ⟨w.heap.size, i, none⟩ = false) := fun i => by rw [hb.frozen (p := ⟨w.heap.size, i, none⟩) (Nat.lt_succ_self _)]; exact Z0.out i
    have BW : Hid (Below w.heap.size w wr) := B0.out.trans (hb.mono (Nat.le_succ _))
    have c0 := hd.c0
    have c1 := hd.c1
    have c2 := hd.c2
    have c3 := hd.c3
    have d0 := hd.fz 0
    have d1 := hd.fz 1
    have d2 := hd.fz 2
    have d3 := hd.fz 3
    obtain ⟨x0, x1, x2, x3⟩ := X.out
    have z0 := Z.out 0
    have z1 := Z.out 1
    have z2 := Z.out 2
    have z3 := Z.out 3
    have k12 := I.out.c12
    have h12 := I.out.h12
    have w12 := I.out.w12
    clear hd ht hi hrun hb D0
    by_cases h0 : k = s.size
    · subst h0
      have R2 : Hid (Fd.run Fd.st0 0 l = .inr st) := by
        unfold Hid
        rw [← R.out, List.drop_of_length_le (by rw [Ll.out]; exact Nat.le_refl _)]
        rfl
      obtain ⟨c, W, H, gs, os⟩ := st
      simp only at c0 c1 k12 h12 w12
      have P2 : Hid (Fd.parse l = if 0 < c ∨ H = 0 then .inl (l.length, 2) else .inr ⟨c, W, H, gs, os⟩) := by
        unfold Hid
        rw [P.out, R2.out]
      by_cases q1 : 0 < c
      · go_wp2
        refine bodyPost_ret (v := .tuple #[.agg #[.int .i64 0, .int .i64 0, .slice none 0 0, .slice none 0 0], .int .i64 (s.size : Nat), .int .i64 2]) (by simp [results, Tryd.results18, go_sem, x0, x1, x2, x3]) rfl ⟨.inl ⟨s.size, 2, by rw [P2.out, if_pos (.inl q1), Ll.out], rfl, by decide⟩, ?_⟩
        exact (((BW.out.setCell (Nat.le_refl _) _).setCell (Nat.le_refl _) _).setCell (Nat.le_refl _) _).setCell (Nat.le_refl _) _
      · obtain rfl : c = 0 := by omega
        by_cases q2 : H = 0
        · subst q2
          go_wp2
          refine bodyPost_ret (v := .tuple #[.agg #[.int .i64 0, .int .i64 0, .slice none 0 0, .slice none 0 0], .int .i64 (s.size : Nat), .int .i64 2]) (by simp [results, Tryd.results18, go_sem, x0, x1, x2, x3]) rfl ⟨.inl ⟨s.size, 2, by rw [P2.out, Ll.out]; simp, rfl, by decide⟩, ?_⟩
          exact (((BW.out.setCell (Nat.le_refl _) _).setCell (Nat.le_refl _) _).setCell (Nat.le_refl _) _).setCell (Nat.le_refl _) _
        · have q2b : ((H : Int) == 0) = false := by rw [beq_eq_false_iff_ne]; omega
          obtain ⟨p1, k1, rfl⟩ := T.out.o1.len
          obtain ⟨p2, k2, rfl⟩ := T.out.o2.len
          have KK : Hid (Kp w.heap.size wr ((((wr.setCell ⟨w.heap.size, 0, none⟩ (.int .i64 (W : Nat))).setCell ⟨w.heap.size, 1, none⟩ (.int .i64 (H : Nat))).setCell ⟨w.heap.size, 2, none⟩ (.slice p1 gs.length k1)).setCell ⟨w.heap.size, 3, none⟩ (.slice p2 os.length k2))) := (((Kp.set _ _ _).trans (Kp.set _ _ _)).trans (Kp.set _ _ _)).trans (Kp.set _ _ _)
          go_wp2
          refine bodyPost_ret (v := .tuple #[.agg #[.int .i64 (W : Nat), .int .i64 (H : Nat), .slice p1 gs.length k1, .slice p2 os.length k2], .int .i64 0, .int .i64 0]) (by simp [results, Tryd.results18, go_sem, x0, x1, x2, x3]) rfl ⟨.inr ⟨_, _, _, by rw [P2.out, if_neg (by omega)], rfl, ?_, ?_⟩, ?_⟩
          · exact (T.out.kp KK.out (by omega)).o1.ro
          · exact (T.out.kp KK.out (by omega)).o2.ro
          · exact (((BW.out.setCell (Nat.le_refl _) _).setCell (Nat.le_refl _) _).setCell (Nat.le_refl _) _).setCell (Nat.le_refl _) _
    · have hks : k < s.size := by omega
      have hkl : k < l.length := by rw [Ll.out]; exact hks
      have RA := run_at st hkl
      rw [R.out] at RA
      have eb : l[k] = s[k] := by
        have := Hl.out
        subst this
        rfl
      rw [eb] at RA
      have RA' : Hid _ := RA
      have TK : Hid (l.take (k + 1) = l.take k ++ [s[k]]) := by unfold Hid; rw [List.take_succ_eq_append_getElem hkl, eb]
      clear RA eb
      obtain ⟨b, hb⟩ : ∃ b, b = s[k] := ⟨_, rfl⟩
      have Eb : Hid (s[k] = b) := hb.symm
      have hn : s[k].toNat = b.toNat := by rw [hb]
      rw [← hb] at RA' TK
      clear hb
      have bl := b.toNat_lt
      have Bad : Hid (∀ f, Fd.step st b = .inl f → Fd.parse l = .inl (k, f)) := fun f hf => by rw [P.out, RA'.out, hf]
      have Good : Hid (∀ st', Fd.step st b = .inr st' → Fd.Inv st' (l.take (k + 1)) ∧ Fd.run st' (k + 1) (l.drop (k + 1)) = Fd.run Fd.st0 0 l) := fun st' hst => ⟨by rw [TK.out]; exact I.out.step hst, by rw [RA'.out, hst]⟩
      have BP : Hid (∀ f, f ≠ 0 → Fd.step st b = .inl f → ∀ w', Below w.heap.size w w' → RSays l (.returned (.tuple #[.agg #[.int .i64 0, .int .i64 0, .slice none 0 0, .slice none 0 0], .int .i64 (k : Nat), .int .i64 f])) w' ∧ Below w.heap.size w w') := fun f h0 hf w' hw => ⟨.inl ⟨k, f, Bad.out f hf, rfl, h0⟩, hw⟩
      have Fr : Hid (Below w.heap.size w ((((wr.setCell ⟨w.heap.size, 0, none⟩ (.int .i64 0)).setCell ⟨w.heap.size, 1, none⟩ (.int .i64 0)).setCell ⟨w.heap.size, 2, none⟩ (.slice none 0 0)).setCell ⟨w.heap.size, 3, none⟩ (.slice none 0 0))) := (((BW.out.setCell (Nat.le_refl _) _).setCell (Nat.le_refl _) _).setCell (Nat.le_refl _) _).setCell (Nat.le_refl _) _
      have OK : Hid (Okay st) := Okay.of I.out
      clear Bad RA' TK R
      by_cases hten : b = 10
      · have S := step_ten OK.out
        have HS : Hid _ := S
        subst hten
        obtain ⟨c, W, H, gs, os⟩ := st
        simp only at c0 c1 k12 h12 w12
        rw [show (10 : UInt8).toNat = 10 from rfl] at hn
        clear S
        have cw : Hid ((0 < H ∧ c ≠ W) ↔ (c < W)) := by have := OK.out.w0; have := OK.out.cw; simp only at *; unfold Hid; omega
        by_cases q1 : c = 0
        · subst q1
          have HS' : Hid (Fd.step ⟨0, W, H, gs, os⟩ 10 = .inl 2) := by unfold Hid; rw [HS.out]; simp
          go_wp2
          exact bodyPost_ret (v := .tuple #[.agg #[.int .i64 0, .int .i64 0, .slice none 0 0, .slice none 0 0], .int .i64 (k : Nat), .int .i64 2]) (by simp [results, Tryd.results18, go_sem, x0, x1, x2, x3]) rfl (BP.out 2 (by decide) HS'.out _ Fr.out)
        · have q1b : ((c : Int) == 0) = false := by rw [beq_eq_false_iff_ne]; omega
          by_cases q2 : 0 < H ∧ c ≠ W
          · obtain ⟨q2a, q2b⟩ := q2
            have HS' : Hid (Fd.step ⟨c, W, H, gs, os⟩ 10 = .inl 2) := by unfold Hid; rw [HS.out, if_pos (.inr (cw.out.1 ⟨q2a, q2b⟩))]
            have q2c : ((c : Int) != (W : Int)) = true := by rw [bne_iff_ne]; omega
            go_wp2
            exact bodyPost_ret (v := .tuple #[.agg #[.int .i64 0, .int .i64 0, .slice none 0 0, .slice none 0 0], .int .i64 (k : Nat), .int .i64 2]) (by simp [results, Tryd.results18, go_sem, x0, x1, x2, x3]) rfl (BP.out 2 (by decide) HS'.out _ Fr.out)
          · have HS' : Hid (Fd.step ⟨c, W, H, gs, os⟩ 10 = .inr ⟨0, c, H + 1, gs, os⟩) := by
              unfold Hid
              rw [HS.out, if_neg]
              intro h
              rcases h with h | h
              · exact q1 h
              · exact q2 (cw.out.2 h)
            have G := Good.out _ HS'.out
            have I2 : Hid (Fd.Inv ⟨0, c, H + 1, gs, os⟩ (l.take (k + 1))) := G.1
            have R2 : Hid (Fd.run ⟨0, c, H + 1, gs, os⟩ (k + 1) (l.drop (k + 1)) = Fd.run Fd.st0 0 l) := G.2
            have KK : Hid (Kp (w.heap.size + 1) wr ((wr.setCell ⟨w.heap.size + 1, 0, none⟩ (.int .i64 (c : Nat))).setCell ⟨w.heap.size + 1, 1, none⟩ (.int .i64 ((H : Nat) + 1)))) := (Kp.set _ _ _).trans (Kp.set _ _ _)
            have F2 : Hid (Ft ((wr.setCell ⟨w.heap.size + 1, 0, none⟩ (.int .i64 (c : Nat))).setCell ⟨w.heap.size + 1, 1, none⟩ (.int .i64 ((H : Nat) + 1))) (w.heap.size + 1) u1 u2 c (H + 1)) := by
              unfold Hid Ft
              rw [heap_setCell_same _ _ 1 _ _ _ (heap_setCell_same wr _ 0 _ _ _ D.out)]
              simp
            have B2 : Hid (Below (w.heap.size + 1) w0 ((wr.setCell ⟨w.heap.size + 1, 0, none⟩ (.int .i64 (c : Nat))).setCell ⟨w.heap.size + 1, 1, none⟩ (.int .i64 ((H : Nat) + 1)))) := (B.out.setCell (Nat.le_refl _) _).setCell (Nat.le_refl _) _
            have T2 : Hid (Two ((wr.setCell ⟨w.heap.size + 1, 0, none⟩ (.int .i64 (c : Nat))).setCell ⟨w.heap.size + 1, 1, none⟩ (.int .i64 ((H : Nat) + 1))) (w.heap.size + 1 + 1) u1 u2 gs os) := T.out.kp KK.out (Nat.lt_succ_self _)
            clear G
            by_cases q3 : H = 0
            · subst q3
              go_wp2
              go_round
              case rel => exact ⟨k + 1, ⟨0, c, 0 + 1, gs, os⟩, u1, u2, by omega, by go_num, rfl, F2, T2, I2, R2, B2⟩
              case measure => simp [intOf]; omega
            · have q3' : 0 < H := by omega
              have q4 : c = W := by
                rcases Nat.lt_trichotomy c W with h | h | h
                · exact absurd ⟨q3', by omega⟩ q2
                · exact h
                · exact absurd ⟨q3', by omega⟩ q2
              have q4b : ((c : Int) != (W : Int)) = false := by rw [bne_eq_false_iff_eq]; omega
              clear q2 q4
              go_wp2
              go_round
              case rel => exact ⟨k + 1, ⟨0, c, H + 1, gs, os⟩, u1, u2, by omega, by go_num, rfl, F2, T2, I2, R2, B2⟩
              case measure => simp [intOf]; omega
      · have HB : Hid (b ≠ 10) := hten
        have ht : ¬ ((b.toNat : Nat) : Int) = 10 := by
          intro e
          have e2 : b.toNat = 10 := by omega
          exact HB.out (UInt8.toNat_inj.1 e2)
        have htb : (((b.toNat : Nat) : Int) == 10) = false := by rw [beq_eq_false_iff_ne]; exact ht
        have Cls : (∃ g o, Fd.meant b = some (g, o) ∧ ((b.toNat = 46 ∧ g = 0 ∧ o = 0) ∨ (b.toNat = 35 ∧ g = 1 ∧ o = 0) ∨ (b.toNat = 126 ∧ g = 2 ∧ o = 0) ∨ (b.toNat = 94 ∧ g = 3 ∧ o = 0) ∨ (49 ≤ b.toNat ∧ b.toNat ≤ 57 ∧ g = 0 ∧ o = 10 * ((b.toNat : Int) - 48)))) ∨ (Fd.meant b = none ∧ b.toNat ≠ 46 ∧ b.toNat ≠ 35 ∧ b.toNat ≠ 126 ∧ b.toNat ≠ 94 ∧ (b.toNat < 49 ∨ 57 < b.toNat)) := by
          have e1 : b = 46 ↔ b.toNat = 46 := ⟨fun h => by rw [h]; rfl, fun h => UInt8.toNat_inj.1 h⟩
          have e2 : b = 35 ↔ b.toNat = 35 := ⟨fun h => by rw [h]; rfl, fun h => UInt8.toNat_inj.1 h⟩
          have e3 : b = 126 ↔ b.toNat = 126 := ⟨fun h => by rw [h]; rfl, fun h => UInt8.toNat_inj.1 h⟩
          have e4 : b = 94 ↔ b.toNat = 94 := ⟨fun h => by rw [h]; rfl, fun h => UInt8.toNat_inj.1 h⟩
          unfold Fd.meant
          by_cases h : 49 ≤ b.toNat ∧ b.toNat ≤ 57
          · rw [if_pos h]
            exact .inl ⟨_, _, rfl, by omega⟩
          · rw [if_neg h]
            by_cases h1 : b = 46
            · rw [if_pos h1]; exact .inl ⟨_, _, rfl, .inl ⟨e1.1 h1, rfl, rfl⟩⟩
            · rw [if_neg h1]
              by_cases h2 : b = 35
              · rw [if_pos h2]; exact .inl ⟨_, _, rfl, .inr (.inl ⟨e2.1 h2, rfl, rfl⟩)⟩
              · rw [if_neg h2]
                by_cases h3 : b = 126
                · rw [if_pos h3]; exact .inl ⟨_, _, rfl, .inr (.inr (.inl ⟨e3.1 h3, rfl, rfl⟩))⟩
                · rw [if_neg h3]
                  by_cases h4 : b = 94
                  · rw [if_pos h4]; exact .inl ⟨_, _, rfl, .inr (.inr (.inr (.inl ⟨e4.1 h4, rfl, rfl⟩)))⟩
                  · rw [if_neg h4]
                    exact .inr ⟨rfl, fun h => h1 (e1.2 h), fun h => h2 (e2.2 h), fun h => h3 (e3.2 h), fun h => h4 (e4.2 h), by omega⟩
        rcases Cls with ⟨g, o, hm, cls⟩ | ⟨hm, m1, m2, m3, m4, m5⟩
        · have HS : Hid _ := step_some (s := st) HB.out hm
          have CL : Hid ((b.toNat = 46 ∧ g = 0 ∧ o = 0) ∨ (b.toNat = 35 ∧ g = 1 ∧ o = 0) ∨ (b.toNat = 126 ∧ g = 2 ∧ o = 0) ∨ (b.toNat = 94 ∧ g = 3 ∧ o = 0) ∨ (49 ≤ b.toNat ∧ b.toNat ≤ 57 ∧ g = 0 ∧ o = 10 * ((b.toNat : Int) - 48))) := cls
          clear hm cls
          generalize b.toNat = n at *
          go_upto_block 2 with fail
          go_cut [8, 9] (fun v8 v9 W' => v8 = .int .i64 g ∧ v9 = .int .i64 o ∧ W' = wr)
          case first =>
            rcases CL.out with ⟨e1, rfl, rfl⟩ | ⟨e1, rfl, rfl⟩ | ⟨e1, rfl, rfl⟩ | ⟨e1, rfl, rfl⟩ | ⟨e1, e2, rfl, rfl⟩
            · subst e1
              clear CL HS
              go_wp2_with fail
              go_meet
              case rel => exact ⟨rfl, rfl, rfl⟩
            · subst e1
              clear CL HS
              go_wp2_with fail
              go_meet
              case rel => exact ⟨rfl, rfl, rfl⟩
            · subst e1
              clear CL HS
              go_wp2_with fail
              go_meet
              case rel => exact ⟨rfl, rfl, rfl⟩
            · subst e1
              clear CL HS
              go_wp2_with fail
              go_meet
              case rel => exact ⟨rfl, rfl, rfl⟩
            · have m1b : ((n : Int) == 46) = false := by rw [beq_eq_false_iff_ne]; omega
              have m2b : ((n : Int) == 35) = false := by rw [beq_eq_false_iff_ne]; omega
              have m3b : ((n : Int) == 126) = false := by rw [beq_eq_false_iff_ne]; omega
              have m4b : ((n : Int) == 94) = false := by rw [beq_eq_false_iff_ne]; omega
              clear CL HS
              go_wp2_with fail
              go_meet
              case rel => exact ⟨rfl, rfl, rfl⟩
          case rest =>
            obtain ⟨rfl, rfl, rfl⟩ := hcut
            clear CL htb ht hn bl
            obtain ⟨c, W, H, gs, os⟩ := st
            simp only at c0 c1 k12 h12 w12
            by_cases q1 : 0 < H ∧ c = W
            · obtain ⟨q1a, q1b⟩ := q1
              have HS' : Hid (Fd.step ⟨c, W, H, gs, os⟩ b = .inl 2) := by unfold Hid; rw [HS.out, if_pos ⟨q1a, q1b⟩]
              subst q1b
              go_wp2
              exact bodyPost_ret (v := .tuple #[.agg #[.int .i64 0, .int .i64 0, .slice none 0 0, .slice none 0 0], .int .i64 (k : Nat), .int .i64 2]) (by simp [results, Tryd.results18, go_sem, x0, x1, x2, x3]) rfl (BP.out 2 (by decide) HS'.out _ Fr.out)
            · have HS1 : Hid (Fd.step ⟨c, W, H, gs, os⟩ b = if c = 12 ∨ H = 12 then .inl 4 else .inr ⟨c + 1, W, H, gs ++ [g], os ++ [o]⟩) := by unfold Hid; rw [HS.out, if_neg q1]
              clear HS
              go_upto_region 26 with fail
              go_cut [78] (fun v78 W' => v78 = .bool false ∧ W' = wc)
              case first =>
                by_cases q2 : H = 0
                · subst q2
                  go_wp2_with fail
                  go_meet
                  case rel => exact ⟨rfl, rfl⟩
                · have q3 : 0 < H := by omega
                  have q4 : ¬ c = W := fun e => q1 ⟨q3, e⟩
                  have q4b : ((c : Int) == (W : Int)) = false := by rw [beq_eq_false_iff_ne]; omega
                  clear q1
                  go_wp2_with fail
                  go_meet
                  case rel => exact ⟨rfl, rfl⟩
              case rest =>
                obtain ⟨rfl, rfl⟩ := hcut
                clear q1
                by_cases q5 : c = 12
                · subst q5
                  have HS' : Hid (Fd.step ⟨12, W, H, gs, os⟩ b = .inl 4) := by unfold Hid; rw [HS1.out, if_pos (.inl rfl)]
                  go_wp2
                  exact bodyPost_ret (v := .tuple #[.agg #[.int .i64 0, .int .i64 0, .slice none 0 0, .slice none 0 0], .int .i64 (k : Nat), .int .i64 4]) (by simp [results, Tryd.results18, go_sem, x0, x1, x2, x3]) rfl (BP.out 4 (by decide) HS'.out _ Fr.out)
                · have q5b : ((c : Int) == 12) = false := by rw [beq_eq_false_iff_ne]; omega
                  by_cases q6 : H = 12
                  · subst q6
                    have HS' : Hid (Fd.step ⟨c, W, 12, gs, os⟩ b = .inl 4) := by unfold Hid; rw [HS1.out, if_pos (.inr rfl)]
                    go_wp2
                    exact bodyPost_ret (v := .tuple #[.agg #[.int .i64 0, .int .i64 0, .slice none 0 0, .slice none 0 0], .int .i64 (k : Nat), .int .i64 4]) (by simp [results, Tryd.results18, go_sem, x0, x1, x2, x3]) rfl (BP.out 4 (by decide) HS'.out _ Fr.out)
                  · have q6b : ((H : Int) == 12) = false := by rw [beq_eq_false_iff_ne]; omega
                    have HS' : Hid (Fd.step ⟨c, W, H, gs, os⟩ b = .inr ⟨c + 1, W, H, gs ++ [g], os ++ [o]⟩) := by unfold Hid; rw [HS1.out, if_neg (by omega)]
                    have G := Good.out _ HS'.out
                    have I2 : Hid (Fd.Inv ⟨c + 1, W, H, gs ++ [g], os ++ [o]⟩ (l.take (k + 1))) := G.1
                    have R2 : Hid (Fd.run ⟨c + 1, W, H, gs ++ [g], os ++ [o]⟩ (k + 1) (l.drop (k + 1)) = Fd.run Fd.st0 0 l) := G.2
                    have gl := OK.out.gl
                    have ol := OK.out.ol
                    simp only at gl ol
                    have L2 : Hid (w.heap.size + 1 < wc.heap.size) := D.out.lt
                    clear HS1 G x0 x1 x2 x3 z0 z1 z2 z3
                    go_wp2_with (at_builtin; refine app_int _ rfl _ _ rfl (w.heap.size + 1 + 1) _ gs rfl (T.out.o1.alloc _) ⟨wc.heap.size, 0, none⟩ g rfl (by simp) (by omega) (by have := L2.out; simp; omega) ?_)
                    intro g1 cap1 w3 o3 g3 a3 l3
                    have hob : ∀ k, u1.ownBlock = some k → w.heap.size + 1 + 1 ≤ k := fun k hk => (T.out.o1.block k hk).1
                    have b3 : Below (w.heap.size + 1 + 1) wc w3 := ((Below.refl _ _).alloc L2.out _).grown g3 (by have := L2.out; simp; omega) hob
                    have D3 : Ft w3 (w.heap.size + 1) u1 u2 W H := D.out.below b3 (Nat.lt_succ_self _)
                    have O3 : Ow w3 (w.heap.size + 1 + 1) u2 os := (T.out.o2.alloc _).kept g3 (by
                      cases hq : u2.ownBlock with
                      | none => exact .inl rfl
                      | some k => exact .inr (fun e => T.out.ne k e.symm hq))
                    have N3 : Hid (∀ k, u2.ownBlock = some k → k ≠ g1) := by
                      intro k hk e
                      subst e
                      rcases a3 with a3 | a3
                      · exact T.out.ne _ a3 hk
                      · have := (T.out.o2.block _ hk).2
                        try simp at a3
                        omega
                    have K3 : Kp (w.heap.size + 1) w3 (w3.setCell ⟨w.heap.size + 1, 2, none⟩ (Value.slice (some ⟨g1, 0, none⟩) (gs.length + 1) cap1)) := Kp.set _ _ _
                    have T3 : Hid (Two (w3.setCell ⟨w.heap.size + 1, 2, none⟩ (Value.slice (some ⟨g1, 0, none⟩) (gs.length + 1) cap1)) (w.heap.size + 1 + 1) (Value.slice (some ⟨g1, 0, none⟩) (gs.length + 1) cap1) u2 (gs ++ [g]) os) :=
                      (show Two w3 (w.heap.size + 1 + 1) (Value.slice (some ⟨g1, 0, none⟩) (gs.length + 1) cap1) u2 (gs ++ [g]) os from ⟨o3, O3, fun k hk e => N3.out k e (Option.some.inj hk).symm⟩).kp K3 (Nat.lt_succ_self _)
                    have D4 : Hid (Ft (w3.setCell ⟨w.heap.size + 1, 2, none⟩ (Value.slice (some ⟨g1, 0, none⟩) (gs.length + 1) cap1)) (w.heap.size + 1) (Value.slice (some ⟨g1, 0, none⟩) (gs.length + 1) cap1) u2 W H) := by
                      unfold Hid Ft
                      rw [heap_setCell_same w3 _ 2 _ _ _ D3]
                      simp
                    have B4 : Hid (Below (w.heap.size + 1) w0 (w3.setCell ⟨w.heap.size + 1, 2, none⟩ (Value.slice (some ⟨g1, 0, none⟩) (gs.length + 1) cap1))) := (B.out.trans (b3.mono (Nat.le_succ _))).setCell (Nat.le_refl _) _
                    have e2 := D3.c2
                    have e3 := D3.c3
                    have f2 := D3.fz 2
                    have z3 : Hid (w.heap.size + 1 < w3.heap.size) := D3.lt
                    clear o3 g3 a3 l3 hob b3 D3 O3 K3 c0 c1 c2 c3 d0 d1 d2 d3
                    go_wp2_with (at_builtin; refine app_int _ rfl _ _ rfl (w.heap.size + 1 + 1) _ os rfl (T3.out.o2.alloc _) ⟨w3.heap.size, 0, none⟩ o rfl (by rw [World.cell?_alloc_at _ _ _ _ (by simp)]; rfl) (by omega) (by have := z3.out; simp; omega) ?_)
                    intro g2 cap2 w5 o5 g5 a5 l5
                    have hob : ∀ k, u2.ownBlock = some k → w.heap.size + 1 + 1 ≤ k := fun k hk => (T3.out.o2.block k hk).1
                    have b5 : Below (w.heap.size + 1 + 1) (w3.setCell ⟨w.heap.size + 1, 2, none⟩ (Value.slice (some ⟨g1, 0, none⟩) (gs.length + 1) cap1)) w5 := ((Below.refl _ _).alloc (by have := z3.out; simp; omega) _).grown g5 (by have := z3.out; simp; omega) hob
                    have D5 : Ft w5 (w.heap.size + 1) (Value.slice (some ⟨g1, 0, none⟩) (gs.length + 1) cap1) u2 W H := D4.out.below b5 (Nat.lt_succ_self _)
                    have O5 : Ow w5 (w.heap.size + 1 + 1) (Value.slice (some ⟨g1, 0, none⟩) (gs.length + 1) cap1) (gs ++ [g]) := (T3.out.o1.alloc _).kept g5 (.inr (fun e => T3.out.ne g1 rfl e.symm))
                    have N5 : Hid (g1 ≠ g2) := by
                      intro e
                      subst e
                      rcases a5 with a5 | a5
                      · exact T3.out.ne _ rfl a5
                      · have := (T3.out.o1.block _ rfl).2
                        simp at this
                        try simp at a5
                        omega
                    have K5 : Kp (w.heap.size + 1) w5 (w5.setCell ⟨w.heap.size + 1, 3, none⟩ (Value.slice (some ⟨g2, 0, none⟩) (os.length + 1) cap2)) := Kp.set _ _ _
                    have T5 : Hid (Two (w5.setCell ⟨w.heap.size + 1, 3, none⟩ (Value.slice (some ⟨g2, 0, none⟩) (os.length + 1) cap2)) (w.heap.size + 1 + 1) (Value.slice (some ⟨g1, 0, none⟩) (gs.length + 1) cap1) (Value.slice (some ⟨g2, 0, none⟩) (os.length + 1) cap2) (gs ++ [g]) (os ++ [o])) :=
                      (show Two w5 (w.heap.size + 1 + 1) (Value.slice (some ⟨g1, 0, none⟩) (gs.length + 1) cap1) (Value.slice (some ⟨g2, 0, none⟩) (os.length + 1) cap2) (gs ++ [g]) (os ++ [o]) from ⟨O5, o5, fun k hk e => N5.out ((Option.some.inj hk).trans (Option.some.inj e).symm)⟩).kp K5 (Nat.lt_succ_self _)
                    have D6 : Hid (Ft (w5.setCell ⟨w.heap.size + 1, 3, none⟩ (Value.slice (some ⟨g2, 0, none⟩) (os.length + 1) cap2)) (w.heap.size + 1) (Value.slice (some ⟨g1, 0, none⟩) (gs.length + 1) cap1) (Value.slice (some ⟨g2, 0, none⟩) (os.length + 1) cap2) W H) := by
                      unfold Hid Ft
                      rw [heap_setCell_same w5 _ 3 _ _ _ D5]
                      simp
                    have B6 : Hid (Below (w.heap.size + 1) w0 (w5.setCell ⟨w.heap.size + 1, 3, none⟩ (Value.slice (some ⟨g2, 0, none⟩) (os.length + 1) cap2))) := (B4.out.trans (b5.mono (Nat.le_succ _))).setCell (Nat.le_refl _) _
                    have e4 : w5.cell? ⟨w.heap.size + 1, 3, none⟩ = some u2 := D5.c3
                    have f3 := D5.fz 3
                    clear o5 g5 a5 l5 hob b5 D5 O5 K5 e2 e3 f2
                    go_wp2
                    go_roundw
                    case rel => exact ⟨k + 1, ⟨c + 1, W, H, gs ++ [g], os ++ [o]⟩, _, _, by omega, by go_num, by go_num, D6, T5, I2, R2, B6⟩
                    case measure => simp [intOf]; omega
        · have HS : Hid (Fd.step st b = .inl 2) := step_none HB.out hm
          clear hm
          generalize b.toNat = n at *
          have m1b : ((n : Int) == 46) = false := by rw [beq_eq_false_iff_ne]; omega
          have m2b : ((n : Int) == 35) = false := by rw [beq_eq_false_iff_ne]; omega
          have m3b : ((n : Int) == 126) = false := by rw [beq_eq_false_iff_ne]; omega
          have m4b : ((n : Int) == 94) = false := by rw [beq_eq_false_iff_ne]; omega
          by_cases q1 : n < 49
          · clear m5
            go_wp2
            exact bodyPost_ret (v := .tuple #[.agg #[.int .i64 0, .int .i64 0, .slice none 0 0, .slice none 0 0], .int .i64 (k : Nat), .int .i64 2]) (by simp [results, Tryd.results18, go_sem, x0, x1, x2, x3]) rfl (BP.out 2 (by decide) HS.out _ Fr.out)
          · have q2 : 57 < n := by omega
            clear m5
            go_wp2
            exact bodyPost_ret (v := .tuple #[.agg #[.int .i64 0, .int .i64 0, .slice none 0 0, .slice none 0 0], .int .i64 (k : Nat), .int .i64 2]) (by simp [results, Tryd.results18, go_sem, x0, x1, x2, x3]) rfl (BP.out 2 (by decide) HS.out _ Fr.out)
end Go.Proofs.YthnfaflhecfnfaaDoor
