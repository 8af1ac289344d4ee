/- Fields: one byte more. -/
import Derived.Test.YthnfaflhecfnfaaFdD
import Derived.Deep.DeepCutAuto
namespace Go.Proofs.Ythnfaflhecfnfaa
open Go.RowKit
set_option linter.unusedVariables false

/-- what holds of every draft. -/
structure Okay (s : Fd.St) : Prop where
  w0 : s.H = 0 → s.W = 0
  cw : 0 < s.H → s.c ≤ s.W
  c12 : s.c ≤ 12
  w12 : s.W ≤ 12
  h12 : s.H ≤ 12
  gl : s.gs.length ≤ 156
  ol : s.os.length ≤ 156
theorem Okay.of {s : Fd.St} {l : List UInt8} (h : Fd.Inv s l) : Okay s := by
  have e : s.H * s.W ≤ 144 := Nat.mul_le_mul h.h12 h.w12
  have := h.c12
  exact ⟨h.w0, h.cw, h.c12, h.w12, h.h12, by rw [h.gl]; omega, by rw [h.ol]; omega⟩

theorem step_ten {s : Fd.St} (h : Okay s) : Fd.step s 10 = if s.c = 0 ∨ s.c < s.W then .inl 2 else .inr ⟨0, s.c, s.H + 1, s.gs, s.os⟩ := by
  unfold Fd.step
  rw [if_pos rfl]
  have := h.w0; have := h.cw
  by_cases q : s.c = 0 ∨ (0 < s.H ∧ s.c ≠ s.W)
  · rw [if_pos q, if_pos (by omega)]
  · rw [if_neg q, if_neg (by omega)]
theorem step_none {s : Fd.St} {b : UInt8} (hb : b ≠ 10) (hm : Fd.meant b = none) : Fd.step s b = .inl 2 := by
  unfold Fd.step
  rw [if_neg hb, hm]
theorem step_some {s : Fd.St} {b : UInt8} {g o : Int} (hb : b ≠ 10) (hm : Fd.meant b = some (g, o)) : Fd.step s b = if 0 < s.H ∧ s.c = s.W then .inl 2 else if s.c = 12 ∨ s.H = 12 then .inl 4 else .inr ⟨s.c + 1, s.W, s.H, s.gs ++ [g], s.os ++ [o]⟩ := by
  unfold Fd.step
  rw [if_neg hb, hm]

set_option maxHeartbeats 1000000 in
theorem read_ten (z : Nat) (s : Fd.St) (w : World) (h : Dr w z s) (ok : Okay s) :
    Calls Try.prog 10 #[.pointer (some ⟨z, 0, none⟩), .int .u8 10] w fun e w' => (∃ f, Fd.step s 10 = .inl f ∧ e = .returned (.iface 41 (.int .i64 f)) ∧ f ≠ 0 ∧ Below z w w') ∨ (∃ s', Fd.step s 10 = .inr s' ∧ e = .returned .nilIface ∧ Dr w' z s' ∧ Below z w w') := by
  obtain ⟨u1, u2, hd, ht⟩ := h
  have S := step_ten ok
  have HS : Hid _ := S
  clear S
  by_cases q : s.c = 0 ∨ s.c < s.W
  · have K : Hid (Calls Try.prog 20 #[.pointer (some ⟨z, 0, none⟩)] w fun e w' => e = .returned (.iface 41 (.int .i64 2)) ∧ ∃ n, w' = w.drewN n) := end_bad z u1 u2 s w hd ok.c12 ok.w12 q
    have Q : Hid (s.c = 0 ∨ s.c < s.W) := q
    clear q hd ht ok
    go_enter Try.func10, Try.ntmps10
    go_wp2_with fail
    refine Calls.mono K.out ?_
    rintro e w1 ⟨rfl, n, rfl⟩
    go_wp2
    go_ret
    exact .inl ⟨2, by rw [HS.out, if_pos Q.out], rfl, by decide, below_drewN (Below.refl _ _) _⟩
  · have K : Hid (Calls Try.prog 20 #[.pointer (some ⟨z, 0, none⟩)] w fun e w' => e = .returned .nilIface ∧ Dt w' z u1 u2 ⟨0, s.c, s.H + 1, s.gs, s.os⟩ ∧ Kp z w w') := end_ok z u1 u2 s w hd ok.c12 ok.w12 ok.h12 (fun e => q (.inl e)) (fun e => q (.inr e))
    have Q : Hid (¬ (s.c = 0 ∨ s.c < s.W)) := q
    have T : Hid (Two w (z + 1) u1 u2 s.gs s.os) := ht
    have L : Hid (z < w.heap.size) := hd.lt
    clear q hd ht ok
    go_enter Try.func10, Try.ntmps10
    go_wp2_with fail
    refine Calls.mono K.out ?_
    rintro e w1 ⟨rfl, hd1, hk1⟩
    have D1 : Hid (Dt w1 z u1 u2 ⟨0, s.c, s.H + 1, s.gs, s.os⟩) := hd1
    have K1 : Hid (Kp z w w1) := hk1
    clear hd1 hk1
    go_wp2
    go_ret
    refine .inr ⟨_, by rw [HS.out, if_neg Q.out], rfl, ⟨u1, u2, D1.out, T.out.kp K1.out (Nat.lt_succ_self _)⟩, Kp.below (Below.refl _ _) K1.out (Nat.le_of_lt L.out) (Nat.le_refl _)⟩

set_option maxRecDepth 100000 in
set_option maxHeartbeats 4000000 in
theorem read_sign (z : Nat) (s : Fd.St) (b : UInt8) (w : World) (h : Dr w z s) (ok : Okay s) (hb : b ≠ 10) :
    Calls Try.prog 10 #[.pointer (some ⟨z, 0, none⟩), .int .u8 (b.toNat : Nat)] w fun e w' => (∃ f, Fd.step s b = .inl f ∧ e = .returned (.iface 41 (.int .i64 f)) ∧ f ≠ 0 ∧ Below z w w') ∨ (∃ s', Fd.step s b = .inr s' ∧ e = .returned .nilIface ∧ Dr w' z s' ∧ Below z w w') := by
  obtain ⟨u1, u2, hd, ht⟩ := h
  have hb2 := b.toNat_lt
  have hb3 : ¬ ((b.toNat : Nat) : Int) = 10 := by
    intro e
    have e2 : b.toNat = 10 := by omega
    exact hb (UInt8.toNat_inj.1 e2)
  have M : Hid (∀ w, Calls Try.prog 21 #[.int .u8 (b.toNat : Nat)] w fun e w' => (∃ g o, Fd.meant b = some (g, o) ∧ e = .returned (.tuple #[.int .i64 g, .int .i64 o, .bool true]) ∧ w' = w) ∨ (Fd.meant b = none ∧ e = .returned (.tuple #[.int .i64 (-1), .int .i64 0, .bool false]) ∧ w' = w)) := meant_any b
  have HB : Hid (b ≠ 10) := hb
  have D : Hid (Dt w z u1 u2 s) := hd
  have T : Hid (Two w (z + 1) u1 u2 s.gs s.os) := ht
  have K : Hid (Okay s) := ok
  clear hb hd ht ok
  generalize b.toNat = n at *
  go_enter Try.func10, Try.ntmps10
  go_wp2_with fail
  refine (M.out _).mono ?_
  rintro e w1 hm
  rcases hm with ⟨g, o, hm, rfl, rfl⟩ | ⟨hm, rfl, rfl⟩
  · have HS : Hid _ := step_some (s := s) HB.out hm
    have c0 := D.out.c0
    have c1 := D.out.c1
    have c2 := D.out.c2
    have c3 := D.out.c3
    have c4 := D.out.c4
    obtain ⟨c, W, H, gs, os⟩ := s
    simp only at c0 c1 c4
    have k12 := K.out.c12
    have w12 := K.out.w12
    have h12 := K.out.h12
    simp only at k12 w12 h12
    clear hm M
    by_cases q1 : 0 < H ∧ c = W
    · obtain ⟨q1a, q1b⟩ := q1
      have HS' : Hid (Fd.step ⟨c, W, H, gs, os⟩ b = .inl 2) := by unfold Hid; rw [HS.out, if_pos ⟨q1a, q1b⟩]
      subst q1b
      go_wp2_with fail
      go_quiet (fail)
      go_wp2
      go_ret
      exact .inl ⟨2, HS'.out, rfl, by decide, below_drewN (Below.refl _ _) _⟩
    · have HS1 : Hid (Fd.step ⟨c, W, H, gs, os⟩ b = if c = 12 ∨ H = 12 then .inl 4 else .inr ⟨c + 1, W, H, gs ++ [g], os ++ [o]⟩) := by unfold Hid; rw [HS.out, if_neg q1]
      clear HS
      go_wp2_with fail
      go_cut [39] (fun v W' => v = .bool false ∧ ∃ n, W' = w1.drewN n)
      case first =>
        by_cases q2 : H = 0
        · subst q2
          go_quiet (fail)
          go_wp2_with fail
          go_meet
          case rel => exact ⟨rfl, _, rfl⟩
        · have q3 : 0 < H := by omega
          have q4 : ¬ c = W := fun e => q1 ⟨q3, e⟩
          have q4b : ((c : Int) == (W : Int)) = false := by rw [beq_eq_false_iff_ne]; omega
          clear q1
          go_quiet (fail)
          go_wp2_with fail
          go_meet
          case rel => exact ⟨rfl, _, rfl⟩
      case rest =>
        obtain ⟨rfl, nn, hn⟩ := hcut
        have kb : Below w1.heap.size w1 wc := by rw [hn]; exact below_drewN (Below.refl _ _) _
        have D2 : Hid (Dt wc z u1 u2 ⟨c, W, H, gs, os⟩) := D.out.below kb D.out.lt
        have T2 : Hid (Two wc (z + 1) u1 u2 gs os) := T.out.below kb (Nat.le_refl _)
        have B2 : Hid (Below z w1 wc) := kb.mono (Nat.le_of_lt D.out.lt)
        clear kb hn c0 c1 c2 c3 c4 q1 D T
        have c0 := D2.out.c0
        have c1 := D2.out.c1
        have c2 := D2.out.c2
        have c3 := D2.out.c3
        have c4 := D2.out.c4
        simp only at c0 c1 c4
        by_cases q5 : c = 12
        · subst q5
          have HS' : Hid (Fd.step ⟨12, W, H, gs, os⟩ b = .inl 4) := by unfold Hid; rw [HS1.out, if_pos (.inl rfl)]
          go_wp2
          go_ret
          exact .inl ⟨4, HS'.out, rfl, by decide, B2.out⟩
        · have q5b : ((c : Int) == 12) = false := by rw [beq_eq_false_iff_ne]; omega
          by_cases q6 : H = 12
          · subst q6
            have HS' : Hid (Fd.step ⟨c, W, 12, gs, os⟩ b = .inl 4) := by unfold Hid; rw [HS1.out, if_pos (.inr rfl)]
            go_wp2
            go_ret
            exact .inl ⟨4, HS'.out, rfl, by decide, B2.out⟩
          · have q6b : ((H : Int) == 12) = false := by rw [beq_eq_false_iff_ne]; omega
            have HS' : Hid (Fd.step ⟨c, W, H, gs, os⟩ b = .inr ⟨c + 1, W, H, gs ++ [g], os ++ [o]⟩) := by unfold Hid; rw [HS1.out, if_neg (by omega)]
            have gl := K.out.gl
            have ol := K.out.ol
            simp only at gl ol
            have L2 : Hid (z < wc.heap.size) := D2.out.lt
            clear HS1
            go_wp2_with (at_builtin; refine app_int _ rfl _ _ rfl (z + 1) _ gs rfl (T2.out.o1.alloc _) ⟨wc.heap.size, 0, none⟩ g rfl (by simp) (by omega) (by have := L2.out; simp; omega) ?_)
            intro g1 cap1 w3 o3 g3 a3 l3
            have hob : ∀ k, u1.ownBlock = some k → z + 1 ≤ k := fun k hk => (T2.out.o1.block k hk).1
            have b3 : Below (z + 1) wc w3 := ((Below.refl _ _).alloc L2.out _).grown g3 (by have := L2.out; simp; omega) hob
            have D3 : Dt w3 z u1 u2 ⟨c, W, H, gs, os⟩ := D2.out.below b3 (Nat.lt_succ_self _)
            have O3 : Ow w3 (z + 1) u2 os := (T2.out.o2.alloc _).kept g3 (by
              cases hq : u2.ownBlock with
              | none => exact .inl rfl
              | some k => exact .inr (fun e => T2.out.ne k e.symm hq))
            have N3 : Hid (∀ k, u2.ownBlock = some k → k ≠ g1) := by
              intro k hk e
              subst e
              rcases a3 with a3 | a3
              · exact T2.out.ne _ a3 hk
              · have := (T2.out.o2.block _ hk).2
                try simp at a3
                omega
            have K3 : Kp z w3 (w3.setCell ⟨z, 2, none⟩ (.slice (some ⟨g1, 0, none⟩) (gs.length + 1) cap1)) := Kp.set _ _ _
            have T3 : Hid (Two (w3.setCell ⟨z, 2, none⟩ (.slice (some ⟨g1, 0, none⟩) (gs.length + 1) cap1)) (z + 1) (.slice (some ⟨g1, 0, none⟩) (gs.length + 1) cap1) u2 (gs ++ [g]) os) :=
              (show Two w3 (z + 1) (.slice (some ⟨g1, 0, none⟩) (gs.length + 1) cap1) u2 (gs ++ [g]) os from ⟨o3, O3, fun k hk e => N3.out k e (Option.some.inj hk).symm⟩).kp K3 (Nat.lt_succ_self _)
            have D4 : Hid (Dt (w3.setCell ⟨z, 2, none⟩ (.slice (some ⟨g1, 0, none⟩) (gs.length + 1) cap1)) z (.slice (some ⟨g1, 0, none⟩) (gs.length + 1) cap1) u2 ⟨c, W, H, gs ++ [g], os⟩) := by
              unfold Hid Dt
              rw [heap_setCell_same w3 z 2 _ _ _ D3]
              simp
            have B4 : Hid (Below z w1 (w3.setCell ⟨z, 2, none⟩ (.slice (some ⟨g1, 0, none⟩) (gs.length + 1) cap1))) := (B2.out.trans (b3.mono (Nat.le_succ _))).setCell (Nat.le_refl _) _
            have e2 := D3.c2
            have e3 := D3.c3
            have f2 := D3.fz 2
            have z3 : Hid (z < w3.heap.size) := D3.lt
            clear o3 g3 a3 l3 hob b3 D3 O3 K3 c0 c1 c2 c3 c4
            go_wp2_with (at_builtin; refine app_int _ rfl _ _ rfl (z + 1) _ os rfl (T3.out.o2.alloc _) ⟨w3.heap.size, 0, none⟩ o rfl (by rw [World.cell?_alloc_at _ _ _ _ (by simp)]; rfl) (by omega) (by have := z3.out; simp; omega) ?_)
            intro g2 cap2 w5 o5 g5 a5 l5
            have hob : ∀ k, u2.ownBlock = some k → z + 1 ≤ k := fun k hk => (T3.out.o2.block k hk).1
            have b5 : Below (z + 1) (w3.setCell ⟨z, 2, none⟩ (Value.slice (some ⟨g1, 0, none⟩) (gs.length + 1) cap1)) w5 := ((Below.refl _ _).alloc (by have := z3.out; simp; omega) _).grown g5 (by have := z3.out; simp; omega) hob
            have D5 : Dt w5 z (Value.slice (some ⟨g1, 0, none⟩) (gs.length + 1) cap1) u2 ⟨c, W, H, gs ++ [g], os⟩ := D4.out.below b5 (Nat.lt_succ_self _)
            have O5 : Ow w5 (z + 1) (Value.slice (some ⟨g1, 0, none⟩) (gs.length + 1) cap1) (gs ++ [g]) := (T3.out.o1.alloc _).kept g5 (by
              cases hq : (Value.slice (some ⟨g1, 0, none⟩) (gs.length + 1) cap1).ownBlock with
              | none => exact .inl rfl
              | some k => exact .inr (fun e => T3.out.ne k hq e.symm))
            have N5 : Hid (∀ k, (Value.slice (some ⟨g1, 0, none⟩) (gs.length + 1) cap1).ownBlock = some k → k ≠ g2) := by
              intro k hk e
              subst e
              rcases a5 with a5 | a5
              · exact T3.out.ne _ hk a5
              · have := (T3.out.o1.block _ hk).2
                simp at this
                try simp at a5
                omega
            have K5 : Kp z w5 (w5.setCell ⟨z, 3, none⟩ (.slice (some ⟨g2, 0, none⟩) (os.length + 1) cap2)) := Kp.set _ _ _
            have T5 : Hid (Two (w5.setCell ⟨z, 3, none⟩ (.slice (some ⟨g2, 0, none⟩) (os.length + 1) cap2)) (z + 1) (Value.slice (some ⟨g1, 0, none⟩) (gs.length + 1) cap1) (.slice (some ⟨g2, 0, none⟩) (os.length + 1) cap2) (gs ++ [g]) (os ++ [o])) :=
              (show Two w5 (z + 1) (Value.slice (some ⟨g1, 0, none⟩) (gs.length + 1) cap1) (.slice (some ⟨g2, 0, none⟩) (os.length + 1) cap2) (gs ++ [g]) (os ++ [o]) from ⟨O5, o5, fun k hk e => N5.out k hk (Option.some.inj e).symm⟩).kp K5 (Nat.lt_succ_self _)
            have D6 : Hid (Dt (w5.setCell ⟨z, 3, none⟩ (.slice (some ⟨g2, 0, none⟩) (os.length + 1) cap2)) z (Value.slice (some ⟨g1, 0, none⟩) (gs.length + 1) cap1) (.slice (some ⟨g2, 0, none⟩) (os.length + 1) cap2) ⟨c, W, H, gs ++ [g], os ++ [o]⟩) := by
              unfold Hid Dt
              rw [heap_setCell_same w5 z 3 _ _ _ D5]
              simp
            have B6 : Hid (Below z w1 (w5.setCell ⟨z, 3, none⟩ (.slice (some ⟨g2, 0, none⟩) (os.length + 1) cap2))) := (B4.out.trans (b5.mono (Nat.le_succ _))).setCell (Nat.le_refl _) _
            have e4 : w5.cell? ⟨z, 3, none⟩ = some u2 := D5.c3
            have e5 : w5.cell? ⟨z, 4, none⟩ = some (.int .i64 (c : Nat)) := D5.c4
            have f3 := D5.fz 3
            have f4 := D5.fz 4
            clear o5 g5 a5 l5 hob b5 D5 O5 K5 e2 e3 f2
            go_wp2
            go_ret
            refine .inr ⟨_, HS'.out, rfl, ⟨(Value.slice (some ⟨g1, 0, none⟩) (gs.length + 1) cap1), (Value.slice (some ⟨g2, 0, none⟩) (os.length + 1) cap2), ?_, T5.out.kp (Kp.set _ _ _) (Nat.lt_succ_self _)⟩, B6.out.setCell (Nat.le_refl _) _⟩
            unfold Dt
            rw [heap_setCell_same _ z 4 _ _ _ D6.out]
            simp
  · have HS : Hid (Fd.step s b = .inl 2) := step_none HB.out hm
    go_wp2_with fail
    go_quiet (fail)
    go_wp2
    go_ret
    exact .inl ⟨2, HS.out, rfl, by decide, below_drewN (Below.refl _ _) _⟩
end Go.Proofs.Ythnfaflhecfnfaa
