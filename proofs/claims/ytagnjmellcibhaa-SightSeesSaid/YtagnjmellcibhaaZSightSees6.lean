/- Fields: one byte more. · Fields: Parse. · A region that draws its order, in which one operation (A: what makes memory for an answer) may come at any time beside calls in one order and what reads. -/
import Derived.Test.YtagnjmellcibhaaZSightSees5
import Derived.Deep.DeepCutAuto
import Derived.Test.YtagnjmellcibhaaZSightSees2
import Derived.Test.YtagnjmellcibhaaZSightSees3
namespace Go.Proofs.Ytagnjmellcibhaa
open Go.RowKit
set_option linter.unusedVariables false

/-- what holds of every draft. -/
structure Okay (s : Fd.St) : Prop where
  w0 : s.H = 0 → s.W = 0
  cw : 0 < s.H → s.c ≤ s.W
  c12 : s.c ≤ 12
  w12 : s.W ≤ 12
  h12 : s.H ≤ 12
  gl : s.gs.length ≤ 156
  ol : s.os.length ≤ 156
theorem Okay.of {s : Fd.St} {l : List UInt8} (h : Fd.Inv s l) : Okay s := by
  have e : s.H * s.W ≤ 144 := Nat.mul_le_mul h.h12 h.w12
  have := h.c12
  exact ⟨h.w0, h.cw, h.c12, h.w12, h.h12, by rw [h.gl]; omega, by rw [h.ol]; omega⟩

theorem step_ten {s : Fd.St} (h : Okay s) : Fd.step s 10 = if s.c = 0 ∨ s.c < s.W then .inl 2 else .inr ⟨0, s.c, s.H + 1, s.gs, s.os⟩ := by
  unfold Fd.step
  rw [if_pos rfl]
  have := h.w0; have := h.cw
  by_cases q : s.c = 0 ∨ (0 < s.H ∧ s.c ≠ s.W)
  · rw [if_pos q, if_pos (by omega)]
  · rw [if_neg q, if_neg (by omega)]
theorem step_none {s : Fd.St} {b : UInt8} (hb : b ≠ 10) (hm : Fd.meant b = none) : Fd.step s b = .inl 2 := by
  unfold Fd.step
  rw [if_neg hb, hm]
theorem step_some {s : Fd.St} {b : UInt8} {g o : Int} (hb : b ≠ 10) (hm : Fd.meant b = some (g, o)) : Fd.step s b = if 0 < s.H ∧ s.c = s.W then .inl 2 else if s.c = 12 ∨ s.H = 12 then .inl 4 else .inr ⟨s.c + 1, s.W, s.H, s.gs ++ [g], s.os ++ [o]⟩ := by
  unfold Fd.step
  rw [if_neg hb, hm]

set_option maxHeartbeats 1000000 in
theorem read_ten (z : Nat) (s : Fd.St) (w : World) (h : Dr w z s) (ok : Okay s) :
    Calls Try.prog 29 #[.pointer (some ⟨z, 0, none⟩), .int .u8 10] w fun e w' => (∃ f, Fd.step s 10 = .inl f ∧ e = .returned (.iface 53 (.int .i64 f)) ∧ f ≠ 0 ∧ Below z w w') ∨ (∃ s', Fd.step s 10 = .inr s' ∧ e = .returned .nilIface ∧ Dr w' z s' ∧ Below z w w') := by
  obtain ⟨u1, u2, hd, ht⟩ := h
  have S := step_ten ok
  have HS : Hid _ := S
  clear S
  by_cases q : s.c = 0 ∨ s.c < s.W
  · have K : Hid (Calls Try.prog 45 #[.pointer (some ⟨z, 0, none⟩)] w fun e w' => e = .returned (.iface 53 (.int .i64 2)) ∧ ∃ n, w' = w.drewN n) := end_bad z u1 u2 s w hd ok.c12 ok.w12 q
    have Q : Hid (s.c = 0 ∨ s.c < s.W) := q
    clear q hd ht ok
    go_enter Try.func29, Try.ntmps29
    go_wp2_with fail
    refine Calls.mono K.out ?_
    rintro e w1 ⟨rfl, n, rfl⟩
    go_wp2
    go_ret
    exact .inl ⟨2, by rw [HS.out, if_pos Q.out], rfl, by decide, _root_.Go.below_drewN (Below.refl _ _) _⟩
  · have K : Hid (Calls Try.prog 45 #[.pointer (some ⟨z, 0, none⟩)] w fun e w' => e = .returned .nilIface ∧ Dt w' z u1 u2 ⟨0, s.c, s.H + 1, s.gs, s.os⟩ ∧ Kp z w w') := end_ok z u1 u2 s w hd ok.c12 ok.w12 ok.h12 (fun e => q (.inl e)) (fun e => q (.inr e))
    have Q : Hid (¬ (s.c = 0 ∨ s.c < s.W)) := q
    have T : Hid (Two w (z + 1) u1 u2 s.gs s.os) := ht
    have L : Hid (z < w.heap.size) := hd.lt
    clear q hd ht ok
    go_enter Try.func29, Try.ntmps29
    go_wp2_with fail
    refine Calls.mono K.out ?_
    rintro e w1 ⟨rfl, hd1, hk1⟩
    have D1 : Hid (Dt w1 z u1 u2 ⟨0, s.c, s.H + 1, s.gs, s.os⟩) := hd1
    have K1 : Hid (Kp z w w1) := hk1
    clear hd1 hk1
    go_wp2
    go_ret
    refine .inr ⟨_, by rw [HS.out, if_neg Q.out], rfl, ⟨u1, u2, D1.out, T.out.kp K1.out (Nat.lt_succ_self _)⟩, Kp.below (Below.refl _ _) K1.out (Nat.le_of_lt L.out) (Nat.le_refl _)⟩

set_option maxRecDepth 100000 in
set_option maxHeartbeats 4000000 in
theorem read_sign (z : Nat) (s : Fd.St) (b : UInt8) (w : World) (h : Dr w z s) (ok : Okay s) (hb : b ≠ 10) :
    Calls Try.prog 29 #[.pointer (some ⟨z, 0, none⟩), .int .u8 (b.toNat : Nat)] w fun e w' => (∃ f, Fd.step s b = .inl f ∧ e = .returned (.iface 53 (.int .i64 f)) ∧ f ≠ 0 ∧ Below z w w') ∨ (∃ s', Fd.step s b = .inr s' ∧ e = .returned .nilIface ∧ Dr w' z s' ∧ Below z w w') := by
  obtain ⟨u1, u2, hd, ht⟩ := h
  have hb2 := b.toNat_lt
  have hb3 : ¬ ((b.toNat : Nat) : Int) = 10 := by
    intro e
    have e2 : b.toNat = 10 := by omega
    exact hb (UInt8.toNat_inj.1 e2)
  have M : Hid (∀ w, Calls Try.prog 46 #[.int .u8 (b.toNat : Nat)] w fun e w' => (∃ g o, Fd.meant b = some (g, o) ∧ e = .returned (.tuple #[.int .i64 g, .int .i64 o, .bool true]) ∧ w' = w) ∨ (Fd.meant b = none ∧ e = .returned (.tuple #[.int .i64 (-1), .int .i64 0, .bool false]) ∧ w' = w)) := meant_any b
  have HB : Hid (b ≠ 10) := hb
  have D : Hid (Dt w z u1 u2 s) := hd
  have T : Hid (Two w (z + 1) u1 u2 s.gs s.os) := ht
  have K : Hid (Okay s) := ok
  clear hb hd ht ok
  generalize b.toNat = n at *
  go_enter Try.func29, Try.ntmps29
  go_wp2_with fail
  refine (M.out _).mono ?_
  rintro e w1 hm
  rcases hm with ⟨g, o, hm, rfl, rfl⟩ | ⟨hm, rfl, rfl⟩
  · have HS : Hid _ := step_some (s := s) HB.out hm
    have c0 := D.out.c0
    have c1 := D.out.c1
    have c2 := D.out.c2
    have c3 := D.out.c3
    have c4 := D.out.c4
    obtain ⟨c, W, H, gs, os⟩ := s
    simp only at c0 c1 c4
    have k12 := K.out.c12
    have w12 := K.out.w12
    have h12 := K.out.h12
    simp only at k12 w12 h12
    clear hm M
    by_cases q1 : 0 < H ∧ c = W
    · obtain ⟨q1a, q1b⟩ := q1
      have HS' : Hid (Fd.step ⟨c, W, H, gs, os⟩ b = .inl 2) := by unfold Hid; rw [HS.out, if_pos ⟨q1a, q1b⟩]
      subst q1b
      go_wp2_with fail
      go_quiet (fail)
      go_wp2
      go_ret
      exact .inl ⟨2, HS'.out, rfl, by decide, _root_.Go.below_drewN (Below.refl _ _) _⟩
    · have HS1 : Hid (Fd.step ⟨c, W, H, gs, os⟩ b = if c = 12 ∨ H = 12 then .inl 4 else .inr ⟨c + 1, W, H, gs ++ [g], os ++ [o]⟩) := by unfold Hid; rw [HS.out, if_neg q1]
      clear HS
      go_wp2_with fail
      go_cut [39] (fun v W' => v = .bool false ∧ ∃ n, W' = w1.drewN n)
      case first =>
        by_cases q2 : H = 0
        · subst q2
          go_quiet (fail)
          go_wp2_with fail
          go_meet
          case rel => exact ⟨rfl, _, rfl⟩
        · have q3 : 0 < H := by omega
          have q4 : ¬ c = W := fun e => q1 ⟨q3, e⟩
          have q4b : ((c : Int) == (W : Int)) = false := by rw [beq_eq_false_iff_ne]; omega
          clear q1
          go_quiet (fail)
          go_wp2_with fail
          go_meet
          case rel => exact ⟨rfl, _, rfl⟩
      case rest =>
        obtain ⟨rfl, nn, hn⟩ := hcut
        have kb : Below w1.heap.size w1 wc := by rw [hn]; exact _root_.Go.below_drewN (Below.refl _ _) _
        have D2 : Hid (Dt wc z u1 u2 ⟨c, W, H, gs, os⟩) := D.out.below kb D.out.lt
        have T2 : Hid (Two wc (z + 1) u1 u2 gs os) := T.out.below kb (Nat.le_refl _)
        have B2 : Hid (Below z w1 wc) := kb.mono (Nat.le_of_lt D.out.lt)
        clear kb hn c0 c1 c2 c3 c4 q1 D T
        have c0 := D2.out.c0
        have c1 := D2.out.c1
        have c2 := D2.out.c2
        have c3 := D2.out.c3
        have c4 := D2.out.c4
        simp only at c0 c1 c4
        by_cases q5 : c = 12
        · subst q5
          have HS' : Hid (Fd.step ⟨12, W, H, gs, os⟩ b = .inl 4) := by unfold Hid; rw [HS1.out, if_pos (.inl rfl)]
          go_wp2
          go_ret
          exact .inl ⟨4, HS'.out, rfl, by decide, B2.out⟩
        · have q5b : ((c : Int) == 12) = false := by rw [beq_eq_false_iff_ne]; omega
          by_cases q6 : H = 12
          · subst q6
            have HS' : Hid (Fd.step ⟨c, W, 12, gs, os⟩ b = .inl 4) := by unfold Hid; rw [HS1.out, if_pos (.inr rfl)]
            go_wp2
            go_ret
            exact .inl ⟨4, HS'.out, rfl, by decide, B2.out⟩
          · have q6b : ((H : Int) == 12) = false := by rw [beq_eq_false_iff_ne]; omega
            have HS' : Hid (Fd.step ⟨c, W, H, gs, os⟩ b = .inr ⟨c + 1, W, H, gs ++ [g], os ++ [o]⟩) := by unfold Hid; rw [HS1.out, if_neg (by omega)]
            have gl := K.out.gl
            have ol := K.out.ol
            simp only at gl ol
            have L2 : Hid (z < wc.heap.size) := D2.out.lt
            clear HS1
            go_wp2_with (at_builtin; refine app_int _ rfl _ _ rfl (z + 1) _ gs rfl (T2.out.o1.alloc _) ⟨wc.heap.size, 0, none⟩ g rfl (by simp) (by omega) (by have := L2.out; simp; omega) ?_)
            intro g1 cap1 w3 o3 g3 a3 l3
            have hob : ∀ k, u1.ownBlock = some k → z + 1 ≤ k := fun k hk => (T2.out.o1.block k hk).1
            have b3 : Below (z + 1) wc w3 := ((Below.refl _ _).alloc L2.out _).grown g3 (by have := L2.out; simp; omega) hob
            have D3 : Dt w3 z u1 u2 ⟨c, W, H, gs, os⟩ := D2.out.below b3 (Nat.lt_succ_self _)
            have O3 : Ow w3 (z + 1) u2 os := (T2.out.o2.alloc _).kept g3 (by
              cases hq : u2.ownBlock with
              | none => exact .inl rfl
              | some k => exact .inr (fun e => T2.out.ne k e.symm hq))
            have N3 : Hid (∀ k, u2.ownBlock = some k → k ≠ g1) := by
              intro k hk e
              subst e
              rcases a3 with a3 | a3
              · exact T2.out.ne _ a3 hk
              · have := (T2.out.o2.block _ hk).2
                try simp at a3
                omega
            have K3 : Kp z w3 (w3.setCell ⟨z, 2, none⟩ (.slice (some ⟨g1, 0, none⟩) (gs.length + 1) cap1)) := Kp.set _ _ _
            have T3 : Hid (Two (w3.setCell ⟨z, 2, none⟩ (.slice (some ⟨g1, 0, none⟩) (gs.length + 1) cap1)) (z + 1) (.slice (some ⟨g1, 0, none⟩) (gs.length + 1) cap1) u2 (gs ++ [g]) os) :=
              (show Two w3 (z + 1) (.slice (some ⟨g1, 0, none⟩) (gs.length + 1) cap1) u2 (gs ++ [g]) os from ⟨o3, O3, fun k hk e => N3.out k e (Option.some.inj hk).symm⟩).kp K3 (Nat.lt_succ_self _)
            have D4 : Hid (Dt (w3.setCell ⟨z, 2, none⟩ (.slice (some ⟨g1, 0, none⟩) (gs.length + 1) cap1)) z (.slice (some ⟨g1, 0, none⟩) (gs.length + 1) cap1) u2 ⟨c, W, H, gs ++ [g], os⟩) := by
              unfold Hid Dt
              rw [heap_setCell_same w3 z 2 _ _ _ D3]
              simp
            have B4 : Hid (Below z w1 (w3.setCell ⟨z, 2, none⟩ (.slice (some ⟨g1, 0, none⟩) (gs.length + 1) cap1))) := (B2.out.trans (b3.mono (Nat.le_succ _))).setCell (Nat.le_refl _) _
            have e2 := D3.c2
            have e3 := D3.c3
            have f2 := D3.fz 2
            have z3 : Hid (z < w3.heap.size) := D3.lt
            clear o3 g3 a3 l3 hob b3 D3 O3 K3 c0 c1 c2 c3 c4
            go_wp2_with (at_builtin; refine app_int _ rfl _ _ rfl (z + 1) _ os rfl (T3.out.o2.alloc _) ⟨w3.heap.size, 0, none⟩ o rfl (by rw [World.cell?_alloc_at _ _ _ _ (by simp)]; rfl) (by omega) (by have := z3.out; simp; omega) ?_)
            intro g2 cap2 w5 o5 g5 a5 l5
            have hob : ∀ k, u2.ownBlock = some k → z + 1 ≤ k := fun k hk => (T3.out.o2.block k hk).1
            have b5 : Below (z + 1) (w3.setCell ⟨z, 2, none⟩ (Value.slice (some ⟨g1, 0, none⟩) (gs.length + 1) cap1)) w5 := ((Below.refl _ _).alloc (by have := z3.out; simp; omega) _).grown g5 (by have := z3.out; simp; omega) hob
            have D5 : Dt w5 z (Value.slice (some ⟨g1, 0, none⟩) (gs.length + 1) cap1) u2 ⟨c, W, H, gs ++ [g], os⟩ := D4.out.below b5 (Nat.lt_succ_self _)
            have O5 : Ow w5 (z + 1) (Value.slice (some ⟨g1, 0, none⟩) (gs.length + 1) cap1) (gs ++ [g]) := (T3.out.o1.alloc _).kept g5 (by
              cases hq : (Value.slice (some ⟨g1, 0, none⟩) (gs.length + 1) cap1).ownBlock with
              | none => exact .inl rfl
              | some k => exact .inr (fun e => T3.out.ne k hq e.symm))
            have N5 : Hid (∀ k, (Value.slice (some ⟨g1, 0, none⟩) (gs.length + 1) cap1).ownBlock = some k → k ≠ g2) := by
              intro k hk e
              subst e
              rcases a5 with a5 | a5
              · exact T3.out.ne _ hk a5
              · have := (T3.out.o1.block _ hk).2
                simp at this
                try simp at a5
                omega
            have K5 : Kp z w5 (w5.setCell ⟨z, 3, none⟩ (.slice (some ⟨g2, 0, none⟩) (os.length + 1) cap2)) := Kp.set _ _ _
            have T5 : Hid (Two (w5.setCell ⟨z, 3, none⟩ (.slice (some ⟨g2, 0, none⟩) (os.length + 1) cap2)) (z + 1) (Value.slice (some ⟨g1, 0, none⟩) (gs.length + 1) cap1) (.slice (some ⟨g2, 0, none⟩) (os.length + 1) cap2) (gs ++ [g]) (os ++ [o])) :=
              (show Two w5 (z + 1) (Value.slice (some ⟨g1, 0, none⟩) (gs.length + 1) cap1) (.slice (some ⟨g2, 0, none⟩) (os.length + 1) cap2) (gs ++ [g]) (os ++ [o]) from ⟨O5, o5, fun k hk e => N5.out k hk (Option.some.inj e).symm⟩).kp K5 (Nat.lt_succ_self _)
            have D6 : Hid (Dt (w5.setCell ⟨z, 3, none⟩ (.slice (some ⟨g2, 0, none⟩) (os.length + 1) cap2)) z (Value.slice (some ⟨g1, 0, none⟩) (gs.length + 1) cap1) (.slice (some ⟨g2, 0, none⟩) (os.length + 1) cap2) ⟨c, W, H, gs ++ [g], os ++ [o]⟩) := by
              unfold Hid Dt
              rw [heap_setCell_same w5 z 3 _ _ _ D5]
              simp
            have B6 : Hid (Below z w1 (w5.setCell ⟨z, 3, none⟩ (.slice (some ⟨g2, 0, none⟩) (os.length + 1) cap2))) := (B4.out.trans (b5.mono (Nat.le_succ _))).setCell (Nat.le_refl _) _
            have e4 : w5.cell? ⟨z, 3, none⟩ = some u2 := D5.c3
            have e5 : w5.cell? ⟨z, 4, none⟩ = some (.int .i64 (c : Nat)) := D5.c4
            have f3 := D5.fz 3
            have f4 := D5.fz 4
            clear o5 g5 a5 l5 hob b5 D5 O5 K5 e2 e3 f2
            go_wp2
            go_ret
            refine .inr ⟨_, HS'.out, rfl, ⟨(Value.slice (some ⟨g1, 0, none⟩) (gs.length + 1) cap1), (Value.slice (some ⟨g2, 0, none⟩) (os.length + 1) cap2), ?_, T5.out.kp (Kp.set _ _ _) (Nat.lt_succ_self _)⟩, B6.out.setCell (Nat.le_refl _) _⟩
            unfold Dt
            rw [heap_setCell_same _ z 4 _ _ _ D6.out]
            simp
  · have HS : Hid (Fd.step s b = .inl 2) := step_none HB.out hm
    go_wp2_with fail
    go_quiet (fail)
    go_wp2
    go_ret
    exact .inl ⟨2, HS.out, rfl, by decide, _root_.Go.below_drewN (Below.refl _ _) _⟩
end Go.Proofs.Ytagnjmellcibhaa

namespace Go.Proofs.Ytagnjmellcibhaa
open Go.RowKit
set_option linter.unusedVariables false

theorem read_any (z : Nat) (s : Fd.St) (b : UInt8) (w : World) (h : Dr w z s) (ok : Okay s) :
    Calls Try.prog 29 #[.pointer (some ⟨z, 0, none⟩), .int .u8 (b.toNat : Nat)] w fun e w' => (∃ f, Fd.step s b = .inl f ∧ e = .returned (.iface 53 (.int .i64 f)) ∧ f ≠ 0 ∧ Below z w w') ∨ (∃ s', Fd.step s b = .inr s' ∧ e = .returned .nilIface ∧ Dr w' z s' ∧ Below z w w') := by
  by_cases hb : b = 10
  · subst hb
    exact read_ten z s w h ok
  · exact read_sign z s b w h ok hb

theorem run_at {l : List UInt8} {k : Nat} (st : Fd.St) (h : k < l.length) : Fd.run st k (l.drop k) = match Fd.step st l[k] with | .inl e => .inl (k, e) | .inr s' => Fd.run s' (k + 1) (l.drop (k + 1)) := by
  rw [List.drop_eq_getElem_cons h]
  rfl

/-- what Parse says of a text. -/
def Says (l : List UInt8) (e : Ending) (w' : World) : Prop :=
  (∃ (i : Nat) (f : Int), Fd.parse l = .inl (i, f) ∧ e = .returned (.tuple #[.agg #[.int .i64 0, .int .i64 0, .slice none 0 0, .slice none 0 0], .int .i64 (i : Nat), .iface 53 (.int .i64 f)]) ∧ f ≠ 0) ∨
  (∃ st u1 u2, Fd.parse l = .inr st ∧ e = .returned (.tuple #[.agg #[.int .i64 (st.W : Nat), .int .i64 (st.H : Nat), u1, u2], .int .i64 0, .nilIface]) ∧ Ro w' u1 st.gs ∧ Ro w' u2 st.os)

/-- and that the lists are new. -/
def SaysOwn (b : Nat) (l : List UInt8) (e : Ending) (w' : World) : Prop :=
  (∃ (i : Nat) (f : Int), Fd.parse l = .inl (i, f) ∧ e = .returned (.tuple #[.agg #[.int .i64 0, .int .i64 0, .slice none 0 0, .slice none 0 0], .int .i64 (i : Nat), .iface 53 (.int .i64 f)]) ∧ f ≠ 0) ∨
  (∃ st u1 u2, Fd.parse l = .inr st ∧ e = .returned (.tuple #[.agg #[.int .i64 (st.W : Nat), .int .i64 (st.H : Nat), u1, u2], .int .i64 0, .nilIface]) ∧ Two w' (b + 1 + 1) u1 u2 st.gs st.os)

set_option maxRecDepth 100000 in
set_option maxHeartbeats 4000000 in
theorem parse_own (s : ByteArray) (w : World) (hs : s.size ≤ maxLen) :
    Calls Try.prog 15 #[.string s] w fun e w' => SaysOwn w.heap.size s.data.toList e w' ∧ Below w.heap.size w w' := by
  unfold maxLen at hs
  generalize hl : s.data.toList = l
  have Hl : Hid (s.data.toList = l) := hl
  have Ll : Hid (l.length = s.size) := by unfold Hid; rw [← hl]; rfl
  clear hl
  have P : Hid (Fd.parse l = match Fd.run Fd.st0 0 l with | .inl x => .inl x | .inr s => if 0 < s.c ∨ s.H = 0 then .inl (l.length, 2) else .inr s) := rfl
  go_enter Try.func15, Try.ntmps15
  go_wp2_with fail
  have B0 : Hid (Below w.heap.size w ((w.alloc (Obj.cells #[.int .i64 0, .int .i64 0, .slice none 0 0, .slice none 0 0] 25)).alloc (Obj.cells #[.int .i64 0, .int .i64 0, .slice none 0 0, .slice none 0 0, .int .i64 0] 69))) := ((Below.refl _ _).alloc (Nat.le_refl _) _).alloc (by simp) _
  have D0 : Hid (Dr ((w.alloc (Obj.cells #[.int .i64 0, .int .i64 0, .slice none 0 0, .slice none 0 0] 25)).alloc (Obj.cells #[.int .i64 0, .int .i64 0, .slice none 0 0, .slice none 0 0, .int .i64 0] 69)) (w.heap.size + 1) Fd.st0) := by
    refine ⟨.slice none 0 0, .slice none 0 0, ?_, ⟨Ow.nil _ _, Ow.nil _ _, fun k h => by cases h⟩⟩
    have e : (w.alloc (Obj.cells #[.int .i64 0, .int .i64 0, .slice none 0 0, .slice none 0 0] 25)).heap.size = w.heap.size + 1 := by simp
    unfold Dt
    rw [← e]
    exact heap_alloc_new _ _
  have X0 : Hid (Bf ((w.alloc (Obj.cells #[.int .i64 0, .int .i64 0, .slice none 0 0, .slice none 0 0] 25)).alloc (Obj.cells #[.int .i64 0, .int .i64 0, .slice none 0 0, .slice none 0 0, .int .i64 0] 69)) w.heap.size 0 0 (.slice none 0 0) (.slice none 0 0)) :=
    (Bf.mk' (w := w) 0 0 (.slice none 0 0) (.slice none 0 0) rfl).below ((Below.refl _ _).alloc (Nat.le_refl _) _) (by simp)
  have Z0 : Hid (∀ i, ((w.alloc (Obj.cells #[.int .i64 0, .int .i64 0, .slice none 0 0, .slice none 0 0] 25)).alloc (Obj.cells #[.int .i64 0, .int .i64 0, .slice none 0 0, .slice none 0 0, .int .i64 0] 69)).frozen? ⟨w.heap.size, i, none⟩ = false) := by
    intro i
    rw [((Below.refl _ (w.alloc (Obj.cells #[.int .i64 0, .int .i64 0, .slice none 0 0, .slice none 0 0] 25))).alloc (Nat.le_refl _) _).frozen (p := ⟨w.heap.size, i, none⟩) (by simp)]
    simp
  generalize (w.alloc (Obj.cells #[.int .i64 0, .int .i64 0, .slice none 0 0, .slice none 0 0] 25)).alloc (Obj.cells #[.int .i64 0, .int .i64 0, .slice none 0 0, .slice none 0 0, .int .i64 0] 69) = w0 at *
  go_loopw [10] (fun i W' => ∃ (k : Nat) (st : Fd.St), k ≤ s.size ∧ i = .int .i64 (k : Nat) ∧ Dr W' (w.heap.size + 1) st ∧ Fd.Inv st (l.take k) ∧ Fd.run st k (l.drop k) = Fd.run Fd.st0 0 l ∧ Below (w.heap.size + 1) w0 W') (fun i _ => s.size - (intOf i).toNat)
  case atStart => exact ⟨0, Fd.st0, Nat.zero_le _, rfl, D0, by simpa using Fd.inv0, by simp, Below.refl _ _⟩
  case round =>
    obtain ⟨k, st, hk, rfl, hd, hi, hrun, hb⟩ := hrel
    have D : Hid (Dr wr (w.heap.size + 1) st) := hd
    have I : Hid (Fd.Inv st (l.take k)) := hi
    have R : Hid (Fd.run st k (l.drop k) = Fd.run Fd.st0 0 l) := hrun
    have B : Hid (Below (w.heap.size + 1) w0 wr) := hb
    have X : Hid (Bf wr w.heap.size 0 0 (.slice none 0 0) (.slice none 0 0)) := X0.out.below hb (Nat.lt_succ_self _)
    have Z : Hid (∀ i, wr.frozen? ⟨w.heap.size, i, none⟩ = false) := fun i => by rw [hb.frozen (p := ⟨w.heap.size, i, none⟩) (Nat.lt_succ_self _)]; exact Z0.out i
    have BW : Hid (Below w.heap.size w wr) := B0.out.trans (hb.mono (Nat.le_succ _))
    clear hd hi hrun hb D0
    by_cases h0 : k = s.size
    · subst h0
      have R2 : Hid (Fd.run Fd.st0 0 l = .inr st) := by
        unfold Hid
        rw [← R.out, List.drop_of_length_le (by rw [Ll.out]; exact Nat.le_refl _)]
        rfl
      obtain ⟨u1, u2, hd, ht⟩ := D.out
      have T : Hid (Two wr (w.heap.size + 1 + 1) u1 u2 st.gs st.os) := ht
      have c0 := hd.c0
      have c1 := hd.c1
      have c2 := hd.c2
      have c3 := hd.c3
      have c4 := hd.c4
      obtain ⟨x0, x1, x2, x3⟩ := X.out
      have z0 := Z.out 0
      have z1 := Z.out 1
      have z2 := Z.out 2
      have z3 := Z.out 3
      have k12 := I.out.c12
      have h12 := I.out.h12
      have w12 := I.out.w12
      obtain ⟨c, W, H, gs, os⟩ := st
      simp only at c0 c1 c4 k12 h12 w12
      have P2 : Hid (Fd.parse l = if 0 < c ∨ H = 0 then .inl (l.length, 2) else .inr ⟨c, W, H, gs, os⟩) := by
        unfold Hid
        rw [P.out, R2.out]
      clear hd ht
      by_cases q1 : 0 < c
      · go_wp2
        refine bodyPost_ret (v := .tuple #[.agg #[.int .i64 0, .int .i64 0, .slice none 0 0, .slice none 0 0], .int .i64 (s.size : Nat), .iface 53 (.int .i64 2)]) (by simp [results, Try.results15, go_sem, x0, x1, x2, x3]) rfl ⟨.inl ⟨s.size, 2, by rw [P2.out, if_pos (.inl q1), Ll.out], rfl, by decide⟩, ?_⟩
        exact (((BW.out.setCell (Nat.le_refl _) _).setCell (Nat.le_refl _) _).setCell (Nat.le_refl _) _).setCell (Nat.le_refl _) _
      · obtain rfl : c = 0 := by omega
        by_cases q2 : H = 0
        · subst q2
          go_wp2
          refine bodyPost_ret (v := .tuple #[.agg #[.int .i64 0, .int .i64 0, .slice none 0 0, .slice none 0 0], .int .i64 (s.size : Nat), .iface 53 (.int .i64 2)]) (by simp [results, Try.results15, go_sem, x0, x1, x2, x3]) rfl ⟨.inl ⟨s.size, 2, by rw [P2.out, Ll.out]; simp, rfl, by decide⟩, ?_⟩
          exact (((BW.out.setCell (Nat.le_refl _) _).setCell (Nat.le_refl _) _).setCell (Nat.le_refl _) _).setCell (Nat.le_refl _) _
        · have q2b : ((H : Int) == 0) = false := by rw [beq_eq_false_iff_ne]; omega
          obtain ⟨p1, k1, rfl⟩ := T.out.o1.len
          obtain ⟨p2, k2, rfl⟩ := T.out.o2.len
          have KK : Hid (Kp w.heap.size wr ((((wr.setCell ⟨w.heap.size, 0, none⟩ (.int .i64 (W : Nat))).setCell ⟨w.heap.size, 1, none⟩ (.int .i64 (H : Nat))).setCell ⟨w.heap.size, 2, none⟩ (.slice p1 gs.length k1)).setCell ⟨w.heap.size, 3, none⟩ (.slice p2 os.length k2))) := (((Kp.set _ _ _).trans (Kp.set _ _ _)).trans (Kp.set _ _ _)).trans (Kp.set _ _ _)
          go_wp2
          refine bodyPost_ret (v := .tuple #[.agg #[.int .i64 (W : Nat), .int .i64 (H : Nat), .slice p1 gs.length k1, .slice p2 os.length k2], .int .i64 0, .nilIface]) (by simp [results, Try.results15, go_sem, x0, x1, x2, x3]) rfl ⟨.inr ⟨_, _, _, by rw [P2.out, if_neg (by omega)], rfl, ?_⟩, ?_⟩
          · exact T.out.kp KK.out (by omega)
          · exact (((BW.out.setCell (Nat.le_refl _) _).setCell (Nat.le_refl _) _).setCell (Nat.le_refl _) _).setCell (Nat.le_refl _) _
    · have hks : k < s.size := by omega
      have hkl : k < l.length := by rw [Ll.out]; exact hks
      have RA := run_at st hkl
      rw [R.out] at RA
      have eb : l[k] = s[k] := by
        have := Hl.out
        subst this
        rfl
      rw [eb] at RA
      have RA' : Hid _ := RA
      have TK : Hid (l.take (k + 1) = l.take k ++ [s[k]]) := by unfold Hid; rw [List.take_succ_eq_append_getElem hkl, eb]
      have KR : Hid (Calls Try.prog 29 #[.pointer (some ⟨w.heap.size + 1, 0, none⟩), .int .u8 (s[k].toNat : Nat)] wr fun e w' => (∃ f, Fd.step st s[k] = .inl f ∧ e = .returned (.iface 53 (.int .i64 f)) ∧ f ≠ 0 ∧ Below (w.heap.size + 1) wr w') ∨ (∃ s', Fd.step st s[k] = .inr s' ∧ e = .returned .nilIface ∧ Dr w' (w.heap.size + 1) s' ∧ Below (w.heap.size + 1) wr w')) := read_any _ st s[k] wr D.out (Okay.of I.out)
      clear RA eb
      go_wp2_with fail
      refine Calls.mono KR.out ?_
      rintro e w1 hm
      rcases hm with ⟨f, hst, rfl, hf, hb⟩ | ⟨st', hst, rfl, hd', hb⟩
      · have P2 : Hid (Fd.parse l = .inl (k, f)) := by
          unfold Hid
          rw [P.out, RA'.out, hst]
        have Hf : Hid (f ≠ 0) := hf
        have B1 : Hid (Below w.heap.size w w1) := BW.out.trans (hb.mono (Nat.le_succ _))
        have X1 : Bf w1 w.heap.size 0 0 (.slice none 0 0) (.slice none 0 0) := X.out.below hb (Nat.lt_succ_self _)
        have z0 : w1.frozen? ⟨w.heap.size, 0, none⟩ = false := by rw [hb.frozen (p := ⟨w.heap.size, 0, none⟩) (Nat.lt_succ_self _)]; exact Z.out 0
        have z1 : w1.frozen? ⟨w.heap.size, 1, none⟩ = false := by rw [hb.frozen (p := ⟨w.heap.size, 1, none⟩) (Nat.lt_succ_self _)]; exact Z.out 1
        have z2 : w1.frozen? ⟨w.heap.size, 2, none⟩ = false := by rw [hb.frozen (p := ⟨w.heap.size, 2, none⟩) (Nat.lt_succ_self _)]; exact Z.out 2
        have z3 : w1.frozen? ⟨w.heap.size, 3, none⟩ = false := by rw [hb.frozen (p := ⟨w.heap.size, 3, none⟩) (Nat.lt_succ_self _)]; exact Z.out 3
        obtain ⟨x0, x1, x2, x3⟩ := X1
        clear hst hf hb KR RA'
        go_wp2
        refine bodyPost_ret (v := .tuple #[.agg #[.int .i64 0, .int .i64 0, .slice none 0 0, .slice none 0 0], .int .i64 (k : Nat), .iface 53 (.int .i64 f)]) (by simp [results, Try.results15, go_sem, x0, x1, x2, x3]) rfl ⟨.inl ⟨k, f, P2.out, rfl, Hf.out⟩, ?_⟩
        exact (((B1.out.setCell (Nat.le_refl _) _).setCell (Nat.le_refl _) _).setCell (Nat.le_refl _) _).setCell (Nat.le_refl _) _
      · have I2 : Hid (Fd.Inv st' (l.take (k + 1))) := by unfold Hid; rw [TK.out]; exact I.out.step hst
        have R2 : Hid (Fd.run st' (k + 1) (l.drop (k + 1)) = Fd.run Fd.st0 0 l) := by unfold Hid; rw [RA'.out, hst]
        have D2 : Hid (Dr w1 (w.heap.size + 1) st') := hd'
        have B2 : Hid (Below (w.heap.size + 1) w0 w1) := B.out.trans hb
        clear hst hd' hb KR RA'
        go_wp2
        go_round
        case rel => exact ⟨k + 1, st', by omega, by go_num, D2, I2, R2, B2⟩
        case measure => simp [intOf]; omega

theorem parse_any (s : ByteArray) (w : World) (hs : s.size ≤ maxLen) :
    Calls Try.prog 15 #[.string s] w fun e w' => Says s.data.toList e w' ∧ Below w.heap.size w w' :=
  (parse_own s w hs).mono fun e w' ⟨h, hb⟩ => ⟨h.imp id fun ⟨st, u1, u2, h1, h2, h3⟩ => ⟨st, u1, u2, h1, h2, h3.o1.ro, h3.o2.ro⟩, hb⟩
end Go.Proofs.Ytagnjmellcibhaa

namespace Go.Proofs.Ytagnjmellcibhaa
open Go Go.RowKit
set_option linter.unusedVariables false

section
variable {P : Program} {ops : Array Oper} {md : Region.Mode} {C : World → Prop} {Q : Exit → Act → World → Prop}

/-- the head, A being still to come: ahead of each call it may come; s2 waits for it. -/
def wpHeadA (P : Program) (ops : Array Oper) (C : World → Prop) (K : Act → World → Prop) (A : Nat) (s2 : List (Bool × Nat)) : List (Bool × Nat) → Act → World → Prop
  | [], a, W => ∃ o, ops[A]? = some o ∧ StepS P ops C o (wpHeadT P ops C K s2) a W
  | (true, i) :: r, a, W => ∃ o v, ops[i]? = some o ∧ YieldsS P ops C o v a ∧ wpHeadA P ops C K A s2 r (a.put o.dst v) W
  | (false, i) :: r, a, W => (∃ o, ops[i]? = some o ∧ StepS P ops C o (wpHeadA P ops C K A s2 r) a W) ∧ (∃ o, ops[A]? = some o ∧ StepS P ops C o (wpHeadT P ops C K ((false, i) :: r ++ s2)) a W)
def headAB (md : Region.Mode) (ops : Array Oper) (H0 : Array Bool) (A : Nat) (s2 : List (Bool × Nat)) : List (Bool × Nat) → Array Bool → Bool
  | [], listed => decide (Region.ready md ops listed = [A]) && headB md ops H0 s2 (listed.setIfInBounds A true)
  | (true, i) :: r, listed => (Region.ready md ops listed).contains i && (Region.free md ops listed i && ((waits md ops H0 i || decide (Region.ready md ops (H0.setIfInBounds i false) = [i])) && headAB md ops H0 A s2 r (listed.setIfInBounds i true)))
  | (false, i) :: r, listed => (Region.ready md ops listed).contains i && ((Region.ready md ops listed).all (fun j => decide (j = i) || decide (j = A)) && (headAB md ops H0 A s2 r (listed.setIfInBounds i true) && ((Region.ready md ops listed).contains A && headB md ops H0 ((false, i) :: r ++ s2) (listed.setIfInBounds A true))))
theorem wpAnyT_of_headA {K : Act → World → Prop} {H0 : Array Bool} {A : Nat} {s2 : List (Bool × Nat)} (hsel : Region.noSelect ops = true) : ∀ (s : List (Bool × Nat)) (listed : Array Bool) (a : Act) (W : World), Clos md ops listed → headAB md ops H0 A s2 s listed = true → C W → wpHeadA P ops C K A s2 s a W → wpAnyT P md ops C (fun l a W => l = H0 ∧ K a W) (s.length + s2.length + 1) listed a W
  | [], listed, a, W, inv, hB, hC, h => by
    simp only [headAB, Bool.and_eq_true, decide_eq_true_eq] at hB
    obtain ⟨hr, hH⟩ := hB
    have hr' : A ∈ Region.ready md ops listed := by rw [hr]; simp
    obtain ⟨o, ho, hs⟩ := h
    rw [List.length_nil, Nat.zero_add]
    refine ⟨fun h => (by rw [hr] at h; cases h), fun j hj => ?_⟩
    rw [hr] at hj
    obtain rfl : j = A := by simpa using hj
    exact ⟨o, ho, hs.mono fun a' W' hC' hk => wpAnyT_of_head hsel s2 _ _ _ (inv.set hr') hH hC' hk⟩
  | (true, i) :: r, listed, a, W, inv, hB, hC, h => by
    simp only [headAB, Bool.and_eq_true, Bool.or_eq_true, decide_eq_true_eq] at hB
    obtain ⟨hr, hf, hH, hB⟩ := hB
    obtain ⟨o, v, ho, hy, hk⟩ := h
    have hr' : i ∈ Region.ready md ops listed := by simpa using hr
    rw [show ((true, i) :: r).length + s2.length + 1 = (r.length + s2.length + 1) + 1 by rw [List.length_cons]; omega]
    exact wpAnyT_first ho (Region.noSelect_spec hsel) hH (fun _ _ _ h => h.1) (r.length + s2.length + 1) listed a W inv (Region.free_spec ho hf) hr' hy hC (wpAnyT_of_headA hsel r _ _ _ (inv.set hr') hB hC hk)
  | (false, i) :: r, listed, a, W, inv, hB, hC, h => by
    simp only [headAB, Bool.and_eq_true] at hB
    obtain ⟨hr, hall, hB1, hA, hB2⟩ := hB
    have hr' : i ∈ Region.ready md ops listed := by simpa using hr
    have hA' : A ∈ Region.ready md ops listed := by simpa using hA
    obtain ⟨⟨o, ho, hs⟩, ⟨oA, hoA, hsA⟩⟩ := h
    rw [show ((false, i) :: r).length + s2.length + 1 = (r.length + s2.length + 1) + 1 by rw [List.length_cons]; omega]
    refine ⟨fun h => (by rw [h] at hr'; cases hr'), fun j hj => ?_⟩
    have hj' := List.all_eq_true.1 hall j hj
    simp only [Bool.or_eq_true, decide_eq_true_eq] at hj'
    rcases hj' with rfl | rfl
    · exact ⟨o, ho, hs.mono fun a' W' hC' hk => wpAnyT_of_headA hsel r _ _ _ (inv.set hr') hB1 hC' hk⟩
    · refine ⟨oA, hoA, hsA.mono fun a' W' hC' hk => ?_⟩
      have := wpAnyT_of_head hsel ((false, i) :: r ++ s2) _ _ _ (inv.set hA') hB2 hC' hk
      rw [show ((false, i) :: r ++ s2).length = r.length + s2.length + 1 by simp] at this
      exact this
/-- the region: its head s in the worlds C, A coming at any time; then s2, in the worlds C; its tail t. -/
theorem wp_region_float {id : Nat} {a : Act} {w : World} (A : Nat) (s s2 t : List (Bool × Nat)) (C : World → Prop) (hm : P.follows .mixedOrders = true) (hs : Region.noSelect ops = true) (hl : s.length + s2.length + 1 + t.length = ops.size)
    (hB : headAB .any ops (listedBy ops.size (s ++ [(false, A)] ++ s2)) A s2 s (Array.replicate ops.size false) = true)
    (hT : schedB .any ops t (listedBy ops.size (s ++ [(false, A)] ++ s2)) = true)
    (hC : C { w with drawn := w.drawn + 1 }) (h : wpHeadA P ops C (wpSched P ops (fun _ => True) Q t) A s2 s a { w with drawn := w.drawn + 1 }) : (Code.region id ops true).wp P Q a w := by
  refine wp_region_any hm ?_
  rw [← hl]
  refine wpAny_of_T (g := t.length) (fun listed a W hh => ?_) _ _ _ _ (wpAnyT_of_headA (H0 := listedBy ops.size (s ++ [(false, A)] ++ s2)) hs s _ a _ (fun j oj _ hj => by rw [getD_replicate_false] at hj; cases hj) (by rw [hl]; exact hB) hC h)
  obtain ⟨rfl, hk⟩ := hh
  exact wpAny_of_S _ _ _ _ (wpAnyS_of_sched hs t _ a W hT trivial hk)
theorem headA_read {K : Act → World → Prop} {A i : Nat} {s2 r : List (Bool × Nat)} {o : Oper} {a : Act} {W : World} (ho : ops[i]? = some o) (v : Value) (hw : Region.wanted o (yielded ops a.tmps) = true) (hr : ∀ W, C W → (execOp a.eval o).run P W = .ok (.value v) W) (h : wpHeadA P ops C K A s2 r (a.put o.dst v) W) : wpHeadA P ops C K A s2 ((true, i) :: r) a W :=
  ⟨o, v, ho, ⟨hw, hr⟩, h⟩
theorem headA_call {K : Act → World → Prop} {A i : Nat} {s2 r : List (Bool × Nat)} {o oA : Oper} {a : Act} {W : World} (ho : ops[i]? = some o) (f : FuncId) (args : Array Value) (hw : Region.wanted o (yielded ops a.tmps) = true) (hr : (execOp a.eval o).run P W = .ok (.enter f args) W)
    (hc : Calls P f args W (fun e w' => ∃ v, e = .returned v ∧ C w' ∧ wpHeadA P ops C K A s2 r (a.put o.dst v) w'))
    (hoA : ops[A]? = some oA) (vA : Value) (WA : World) (hwA : Region.wanted oA (yielded ops a.tmps) = true) (hrA : (execOp a.eval oA).run P W = .ok (.value vA) WA) (hCA : C WA) (hA : wpHeadT P ops C K ((false, i) :: r ++ s2) (a.put oA.dst vA) WA) : wpHeadA P ops C K A s2 ((false, i) :: r) a W :=
  ⟨⟨o, ho, hw, .inr (.inr ⟨f, args, hr, hc⟩)⟩, ⟨oA, hoA, hwA, .inl ⟨vA, WA, hrA, hCA, hA⟩⟩⟩
theorem headT_skip {K : Act → World → Prop} {i : Nat} {r : List (Bool × Nat)} {o : Oper} {a : Act} {W : World} (ho : ops[i]? = some o) (W' : World) (hw : Region.wanted o (yielded ops a.tmps) = true) (hr : (execOp a.eval o).run P W = .ok .skip W') (hC : C W') (h : wpHeadT P ops C K r (a.put o.dst undef) W') : wpHeadT P ops C K ((false, i) :: r) a W :=
  ⟨o, ho, hw, .inr (.inl ⟨W', hr, hC, h⟩)⟩
theorem headA_last {K : Act → World → Prop} {A : Nat} {s2 : List (Bool × Nat)} {oA : Oper} {a : Act} {W : World} (hoA : ops[A]? = some oA) (vA : Value) (WA : World) (hwA : Region.wanted oA (yielded ops a.tmps) = true) (hrA : (execOp a.eval oA).run P W = .ok (.value vA) WA) (hCA : C WA) (hA : wpHeadT P ops C K s2 (a.put oA.dst vA) WA) : wpHeadA P ops C K A s2 [] a W :=
  ⟨oA, hoA, hwA, .inl ⟨vA, WA, hrA, hCA, hA⟩⟩
end
end Go.Proofs.Ytagnjmellcibhaa

