/- Fields: one byte more. · Fields: Parse. · marchtop.one: the fact of package marchtop tells true. · The numbers of a right world are small. Plain mathematics. · Bytes that came in. · Numbers in bytes: fold. · Bytes that the call itself makes, by append. · Numbers in bytes: Write. · Fields: places and lines. · Fields: Sees. · Sight: who sees what: plain mathematics. · Fields: Sees, whole. · sight.reaches, doesSee and its function. · Lists of bools: what a slice holds; a block of them that may be written; make([]bool, n). · sight.checkPlayer, seen. · sight.View's two functions; what stays; a list of integers of its own, as a block. · sight.View: the world as a player sees it. -/
import Derived.Test.YtoabhfipikkkeaaGreatDoorZTopViews12
import Derived.Deep.DeepCutAuto
import Derived.Test.YtoabhfipikkkeaaGreatDoorZTopViews2
import Derived.Test.YtoabhfipikkkeaaGreatDoorZTopViews11
import Derived.Test.YtoabhfipikkkeaaGreatDoorZTopViews5
import Derived.Test.YtoabhfipikkkeaaGreatDoorZTopViews3
import Derived.Test.YtoabhfipikkkeaaGreatDoorZTopViews1
import Derived.Lib.Bytealg
import Derived.OwnWalk
import Derived.Deep.AppendLies
import Derived.Test.YtoabhfipikkkeaaGreatDoorZTopViews4
import Derived.Test.YtoabhfipikkkeaaGreatDoorZTopViews8
import Derived.Test.YtoabhfipikkkeaaGreatDoorZTopViews6
import Derived.Laws.MakeOwn
namespace Go.Proofs.YtoabhfipikkkeaaGreatDoor
open Go.RowKit
set_option linter.unusedVariables false

/-- what holds of every draft. -/
structure Okay (s : Fd.St) : Prop where
  w0 : s.H = 0 → s.W = 0
  cw : 0 < s.H → s.c ≤ s.W
  c12 : s.c ≤ 12
  w12 : s.W ≤ 12
  h12 : s.H ≤ 12
  gl : s.gs.length ≤ 156
  ol : s.os.length ≤ 156
theorem Okay.of {s : Fd.St} {l : List UInt8} (h : Fd.Inv s l) : Okay s := by
  have e : s.H * s.W ≤ 144 := Nat.mul_le_mul h.h12 h.w12
  have := h.c12
  exact ⟨h.w0, h.cw, h.c12, h.w12, h.h12, by rw [h.gl]; omega, by rw [h.ol]; omega⟩

theorem step_ten {s : Fd.St} (h : Okay s) : Fd.step s 10 = if s.c = 0 ∨ s.c < s.W then .inl 2 else .inr ⟨0, s.c, s.H + 1, s.gs, s.os⟩ := by
  unfold Fd.step
  rw [if_pos rfl]
  have := h.w0; have := h.cw
  by_cases q : s.c = 0 ∨ (0 < s.H ∧ s.c ≠ s.W)
  · rw [if_pos q, if_pos (by omega)]
  · rw [if_neg q, if_neg (by omega)]
theorem step_none {s : Fd.St} {b : UInt8} (hb : b ≠ 10) (hm : Fd.meant b = none) : Fd.step s b = .inl 2 := by
  unfold Fd.step
  rw [if_neg hb, hm]
theorem step_some {s : Fd.St} {b : UInt8} {g o : Int} (hb : b ≠ 10) (hm : Fd.meant b = some (g, o)) : Fd.step s b = if 0 < s.H ∧ s.c = s.W then .inl 2 else if s.c = 12 ∨ s.H = 12 then .inl 4 else .inr ⟨s.c + 1, s.W, s.H, s.gs ++ [g], s.os ++ [o]⟩ := by
  unfold Fd.step
  rw [if_neg hb, hm]

set_option maxHeartbeats 1000000 in
theorem read_ten (z : Nat) (s : Fd.St) (w : World) (h : Dr w z s) (ok : Okay s) :
    Calls Tryz.prog 86 #[.pointer (some ⟨z, 0, none⟩), .int .u8 10] w fun e w' => (∃ f, Fd.step s 10 = .inl f ∧ e = .returned (.iface 99 (.int .i64 f)) ∧ f ≠ 0 ∧ Below z w w') ∨ (∃ s', Fd.step s 10 = .inr s' ∧ e = .returned .nilIface ∧ Dr w' z s' ∧ Below z w w') := by
  obtain ⟨u1, u2, hd, ht⟩ := h
  have S := step_ten ok
  have HS : Hid _ := S
  clear S
  by_cases q : s.c = 0 ∨ s.c < s.W
  · have K : Hid (Calls Tryz.prog 125 #[.pointer (some ⟨z, 0, none⟩)] w fun e w' => e = .returned (.iface 99 (.int .i64 2)) ∧ ∃ n, w' = w.drewN n) := end_bad z u1 u2 s w hd ok.c12 ok.w12 q
    have Q : Hid (s.c = 0 ∨ s.c < s.W) := q
    clear q hd ht ok
    go_enter Tryz.func86, Tryz.ntmps86
    go_wp2_with fail
    refine Calls.mono K.out ?_
    rintro e w1 ⟨rfl, n, rfl⟩
    go_wp2
    go_ret
    exact .inl ⟨2, by rw [HS.out, if_pos Q.out], rfl, by decide, _root_.Go.below_drewN (Below.refl _ _) _⟩
  · have K : Hid (Calls Tryz.prog 125 #[.pointer (some ⟨z, 0, none⟩)] w fun e w' => e = .returned .nilIface ∧ Dt w' z u1 u2 ⟨0, s.c, s.H + 1, s.gs, s.os⟩ ∧ Kp z w w') := end_ok z u1 u2 s w hd ok.c12 ok.w12 ok.h12 (fun e => q (.inl e)) (fun e => q (.inr e))
    have Q : Hid (¬ (s.c = 0 ∨ s.c < s.W)) := q
    have T : Hid (Two w (z + 1) u1 u2 s.gs s.os) := ht
    have L : Hid (z < w.heap.size) := hd.lt
    clear q hd ht ok
    go_enter Tryz.func86, Tryz.ntmps86
    go_wp2_with fail
    refine Calls.mono K.out ?_
    rintro e w1 ⟨rfl, hd1, hk1⟩
    have D1 : Hid (Dt w1 z u1 u2 ⟨0, s.c, s.H + 1, s.gs, s.os⟩) := hd1
    have K1 : Hid (Kp z w w1) := hk1
    clear hd1 hk1
    go_wp2
    go_ret
    refine .inr ⟨_, by rw [HS.out, if_neg Q.out], rfl, ⟨u1, u2, D1.out, T.out.kp K1.out (Nat.lt_succ_self _)⟩, Kp.below (Below.refl _ _) K1.out (Nat.le_of_lt L.out) (Nat.le_refl _)⟩

set_option maxRecDepth 100000 in
set_option maxHeartbeats 4000000 in
theorem read_sign (z : Nat) (s : Fd.St) (b : UInt8) (w : World) (h : Dr w z s) (ok : Okay s) (hb : b ≠ 10) :
    Calls Tryz.prog 86 #[.pointer (some ⟨z, 0, none⟩), .int .u8 (b.toNat : Nat)] w fun e w' => (∃ f, Fd.step s b = .inl f ∧ e = .returned (.iface 99 (.int .i64 f)) ∧ f ≠ 0 ∧ Below z w w') ∨ (∃ s', Fd.step s b = .inr s' ∧ e = .returned .nilIface ∧ Dr w' z s' ∧ Below z w w') := by
  obtain ⟨u1, u2, hd, ht⟩ := h
  have hb2 := b.toNat_lt
  have hb3 : ¬ ((b.toNat : Nat) : Int) = 10 := by
    intro e
    have e2 : b.toNat = 10 := by omega
    exact hb (UInt8.toNat_inj.1 e2)
  have M : Hid (∀ w, Calls Tryz.prog 126 #[.int .u8 (b.toNat : Nat)] w fun e w' => (∃ g o, Fd.meant b = some (g, o) ∧ e = .returned (.tuple #[.int .i64 g, .int .i64 o, .bool true]) ∧ w' = w) ∨ (Fd.meant b = none ∧ e = .returned (.tuple #[.int .i64 (-1), .int .i64 0, .bool false]) ∧ w' = w)) := meant_any b
  have HB : Hid (b ≠ 10) := hb
  have D : Hid (Dt w z u1 u2 s) := hd
  have T : Hid (Two w (z + 1) u1 u2 s.gs s.os) := ht
  have K : Hid (Okay s) := ok
  clear hb hd ht ok
  generalize b.toNat = n at *
  go_enter Tryz.func86, Tryz.ntmps86
  go_wp2_with fail
  refine (M.out _).mono ?_
  rintro e w1 hm
  rcases hm with ⟨g, o, hm, rfl, rfl⟩ | ⟨hm, rfl, rfl⟩
  · have HS : Hid _ := step_some (s := s) HB.out hm
    have c0 := D.out.c0
    have c1 := D.out.c1
    have c2 := D.out.c2
    have c3 := D.out.c3
    have c4 := D.out.c4
    obtain ⟨c, W, H, gs, os⟩ := s
    simp only at c0 c1 c4
    have k12 := K.out.c12
    have w12 := K.out.w12
    have h12 := K.out.h12
    simp only at k12 w12 h12
    clear hm M
    by_cases q1 : 0 < H ∧ c = W
    · obtain ⟨q1a, q1b⟩ := q1
      have HS' : Hid (Fd.step ⟨c, W, H, gs, os⟩ b = .inl 2) := by unfold Hid; rw [HS.out, if_pos ⟨q1a, q1b⟩]
      subst q1b
      go_wp2_with fail
      go_quiet (fail)
      go_wp2
      go_ret
      exact .inl ⟨2, HS'.out, rfl, by decide, _root_.Go.below_drewN (Below.refl _ _) _⟩
    · have HS1 : Hid (Fd.step ⟨c, W, H, gs, os⟩ b = if c = 12 ∨ H = 12 then .inl 4 else .inr ⟨c + 1, W, H, gs ++ [g], os ++ [o]⟩) := by unfold Hid; rw [HS.out, if_neg q1]
      clear HS
      go_wp2_with fail
      go_cut [39] (fun v W' => v = .bool false ∧ ∃ n, W' = w1.drewN n)
      case first =>
        by_cases q2 : H = 0
        · subst q2
          go_quiet (fail)
          go_wp2_with fail
          go_meet
          case rel => exact ⟨rfl, _, rfl⟩
        · have q3 : 0 < H := by omega
          have q4 : ¬ c = W := fun e => q1 ⟨q3, e⟩
          have q4b : ((c : Int) == (W : Int)) = false := by rw [beq_eq_false_iff_ne]; omega
          clear q1
          go_quiet (fail)
          go_wp2_with fail
          go_meet
          case rel => exact ⟨rfl, _, rfl⟩
      case rest =>
        obtain ⟨rfl, nn, hn⟩ := hcut
        have kb : Below w1.heap.size w1 wc := by rw [hn]; exact _root_.Go.below_drewN (Below.refl _ _) _
        have D2 : Hid (Dt wc z u1 u2 ⟨c, W, H, gs, os⟩) := D.out.below kb D.out.lt
        have T2 : Hid (Two wc (z + 1) u1 u2 gs os) := T.out.below kb (Nat.le_refl _)
        have B2 : Hid (Below z w1 wc) := kb.mono (Nat.le_of_lt D.out.lt)
        clear kb hn c0 c1 c2 c3 c4 q1 D T
        have c0 := D2.out.c0
        have c1 := D2.out.c1
        have c2 := D2.out.c2
        have c3 := D2.out.c3
        have c4 := D2.out.c4
        simp only at c0 c1 c4
        by_cases q5 : c = 12
        · subst q5
          have HS' : Hid (Fd.step ⟨12, W, H, gs, os⟩ b = .inl 4) := by unfold Hid; rw [HS1.out, if_pos (.inl rfl)]
          go_wp2
          go_ret
          exact .inl ⟨4, HS'.out, rfl, by decide, B2.out⟩
        · have q5b : ((c : Int) == 12) = false := by rw [beq_eq_false_iff_ne]; omega
          by_cases q6 : H = 12
          · subst q6
            have HS' : Hid (Fd.step ⟨c, W, 12, gs, os⟩ b = .inl 4) := by unfold Hid; rw [HS1.out, if_pos (.inr rfl)]
            go_wp2
            go_ret
            exact .inl ⟨4, HS'.out, rfl, by decide, B2.out⟩
          · have q6b : ((H : Int) == 12) = false := by rw [beq_eq_false_iff_ne]; omega
            have HS' : Hid (Fd.step ⟨c, W, H, gs, os⟩ b = .inr ⟨c + 1, W, H, gs ++ [g], os ++ [o]⟩) := by unfold Hid; rw [HS1.out, if_neg (by omega)]
            have gl := K.out.gl
            have ol := K.out.ol
            simp only at gl ol
            have L2 : Hid (z < wc.heap.size) := D2.out.lt
            clear HS1
            go_wp2_with (at_builtin; refine app_int _ rfl _ _ rfl (z + 1) _ gs rfl (T2.out.o1.alloc _) ⟨wc.heap.size, 0, none⟩ g rfl (by simp) (by omega) (by have := L2.out; simp; omega) ?_)
            intro g1 cap1 w3 o3 g3 a3 l3
            have hob : ∀ k, u1.ownBlock = some k → z + 1 ≤ k := fun k hk => (T2.out.o1.block k hk).1
            have b3 : Below (z + 1) wc w3 := ((Below.refl _ _).alloc L2.out _).grown g3 (by have := L2.out; simp; omega) hob
            have D3 : Dt w3 z u1 u2 ⟨c, W, H, gs, os⟩ := D2.out.below b3 (Nat.lt_succ_self _)
            have O3 : Ow w3 (z + 1) u2 os := (T2.out.o2.alloc _).kept g3 (by
              cases hq : u2.ownBlock with
              | none => exact .inl rfl
              | some k => exact .inr (fun e => T2.out.ne k e.symm hq))
            have N3 : Hid (∀ k, u2.ownBlock = some k → k ≠ g1) := by
              intro k hk e
              subst e
              rcases a3 with a3 | a3
              · exact T2.out.ne _ a3 hk
              · have := (T2.out.o2.block _ hk).2
                try simp at a3
                omega
            have K3 : Kp z w3 (w3.setCell ⟨z, 2, none⟩ (.slice (some ⟨g1, 0, none⟩) (gs.length + 1) cap1)) := Kp.set _ _ _
            have T3 : Hid (Two (w3.setCell ⟨z, 2, none⟩ (.slice (some ⟨g1, 0, none⟩) (gs.length + 1) cap1)) (z + 1) (.slice (some ⟨g1, 0, none⟩) (gs.length + 1) cap1) u2 (gs ++ [g]) os) :=
              (show Two w3 (z + 1) (.slice (some ⟨g1, 0, none⟩) (gs.length + 1) cap1) u2 (gs ++ [g]) os from ⟨o3, O3, fun k hk e => N3.out k e (Option.some.inj hk).symm⟩).kp K3 (Nat.lt_succ_self _)
            have D4 : Hid (Dt (w3.setCell ⟨z, 2, none⟩ (.slice (some ⟨g1, 0, none⟩) (gs.length + 1) cap1)) z (.slice (some ⟨g1, 0, none⟩) (gs.length + 1) cap1) u2 ⟨c, W, H, gs ++ [g], os⟩) := by
              unfold Hid Dt
              rw [heap_setCell_same w3 z 2 _ _ _ D3]
              simp
            have B4 : Hid (Below z w1 (w3.setCell ⟨z, 2, none⟩ (.slice (some ⟨g1, 0, none⟩) (gs.length + 1) cap1))) := (B2.out.trans (b3.mono (Nat.le_succ _))).setCell (Nat.le_refl _) _
            have e2 := D3.c2
            have e3 := D3.c3
            have f2 := D3.fz 2
            have z3 : Hid (z < w3.heap.size) := D3.lt
            clear o3 g3 a3 l3 hob b3 D3 O3 K3 c0 c1 c2 c3 c4
            go_wp2_with (at_builtin; refine app_int _ rfl _ _ rfl (z + 1) _ os rfl (T3.out.o2.alloc _) ⟨w3.heap.size, 0, none⟩ o rfl (by rw [World.cell?_alloc_at _ _ _ _ (by simp)]; rfl) (by omega) (by have := z3.out; simp; omega) ?_)
            intro g2 cap2 w5 o5 g5 a5 l5
            have hob : ∀ k, u2.ownBlock = some k → z + 1 ≤ k := fun k hk => (T3.out.o2.block k hk).1
            have b5 : Below (z + 1) (w3.setCell ⟨z, 2, none⟩ (Value.slice (some ⟨g1, 0, none⟩) (gs.length + 1) cap1)) w5 := ((Below.refl _ _).alloc (by have := z3.out; simp; omega) _).grown g5 (by have := z3.out; simp; omega) hob
            have D5 : Dt w5 z (Value.slice (some ⟨g1, 0, none⟩) (gs.length + 1) cap1) u2 ⟨c, W, H, gs ++ [g], os⟩ := D4.out.below b5 (Nat.lt_succ_self _)
            have O5 : Ow w5 (z + 1) (Value.slice (some ⟨g1, 0, none⟩) (gs.length + 1) cap1) (gs ++ [g]) := (T3.out.o1.alloc _).kept g5 (by
              cases hq : (Value.slice (some ⟨g1, 0, none⟩) (gs.length + 1) cap1).ownBlock with
              | none => exact .inl rfl
              | some k => exact .inr (fun e => T3.out.ne k hq e.symm))
            have N5 : Hid (∀ k, (Value.slice (some ⟨g1, 0, none⟩) (gs.length + 1) cap1).ownBlock = some k → k ≠ g2) := by
              intro k hk e
              subst e
              rcases a5 with a5 | a5
              · exact T3.out.ne _ hk a5
              · have := (T3.out.o1.block _ hk).2
                simp at this
                try simp at a5
                omega
            have K5 : Kp z w5 (w5.setCell ⟨z, 3, none⟩ (.slice (some ⟨g2, 0, none⟩) (os.length + 1) cap2)) := Kp.set _ _ _
            have T5 : Hid (Two (w5.setCell ⟨z, 3, none⟩ (.slice (some ⟨g2, 0, none⟩) (os.length + 1) cap2)) (z + 1) (Value.slice (some ⟨g1, 0, none⟩) (gs.length + 1) cap1) (.slice (some ⟨g2, 0, none⟩) (os.length + 1) cap2) (gs ++ [g]) (os ++ [o])) :=
              (show Two w5 (z + 1) (Value.slice (some ⟨g1, 0, none⟩) (gs.length + 1) cap1) (.slice (some ⟨g2, 0, none⟩) (os.length + 1) cap2) (gs ++ [g]) (os ++ [o]) from ⟨O5, o5, fun k hk e => N5.out k hk (Option.some.inj e).symm⟩).kp K5 (Nat.lt_succ_self _)
            have D6 : Hid (Dt (w5.setCell ⟨z, 3, none⟩ (.slice (some ⟨g2, 0, none⟩) (os.length + 1) cap2)) z (Value.slice (some ⟨g1, 0, none⟩) (gs.length + 1) cap1) (.slice (some ⟨g2, 0, none⟩) (os.length + 1) cap2) ⟨c, W, H, gs ++ [g], os ++ [o]⟩) := by
              unfold Hid Dt
              rw [heap_setCell_same w5 z 3 _ _ _ D5]
              simp
            have B6 : Hid (Below z w1 (w5.setCell ⟨z, 3, none⟩ (.slice (some ⟨g2, 0, none⟩) (os.length + 1) cap2))) := (B4.out.trans (b5.mono (Nat.le_succ _))).setCell (Nat.le_refl _) _
            have e4 : w5.cell? ⟨z, 3, none⟩ = some u2 := D5.c3
            have e5 : w5.cell? ⟨z, 4, none⟩ = some (.int .i64 (c : Nat)) := D5.c4
            have f3 := D5.fz 3
            have f4 := D5.fz 4
            clear o5 g5 a5 l5 hob b5 D5 O5 K5 e2 e3 f2
            go_wp2
            go_ret
            refine .inr ⟨_, HS'.out, rfl, ⟨(Value.slice (some ⟨g1, 0, none⟩) (gs.length + 1) cap1), (Value.slice (some ⟨g2, 0, none⟩) (os.length + 1) cap2), ?_, T5.out.kp (Kp.set _ _ _) (Nat.lt_succ_self _)⟩, B6.out.setCell (Nat.le_refl _) _⟩
            unfold Dt
            rw [heap_setCell_same _ z 4 _ _ _ D6.out]
            simp
  · have HS : Hid (Fd.step s b = .inl 2) := step_none HB.out hm
    go_wp2_with fail
    go_quiet (fail)
    go_wp2
    go_ret
    exact .inl ⟨2, HS.out, rfl, by decide, _root_.Go.below_drewN (Below.refl _ _) _⟩
end Go.Proofs.YtoabhfipikkkeaaGreatDoor

namespace Go.Proofs.YtoabhfipikkkeaaGreatDoor
open Go.RowKit
set_option linter.unusedVariables false

theorem fread_any (z : Nat) (s : Fd.St) (b : UInt8) (w : World) (h : Dr w z s) (ok : Okay s) :
    Calls Tryz.prog 86 #[.pointer (some ⟨z, 0, none⟩), .int .u8 (b.toNat : Nat)] w fun e w' => (∃ f, Fd.step s b = .inl f ∧ e = .returned (.iface 99 (.int .i64 f)) ∧ f ≠ 0 ∧ Below z w w') ∨ (∃ s', Fd.step s b = .inr s' ∧ e = .returned .nilIface ∧ Dr w' z s' ∧ Below z w w') := by
  by_cases hb : b = 10
  · subst hb
    exact read_ten z s w h ok
  · exact read_sign z s b w h ok hb

theorem run_at {l : List UInt8} {k : Nat} (st : Fd.St) (h : k < l.length) : Fd.run st k (l.drop k) = match Fd.step st l[k] with | .inl e => .inl (k, e) | .inr s' => Fd.run s' (k + 1) (l.drop (k + 1)) := by
  rw [List.drop_eq_getElem_cons h]
  rfl

/-- what Parse says of a text. -/
def Says (l : List UInt8) (e : Ending) (w' : World) : Prop :=
  (∃ (i : Nat) (f : Int), Fd.parse l = .inl (i, f) ∧ e = .returned (.tuple #[.agg #[.int .i64 0, .int .i64 0, .slice none 0 0, .slice none 0 0], .int .i64 (i : Nat), .iface 99 (.int .i64 f)]) ∧ f ≠ 0) ∨
  (∃ st u1 u2, Fd.parse l = .inr st ∧ e = .returned (.tuple #[.agg #[.int .i64 (st.W : Nat), .int .i64 (st.H : Nat), u1, u2], .int .i64 0, .nilIface]) ∧ Ro w' u1 st.gs ∧ Ro w' u2 st.os)

/-- and that the lists are new. -/
def SaysOwn (b : Nat) (l : List UInt8) (e : Ending) (w' : World) : Prop :=
  (∃ (i : Nat) (f : Int), Fd.parse l = .inl (i, f) ∧ e = .returned (.tuple #[.agg #[.int .i64 0, .int .i64 0, .slice none 0 0, .slice none 0 0], .int .i64 (i : Nat), .iface 99 (.int .i64 f)]) ∧ f ≠ 0) ∨
  (∃ st u1 u2, Fd.parse l = .inr st ∧ e = .returned (.tuple #[.agg #[.int .i64 (st.W : Nat), .int .i64 (st.H : Nat), u1, u2], .int .i64 0, .nilIface]) ∧ Two w' (b + 1 + 1) u1 u2 st.gs st.os)

set_option maxRecDepth 100000 in
set_option maxHeartbeats 4000000 in
theorem parse_own (s : ByteArray) (w : World) (hs : s.size ≤ maxLen) :
    Calls Tryz.prog 34 #[.string s] w fun e w' => SaysOwn w.heap.size s.data.toList e w' ∧ Below w.heap.size w w' := by
  unfold maxLen at hs
  generalize hl : s.data.toList = l
  have Hl : Hid (s.data.toList = l) := hl
  have Ll : Hid (l.length = s.size) := by unfold Hid; rw [← hl]; rfl
  clear hl
  have P : Hid (Fd.parse l = match Fd.run Fd.st0 0 l with | .inl x => .inl x | .inr s => if 0 < s.c ∨ s.H = 0 then .inl (l.length, 2) else .inr s) := rfl
  go_enter Tryz.func34, Tryz.ntmps34
  go_wp2_with fail
  have B0 : Hid (Below w.heap.size w ((w.alloc (Obj.cells #[.int .i64 0, .int .i64 0, .slice none 0 0, .slice none 0 0] 25)).alloc (Obj.cells #[.int .i64 0, .int .i64 0, .slice none 0 0, .slice none 0 0, .int .i64 0] 132))) := ((Below.refl _ _).alloc (Nat.le_refl _) _).alloc (by simp) _
  have D0 : Hid (Dr ((w.alloc (Obj.cells #[.int .i64 0, .int .i64 0, .slice none 0 0, .slice none 0 0] 25)).alloc (Obj.cells #[.int .i64 0, .int .i64 0, .slice none 0 0, .slice none 0 0, .int .i64 0] 132)) (w.heap.size + 1) Fd.st0) := by
    refine ⟨.slice none 0 0, .slice none 0 0, ?_, ⟨Ow.nil _ _, Ow.nil _ _, fun k h => by cases h⟩⟩
    have e : (w.alloc (Obj.cells #[.int .i64 0, .int .i64 0, .slice none 0 0, .slice none 0 0] 25)).heap.size = w.heap.size + 1 := by simp
    unfold Dt
    rw [← e]
    exact heap_alloc_new _ _
  have X0 : Hid (Bf ((w.alloc (Obj.cells #[.int .i64 0, .int .i64 0, .slice none 0 0, .slice none 0 0] 25)).alloc (Obj.cells #[.int .i64 0, .int .i64 0, .slice none 0 0, .slice none 0 0, .int .i64 0] 132)) w.heap.size 0 0 (.slice none 0 0) (.slice none 0 0)) :=
    (Bf.mk' (w := w) 0 0 (.slice none 0 0) (.slice none 0 0) rfl).below ((Below.refl _ _).alloc (Nat.le_refl _) _) (by simp)
  have Z0 : Hid (∀ i, ((w.alloc (Obj.cells #[.int .i64 0, .int .i64 0, .slice none 0 0, .slice none 0 0] 25)).alloc (Obj.cells #[.int .i64 0, .int .i64 0, .slice none 0 0, .slice none 0 0, .int .i64 0] 132)).frozen? ⟨w.heap.size, i, none⟩ = false) := by
    intro i
    rw [((Below.refl _ (w.alloc (Obj.cells #[.int .i64 0, .int .i64 0, .slice none 0 0, .slice none 0 0] 25))).alloc (Nat.le_refl _) _).frozen (p := ⟨w.heap.size, i, none⟩) (by simp)]
    simp
  generalize (w.alloc (Obj.cells #[.int .i64 0, .int .i64 0, .slice none 0 0, .slice none 0 0] 25)).alloc (Obj.cells #[.int .i64 0, .int .i64 0, .slice none 0 0, .slice none 0 0, .int .i64 0] 132) = w0 at *
  go_loopw [10] (fun i W' => ∃ (k : Nat) (st : Fd.St), k ≤ s.size ∧ i = .int .i64 (k : Nat) ∧ Dr W' (w.heap.size + 1) st ∧ Fd.Inv st (l.take k) ∧ Fd.run st k (l.drop k) = Fd.run Fd.st0 0 l ∧ Below (w.heap.size + 1) w0 W') (fun i _ => s.size - (intOf i).toNat)
  case atStart => exact ⟨0, Fd.st0, Nat.zero_le _, rfl, D0, by simpa using Fd.inv0, by simp, Below.refl _ _⟩
  case round =>
    obtain ⟨k, st, hk, rfl, hd, hi, hrun, hb⟩ := hrel
    have D : Hid (Dr wr (w.heap.size + 1) st) := hd
    have I : Hid (Fd.Inv st (l.take k)) := hi
    have R : Hid (Fd.run st k (l.drop k) = Fd.run Fd.st0 0 l) := hrun
    have B : Hid (Below (w.heap.size + 1) w0 wr) := hb
    have X : Hid (Bf wr w.heap.size 0 0 (.slice none 0 0) (.slice none 0 0)) := X0.out.below hb (Nat.lt_succ_self _)
    have Z : Hid (∀ i, wr.frozen? ⟨w.heap.size, i, none⟩ = false) := fun i => by rw [hb.frozen (p := ⟨w.heap.size, i, none⟩) (Nat.lt_succ_self _)]; exact Z0.out i
    have BW : Hid (Below w.heap.size w wr) := B0.out.trans (hb.mono (Nat.le_succ _))
    clear hd hi hrun hb D0
    by_cases h0 : k = s.size
    · subst h0
      have R2 : Hid (Fd.run Fd.st0 0 l = .inr st) := by
        unfold Hid
        rw [← R.out, List.drop_of_length_le (by rw [Ll.out]; exact Nat.le_refl _)]
        rfl
      obtain ⟨u1, u2, hd, ht⟩ := D.out
      have T : Hid (Two wr (w.heap.size + 1 + 1) u1 u2 st.gs st.os) := ht
      have c0 := hd.c0
      have c1 := hd.c1
      have c2 := hd.c2
      have c3 := hd.c3
      have c4 := hd.c4
      obtain ⟨x0, x1, x2, x3⟩ := X.out
      have z0 := Z.out 0
      have z1 := Z.out 1
      have z2 := Z.out 2
      have z3 := Z.out 3
      have k12 := I.out.c12
      have h12 := I.out.h12
      have w12 := I.out.w12
      obtain ⟨c, W, H, gs, os⟩ := st
      simp only at c0 c1 c4 k12 h12 w12
      have P2 : Hid (Fd.parse l = if 0 < c ∨ H = 0 then .inl (l.length, 2) else .inr ⟨c, W, H, gs, os⟩) := by
        unfold Hid
        rw [P.out, R2.out]
      clear hd ht
      by_cases q1 : 0 < c
      · go_wp2
        refine bodyPost_ret (v := .tuple #[.agg #[.int .i64 0, .int .i64 0, .slice none 0 0, .slice none 0 0], .int .i64 (s.size : Nat), .iface 99 (.int .i64 2)]) (by simp [results, Tryz.results34, go_sem, x0, x1, x2, x3]) rfl ⟨.inl ⟨s.size, 2, by rw [P2.out, if_pos (.inl q1), Ll.out], rfl, by decide⟩, ?_⟩
        exact (((BW.out.setCell (Nat.le_refl _) _).setCell (Nat.le_refl _) _).setCell (Nat.le_refl _) _).setCell (Nat.le_refl _) _
      · obtain rfl : c = 0 := by omega
        by_cases q2 : H = 0
        · subst q2
          go_wp2
          refine bodyPost_ret (v := .tuple #[.agg #[.int .i64 0, .int .i64 0, .slice none 0 0, .slice none 0 0], .int .i64 (s.size : Nat), .iface 99 (.int .i64 2)]) (by simp [results, Tryz.results34, go_sem, x0, x1, x2, x3]) rfl ⟨.inl ⟨s.size, 2, by rw [P2.out, Ll.out]; simp, rfl, by decide⟩, ?_⟩
          exact (((BW.out.setCell (Nat.le_refl _) _).setCell (Nat.le_refl _) _).setCell (Nat.le_refl _) _).setCell (Nat.le_refl _) _
        · have q2b : ((H : Int) == 0) = false := by rw [beq_eq_false_iff_ne]; omega
          obtain ⟨p1, k1, rfl⟩ := T.out.o1.len
          obtain ⟨p2, k2, rfl⟩ := T.out.o2.len
          have KK : Hid (Kp w.heap.size wr ((((wr.setCell ⟨w.heap.size, 0, none⟩ (.int .i64 (W : Nat))).setCell ⟨w.heap.size, 1, none⟩ (.int .i64 (H : Nat))).setCell ⟨w.heap.size, 2, none⟩ (.slice p1 gs.length k1)).setCell ⟨w.heap.size, 3, none⟩ (.slice p2 os.length k2))) := (((Kp.set _ _ _).trans (Kp.set _ _ _)).trans (Kp.set _ _ _)).trans (Kp.set _ _ _)
          go_wp2
          refine bodyPost_ret (v := .tuple #[.agg #[.int .i64 (W : Nat), .int .i64 (H : Nat), .slice p1 gs.length k1, .slice p2 os.length k2], .int .i64 0, .nilIface]) (by simp [results, Tryz.results34, go_sem, x0, x1, x2, x3]) rfl ⟨.inr ⟨_, _, _, by rw [P2.out, if_neg (by omega)], rfl, ?_⟩, ?_⟩
          · exact T.out.kp KK.out (by omega)
          · exact (((BW.out.setCell (Nat.le_refl _) _).setCell (Nat.le_refl _) _).setCell (Nat.le_refl _) _).setCell (Nat.le_refl _) _
    · have hks : k < s.size := by omega
      have hkl : k < l.length := by rw [Ll.out]; exact hks
      have RA := run_at st hkl
      rw [R.out] at RA
      have eb : l[k] = s[k] := by
        have := Hl.out
        subst this
        rfl
      rw [eb] at RA
      have RA' : Hid _ := RA
      have TK : Hid (l.take (k + 1) = l.take k ++ [s[k]]) := by unfold Hid; rw [List.take_succ_eq_append_getElem hkl, eb]
      have KR : Hid (Calls Tryz.prog 86 #[.pointer (some ⟨w.heap.size + 1, 0, none⟩), .int .u8 (s[k].toNat : Nat)] wr fun e w' => (∃ f, Fd.step st s[k] = .inl f ∧ e = .returned (.iface 99 (.int .i64 f)) ∧ f ≠ 0 ∧ Below (w.heap.size + 1) wr w') ∨ (∃ s', Fd.step st s[k] = .inr s' ∧ e = .returned .nilIface ∧ Dr w' (w.heap.size + 1) s' ∧ Below (w.heap.size + 1) wr w')) := fread_any _ st s[k] wr D.out (Okay.of I.out)
      clear RA eb
      go_wp2_with fail
      refine Calls.mono KR.out ?_
      rintro e w1 hm
      rcases hm with ⟨f, hst, rfl, hf, hb⟩ | ⟨st', hst, rfl, hd', hb⟩
      · have P2 : Hid (Fd.parse l = .inl (k, f)) := by
          unfold Hid
          rw [P.out, RA'.out, hst]
        have Hf : Hid (f ≠ 0) := hf
        have B1 : Hid (Below w.heap.size w w1) := BW.out.trans (hb.mono (Nat.le_succ _))
        have X1 : Bf w1 w.heap.size 0 0 (.slice none 0 0) (.slice none 0 0) := X.out.below hb (Nat.lt_succ_self _)
        have z0 : w1.frozen? ⟨w.heap.size, 0, none⟩ = false := by rw [hb.frozen (p := ⟨w.heap.size, 0, none⟩) (Nat.lt_succ_self _)]; exact Z.out 0
        have z1 : w1.frozen? ⟨w.heap.size, 1, none⟩ = false := by rw [hb.frozen (p := ⟨w.heap.size, 1, none⟩) (Nat.lt_succ_self _)]; exact Z.out 1
        have z2 : w1.frozen? ⟨w.heap.size, 2, none⟩ = false := by rw [hb.frozen (p := ⟨w.heap.size, 2, none⟩) (Nat.lt_succ_self _)]; exact Z.out 2
        have z3 : w1.frozen? ⟨w.heap.size, 3, none⟩ = false := by rw [hb.frozen (p := ⟨w.heap.size, 3, none⟩) (Nat.lt_succ_self _)]; exact Z.out 3
        obtain ⟨x0, x1, x2, x3⟩ := X1
        clear hst hf hb KR RA'
        go_wp2
        refine bodyPost_ret (v := .tuple #[.agg #[.int .i64 0, .int .i64 0, .slice none 0 0, .slice none 0 0], .int .i64 (k : Nat), .iface 99 (.int .i64 f)]) (by simp [results, Tryz.results34, go_sem, x0, x1, x2, x3]) rfl ⟨.inl ⟨k, f, P2.out, rfl, Hf.out⟩, ?_⟩
        exact (((B1.out.setCell (Nat.le_refl _) _).setCell (Nat.le_refl _) _).setCell (Nat.le_refl _) _).setCell (Nat.le_refl _) _
      · have I2 : Hid (Fd.Inv st' (l.take (k + 1))) := by unfold Hid; rw [TK.out]; exact I.out.step hst
        have R2 : Hid (Fd.run st' (k + 1) (l.drop (k + 1)) = Fd.run Fd.st0 0 l) := by unfold Hid; rw [RA'.out, hst]
        have D2 : Hid (Dr w1 (w.heap.size + 1) st') := hd'
        have B2 : Hid (Below (w.heap.size + 1) w0 w1) := B.out.trans hb
        clear hst hd' hb KR RA'
        go_wp2
        go_round
        case rel => exact ⟨k + 1, st', by omega, by go_num, D2, I2, R2, B2⟩
        case measure => simp [intOf]; omega

theorem parse_any (s : ByteArray) (w : World) (hs : s.size ≤ maxLen) :
    Calls Tryz.prog 34 #[.string s] w fun e w' => Says s.data.toList e w' ∧ Below w.heap.size w w' :=
  (parse_own s w hs).mono fun e w' ⟨h, hb⟩ => ⟨h.imp id fun ⟨st, u1, u2, h1, h2, h3⟩ => ⟨st, u1, u2, h1, h2, h3.o1.ro, h3.o2.ro⟩, hb⟩
end Go.Proofs.YtoabhfipikkkeaaGreatDoor

namespace Go.Proofs.YtoabhfipikkkeaaGreatDoor
open Go.RowKit Go.Proofs.YtoabhfipikkkeaaGreatDoor.So
set_option linter.unusedVariables false

namespace One
def X0 : WV := ⟨0, 1, 4, 2, SG, SO, [0], [], []⟩
def X1 : WV := ⟨0, 2, 4, 2, SG, SO, [0], [ob], []⟩
theorem f0 : Wd.newFault OK 4 2 SG SO 1 0 = 0 := by decide +kernel
theorem f1 : Wd.putFault OK X0 0 0 0 = 0 := by decide +kernel
theorem f2 : Wd.putFault OK X1 0 1 1 = 0 := by decide +kernel
theorem e0 : Wd.begun OK 4 2 SG SO 1 0 = X0 := begun_ok f0
theorem e1 : Wd.placed OK X0 0 0 0 = X1 := (placed_ok f1).trans rfl
theorem e2 : Wd.placed OK X1 0 1 1 = OX := (placed_ok f2).trans rfl
theorem names : ∀ k ∈ OK, k.b.size ≤ 9223372036854775807 := by
  intro k hk
  unfold OK at hk
  rcases List.mem_cons.1 hk with rfl | hk
  · decide
  rcases List.mem_cons.1 hk with rfl | hk
  · decide
  · cases hk
theorem ez {r : Value} (h : Er r 0) : r = .nilIface := by
  rcases h with ⟨-, h⟩ | ⟨h, -⟩
  · exact h
  · exact absurd rfl h
theorem kl_mk {w : World} {z : Nat} (hz : w.heap.size = z) : Kl (w.alloc (.cells #[.string ⟨#[98, 97, 115, 101]⟩, .int .i64 50, .int .i64 0, .int .i64 0, .int .i64 0, .int .i64 0, .int .i64 0, .int .i64 0, .int .i64 0, .bool false, .bool true, .string ⟨#[100, 105, 103, 103, 101, 114]⟩, .int .i64 10, .int .i64 0, .int .i64 0, .int .i64 0, .int .i64 2, .int .i64 0, .int .i64 0, .int .i64 20, .bool false, .bool false] 80)) (.slice (some ⟨z, 0, none⟩) 2 2) OK := by
  subst hz
  refine ⟨_, 2, rfl, Nat.le_refl _, by omega, fun _ => ⟨_, rfl, by simp, fun i k hi => ?_⟩⟩
  have hl : i < 2 := (List.getElem?_eq_some_iff.1 hi).1
  rw [Addr.add_lit, Nat.zero_add]
  match i, hl, hi with
  | 0, _, hi => injection hi with hi; subst hi; constructor <;> simp [OB]
  | 1, _, hi => injection hi with hi; subst hi; constructor <;> simp [OD]
theorem or_mk (w : World) : Orl (w.alloc (Obj.cells #[.int .i64 0, .int .i64 2, .int .i64 2, .int .i64 6] 86)) (.slice (some ⟨w.heap.size, 0, none⟩) 1 1) [oo] := by
  refine ⟨_, _, rfl, by decide, by decide, fun _ => ⟨⟨w.heap.size, 0, none⟩, rfl, by simp, fun i k hk => ?_⟩⟩
  have hn := heap_alloc_new w (Obj.cells #[.int .i64 0, .int .i64 2, .int .i64 2, .int .i64 6] 86)
  match i, hk with
  | 0, hk => simp [oo] at hk; subst hk; refine ⟨?_, ?_, ?_, ?_⟩ <;> (simp only [World.cell?, Addr.add_lit, hn]; rfl)
  | i + 1, hk => simp at hk
theorem ol_mk (w : World) (v : Value) (hv : Orl w v [oo]) : Oll (w.alloc (Obj.cells #[v, .slice none 0 0, .slice none 0 0] 41)) (.slice (some ⟨w.heap.size, 0, none⟩) 3 3) [[oo], [], []] := by
  have hn := heap_alloc_new w (Obj.cells #[v, .slice none 0 0, .slice none 0 0] 41)
  have hb : Below w.heap.size w (w.alloc (Obj.cells #[v, .slice none 0 0, .slice none 0 0] 41)) := (Below.refl _ _).alloc (Nat.le_refl _) _
  have ol : ∀ W, Orl W (.slice none 0 0) [] := fun W => ⟨none, 0, rfl, Nat.le_refl _, by omega, fun h => absurd rfl h⟩
  refine ⟨_, _, rfl, by decide, by decide, fun _ => ⟨⟨w.heap.size, 0, none⟩, rfl, by simp, fun i l hl => ?_⟩⟩
  match i, hl with
  | 0, hl => simp at hl; subst hl; exact ⟨_, by simp only [World.cell?, Addr.add_lit, hn]; rfl, hv.below hb⟩
  | 1, hl => simp at hl; subst hl; exact ⟨_, by simp only [World.cell?, Addr.add_lit, hn]; rfl, ol _⟩
  | 2, hl => simp at hl; subst hl; exact ⟨_, by simp only [World.cell?, Addr.add_lit, hn]; rfl, ol _⟩
  | i + 3, hl => simp at hl
end One
set_option maxRecDepth 100000 in
set_option maxHeartbeats 32000000 in
theorem one_any (w : World) (hsd : Sd w) : Calls Tryz.prog 7 #[] w fun e w' => e = .returned (.bool true) ∧ Below w.heap.size w w' := by
  have SDH : Hid (Sd w) := hsd
  clear hsd
  go_enter Tryz.func7, Tryz.ntmps7
  go_upto_region 2 with fail
  have KL : Hid (Kl (w.alloc (Obj.cells #[.string ⟨#[98, 97, 115, 101]⟩, .int .i64 50, .int .i64 0, .int .i64 0, .int .i64 0, .int .i64 0, .int .i64 0, .int .i64 0, .int .i64 0, .bool false, .bool true, .string ⟨#[100, 105, 103, 103, 101, 114]⟩, .int .i64 10, .int .i64 0, .int .i64 0, .int .i64 0, .int .i64 2, .int .i64 0, .int .i64 0, .int .i64 20, .bool false, .bool false] 80)) (.slice (some ⟨w.heap.size, 0, none⟩) 2 2) OK) := One.kl_mk rfl
  have B0 : Hid (Below w.heap.size w (w.alloc (Obj.cells #[.string ⟨#[98, 97, 115, 101]⟩, .int .i64 50, .int .i64 0, .int .i64 0, .int .i64 0, .int .i64 0, .int .i64 0, .int .i64 0, .int .i64 0, .bool false, .bool true, .string ⟨#[100, 105, 103, 103, 101, 114]⟩, .int .i64 10, .int .i64 0, .int .i64 0, .int .i64 0, .int .i64 2, .int .i64 0, .int .i64 0, .int .i64 20, .bool false, .bool false] 80))) := (Below.refl _ _).alloc (Nat.le_refl _) _
  generalize w.alloc (Obj.cells #[.string ⟨#[98, 97, 115, 101]⟩, .int .i64 50, .int .i64 0, .int .i64 0, .int .i64 0, .int .i64 0, .int .i64 0, .int .i64 0, .int .i64 0, .bool false, .bool true, .string ⟨#[100, 105, 103, 103, 101, 114]⟩, .int .i64 10, .int .i64 0, .int .i64 0, .int .i64 0, .int .i64 2, .int .i64 0, .int .i64 0, .int .i64 20, .bool false, .bool false] 80) = w0 at *
  obtain ⟨zk, hzk⟩ : ∃ z, w.heap.size = z := ⟨_, rfl⟩
  have HZK : Hid (w.heap.size = zk) := hzk
  rw [hzk] at KL ⊢
  clear hzk
  go_wp2_with fail
  refine (parse_any ⟨#[46, 46, 46, 46, 10, 46, 46, 51, 46, 10]⟩ w0 (by decide)).mono ?_
  rintro e w1 ⟨hs, hb⟩
  have hp : Fd.parse (⟨#[46, 46, 46, 46, 10, 46, 46, 51, 46, 10]⟩ : ByteArray).data.toList = .inr ⟨0, 4, 2, SG, SO⟩ := sm_parse
  rcases hs with ⟨i, f, h1, -⟩ | ⟨st, u1, u2, h1, h2, r1, r2⟩
  · rw [hp] at h1; cases h1
  rw [hp] at h1
  injection h1 with h1
  subst h1
  subst h2
  have RO : Hid (Ro w1 u1 SG ∧ Ro w1 u2 SO) := ⟨r1, r2⟩
  obtain ⟨p1, q1, rfl, -⟩ := r1
  obtain ⟨p2, q2, rfl, -⟩ := r2
  have B1 : Hid (Below w0.heap.size w0 w1) := hb
  clear hb hp
  have l8 : SG.length = 8 := rfl
  have l8' : SO.length = 8 := rfl
  rw [l8, l8'] at *
  clear l8 l8'
  go_upto_region 3 with fail
  have BA : Hid (Below w1.heap.size w1 (w1.alloc (Obj.cells #[.int .i64 4, .int .i64 2, .slice p1 8 q1, .slice p2 8 q2] 25))) := (Below.refl _ _).alloc (Nat.le_refl _) _
  obtain ⟨zf, hzf⟩ : ∃ z, w1.heap.size = z := ⟨_, rfl⟩
  have X2 : Hid (Bx (w1.alloc (Obj.cells #[.int .i64 4, .int .i64 2, .slice p1 8 q1, .slice p2 8 q2] 25)) zf 4 2 (.slice p1 8 q1) (.slice p2 8 q2)) := Bx.mk' _ _ _ _ hzf
  have FL : Hid (Fl (w1.alloc (Obj.cells #[.int .i64 4, .int .i64 2, .slice p1 8 q1, .slice p2 8 q2] 25)) (.agg #[.int .i64 4, .int .i64 2, .slice p1 8 q1, .slice p2 8 q2]) 4 2 SG SO) := ⟨_, _, rfl, RO.out.1.below BA.out, RO.out.2.below BA.out⟩
  have B2 : Hid (Below w0.heap.size w0 (w1.alloc (Obj.cells #[.int .i64 4, .int .i64 2, .slice p1 8 q1, .slice p2 8 q2] 25))) := B1.out.trans (BA.out.mono B1.out.size)
  rw [hzf]
  generalize (w1.alloc (Obj.cells #[.int .i64 4, .int .i64 2, .slice p1 8 q1, .slice p2 8 q2] 25)) = w2 at *
  clear BA B1 RO hzf
  obtain ⟨f0, f1, f2, f3⟩ := X2.out
  go_wp2_with fail
  refine (new_any _ _ OK 4 2 SG SO 1 0 w2 (KL.out.below B2.out) One.names FL.out).mono ?_
  rintro e w3 ⟨u, r, rfl, hr, ho, hb⟩
  rw [One.f0] at hr
  rw [One.e0] at ho
  obtain rfl := One.ez hr
  have B3 : Hid (Below w0.heap.size w0 w3) := B2.out.trans (hb.mono B2.out.size)
  have L3 : Hid (Wl w3 u One.X0) := ho.l
  clear hr hb f0 f1 f2 f3 X2 FL B2
  obtain ⟨y1, y2, y3, y4, y5, rfl, o1, o2, o3, o4, o5⟩ := ho
  obtain ⟨a1, b1, rfl⟩ := o1.len
  obtain ⟨a2, b2, rfl⟩ := o2.len
  obtain ⟨a3, b3, rfl⟩ := o3.len
  obtain ⟨a4, b4, rfl⟩ := o4.len
  obtain ⟨a5, b5, rfl⟩ := o5.len
  have L3' : Hid (Wl w3 (.agg #[.int .i64 0, .int .i64 1, .int .i64 4, .int .i64 2, .slice a1 8 b1, .slice a2 8 b2, .slice a3 1 b3, .slice a4 0 b4, .slice a5 0 b5]) One.X0) := L3.out
  clear L3 o1 o2 o3 o4 o5
  have g1 : One.X0.turn = 0 ∧ One.X0.next = 1 ∧ One.X0.wide = 4 ∧ One.X0.high = 2 ∧ One.X0.gs.length = 8 ∧ One.X0.os.length = 8 ∧ One.X0.gold.length = 1 ∧ One.X0.us.length = 0 ∧ One.X0.qs.length = 0 := ⟨rfl, rfl, rfl, rfl, rfl, rfl, rfl, rfl, rfl⟩
  obtain ⟨g1, g2, g3, g4, g5, g6, g7, g8, g9⟩ := g1
  simp only [g1, g2, g3, g4, g5, g6, g7, g8, g9]
  clear g1 g2 g3 g4 g5 g6 g7 g8 g9
  go_upto_region 4 with fail
  have BA : Hid (Below w3.heap.size w3 (w3.alloc (Obj.cells #[.int .i64 0, .int .i64 1, .int .i64 4, .int .i64 2, .slice a1 8 b1, .slice a2 8 b2, .slice a3 1 b3, .slice a4 0 b4, .slice a5 0 b5] 29))) := (Below.refl _ _).alloc (Nat.le_refl _) _
  obtain ⟨z, hz⟩ : ∃ z, w3.heap.size = z := ⟨_, rfl⟩
  have XA0 : Hid (Wx (w3.alloc (Obj.cells #[.int .i64 0, .int .i64 1, .int .i64 4, .int .i64 2, .slice a1 8 b1, .slice a2 8 b2, .slice a3 1 b3, .slice a4 0 b4, .slice a5 0 b5] 29)) z (.int .i64 0) (.int .i64 1) (.int .i64 4) (.int .i64 2) (.slice a1 8 b1) (.slice a2 8 b2) (.slice a3 1 b3) (.slice a4 0 b4) (.slice a5 0 b5)) := Wx.new _ _ _ _ _ _ _ _ _ hz
  have LA0 : Hid (Wl (w3.alloc (Obj.cells #[.int .i64 0, .int .i64 1, .int .i64 4, .int .i64 2, .slice a1 8 b1, .slice a2 8 b2, .slice a3 1 b3, .slice a4 0 b4, .slice a5 0 b5] 29)) (.agg #[.int .i64 0, .int .i64 1, .int .i64 4, .int .i64 2, .slice a1 8 b1, .slice a2 8 b2, .slice a3 1 b3, .slice a4 0 b4, .slice a5 0 b5]) One.X0) := L3'.out.below BA.out
  have BA0 : Hid (Below w0.heap.size w0 (w3.alloc (Obj.cells #[.int .i64 0, .int .i64 1, .int .i64 4, .int .i64 2, .slice a1 8 b1, .slice a2 8 b2, .slice a3 1 b3, .slice a4 0 b4, .slice a5 0 b5] 29))) := B3.out.trans (BA.out.mono B3.out.size)
  have NZ : Hid (w0.heap.size ≤ z) := by rw [← hz]; exact B3.out.size
  rw [hz]
  generalize w3.alloc (Obj.cells #[.int .i64 0, .int .i64 1, .int .i64 4, .int .i64 2, .slice a1 8 b1, .slice a2 8 b2, .slice a3 1 b3, .slice a4 0 b4, .slice a5 0 b5] 29) = s0 at *
  clear BA L3' B3 hz
  obtain ⟨x0, x1, x2, x3, x4, x5, x6, x7, x8⟩ := XA0.out.cells
  go_wp2_with fail
  refine (place_any _ _ OK One.X0 0 0 0 s0 (KL.out.below BA0.out) One.names LA0.out).mono ?_
  rintro e v0 ⟨u, r, rfl, hr, ho, hb⟩
  rw [One.f1] at hr
  rw [One.e1] at ho
  obtain rfl := One.ez hr
  have BV : Hid (Below w0.heap.size w0 v0) := BA0.out.trans (hb.mono BA0.out.size)
  have XV : Hid (Wx v0 z (.int .i64 0) (.int .i64 1) (.int .i64 4) (.int .i64 2) (.slice a1 8 b1) (.slice a2 8 b2) (.slice a3 1 b3) (.slice a4 0 b4) (.slice a5 0 b5)) := XA0.out.below hb XA0.out.lt
  have LV : Hid (Wo v0 s0.heap.size u One.X1 ∧ z < s0.heap.size) := ⟨ho, XA0.out.lt⟩
  clear hr hb x0 x1 x2 x3 x4 x5 x6 x7 x8 XA0 LA0 BA0
  obtain ⟨y1, y2, y3, y4, y5, rfl, o1, o2, o3, o4, o5⟩ := ho
  obtain ⟨c1, d1, rfl⟩ := o1.len
  obtain ⟨c2, d2, rfl⟩ := o2.len
  obtain ⟨c3, d3, rfl⟩ := o3.len
  obtain ⟨c4, d4, rfl⟩ := o4.len
  obtain ⟨c5, d5, rfl⟩ := o5.len
  have LV' : Hid (Wo v0 s0.heap.size (.agg #[.int .i64 0, .int .i64 2, .int .i64 4, .int .i64 2, .slice c1 8 d1, .slice c2 8 d2, .slice c3 1 d3, .slice c4 1 d4, .slice c5 0 d5]) One.X1 ∧ z < s0.heap.size) := LV.out
  clear LV o1 o2 o3 o4 o5
  have g1 : One.X1.turn = 0 ∧ One.X1.next = 2 ∧ One.X1.wide = 4 ∧ One.X1.high = 2 ∧ One.X1.gs.length = 8 ∧ One.X1.os.length = 8 ∧ One.X1.gold.length = 1 ∧ One.X1.us.length = 1 ∧ One.X1.qs.length = 0 := ⟨rfl, rfl, rfl, rfl, rfl, rfl, rfl, rfl, rfl⟩
  obtain ⟨g1, g2, g3, g4, g5, g6, g7, g8, g9⟩ := g1
  simp only [g1, g2, g3, g4, g5, g6, g7, g8, g9]
  clear g1 g2 g3 g4 g5 g6 g7 g8 g9
  obtain ⟨x0, x1, x2, x3, x4, x5, x6, x7, x8⟩ := XV.out.cells
  obtain ⟨t0, t1, t2, t3, t4, t5, t6, t7, t8⟩ := XV.out.thaws
  have KW : Hid (Kp z v0 (((((((((v0.setCell ⟨z, 0, none⟩ (.int .i64 0)).setCell ⟨z, 1, none⟩ (.int .i64 2)).setCell ⟨z, 2, none⟩ (.int .i64 4)).setCell ⟨z, 3, none⟩ (.int .i64 2)).setCell ⟨z, 4, none⟩ (.slice c1 8 d1)).setCell ⟨z, 5, none⟩ (.slice c2 8 d2)).setCell ⟨z, 6, none⟩ (.slice c3 1 d3)).setCell ⟨z, 7, none⟩ (.slice c4 1 d4)).setCell ⟨z, 8, none⟩ (.slice c5 0 d5))) := put_kp _ _ _ _ _ _ _ _ _ _ _
  have XA1 : Hid (Wx (((((((((v0.setCell ⟨z, 0, none⟩ (.int .i64 0)).setCell ⟨z, 1, none⟩ (.int .i64 2)).setCell ⟨z, 2, none⟩ (.int .i64 4)).setCell ⟨z, 3, none⟩ (.int .i64 2)).setCell ⟨z, 4, none⟩ (.slice c1 8 d1)).setCell ⟨z, 5, none⟩ (.slice c2 8 d2)).setCell ⟨z, 6, none⟩ (.slice c3 1 d3)).setCell ⟨z, 7, none⟩ (.slice c4 1 d4)).setCell ⟨z, 8, none⟩ (.slice c5 0 d5)) z (.int .i64 0) (.int .i64 2) (.int .i64 4) (.int .i64 2) (.slice c1 8 d1) (.slice c2 8 d2) (.slice c3 1 d3) (.slice c4 1 d4) (.slice c5 0 d5)) := XV.out.put (.int .i64 0) (.int .i64 2) (.int .i64 4) (.int .i64 2) (.slice c1 8 d1) (.slice c2 8 d2) (.slice c3 1 d3) (.slice c4 1 d4) (.slice c5 0 d5)
  have LA1 : Hid (Wl (((((((((v0.setCell ⟨z, 0, none⟩ (.int .i64 0)).setCell ⟨z, 1, none⟩ (.int .i64 2)).setCell ⟨z, 2, none⟩ (.int .i64 4)).setCell ⟨z, 3, none⟩ (.int .i64 2)).setCell ⟨z, 4, none⟩ (.slice c1 8 d1)).setCell ⟨z, 5, none⟩ (.slice c2 8 d2)).setCell ⟨z, 6, none⟩ (.slice c3 1 d3)).setCell ⟨z, 7, none⟩ (.slice c4 1 d4)).setCell ⟨z, 8, none⟩ (.slice c5 0 d5)) (.agg #[.int .i64 0, .int .i64 2, .int .i64 4, .int .i64 2, .slice c1 8 d1, .slice c2 8 d2, .slice c3 1 d3, .slice c4 1 d4, .slice c5 0 d5]) One.X1) := (LV'.out.1.kp KW.out LV'.out.2).l
  have BA1 : Hid (Below w0.heap.size w0 (((((((((v0.setCell ⟨z, 0, none⟩ (.int .i64 0)).setCell ⟨z, 1, none⟩ (.int .i64 2)).setCell ⟨z, 2, none⟩ (.int .i64 4)).setCell ⟨z, 3, none⟩ (.int .i64 2)).setCell ⟨z, 4, none⟩ (.slice c1 8 d1)).setCell ⟨z, 5, none⟩ (.slice c2 8 d2)).setCell ⟨z, 6, none⟩ (.slice c3 1 d3)).setCell ⟨z, 7, none⟩ (.slice c4 1 d4)).setCell ⟨z, 8, none⟩ (.slice c5 0 d5))) := KW.out.below BV.out BV.out.size NZ.out
  go_upto_region 5 with fail
  clear x0 x1 x2 x3 x4 x5 x6 x7 x8 t0 t1 t2 t3 t4 t5 t6 t7 t8 XV LV' BV KW
  generalize ((((((((v0.setCell ⟨z, 0, none⟩ (.int .i64 0)).setCell ⟨z, 1, none⟩ (.int .i64 2)).setCell ⟨z, 2, none⟩ (.int .i64 4)).setCell ⟨z, 3, none⟩ (.int .i64 2)).setCell ⟨z, 4, none⟩ (.slice c1 8 d1)).setCell ⟨z, 5, none⟩ (.slice c2 8 d2)).setCell ⟨z, 6, none⟩ (.slice c3 1 d3)).setCell ⟨z, 7, none⟩ (.slice c4 1 d4)).setCell ⟨z, 8, none⟩ (.slice c5 0 d5) = s1 at *
  obtain ⟨x0, x1, x2, x3, x4, x5, x6, x7, x8⟩ := XA1.out.cells
  go_wp2_with fail
  refine (place_any _ _ OK One.X1 0 1 1 s1 (KL.out.below BA1.out) One.names LA1.out).mono ?_
  rintro e v1 ⟨u, r, rfl, hr, ho, hb⟩
  rw [One.f2] at hr
  rw [One.e2] at ho
  obtain rfl := One.ez hr
  have BV : Hid (Below w0.heap.size w0 v1) := BA1.out.trans (hb.mono BA1.out.size)
  have XV : Hid (Wx v1 z (.int .i64 0) (.int .i64 2) (.int .i64 4) (.int .i64 2) (.slice c1 8 d1) (.slice c2 8 d2) (.slice c3 1 d3) (.slice c4 1 d4) (.slice c5 0 d5)) := XA1.out.below hb XA1.out.lt
  have LV : Hid (Wo v1 s1.heap.size u OX ∧ z < s1.heap.size) := ⟨ho, XA1.out.lt⟩
  clear hr hb x0 x1 x2 x3 x4 x5 x6 x7 x8 XA1 LA1 BA1
  obtain ⟨y1, y2, y3, y4, y5, rfl, o1, o2, o3, o4, o5⟩ := ho
  obtain ⟨m1, n1, rfl⟩ := o1.len
  obtain ⟨m2, n2, rfl⟩ := o2.len
  obtain ⟨m3, n3, rfl⟩ := o3.len
  obtain ⟨m4, n4, rfl⟩ := o4.len
  obtain ⟨m5, n5, rfl⟩ := o5.len
  have LV' : Hid (Wo v1 s1.heap.size (.agg #[.int .i64 0, .int .i64 3, .int .i64 4, .int .i64 2, .slice m1 8 n1, .slice m2 8 n2, .slice m3 1 n3, .slice m4 2 n4, .slice m5 0 n5]) OX ∧ z < s1.heap.size) := LV.out
  clear LV o1 o2 o3 o4 o5
  have g1 : OX.turn = 0 ∧ OX.next = 3 ∧ OX.wide = 4 ∧ OX.high = 2 ∧ OX.gs.length = 8 ∧ OX.os.length = 8 ∧ OX.gold.length = 1 ∧ OX.us.length = 2 ∧ OX.qs.length = 0 := ⟨rfl, rfl, rfl, rfl, rfl, rfl, rfl, rfl, rfl⟩
  obtain ⟨g1, g2, g3, g4, g5, g6, g7, g8, g9⟩ := g1
  simp only [g1, g2, g3, g4, g5, g6, g7, g8, g9]
  clear g1 g2 g3 g4 g5 g6 g7 g8 g9
  obtain ⟨x0, x1, x2, x3, x4, x5, x6, x7, x8⟩ := XV.out.cells
  obtain ⟨t0, t1, t2, t3, t4, t5, t6, t7, t8⟩ := XV.out.thaws
  have KW : Hid (Kp z v1 (((((((((v1.setCell ⟨z, 0, none⟩ (.int .i64 0)).setCell ⟨z, 1, none⟩ (.int .i64 3)).setCell ⟨z, 2, none⟩ (.int .i64 4)).setCell ⟨z, 3, none⟩ (.int .i64 2)).setCell ⟨z, 4, none⟩ (.slice m1 8 n1)).setCell ⟨z, 5, none⟩ (.slice m2 8 n2)).setCell ⟨z, 6, none⟩ (.slice m3 1 n3)).setCell ⟨z, 7, none⟩ (.slice m4 2 n4)).setCell ⟨z, 8, none⟩ (.slice m5 0 n5))) := put_kp _ _ _ _ _ _ _ _ _ _ _
  have XA2 : Hid (Wx (((((((((v1.setCell ⟨z, 0, none⟩ (.int .i64 0)).setCell ⟨z, 1, none⟩ (.int .i64 3)).setCell ⟨z, 2, none⟩ (.int .i64 4)).setCell ⟨z, 3, none⟩ (.int .i64 2)).setCell ⟨z, 4, none⟩ (.slice m1 8 n1)).setCell ⟨z, 5, none⟩ (.slice m2 8 n2)).setCell ⟨z, 6, none⟩ (.slice m3 1 n3)).setCell ⟨z, 7, none⟩ (.slice m4 2 n4)).setCell ⟨z, 8, none⟩ (.slice m5 0 n5)) z (.int .i64 0) (.int .i64 3) (.int .i64 4) (.int .i64 2) (.slice m1 8 n1) (.slice m2 8 n2) (.slice m3 1 n3) (.slice m4 2 n4) (.slice m5 0 n5)) := XV.out.put (.int .i64 0) (.int .i64 3) (.int .i64 4) (.int .i64 2) (.slice m1 8 n1) (.slice m2 8 n2) (.slice m3 1 n3) (.slice m4 2 n4) (.slice m5 0 n5)
  have LA2 : Hid (Wl (((((((((v1.setCell ⟨z, 0, none⟩ (.int .i64 0)).setCell ⟨z, 1, none⟩ (.int .i64 3)).setCell ⟨z, 2, none⟩ (.int .i64 4)).setCell ⟨z, 3, none⟩ (.int .i64 2)).setCell ⟨z, 4, none⟩ (.slice m1 8 n1)).setCell ⟨z, 5, none⟩ (.slice m2 8 n2)).setCell ⟨z, 6, none⟩ (.slice m3 1 n3)).setCell ⟨z, 7, none⟩ (.slice m4 2 n4)).setCell ⟨z, 8, none⟩ (.slice m5 0 n5)) (.agg #[.int .i64 0, .int .i64 3, .int .i64 4, .int .i64 2, .slice m1 8 n1, .slice m2 8 n2, .slice m3 1 n3, .slice m4 2 n4, .slice m5 0 n5]) OX) := (LV'.out.1.kp KW.out LV'.out.2).l
  have BA2 : Hid (Below w0.heap.size w0 (((((((((v1.setCell ⟨z, 0, none⟩ (.int .i64 0)).setCell ⟨z, 1, none⟩ (.int .i64 3)).setCell ⟨z, 2, none⟩ (.int .i64 4)).setCell ⟨z, 3, none⟩ (.int .i64 2)).setCell ⟨z, 4, none⟩ (.slice m1 8 n1)).setCell ⟨z, 5, none⟩ (.slice m2 8 n2)).setCell ⟨z, 6, none⟩ (.slice m3 1 n3)).setCell ⟨z, 7, none⟩ (.slice m4 2 n4)).setCell ⟨z, 8, none⟩ (.slice m5 0 n5))) := KW.out.below BV.out BV.out.size NZ.out
  go_upto_region 6 with fail
  clear x0 x1 x2 x3 x4 x5 x6 x7 x8 t0 t1 t2 t3 t4 t5 t6 t7 t8 XV LV' BV KW
  generalize ((((((((v1.setCell ⟨z, 0, none⟩ (.int .i64 0)).setCell ⟨z, 1, none⟩ (.int .i64 3)).setCell ⟨z, 2, none⟩ (.int .i64 4)).setCell ⟨z, 3, none⟩ (.int .i64 2)).setCell ⟨z, 4, none⟩ (.slice m1 8 n1)).setCell ⟨z, 5, none⟩ (.slice m2 8 n2)).setCell ⟨z, 6, none⟩ (.slice m3 1 n3)).setCell ⟨z, 7, none⟩ (.slice m4 2 n4)).setCell ⟨z, 8, none⟩ (.slice m5 0 n5) = s2 at *
  go_upto_region 7 with fail
  have BO : Hid (Below s2.heap.size s2 (s2.alloc (Obj.cells #[.int .i64 0, .int .i64 2, .int .i64 2, .int .i64 6] 86))) := (Below.refl _ _).alloc (Nat.le_refl _) _
  obtain ⟨zo, hzo⟩ : ∃ z, s2.heap.size = z := ⟨_, rfl⟩
  have OL : Hid (Orl (s2.alloc (Obj.cells #[.int .i64 0, .int .i64 2, .int .i64 2, .int .i64 6] 86)) (.slice (some ⟨zo, 0, none⟩) 1 1) [oo]) := by rw [← hzo]; exact One.or_mk s2
  have X6 : Hid (Wx (s2.alloc (Obj.cells #[.int .i64 0, .int .i64 2, .int .i64 2, .int .i64 6] 86)) z (.int .i64 0) (.int .i64 3) (.int .i64 4) (.int .i64 2) (.slice m1 8 n1) (.slice m2 8 n2) (.slice m3 1 n3) (.slice m4 2 n4) (.slice m5 0 n5)) := XA2.out.below BO.out XA2.out.lt
  have L6 : Hid (Wl (s2.alloc (Obj.cells #[.int .i64 0, .int .i64 2, .int .i64 2, .int .i64 6] 86)) (.agg #[.int .i64 0, .int .i64 3, .int .i64 4, .int .i64 2, .slice m1 8 n1, .slice m2 8 n2, .slice m3 1 n3, .slice m4 2 n4, .slice m5 0 n5]) OX) := LA2.out.below BO.out
  have B6 : Hid (Below w0.heap.size w0 (s2.alloc (Obj.cells #[.int .i64 0, .int .i64 2, .int .i64 2, .int .i64 6] 86))) := BA2.out.trans (BO.out.mono BA2.out.size)
  rw [hzo]
  generalize s2.alloc (Obj.cells #[.int .i64 0, .int .i64 2, .int .i64 2, .int .i64 6] 86) = w6 at *
  clear BO hzo XA2 LA2 BA2
  have BL : Hid (Below w6.heap.size w6 (w6.alloc (Obj.cells #[.slice (some ⟨zo, 0, none⟩) 1 1, .slice none 0 0, .slice none 0 0] 41))) := (Below.refl _ _).alloc (Nat.le_refl _) _
  have LL : Hid (Oll (w6.alloc (Obj.cells #[.slice (some ⟨zo, 0, none⟩) 1 1, .slice none 0 0, .slice none 0 0] 41)) (.slice (some ⟨w6.heap.size, 0, none⟩) 3 3) [[oo], [], []]) := One.ol_mk w6 _ OL.out
  have B7 : Hid (Below w0.heap.size w0 (w6.alloc (Obj.cells #[.slice (some ⟨zo, 0, none⟩) 1 1, .slice none 0 0, .slice none 0 0] 41))) := B6.out.trans (BL.out.mono B6.out.size)
  have L7 : Hid (Wl (w6.alloc (Obj.cells #[.slice (some ⟨zo, 0, none⟩) 1 1, .slice none 0 0, .slice none 0 0] 41)) (.agg #[.int .i64 0, .int .i64 3, .int .i64 4, .int .i64 2, .slice m1 8 n1, .slice m2 8 n2, .slice m3 1 n3, .slice m4 2 n4, .slice m5 0 n5]) OX) := L6.out.below BL.out
  obtain ⟨x0, x1, x2, x3, x4, x5, x6, x7, x8⟩ := X6.out.cells
  go_wp2_with fail
  refine (Play_any _ _ _ OK OX [[oo], [], []] _ (KL.out.below B7.out) One.names L7.out LL.out ((SDH.out.below B0.out).below B7.out)).mono ?_
  rintro e w8 ⟨v, r, FF, rfl, hr, hf, hb⟩
  obtain ⟨rfl, ho⟩ := one_play hf hr
  have B8 : Hid (Below w0.heap.size w0 w8) := B7.out.trans (hb.mono B7.out.size)
  have G8 : Hid (Wl w8 v (OW 3 10 20 (od 1 0 2 6))) := ho.l
  clear hr hf hb x0 x1 x2 x3 x4 x5 x6 x7 x8 X6 L6 B6 BL LL B7 L7 OL
  obtain ⟨y1, y2, y3, y4, y5, rfl, o1, o2, o3, o4, o5⟩ := ho
  obtain ⟨r1, s1, rfl⟩ := o1.len
  obtain ⟨r2, s2, rfl⟩ := o2.len
  obtain ⟨r3, s3, rfl⟩ := o3.len
  obtain ⟨r4, s4, rfl⟩ := o4.len
  obtain ⟨r5, s5, rfl⟩ := o5.len
  obtain ⟨ya, yc, ye, -, -, yq⟩ := o3.ro
  injection ye with e1 e2 e3
  subst e1 e3
  obtain ⟨yg, rfl, ylt, yq⟩ := yq (by simp [OW])
  have c20 := yq 0 20 rfl
  have ey : yg.add 0 = yg := by simp [Addr.add]
  rw [ey] at c20
  have YL : Hid (w8.cell? yg = some (.int .i64 20) ∧ yg.block < w8.heap.size) := ⟨c20, ylt⟩
  clear o1 o2 o3 o4 o5 yq c20 ylt e2 ey G8
  have g1 : (OW 3 10 20 (od 1 0 2 6)).turn = 3 ∧ (OW 3 10 20 (od 1 0 2 6)).next = 3 ∧ (OW 3 10 20 (od 1 0 2 6)).wide = 4 ∧ (OW 3 10 20 (od 1 0 2 6)).high = 2 ∧ (OW 3 10 20 (od 1 0 2 6)).gs.length = 8 ∧ (OW 3 10 20 (od 1 0 2 6)).os.length = 8 ∧ (OW 3 10 20 (od 1 0 2 6)).gold.length = 1 ∧ (OW 3 10 20 (od 1 0 2 6)).us.length = 2 ∧ (OW 3 10 20 (od 1 0 2 6)).qs.length = 0 := ⟨rfl, rfl, rfl, rfl, rfl, rfl, rfl, rfl, rfl⟩
  obtain ⟨g1, g2, g3, g4, g5, g6, g7, g8, g9⟩ := g1
  simp only [g1, g2, g3, g4, g5, g6, g7, g8, g9]
  clear g1 g2 g3 g4 g5 g6 g7 g8 g9
  go_upto_region 8 with fail
  have BF : Hid (Below w8.heap.size w8 (w8.alloc (Obj.cells #[.int .i64 3, .int .i64 3, .int .i64 4, .int .i64 2, .slice r1 8 s1, .slice r2 8 s2, .slice (some yg) 1 s3, .slice r4 2 s4, .slice r5 0 s5] 29))) := (Below.refl _ _).alloc (Nat.le_refl _) _
  obtain ⟨zz, hzz⟩ : ∃ z, w8.heap.size = z := ⟨_, rfl⟩
  have XF : Hid (Wx (w8.alloc (Obj.cells #[.int .i64 3, .int .i64 3, .int .i64 4, .int .i64 2, .slice r1 8 s1, .slice r2 8 s2, .slice (some yg) 1 s3, .slice r4 2 s4, .slice r5 0 s5] 29)) zz (.int .i64 3) (.int .i64 3) (.int .i64 4) (.int .i64 2) (.slice r1 8 s1) (.slice r2 8 s2) (.slice (some yg) 1 s3) (.slice r4 2 s4) (.slice r5 0 s5)) := Wx.new _ _ _ _ _ _ _ _ _ hzz
  have B9 : Hid (Below w0.heap.size w0 (w8.alloc (Obj.cells #[.int .i64 3, .int .i64 3, .int .i64 4, .int .i64 2, .slice r1 8 s1, .slice r2 8 s2, .slice (some yg) 1 s3, .slice r4 2 s4, .slice r5 0 s5] 29))) := B8.out.trans (BF.out.mono B8.out.size)
  have c20 : (w8.alloc (Obj.cells #[.int .i64 3, .int .i64 3, .int .i64 4, .int .i64 2, .slice r1 8 s1, .slice r2 8 s2, .slice (some yg) 1 s3, .slice r4 2 s4, .slice r5 0 s5] 29)).cell? yg = some (.int .i64 20) := by rw [BF.out.cell YL.out.2]; exact YL.out.1
  rw [hzz]
  generalize w8.alloc (Obj.cells #[.int .i64 3, .int .i64 3, .int .i64 4, .int .i64 2, .slice r1 8 s1, .slice r2 8 s2, .slice (some yg) 1 s3, .slice r4 2 s4, .slice r5 0 s5] 29) = w9 at *
  clear BF hzz B8 YL
  obtain ⟨x0, x1, x2, x3, x4, x5, x6, x7, x8⟩ := XF.out.cells
  have BZ : Hid (Below w.heap.size w w9) := B0.out.trans (B9.out.mono B0.out.size)
  have GL : Hid True := trivial
  go_wp2
  go_ret
  exact ⟨rfl, by first | exact BZ.out | (rw [← HZK.out]; exact BZ.out)⟩
end Go.Proofs.YtoabhfipikkkeaaGreatDoor

namespace Go.Proofs.YtoabhfipikkkeaaGreatDoor
set_option linter.unusedVariables false

theorem in64_small {n : Int} (h : -100000000 ≤ n ∧ n ≤ 100000000) : Wd.In64 n := by unfold Wd.In64; omega
theorem off_zero {b n : Int} (h : Wd.off b n = false) : b ≤ n ∧ n ≤ 1000000 := by
  unfold Wd.off at h
  simp at h
  omega
theorem WRight.wok {ks : List KV} {X : WV} (h : WRight ks X) : Wd.Wok X := by
  obtain ⟨Wn, Hn, e1, e2, G⟩ := h.good
  have hn := h.nums
  unfold Wd.numsBad at hn
  simp only [Bool.or_eq_false_iff] at hn
  obtain ⟨n1, n2, n3, n4⟩ := hn
  have t1 := off_zero n1
  have t2 := off_zero n2
  have g4 : X.gold.length ≤ 4 := (nums_ok h.nums).2
  have w12 := G.w2
  have h12 := G.h2
  have cell : Wn * Hn ≤ 144 := by
    have : Wn * Hn ≤ 12 * 12 := Nat.mul_le_mul w12 h12
    omega
  have gl := G.gl
  have ol := G.ol
  have hgs : ∀ n ∈ X.gs, Wd.In64 n := fun n hn => by
    obtain ⟨i, hi⟩ := List.mem_iff_getElem?.1 hn
    have hil := (List.getElem?_eq_some_iff.1 hi).1
    have := G.cell i n _ hi (List.getElem?_eq_getElem (by omega))
    exact in64_small (by omega)
  have hos : ∀ n ∈ X.os, Wd.In64 n := fun n hn => by
    obtain ⟨i, hi⟩ := List.mem_iff_getElem?.1 hn
    have hil := (List.getElem?_eq_some_iff.1 hi).1
    have := G.cell i _ n (List.getElem?_eq_getElem (by omega)) hi
    exact in64_small (by omega)
  have hgo : ∀ n ∈ X.gold, Wd.In64 n := fun n hn => by
    rw [List.any_eq_false] at n4
    have := off_zero (by simpa using n4 n hn : Wd.off 0 n = false)
    exact in64_small (by omega)
  have kb : ∀ k ∈ ks, k.n0 ≤ 1000 ∧ k.n7 ≤ 1000 := fun k hk => by
    have h9 := h.kinds
    unfold Kd.kindsFault at h9
    split at h9
    · omega
    · have h2 := kgo_nums h9 k.k (List.mem_map.2 ⟨k, hk, rfl⟩)
      unfold Kd.numsFault at h2
      split at h2
      · omega
      · rename_i h3
        rw [Bool.not_eq_true, List.any_eq_false] at h3
        have a1 := h3 k.n0 (by simp [KV.k])
        have a2 := h3 k.n7 (by simp [KV.k])
        simp only [decide_eq_true_eq] at a1 a2
        omega
  have k8 : ks.length ≤ 8 := by
    have h9 := h.kinds
    unfold Kd.kindsFault at h9
    split at h9
    · omega
    · rename_i h3
      simp at h3
      omega
  have hus : ∀ u ∈ X.us, ∀ n ∈ Wd.unums u, Wd.In64 n := fun u hu n hn => by
    obtain ⟨i, hi⟩ := List.mem_iff_getElem?.1 hu
    obtain ⟨k, F⟩ := h.fine hi
    have b := kb k (List.mem_of_getElem? F.kk)
    have f1 := F.id1
    have f2 := F.id2
    have f3 := F.p
    have f4 := F.k0
    have f5 := F.life
    have f6 := F.load
    have f7 := F.task
    have f8 := F.at_
    have f9 := F.goal
    unfold Wd.unums at hn
    simp only [List.mem_cons, List.not_mem_nil, or_false] at hn
    rcases hn with rfl | rfl | rfl | rfl | rfl | rfl | rfl | rfl <;> exact in64_small (by omega)
  have hqs : ∀ j ∈ X.qs, ∀ n ∈ Wd.jnums j, Wd.In64 n := fun j hj n hn => by
    have hf := h.job hj
    unfold Wd.jobFault at hf
    split at hf
    · cases hf
    · rename_i u hu
      have hm := List.mem_of_find?_eq_some hu
      have hid : u.id = j.unit := by simpa using List.find?_some hu
      obtain ⟨i, hi⟩ := List.mem_iff_getElem?.1 hm
      obtain ⟨k', F⟩ := h.fine hi
      have f1 := F.id1
      have f2 := F.id2
      have f3 := F.p
      split at hf
      · cases hf
      · split at hf
        · cases hf
        · rename_i hp
          split at hf
          · cases hf
          · rename_i hk
            simp only [Bool.or_eq_true, bne_iff_ne, not_or, Decidable.not_not, Bool.not_eq_true] at hp
            unfold Wd.has at hk
            simp at hk
            unfold Wd.jnums at hn
            simp only [List.mem_cons, List.not_mem_nil, or_false] at hn
            rcases hn with rfl | rfl | rfl | rfl <;> exact in64_small (by omega)
  refine ⟨fun n hn => ?_, by omega, by omega, by omega, Nat.le_trans h.ul (by omega), Nat.le_trans h.ql (by omega)⟩
  have u40 := h.ul
  have q12 := h.ql
  unfold Wd.nums at hn
  simp only [List.mem_append, List.mem_cons, List.not_mem_nil, or_false, List.mem_flatMap] at hn
  rcases hn with (((((rfl | rfl | rfl | rfl) | rfl | hn) | rfl | hn) | rfl | hn) | rfl | ⟨u, hu, hn⟩) | rfl | ⟨j, hj, hn⟩
  · exact in64_small (by omega)
  · exact in64_small (by omega)
  · exact in64_small (by omega)
  · exact in64_small (by omega)
  · exact in64_small (by omega)
  · exact hgs n hn
  · exact in64_small (by omega)
  · exact hos n hn
  · exact in64_small (by omega)
  · exact hgo n hn
  · exact in64_small (by omega)
  · exact hus u hu n hn
  · exact in64_small (by omega)
  · exact hqs j hj n hn
theorem wsmall_of {X : WV} (h : Wd.Wok X) : WSmall X := ⟨Nat.le_trans h.g (by omega), Nat.le_trans h.o (by omega), Nat.le_trans h.p (by omega), Nat.le_trans h.u (by omega), Nat.le_trans h.q (by omega)⟩
end Go.Proofs.YtoabhfipikkkeaaGreatDoor

namespace Go.Proofs.YtoabhfipikkkeaaGreatDoor
open Go.RowKit
set_option linter.unusedVariables false

/-- v is a slice of the bytes l. -/
def By (w : World) (v : Value) (l : List UInt8) : Prop := ∃ (a : Option Addr) (c : Nat), v = .slice a l.length c ∧ l.length ≤ c ∧ c ≤ maxLen ∧ (l ≠ [] → ∃ x, a = some x ∧ x.block < w.heap.size ∧ ∀ (i : Nat) d, l[i]? = some d → w.cell? (x.add i) = some (.int .u8 (d.toNat : Int)))
theorem By.below {w w' : World} {v : Value} {l : List UInt8} (h : By w v l) (hb : Below w.heap.size w w') : By w' v l := by
  obtain ⟨a, c, h1, h2, h3, h4⟩ := h
  refine ⟨a, c, h1, h2, h3, fun hn => ?_⟩
  obtain ⟨x, e, hx, hk⟩ := h4 hn
  refine ⟨x, e, Nat.lt_of_lt_of_le hx hb.size, fun i d hi => ?_⟩
  rw [hb.cell (p := x.add i) (by rw [add_block]; exact hx)]
  exact hk i d hi
end Go.Proofs.YtoabhfipikkkeaaGreatDoor

namespace Go.Proofs.YtoabhfipikkkeaaGreatDoor
open Go.RowKit
set_option linter.unusedVariables false

set_option maxHeartbeats 1000000 in
theorem fold_any (n : Int) (w : World) (h : Wd.In64 n) : Calls Tryz.prog 96 #[.int .i64 n] w fun e w' => e = .returned (.int .u64 (Wd.zz n : Nat)) ∧ w' = w := by
  unfold Wd.In64 at h
  by_cases h0 : n < 0
  · obtain ⟨m, hm⟩ : ∃ m : Nat, n = -((m : Int) + 1) := ⟨(-(n + 1)).toNat, by omega⟩
    subst hm
    have E : Hid (Wd.zz (-((m : Int) + 1)) = m * 2 + 1) := by unfold Hid Wd.zz; rw [if_pos h0]; omega
    have e1 : -((m : Int) + 1) + 1 = -(m : Int) := by omega
    have e2 : - -(m : Int) = m := by omega
    have w1 : IntKind.i64.wrap (-(m : Int)) = -(m : Int) := by rw [IntKind.wrap_i64]; omega
    have w2 : IntKind.i64.wrap (m : Int) = (m : Int) := by rw [IntKind.wrap_i64]; omega
    have hm : (m : Int) < 9223372036854775808 := by omega
    clear h
    go_enter Tryz.func96, Tryz.ntmps96
    go_wp2
    go_ret
    refine ⟨?_, rfl⟩
    rw [E.out]
    show Ending.returned (.int .u64 _) = _
    congr 2
    try simp only [w2]
    omega
  · obtain ⟨m, rfl⟩ : ∃ m : Nat, n = m := ⟨n.toNat, by omega⟩
    have E : Hid (Wd.zz (m : Int) = m * 2) := by unfold Hid Wd.zz; rw [if_neg h0]; omega
    have hm : (m : Int) < 9223372036854775808 := by omega
    clear h
    go_enter Tryz.func96, Tryz.ntmps96
    go_wp2
    go_ret
    refine ⟨?_, rfl⟩
    rw [E.out]
    show Ending.returned (.int .u64 _) = _
    congr 2
    try simp only [w2]
    omega
end Go.Proofs.YtoabhfipikkkeaaGreatDoor

namespace Go.Proofs.YtoabhfipikkkeaaGreatDoor
open Go.RowKit
set_option linter.unusedVariables false

/-- the bytes of a list, as cells. -/
def byteCells (l : List UInt8) : List Value := l.map fun b => .int .u8 (b.toNat : Nat)
theorem info_byte : (Tryz.prog.info? 5).map (fun i => (i.zero, i.size, i.bytes)) = some (some (.int .u8 0), 1, 1) := by kernel_rfl
/-- v is a slice of the bytes l, in a block of its own from base on. -/
def Ob (w : World) (base : Nat) (v : Value) (l : List UInt8) : Prop := w.ownsRow base 5 1 v l.length (byteCells l)
theorem Ob.nil (w : World) (base : Nat) : Ob w base (.slice none 0 0) [] := World.ownsRow_nil _ _ _ _
theorem Ob.alloc {w : World} {base : Nat} {v : Value} {l : List UInt8} (h : Ob w base v l) (o : Obj) : Ob (w.alloc o) base v l := World.ownsRow.alloc h o
theorem Ob.drew {w : World} {base : Nat} {v : Value} {l : List UInt8} (h : Ob w base v l) : Ob w.drew base v l := h
theorem Ob.block {w : World} {base : Nat} {v : Value} {l : List UInt8} (h : Ob w base v l) : ∀ k, v.ownBlock = some k → base ≤ k ∧ k < w.heap.size := World.ownsRow.lt h

theorem byteCells_snoc (l : List UInt8) (b : UInt8) : byteCells (l ++ [b]) = byteCells l ++ [.int .u8 (b.toNat : Nat)] := by simp [byteCells]

theorem Ob.len {w : World} {base : Nat} {v : Value} {l : List UInt8} (h : Ob w base v l) : ∃ a c, v = .slice a l.length c := by
  rcases h.2 with ⟨hv, h0⟩ | ⟨g, cap, cur, hv, _⟩
  · exact ⟨none, 0, by rw [hv, h0]⟩
  · exact ⟨_, _, hv⟩
theorem Ob.text {w : World} {base : Nat} {v : Value} {l : List UInt8} (h : Ob w base v l) (hl : 0 < l.length) :
    ∃ g cap, v = .slice (some ⟨g, 0, none⟩) l.length cap ∧ ∀ j (hj : j < l.length), w.cell? ((⟨g, 0, none⟩ : Addr).add j) = some (.int .u8 (l[j].toNat : Int)) := by
  obtain ⟨g, cap, hv, -, -⟩ := World.ownsRow.form h hl
  refine ⟨g, cap, hv, fun j hj => ?_⟩
  subst hv
  rw [Addr.add_lit, Nat.zero_add, World.ownsRow.cellAt h j (by omega)]
  simp [byteCells, List.getElem?_eq_getElem hj]
theorem step_app_byte {ops : Array Oper} {o : Oper} {a : Act} {K : Act → World → Prop} {Q : Exit → Act → World → Prop} {E : Prop} (w : World) (hgd : o.guard = none) (s x : Operand)
    (ho : o.op = .call { callee := .builtin .append, args := #[s, x], argTypes := #[36, 36] }) (base : Nat) (v : Value) (l : List UInt8) (hs : a.eval s = v) (hown : Ob w base v l)
    (ad : Addr) (b : UInt8) (hx : a.eval x = .slice (some ad) 1 1) (hd : w.cell? ad = some (.int .u8 (b.toNat : Nat))) (hl : l.length ≤ 2000000000) (hbase : base ≤ w.heap.size)
    (h : ∀ g cap w', Ob w' base (.slice (some ⟨g, 0, none⟩) (l.length + 1) cap) (l ++ [b]) → w.grownBy w' v.ownBlock → g < w'.heap.size → K (a.put o.dst (.slice (some ⟨g, 0, none⟩) (l.length + 1) cap)) w') :
    if Region.wanted o (yielded ops a.tmps) = true then Oper.wp Tryz.prog o a w K Q else E := by
  obtain ⟨i0, hi, hz0, hz1, hz2⟩ := info_parts info_byte
  refine step_append_lies w hgd s x 36 ho base 5 i0 (.int .u8 0) 1 1 Tryz.underlying36 hi hz0 hz1 hz2 rfl (by decide) v l.length _ hs hown ad 1 1 [.int .u8 (b.toNat : Nat)] hx rfl ?_ ?_ (by decide) (by unfold maxLen; omega) (by omega) hbase _ rfl ?_
  · intro j u hj
    match j, hj with
    | 0, hj => simp at hj; subst hj; exact hd
  · intro u hu
    simp at hu
    subst hu
    rfl
  · intro g cap w' h1 h2 h3 h4
    refine h g cap w' ?_ h2 h4
    unfold Ob
    rw [List.length_append, byteCells_snoc]
    exact h1
theorem app_byte {ops : Array Oper} {rest : List Oper} {o : Oper} {a : Act} {Q : Exit → Act → World → Prop} (w : World) (hgd : o.guard = none) (s x : Operand)
    (ho : o.op = .call { callee := .builtin .append, args := #[s, x], argTypes := #[36, 36] }) (base : Nat) (v : Value) (l : List UInt8) (hs : a.eval s = v) (hown : Ob w base v l)
    (ad : Addr) (b : UInt8) (hx : a.eval x = .slice (some ad) 1 1) (hd : w.cell? ad = some (.int .u8 (b.toNat : Nat))) (hl : l.length ≤ 2000000000) (hbase : base ≤ w.heap.size)
    (h : ∀ g cap w', Ob w' base (.slice (some ⟨g, 0, none⟩) (l.length + 1) cap) (l ++ [b]) → w.grownBy w' v.ownBlock → g < w'.heap.size → wpList Tryz.prog ops Q rest (a.put o.dst (.slice (some ⟨g, 0, none⟩) (l.length + 1) cap)) w') :
    wpList Tryz.prog ops Q (o :: rest) a w := by
  obtain ⟨i0, hi, hz0, hz1, hz2⟩ := info_parts info_byte
  refine wpList_append_lies w hgd s x 36 ho base 5 i0 (.int .u8 0) 1 1 Tryz.underlying36 hi hz0 hz1 hz2 rfl (by decide) v l.length _ hs hown ad 1 1 [.int .u8 (b.toNat : Nat)] hx rfl ?_ ?_ (by decide) (by unfold maxLen; omega) (by omega) hbase _ rfl ?_
  · intro j u hj
    match j, hj with
    | 0, hj => simp at hj; subst hj; exact hd
  · intro u hu
    simp at hu
    subst hu
    rfl
  · intro g cap w' h1 h2 h3 h4
    refine h g cap w' ?_ h2 h4
    unfold Ob
    rw [List.length_append, byteCells_snoc]
    exact h1

end Go.Proofs.YtoabhfipikkkeaaGreatDoor

namespace Go.Proofs.YtoabhfipikkkeaaGreatDoor
open Go.RowKit
set_option linter.unusedVariables false

theorem vl_len {x : Nat} (h : x < 18446744073709551616) : (Wd.vl x).length ≤ 10 := by
  have h1 := Wd.rd_vl x x 0 0 [] (Nat.le_refl _) (by omega) (by simpa using h) (.inl rfl)
  have h2 := (Wd.rd_le _ 0 0 _ _ (by omega) (by decide) h1).2.2.1
  omega
theorem num_len {n : Int} (h : Wd.In64 n) : (Wd.num n).length ≤ 10 := vl_len (Wd.zz_lt h)
theorem wr_len : ∀ {xs : List Int}, (∀ n ∈ xs, Wd.In64 n) → (Wd.wr xs).length ≤ 10 * xs.length
  | [], _ => by simp [Wd.wr]
  | x :: xs, h => by
    have h1 := num_len (h x (by simp))
    have h2 := wr_len (xs := xs) (fun n hn => h n (by simp [hn]))
    have : Wd.wr (x :: xs) = Wd.num x ++ Wd.wr xs := by simp [Wd.wr]
    rw [this, List.length_append, List.length_cons]
    omega
theorem wr_next {xs : List Int} {k : Nat} {n : Int} (h : xs[k]? = some n) : Wd.wr (xs.take (k + 1)) = Wd.wr (xs.take k) ++ Wd.num n := by
  obtain ⟨hi, e⟩ := List.getElem?_eq_some_iff.1 h
  rw [List.take_succ_eq_append_getElem hi, Wd.wr_append, e, Wd.wr_one]
set_option maxRecDepth 100000 in
set_option maxHeartbeats 4000000 in
theorem write_any (v : Value) (xs : List Int) (w : World) (h : Ro w v xs) (hi : ∀ n ∈ xs, Wd.In64 n) (hl : xs.length ≤ 100000000) :
    Calls Tryz.prog 44 #[v] w fun e w' => ∃ u, e = .returned u ∧ Ob w' w.heap.size u (Wd.wr xs) ∧ Below w.heap.size w w' := by
  have R : Hid (Ro w v xs) := h
  have HI : Hid (∀ n ∈ xs, Wd.In64 n) := hi
  obtain ⟨ad, cap, rfl, h1, h2, h3⟩ := h
  clear h3 hi
  go_enter Tryz.func44, Tryz.ntmps44
  go_wp2
  go_loopw [3, 9] (fun bv iv W => ∃ (k : Nat), iv = .int .i64 (k : Nat) ∧ k ≤ xs.length ∧ Ob W w.heap.size bv (Wd.wr (xs.take k)) ∧ Below w.heap.size w W) (fun _ iv _ => xs.length - (intOf iv).toNat)
  case atStart => exact ⟨0, rfl, Nat.zero_le _, Ob.nil _ _, Below.refl _ _⟩
  case round =>
    obtain ⟨k, rfl, hk, ho, hb⟩ := hrel
    have O : Hid (Ob wr w.heap.size u3 (Wd.wr (xs.take k))) := ho
    have B : Hid (Below w.heap.size w wr) := hb
    clear ho hb
    by_cases he : k = xs.length
    · subst he
      go_wp2
      go_ret
      exact ⟨_, rfl, by have := O.out; rwa [List.take_length] at this, B.out⟩
    · have hlt : k < xs.length := by omega
      have hli : (k : Int) < (xs.length : Int) := by omega
      obtain ⟨n, hn⟩ : ∃ n, xs[k]? = some n := ⟨_, List.getElem?_eq_getElem hlt⟩
      have HN : Hid (xs[k]? = some n) := hn
      have IN : Hid (Wd.In64 n) := HI.out n (List.mem_of_getElem? hn)
      obtain ⟨ad', cap', e, -, -, hc⟩ := R.out.below B.out
      injection e with e1 e2 e3
      subst e1 e3
      obtain ⟨y, rfl, hy, hcell⟩ := hc (by intro e; subst e; simp at hlt)
      have c1 : wr.cell? (y.add k) = some (.int .i64 n) := hcell k n hn
      clear hc hcell hy hn
      go_wp2_with fail
      refine (fold_any n _ IN.out).mono ?_
      rintro e w1 ⟨rfl, rfl⟩
      have PL : Hid ((Wd.wr (xs.take k)).length ≤ 1000000000) := by
        unfold Hid
        have := wr_len (xs := xs.take k) (fun n hn => HI.out n (List.mem_of_mem_take hn))
        rw [List.length_take] at this
        omega
      obtain ⟨P, hP⟩ : ∃ P, Wd.wr (xs.take k) = P := ⟨_, rfl⟩
      have HP : Hid (Wd.wr (xs.take (k + 1)) = P ++ Wd.num n) := by unfold Hid; rw [wr_next HN.out, hP]
      rw [hP] at O PL
      obtain ⟨x, hx⟩ : ∃ x, Wd.zz n = x := ⟨_, rfl⟩
      have HX : Hid (Wd.num n = Wd.vl x ∧ x < 18446744073709551616) := ⟨by unfold Wd.num; rw [hx], by rw [← hx]; exact Wd.zz_lt IN.out⟩
      rw [hx]
      clear hx hP c1
      go_wp2
      go_loopw [3, 6] (fun bv xv W => ∃ (y : Nat) (D : List UInt8), xv = .int .u64 (y : Nat) ∧ y < 18446744073709551616 ∧ D ++ Wd.vl y = Wd.vl x ∧ Ob W w.heap.size bv (P ++ D) ∧ Below w.heap.size w W) (fun _ xv _ => (intOf xv).toNat)
      case atStart => exact ⟨x, [], rfl, HX.out.2, rfl, by rw [List.append_nil]; exact O.out, B.out⟩
      case round =>
        obtain ⟨y, D, rfl, hy, hv, ho, hb⟩ := hrel
        have O2 : Hid (Ob wr w.heap.size u3 (P ++ D)) := ho
        have B2 : Hid (Below w.heap.size w wr) := hb
        have HV : Hid (D ++ Wd.vl y = Wd.vl x) := hv
        have DL : Hid ((P ++ D).length ≤ 1000000010) := by
          unfold Hid
          have h1 := vl_len HX.out.2
          have h2 := congrArg List.length hv
          have h3 := PL.out
          rw [List.length_append] at h2 ⊢
          omega
        clear ho hb hv
        obtain ⟨L, hL⟩ : ∃ L, P ++ D = L := ⟨_, rfl⟩
        have HL : Hid (P ++ D = L) := hL
        rw [hL] at O2 DL
        clear hL
        by_cases h128 : 128 ≤ y
        · obtain ⟨m, hm⟩ : ∃ m, y % 128 = m := ⟨_, rfl⟩
          obtain ⟨d, hd⟩ : ∃ d, y / 128 = d := ⟨_, rfl⟩
          have hmi : (y : Int) % 128 = m := by omega
          have hdi : (y : Int) / 128 = d := by omega
          have m1 : m < 128 := by omega
          have hgi : (128 : Int) ≤ (y : Int) := by omega
          obtain ⟨c, hc⟩ : ∃ c, UInt8.ofNat (m + 128) = c := ⟨_, rfl⟩
          have em : c.toNat = m + 128 := by rw [← hc, UInt8.toNat_ofNat']; omega
          have HE : Hid (Wd.vl y = c :: Wd.vl d) := by unfold Hid; rw [Wd.vl_great h128, hm, hd, hc]
          have hdl : Hid (d < y) := by unfold Hid; omega
          clear hm hd h128 hc
          go_wp2_with (at_builtin; refine app_byte _ rfl _ _ rfl w.heap.size _ L rfl (O2.out.alloc _) ⟨wr.heap.size, 0, none⟩ c rfl (by rw [em]; simp) (by have := DL.out; omega) (by have := B2.out.size; simp; omega) ?_)
          intro g cap2 w5 o5 g5 l5
          have O5 : Hid (Ob w5 w.heap.size (.slice (some ⟨g, 0, none⟩) (L.length + 1) cap2) (P ++ (D ++ [c]))) := by unfold Hid; rw [← List.append_assoc, HL.out]; exact o5
          have B5 : Hid (Below w.heap.size w w5) := (B2.out.alloc B2.out.size _).grown g5 (by have := B2.out.size; simp; omega) (fun b hb => (O2.out.block b hb).1)
          clear o5 g5 l5
          go_wp2
          go_roundw
          case rel =>
            refine ⟨d, D ++ [c], rfl, by have := hdl.out; omega, ?_, O5.out, B5.out⟩
            rw [List.append_assoc, ← HV.out, HE.out]
            rfl
          case measure => have := hdl.out; simp [intOf]; omega
        · have hgi : ¬ (128 : Int) ≤ (y : Int) := by omega
          obtain ⟨c, hc⟩ : ∃ c, UInt8.ofNat y = c := ⟨_, rfl⟩
          have em : c.toNat = y := by rw [← hc, UInt8.toNat_ofNat']; omega
          have wy : IntKind.u8.wrap (y : Int) = (y : Int) := by rw [IntKind.wrap_u8]; omega
          have HE : Hid (D ++ [c] = Wd.num n) := by unfold Hid; rw [HX.out.1, ← HV.out, Wd.vl_small (by omega), hc]
          clear h128 hc
          go_wp2_with (at_builtin; refine app_byte _ rfl _ _ rfl w.heap.size _ L rfl (O2.out.alloc _) ⟨wr.heap.size, 0, none⟩ c rfl (by rw [em]; simp) (by have := DL.out; omega) (by have := B2.out.size; simp; omega) ?_)
          intro g cap2 w5 o5 g5 l5
          have O5 : Hid (Ob w5 w.heap.size (.slice (some ⟨g, 0, none⟩) (L.length + 1) cap2) (Wd.wr (xs.take (k + 1)))) := by unfold Hid; rw [HP.out, ← HE.out, ← List.append_assoc, HL.out]; exact o5
          have B5 : Hid (Below w.heap.size w w5) := (B2.out.alloc B2.out.size _).grown g5 (by have := B2.out.size; simp; omega) (fun b hb => (O2.out.block b hb).1)
          clear o5 g5 l5
          go_wp2
          go_roundw
          case rel => exact ⟨k + 1, rfl, by omega, O5.out, B5.out⟩
          case measure => simp [intOf]; omega
end Go.Proofs.YtoabhfipikkkeaaGreatDoor

namespace Go.Proofs.YtoabhfipikkkeaaGreatDoor
open Go.RowKit
set_option linter.unusedVariables false

set_option maxHeartbeats 400000 in
theorem along_any (n f t k : Int) (b : Nat) (w : World) (n1 : 0 < n) (n2 : n ≤ 11) (f1 : 0 ≤ f) (f2 : f ≤ 11) (t1 : 0 ≤ t) (t2 : t ≤ 11) (k1 : 0 ≤ k) (k2 : k ≤ n) (hb : w.cell? ⟨b, 0, none⟩ = some (.int .i64 n)) :
    Calls Tryz.prog 221 #[.int .i64 f, .int .i64 t, .int .i64 k, .pointer (some ⟨b, 0, none⟩)] w fun e w' => e = .returned (.int .i64 (Fd.along n f t k)) ∧ w' = w := by
  have b1 : 0 ≤ 2 * f * n := Int.mul_nonneg (by omega) (by omega)
  have b2 : 2 * f * n ≤ 22 * 11 := Int.mul_le_mul (by omega) n2 (by omega) (by omega)
  have b3 : 0 ≤ 2 * f * n + 2 * k * (t - f) + n := by
    rw [Fd.along_num]
    have h1 : 0 ≤ f * (n - k) := Int.mul_nonneg f1 (by omega)
    have h2 : 0 ≤ t * k := Int.mul_nonneg t1 k1
    omega
  have b4 : 2 * f * n + 2 * k * (t - f) + n ≤ 1000 := by
    rw [Fd.along_num]
    have h1 : f * (n - k) ≤ 11 * 11 := Int.mul_le_mul f2 (by omega) (by omega) (by omega)
    have h2 : t * k ≤ 11 * 11 := Int.mul_le_mul t2 (by omega) (by omega) (by omega)
    omega
  go_enter Tryz.func221, Tryz.ntmps221
  go_wp2
  go_ret
  exact ⟨rfl, rfl⟩

theorem max4 (a b c d n : Int) (h : n = max (max a b) (max c d)) (w : World) : (Builtin.max_ #[3, 3, 3, 3] 3 #[.int .i64 a, .int .i64 b, .int .i64 c, .int .i64 d]).run Tryz.prog w = .ok (.int .i64 n) w := by
  simp [Builtin.max_, Builtin.max2]
  congr 1
  omega

set_option maxHeartbeats 1000000 in
theorem line_any (W H a b : Nat) (w : World) (h1 : 0 < W) (h2 : W ≤ 12) (h3 : H ≤ 12) (ha : a < W * H) (hb : b < W * H) :
    Calls Tryz.prog 204 #[.int .i64 (W : Nat), .int .i64 (a : Nat), .int .i64 (b : Nat)] w fun e w' => ∃ v, e = .returned v ∧ Ow w' w.heap.size v (Fd.line W a b) ∧ Below w.heap.size w w' := by
  have hm : W * H ≤ 144 := Nat.mul_le_mul h2 h3
  have hs := Fd.span_le h1 h2 h3 ha hb
  have a1 : a / W < H := Nat.div_lt_of_lt_mul ha
  have a2 : b / W < H := Nat.div_lt_of_lt_mul hb
  have a3 := Nat.mod_lt a h1
  have a4 := Nat.mod_lt b h1
  have hn : Hid (max (max (a % W - b % W) (b % W - a % W)) (max (a / W - b / W) (b / W - a / W)) = Fd.span W a b) := rfl
  have HL : Hid (Fd.line W a b = if Fd.span W a b = 0 then [(a : Int)] else (List.range (Fd.span W a b + 1)).map fun k : Nat => Fd.along (Fd.span W a b) (a / W : Nat) (b / W : Nat) k * W + Fd.along (Fd.span W a b) (a % W : Nat) (b % W : Nat) k) := rfl
  obtain ⟨c, hc⟩ : ∃ c, a % W = c := ⟨_, rfl⟩
  obtain ⟨r, hr⟩ : ∃ r, a / W = r := ⟨_, rfl⟩
  obtain ⟨d, hd⟩ : ∃ c, b % W = c := ⟨_, rfl⟩
  obtain ⟨s, hs'⟩ : ∃ r, b / W = r := ⟨_, rfl⟩
  rw [hc, hr, hd, hs'] at hn HL
  rw [hr] at a1
  rw [hs'] at a2
  rw [hc] at a3
  rw [hd] at a4
  generalize Fd.span W a b = n at *
  have hmax := max4 ((c : Int) - d) (d - c) (r - s) (s - r) n (by have := hn.out; omega)
  have Pa : Hid (a % W = c ∧ a / W = r) := ⟨hc, hr⟩
  have Pb : Hid (b % W = d ∧ b / W = s) := ⟨hd, hs'⟩
  have A1 : a ≤ 144 := by omega
  have B1 : b ≤ 144 := by omega
  have c1 : c ≤ 11 := by omega
  have d1 : d ≤ 11 := by omega
  have r1 : r ≤ 11 := by omega
  have s1 : s ≤ 11 := by omega
  have N1 : Hid (n = max (max (c - d) (d - c)) (max (r - s) (s - r))) := hn.out.symm
  clear hc hr hd hs' hn ha hb a1 a2 a3 a4
  go_enter Tryz.func204, Tryz.ntmps204
  go_wp2_with fail
  refine (fplace_any W a c r _ h1 h2 A1 Pa.out.1 Pa.out.2).mono ?_
  rintro e w1 ⟨rfl, q1, hq1⟩
  have B1' : Hid (Below w.heap.size w w1) := by rw [hq1]; exact _root_.Go.below_drewN (Below.refl _ _) _
  clear hq1
  go_wp2_with fail
  refine (fplace_any W b d s _ h1 h2 B1 Pb.out.1 Pb.out.2).mono ?_
  rintro e w2 ⟨rfl, q2, hq2⟩
  have B2 : Hid (Below w.heap.size w w2) := by rw [hq2]; exact _root_.Go.below_drewN B1'.out _
  clear hq2 B1' Pa Pb
  by_cases h0 : n = 0
  · subst h0
    go_wp2
    go_ret
    refine ⟨_, rfl, ?_, ?_⟩
    · have e := HL.out
      simp only [if_true] at e
      rw [e]
      have hz := B2.out.size
      exact Ow.one (w := w2.alloc _) _ (by simp; omega) (by simp)
    · have hz := B2.out.size
      exact (B2.out.alloc hz _).alloc (by simp; omega) _
  · have n0 : 0 < n := by omega
    have HL' : Hid (Fd.line W a b = (List.range (n + 1)).map fun k : Nat => Fd.along n r s k * W + Fd.along n c d k) := by
      have := HL.out
      rw [if_neg h0] at this
      exact this
    clear HL
    have hb0 : ((n : Int) == 0) = false := by rw [beq_eq_false_iff_ne]; omega
    go_wp2_with fail
    clear hmax h0 hb0
    have Z2 : Hid (w.heap.size ≤ w2.heap.size) := B2.out.size
    have B3 : Hid (Below w.heap.size w (w2.alloc (Obj.cells #[Value.int IntKind.i64 n] 3))) := B2.out.alloc B2.out.size _
    have c3 : Hid ((w2.alloc (Obj.cells #[Value.int IntKind.i64 n] 3)).cell? ⟨w2.heap.size, 0, none⟩ = some (.int .i64 n)) := by unfold Hid; simp
    have z3 : Hid ((w2.alloc (Obj.cells #[Value.int IntKind.i64 n] 3)).heap.size = w2.heap.size + 1) := by unfold Hid; simp
    generalize w2.alloc (Obj.cells #[Value.int IntKind.i64 n] 3) = w3 at *
    go_loopw [13, 47] (fun v i W' => ∃ k : Nat, k ≤ n + 1 ∧ i = .int .i64 (k : Nat) ∧ Ow W' (w2.heap.size + 1) v ((List.range k).map fun k : Nat => Fd.along n r s k * W + Fd.along n c d k) ∧ W'.cell? ⟨w2.heap.size, 0, none⟩ = some (.int .i64 n) ∧ Below w.heap.size w W' ∧ w2.heap.size + 1 ≤ W'.heap.size) (fun _ i _ => n + 1 - (intOf i).toNat)
    case atStart => exact ⟨0, Nat.zero_le _, rfl, Ow.nil _ _, c3, B3, by rw [z3.out]; exact Nat.le_refl _⟩
    case round =>
      obtain ⟨k, hk, rfl, ho, hc, hbl, hz⟩ := hrel
      clear B3 c3 z3
      have O : Hid (Ow wr (w2.heap.size + 1) u13 ((List.range k).map fun k : Nat => Fd.along n r s k * W + Fd.along n c d k)) := ho
      have B : Hid (Below w.heap.size w wr) := hbl
      have Z : Hid (w2.heap.size + 1 ≤ wr.heap.size) := hz
      have C : Hid (wr.cell? ⟨w2.heap.size, 0, none⟩ = some (.int .i64 n)) := hc
      clear ho hbl hz hc
      by_cases h0 : k = n + 1
      · subst h0
        have e1 : ¬ ((n : Int) + 1 < n + 1) := by omega
        go_wp2
        go_ret
        exact ⟨_, rfl, by rw [HL'.out]; exact O.out.mono (by have := Z2.out; omega), B⟩
      · have hkn : k ≤ n := by omega
        have p1 := Fd.along_ge 0 n r s k (by omega) (by omega) (by omega) (by omega) (by omega)
        have p2 := Fd.along_le 11 n r s k (by omega) (by omega) (by omega) (by omega) (by omega)
        have q1 := Fd.along_ge 0 n c d k (by omega) (by omega) (by omega) (by omega) (by omega)
        have q2 := Fd.along_le 11 n c d k (by omega) (by omega) (by omega) (by omega) (by omega)
        have K1 := along_any n r s k w2.heap.size wr (by omega) (by omega) (by omega) (by omega) (by omega) (by omega) (by omega) (by omega) C.out
        have K2 := along_any n c d k w2.heap.size wr (by omega) (by omega) (by omega) (by omega) (by omega) (by omega) (by omega) (by omega) C.out
        have S : Hid (((List.range (k + 1)).map fun k : Nat => Fd.along n r s k * W + Fd.along n c d k) = ((List.range k).map fun k : Nat => Fd.along n r s k * W + Fd.along n c d k) ++ [Fd.along n r s k * W + Fd.along n c d k]) := by
          unfold Hid
          rw [List.range_succ, List.map_append]
          rfl
        generalize Fd.along n r s k = p at *
        generalize Fd.along n c d k = q at *
        have L : Hid (((List.range k).map fun k : Nat => Fd.along n r s k * W + Fd.along n c d k).length = k) := by unfold Hid; simp
        generalize ((List.range k).map fun k : Nat => Fd.along n r s k * W + Fd.along n c d k) = xs at *
        have K1' : Hid (Calls Tryz.prog 221 #[.int .i64 r, .int .i64 s, .int .i64 k, .pointer (some ⟨w2.heap.size, 0, none⟩)] wr fun e w' => e = .returned (.int .i64 p) ∧ w' = wr) := K1
        have K2' : Hid (Calls Tryz.prog 221 #[.int .i64 c, .int .i64 d, .int .i64 k, .pointer (some ⟨w2.heap.size, 0, none⟩)] wr fun e w' => e = .returned (.int .i64 q) ∧ w' = wr) := K2
        clear K1 K2
        have m1 : 0 ≤ p * (W : Int) := Int.mul_nonneg p1 (by omega)
        have m2 : p * (W : Int) ≤ 11 * 12 := Int.mul_le_mul p2 (by omega) (by omega) (by omega)
        go_wp2_with fail
        refine Calls.mono K1'.out ?_
        rintro e w4 ⟨rfl, rfl⟩
        go_wp2_with fail
        refine Calls.mono K2'.out ?_
        rintro e w4 ⟨rfl, rfl⟩
        clear K1' K2'
        go_wp2_with (at_builtin; refine app_int _ rfl _ _ rfl (w2.heap.size + 1) _ xs rfl (O.out.alloc _) ⟨w4.heap.size, 0, none⟩ (p * W + q) rfl (by simp) (by rw [L.out]; omega) (by have := Z.out; simp; omega) ?_)
        intro g cap w5 o5 g5 a5 l5
        have O5 : Hid (Ow w5 (w2.heap.size + 1) (.slice (some ⟨g, 0, none⟩) (xs.length + 1) cap) (xs ++ [p * W + q])) := o5
        have hob : ∀ k, u13.ownBlock = some k → w2.heap.size + 1 ≤ k := fun k hk => (O.out.block k hk).1
        have hne : some w2.heap.size ≠ u13.ownBlock := fun e => by have := hob _ e.symm; omega
        have C5 : Hid (w5.cell? ⟨w2.heap.size, 0, none⟩ = some (.int .i64 n)) := by
          unfold Hid
          have z := Z.out
          rw [g5.cell_far ⟨w2.heap.size, 0, none⟩ (by simp; omega) hne, World.cell?_alloc_past _ _ _ (by show w2.heap.size < w4.heap.size; omega)]
          exact C.out
        have B5 : Hid (Below w.heap.size w w5) := (B.out.alloc B.out.size _).grown g5 (by have := B.out.size; simp; omega) (fun k hk => by have := hob k hk; have := Z2.out; omega)
        have Z5 : Hid (w2.heap.size + 1 ≤ w5.heap.size) := by have := Z.out; have := g5.size; simp at this; unfold Hid; omega
        clear o5 g5 a5 l5 hob hne
        go_wp2
        go_round
        case rel => exact ⟨k + 1, by omega, by go_num, by rw [S.out]; exact O5, C5, B5, Z5⟩
        case measure => simp [intOf]; omega
end Go.Proofs.YtoabhfipikkkeaaGreatDoor

namespace Go.Proofs.YtoabhfipikkkeaaGreatDoor
open Go.RowKit
set_option linter.unusedVariables false

set_option maxHeartbeats 1000000 in
theorem idx3_any (u q q2 q3 : Value) (xs : List Int) (p : Int → Bool) (w : World) (hu : Ro w u xs)
    (hp : ∀ x ∈ xs, Calls Tryz.prog 203 #[.int .i64 x, q, q2, q3] w fun e w' => e = .returned (.bool (p x)) ∧ w' = w) :
    Calls Tryz.prog 121 #[u, .func (Fn.func 203) #[] #[q, q2, q3]] w fun e w' => ∃ r : Int, e = .returned (.int .i64 r) ∧ decide (0 ≤ r) = xs.any p ∧ w' = w := by
  obtain ⟨a, c, rfl, c1, c2, ca⟩ := hu
  have Ca : Hid (Cells w a xs) := ca
  have Hp : Hid (∀ x ∈ xs, Calls Tryz.prog 203 #[.int .i64 x, q, q2, q3] w fun e w' => e = .returned (.bool (p x)) ∧ w' = w) := hp
  clear ca hp
  go_enter Tryz.func121, Tryz.ntmps121
  go_wp2
  go_loop [8] (fun i => ∃ k : Nat, k ≤ xs.length ∧ i = .int .i64 (k : Nat) ∧ (xs.take k).any p = false) (fun i => xs.length - (intOf i).toNat)
  case atStart => exact ⟨0, Nat.zero_le _, rfl, by simp⟩
  case round =>
    obtain ⟨k, hk, rfl, ht⟩ := hrel
    have Ht : Hid ((xs.take k).any p = false) := ht
    clear ht
    by_cases h0 : k = xs.length
    · subst h0
      go_wp2
      go_ret
      refine ⟨_, rfl, ?_, rfl⟩
      have := Ht.out
      rw [List.take_of_length_le (Nat.le_refl _)] at this
      rw [this]
      decide
    · have hkx : k < xs.length := by omega
      obtain ⟨x, rfl, -, hx⟩ := Ca.out (by intro h; rw [h] at hkx; simp at hkx)
      have cx := hx k xs[k] (List.getElem?_eq_getElem hkx)
      have hc := Hp.out xs[k] (List.getElem_mem hkx)
      have Hs : Hid _ := any_snoc (p := p) hkx
      have Hm : Hid (p xs[k] = true → xs.any p = true) := fun h => List.any_eq_true.2 ⟨_, List.getElem_mem hkx, h⟩
      generalize xs[k] = y at *
      clear hx
      cases hy : p y with
      | true =>
        rw [hy] at hc
        have Hc : Hid (Calls Tryz.prog 203 #[.int .i64 y, q, q2, q3] w fun e w' => e = .returned (.bool true) ∧ w' = w) := hc
        have Hy : Hid (p y = true) := hy
        clear hc hy
        go_wp2_with fail
        refine Calls.mono Hc.out ?_
        rintro e w1 ⟨rfl, rfl⟩
        go_wp2
        go_ret
        exact ⟨_, rfl, by rw [Hm.out Hy.out, decide_eq_true (by omega)], rfl⟩
      | false =>
        rw [hy] at hc
        have Hc : Hid (Calls Tryz.prog 203 #[.int .i64 y, q, q2, q3] w fun e w' => e = .returned (.bool false) ∧ w' = w) := hc
        have Hy : Hid (p y = false) := hy
        clear hc hy
        go_wp2_with fail
        refine Calls.mono Hc.out ?_
        rintro e w1 ⟨rfl, rfl⟩
        go_wp2
        go_round
        case rel => exact ⟨k + 1, by omega, by go_num, by have := Hs.out; rw [Ht.out, Hy.out] at this; exact this⟩
        case measure => simp [intOf]; omega

set_option maxHeartbeats 1000000 in
theorem has3_any (u q q2 q3 : Value) (xs : List Int) (p : Int → Bool) (w : World) (hu : Ro w u xs)
    (hp : ∀ x ∈ xs, Calls Tryz.prog 203 #[.int .i64 x, q, q2, q3] w fun e w' => e = .returned (.bool (p x)) ∧ w' = w) :
    Calls Tryz.prog 136 #[u, .func (Fn.func 203) #[] #[q, q2, q3]] w fun e w' => e = .returned (.bool (xs.any p)) ∧ w' = w := by
  have H := idx3_any u q q2 q3 xs p w hu hp
  have H' : Hid (Calls Tryz.prog 121 #[u, .func (Fn.func 203) #[] #[q, q2, q3]] w fun e w' => ∃ r : Int, e = .returned (.int .i64 r) ∧ decide (0 ≤ r) = xs.any p ∧ w' = w) := H
  clear H hp
  go_enter Tryz.func136, Tryz.ntmps136
  go_wp2_with fail
  refine Calls.mono H'.out ?_
  rintro e w1 ⟨r, rfl, hr, rfl⟩
  have Hr : Hid (decide (0 ≤ r) = xs.any p) := hr
  clear hr
  go_wp2
  go_ret
  exact ⟨by show Ending.returned (.bool (decide (0 ≤ r))) = _; rw [Hr.out], rfl⟩

namespace Fd
/-- does a cell of a line hide what is behind? -/
def hide (gs : List Int) (a b x : Int) : Bool := decide (x ≠ a) && (decide (x ≠ b) && (decide (gs.getD x.toNat 0 = 1) || decide (gs.getD x.toNat 0 = 3)))
end Fd

set_option maxHeartbeats 1000000 in
theorem hides_any (x a b : Int) (ba bb bf : Nat) (y : Addr) (n c : Nat) (gs : List Int) (w : World) (x0 : 0 ≤ x) (x1 : x < n) (hn : gs.length = n) (n2 : n ≤ 144)
    (ha : w.cell? ⟨ba, 0, none⟩ = some (.int .i64 a)) (hb : w.cell? ⟨bb, 0, none⟩ = some (.int .i64 b)) (hf : w.cell? ⟨bf, 2, none⟩ = some (.slice (some y) n c))
    (hg : ∀ i d, gs[i]? = some d → w.cell? (y.add i) = some (.int .i64 d)) :
    Calls Tryz.prog 203 #[.int .i64 x, .pointer (some ⟨ba, 0, none⟩), .pointer (some ⟨bb, 0, none⟩), .pointer (some ⟨bf, 0, none⟩)] w fun e w' => e = .returned (.bool (Fd.hide gs a b x)) ∧ w' = w := by
  obtain ⟨k, rfl⟩ : ∃ k : Nat, x = k := ⟨x.toNat, by omega⟩
  have hk : k < gs.length := by omega
  have hc := hg k gs[k] (List.getElem?_eq_getElem hk)
  have He : Hid (Fd.hide gs a b k = (decide ((k : Int) ≠ a) && (decide ((k : Int) ≠ b) && (decide (gs[k] = 1) || decide (gs[k] = 3))))) := by
    unfold Hid Fd.hide
    rw [Int.toNat_natCast, List.getD_eq_getElem?_getD, List.getElem?_eq_getElem hk]
    rfl
  generalize gs[k] = g at *
  clear hg
  by_cases h1 : (k : Int) = a
  · go_enter Tryz.func203, Tryz.ntmps203
    go_wp2
    go_ret
    exact ⟨by rw [He.out]; simp [h1], rfl⟩
  · by_cases h2 : (k : Int) = b
    · go_enter Tryz.func203, Tryz.ntmps203
      go_wp2
      go_ret
      exact ⟨by rw [He.out]; simp [h2], rfl⟩
    · by_cases h3 : g = 1
      · subst h3
        go_enter Tryz.func203, Tryz.ntmps203
        go_wp2
        go_ret
        exact ⟨by rw [He.out]; simp [h1, h2], rfl⟩
      · by_cases h4 : g = 3
        · subst h4
          go_enter Tryz.func203, Tryz.ntmps203
          go_wp2
          go_ret
          exact ⟨by rw [He.out]; simp [h1, h2], rfl⟩
        · go_enter Tryz.func203, Tryz.ntmps203
          go_wp2
          go_ret
          exact ⟨by rw [He.out]; simp [h1, h2, h3, h4], rfl⟩
end Go.Proofs.YtoabhfipikkkeaaGreatDoor

namespace Go.Proofs.YtoabhfipikkkeaaGreatDoor
open Go.RowKit
set_option linter.unusedVariables false

/-- does one of a kind see from a cell to another one? -/
def seeN (W : Nat) (gs : List Int) (k : KV) (a b : Nat) : Bool := decide (farN W a b ≤ k.n3) && (k.f || !(Fd.line W a b).any (Fd.hide gs a b))
/-- is a unit one of a player that sees a cell? -/
def seeU (ks : List KV) (W : Nat) (gs : List Int) (p : Int) (c : Nat) (u : UnV) : Bool := (u.player == p) && (match ks[u.kind.toNat]? with
  | some k => seeN W gs k u.at_.toNat c
  | none => false)
/-- does a player see a cell? -/
def seesP (ks : List KV) (W : Nat) (gs : List Int) (us : List UnV) (p : Int) (c : Nat) : Bool := us.any (seeU ks W gs p c)
def seenL (ks : List KV) (W : Nat) (X : WV) (p : Int) : List Bool := (List.range X.gs.length).map (seesP ks W X.gs X.us p)
def seersUp (ks : List KV) (W : Nat) (X : WV) (c n : Nat) : List Int := ((List.range n).map (fun i : Nat => (i : Int))).filter (fun p => seesP ks W X.gs X.us p c)
def seersL (ks : List KV) (W : Nat) (X : WV) (c : Nat) : List Int := seersUp ks W X c X.gold.length
/-- 0 at some places, up to one. -/
def zerUp (q : Nat → Bool) (n : Nat) (l : List Int) : List Int := l.mapIdx (fun i x => if decide (i < n) && q i then 0 else x)
def zer (q : Nat → Bool) (l : List Int) : List Int := l.mapIdx (fun i x => if q i then 0 else x)
theorem zerUp_len (q : Nat → Bool) (n : Nat) (l : List Int) : (zerUp q n l).length = l.length := by unfold zerUp; simp
theorem zer_len (q : Nat → Bool) (l : List Int) : (zer q l).length = l.length := by unfold zer; simp
theorem zerUp_zero (q : Nat → Bool) (l : List Int) : zerUp q 0 l = l := by
  unfold zerUp
  apply List.ext_getElem?
  intro i
  simp
theorem zerUp_all (q : Nat → Bool) (l : List Int) : zerUp q l.length l = zer q l := by
  unfold zerUp zer
  apply List.ext_getElem
  · simp
  · intro i h1 h2
    have : i < l.length := by simpa using h1
    simp [this]
theorem zerUp_yes {q : Nat → Bool} {n : Nat} (l : List Int) (h : q n = true) : zerUp q (n + 1) l = (zerUp q n l).set n 0 := by
  unfold zerUp
  apply List.ext_getElem
  · simp
  · intro i h1 h2
    rw [List.getElem_set]
    simp only [List.getElem_mapIdx]
    by_cases e : n = i
    · subst e; simp [h]
    · rw [if_neg e]
      have : decide (i < n + 1) = decide (i < n) := decide_eq_decide.2 (by omega)
      rw [this]
theorem zerUp_no {q : Nat → Bool} {n : Nat} (l : List Int) (h : q n = false) : zerUp q (n + 1) l = zerUp q n l := by
  unfold zerUp
  apply List.ext_getElem
  · simp
  · intro i h1 h2
    simp only [List.getElem_mapIdx]
    by_cases e : n = i
    · subst e; simp [h]
    · have : decide (i < n + 1) = decide (i < n) := decide_eq_decide.2 (by omega)
      rw [this]
theorem seers_next (ks : List KV) (W : Nat) (X : WV) (c n : Nat) : seersUp ks W X c (n + 1) = seersUp ks W X c n ++ (if seesP ks W X.gs X.us (n : Nat) c then [((n : Nat) : Int)] else []) := by
  unfold seersUp
  rw [List.range_succ, List.map_append, List.filter_append]
  cases h : seesP ks W X.gs X.us (n : Nat) c <;> simp [h]
theorem seersUp_len (ks : List KV) (W : Nat) (X : WV) (c n : Nat) : (seersUp ks W X c n).length ≤ n := by
  unfold seersUp
  refine Nat.le_trans (List.length_filter_le _ _) ?_
  simp
/-- the world as a player sees it. -/
def hidU (ks : List KV) (W : Nat) (X : WV) (p : Int) (u : UnV) : Bool := !(u.player == p) && !seesP ks W X.gs X.us p u.at_.toNat
def notJ (p : Int) (j : JbV) : Bool := !(j.player == p)
def viewOf (ks : List KV) (W : Nat) (X : WV) (p : Int) : WV := { X with us := X.us.filter (fun u => !hidU ks W X p u), qs := X.qs.filter (fun j => !notJ p j), gold := zer (fun i => !decide ((i : Int) = p)) X.gold, os := zer (fun i => !seesP ks W X.gs X.us p i) X.os }
theorem seen_len (ks : List KV) (W : Nat) (X : WV) (p : Int) : (seenL ks W X p).length = X.gs.length := by unfold seenL; simp
theorem seen_at (ks : List KV) (W : Nat) (X : WV) (p : Int) {c : Nat} (h : c < X.gs.length) : (seenL ks W X p)[c]? = some (seesP ks W X.gs X.us p c) := by
  unfold seenL
  simp [h]
end Go.Proofs.YtoabhfipikkkeaaGreatDoor

namespace Go.Proofs.YtoabhfipikkkeaaGreatDoor
open Go.RowKit
set_option linter.unusedVariables false

theorem cell_alloc {w : World} {o : Obj} {p : Addr} (h : p.block < w.heap.size) : (w.alloc o).cell? p = w.cell? p := ((Below.refl w.heap.size w).alloc (Nat.le_refl _) o).cell h

/-- the boxes of a call of Sees. -/
structure Bsx (w : World) (z : Nat) (W : Int) (v : Value) (a b : Int) : Prop where
  wide : w.cell? ⟨z, 0, none⟩ = some (.int .i64 W)
  ground : w.cell? ⟨z, 2, none⟩ = some v
  ca : w.cell? ⟨z + 1, 0, none⟩ = some (.int .i64 a)
  cb : w.cell? ⟨z + 1 + 1, 0, none⟩ = some (.int .i64 b)
theorem Bsx.lt {w : World} {z : Nat} {W : Int} {v : Value} {a b : Int} (h : Bsx w z W v a b) : z + 2 < w.heap.size := cell_lt h.cb
theorem Bsx.below {w w' : World} {z n : Nat} {W : Int} {v : Value} {a b : Int} (h : Bsx w z W v a b) (hb : Below n w w') (hn : z + 2 < n) : Bsx w' z W v a b :=
  ⟨by rw [hb.cell (p := ⟨z, 0, none⟩) (by show z < n; omega)]; exact h.wide, by rw [hb.cell (p := ⟨z, 2, none⟩) (by show z < n; omega)]; exact h.ground,
   by rw [hb.cell (p := ⟨z + 1, 0, none⟩) (by show z + 1 < n; omega)]; exact h.ca, by rw [hb.cell (p := ⟨z + 1 + 1, 0, none⟩) (by show z + 1 + 1 < n; omega)]; exact h.cb⟩

set_option maxHeartbeats 1000000 in
theorem Sees_bad (v : Value) (W H : Int) (gs os : List Int) (a b s F : Int) (w : World) (h : Fl w v W H gs os) (hF : Fd.askFault (Fd.fault W H gs os) gs.length [a, b] = F) (h0 : F ≠ 0) :
    Calls Tryz.prog 168 #[v, .int .i64 a, .int .i64 b, .int .i64 s] w fun e w' => e = .returned (.tuple #[.bool false, .iface 99 (.int .i64 F)]) ∧ Below w.heap.size w w' := by
  have F0 : Hid (Fl w v W H gs os) := h
  have HF : Hid (Fd.askFault (Fd.fault W H gs os) gs.length [a, b] = F) := hF
  have H0 : Hid (F ≠ 0) := h0
  obtain ⟨u1, u2, rfl, ⟨a1, c, rfl, c1, c2, ca⟩, ⟨b1, d, rfl, d1, d2, cb⟩⟩ := h
  clear hF h0 ca cb
  go_enter Tryz.func168, Tryz.ntmps168
  go_wp2_with fail
  refine (ask_any _ _ W H gs os [a, b] _ (F0.out.below (((((Below.refl _ _).alloc (Nat.le_refl _) _).alloc (by simp) _).alloc (by simp; omega) _).alloc (by simp; omega) _)) (Ro.lit2 (w := ((w.alloc _).alloc _).alloc _) a b (by simp))).mono ?_
  rintro e w1 ⟨v1, rfl, hv, hb⟩
  have B1 : Hid (Below w.heap.size w w1) := (((((Below.refl _ _).alloc (Nat.le_refl _) _).alloc (by simp) _).alloc (by simp; omega) _).alloc (by simp; omega) _).trans (hb.mono (by simp; omega))
  rw [HF.out] at hv
  clear hb
  rcases hv with ⟨hz, rfl⟩ | ⟨hz, rfl⟩
  · exact absurd hz H0.out
  · clear hz
    go_wp2
    go_ret2
    exact ⟨rfl, B1⟩

theorem ask2_good {W H : Nat} {gs os : List Int} {a b : Nat} (G : Fd.Good W H gs os) (ha : a < W * H) (hb : b < W * H) : Fd.askFault (Fd.fault W H gs os) gs.length [(a : Int), (b : Int)] = 0 := by
  unfold Fd.askFault
  rw [Fd.fault_good G, if_neg (by decide), if_pos]
  rw [G.gl]
  simp
  omega

set_option maxHeartbeats 1000000 in
theorem Sees_range (v : Value) (W H : Nat) (gs os : List Int) (a b : Nat) (s : Int) (w : World) (h : Fl w v W H gs os) (G : Fd.Good W H gs os) (ha : a < W * H) (hb : b < W * H) (hs : s < 0 ∨ 1000000 < s) :
    Calls Tryz.prog 168 #[v, .int .i64 (a : Nat), .int .i64 (b : Nat), .int .i64 s] w fun e w' => e = .returned (.tuple #[.bool false, .iface 99 (.int .i64 1)]) ∧ Below w.heap.size w w' := by
  have F0 : Hid (Fl w v W H gs os) := h
  have HF : Hid (Fd.askFault (Fd.fault W H gs os) gs.length [(a : Int), (b : Int)] = 0) := ask2_good G ha hb
  obtain ⟨u1, u2, rfl, ⟨a1, c, rfl, c1, c2, ca⟩, ⟨b1, d, rfl, d1, d2, cb⟩⟩ := h
  clear ca cb G ha hb
  go_enter Tryz.func168, Tryz.ntmps168
  go_wp2_with fail
  refine (ask_any _ _ W H gs os [(a : Int), (b : Int)] _ (F0.out.below (((((Below.refl _ _).alloc (Nat.le_refl _) _).alloc (by simp) _).alloc (by simp; omega) _).alloc (by simp; omega) _)) (Ro.lit2 (w := ((w.alloc _).alloc _).alloc _) a b (by simp))).mono ?_
  rintro e w1 ⟨v1, rfl, hv, hb⟩
  have B1 : Hid (Below w.heap.size w w1) := (((((Below.refl _ _).alloc (Nat.le_refl _) _).alloc (by simp) _).alloc (by simp; omega) _).alloc (by simp; omega) _).trans (hb.mono (by simp; omega))
  rw [HF.out] at hv
  clear hb
  rcases hv with ⟨hz, rfl⟩ | ⟨hz, rfl⟩
  · clear hz
    go_wp2_with fail
    refine (fin_no _ _ _ _ hs).mono ?_
    rintro e w2 ⟨rfl, rfl⟩
    go_wp2
    go_ret2
    exact ⟨rfl, B1⟩
  · exact absurd rfl hz

set_option maxHeartbeats 2000000 in
theorem Sees_ok (v : Value) (W H : Nat) (gs os : List Int) (a b : Nat) (s : Int) (w : World) (h : Fl w v W H gs os) (G : Fd.Good W H gs os) (ha : a < W * H) (hb : b < W * H) (s0 : 0 ≤ s) (s1 : s ≤ 1000000) :
    Calls Tryz.prog 168 #[v, .int .i64 (a : Nat), .int .i64 (b : Nat), .int .i64 s] w fun e w' => ∃ r, Ma.Sq r ((((a % W : Nat) : Int) - (b % W : Nat)) * (((a % W : Nat) : Int) - (b % W : Nat)) + (((a / W : Nat) : Int) - (b / W : Nat)) * (((a / W : Nat) : Int) - (b / W : Nat))) ∧
      e = .returned (.tuple #[.bool (decide (r ≤ s) && !(Fd.line W a b).any (Fd.hide gs a b)), .nilIface]) ∧ Below w.heap.size w w' := by
  have F0 : Hid (Fl w v W H gs os) := h
  have HG : Hid (Fd.Good W H gs os) := G
  have HA : Hid (a < W * H) := ha
  have HB : Hid (b < W * H) := hb
  have HF : Hid (Fd.askFault (Fd.fault W H gs os) gs.length [(a : Int), (b : Int)] = 0) := ask2_good G ha hb
  have hm := G.pos.2
  have A1 : a ≤ 144 := by omega
  have B1' : b ≤ 144 := by omega
  have W1 : 0 < W := G.w1
  have W2 : W ≤ 12 := G.w2
  have a1' : a / W < H := Nat.div_lt_of_lt_mul ha
  have a2' : b / W < H := Nat.div_lt_of_lt_mul hb
  have a3' := Nat.mod_lt a W1
  have a4' := Nat.mod_lt b W1
  have h2' := G.h2
  obtain ⟨u1, u2, rfl, ⟨a1, c, rfl, c1, c2, ca⟩, ⟨b1, d, rfl, d1, d2, cb⟩⟩ := h
  obtain ⟨y, rfl, -, hg⟩ := ca (by intro e; have h3 := G.gl; have h4 := G.pos; rw [e] at h3; simp only [List.length_nil] at h3; omega)
  have Cg : Hid (∀ i d, gs[i]? = some d → w.cell? (y.add i) = some (.int .i64 d)) := hg
  have yl : Hid (y.block < w.heap.size) := by
    have hn : 0 < gs.length := by have := G.gl; have := G.pos; omega
    have := cell_lt (hg 0 gs[0] (List.getElem?_eq_getElem hn))
    rwa [add_block] at this
  have GL : Hid (gs.length = W * H) := G.gl
  clear cb hg G ha hb
  obtain ⟨p, hp⟩ : ∃ c, a % W = c := ⟨_, rfl⟩
  obtain ⟨q, hq⟩ : ∃ c, b % W = c := ⟨_, rfl⟩
  obtain ⟨m, hm'⟩ : ∃ c, a / W = c := ⟨_, rfl⟩
  obtain ⟨n, hn⟩ : ∃ c, b / W = c := ⟨_, rfl⟩
  rw [hp, hq, hm', hn]
  rw [hm'] at a1'
  rw [hn] at a2'
  rw [hp] at a3'
  rw [hq] at a4'
  have Pa : Hid (a % W = p ∧ a / W = m) := ⟨hp, hm'⟩
  have Pb : Hid (b % W = q ∧ b / W = n) := ⟨hq, hn⟩
  clear hp hq hm' hn
  go_enter Tryz.func168, Tryz.ntmps168
  go_wp2_with fail
  refine (ask_any _ _ W H gs os [(a : Int), (b : Int)] _ (F0.out.below (((((Below.refl _ _).alloc (Nat.le_refl _) _).alloc (by simp) _).alloc (by simp; omega) _).alloc (by simp; omega) _)) (Ro.lit2 (w := ((w.alloc _).alloc _).alloc _) a b (by simp))).mono ?_
  rintro e w1 ⟨v1, rfl, hv, hb⟩
  have B1 : Hid (Below w.heap.size w w1) := (((((Below.refl _ _).alloc (Nat.le_refl _) _).alloc (by simp) _).alloc (by simp; omega) _).alloc (by simp; omega) _).trans (hb.mono (by simp; omega))
  have X1 : Hid (Bsx w1 w.heap.size W (.slice (some y) gs.length c) a b) := by
    refine ⟨?_, ?_, ?_, ?_⟩
    · rw [hb.cell (p := ⟨w.heap.size, 0, none⟩) (by simp; omega), cell_alloc (by simp; omega), cell_alloc (by simp; omega), cell_alloc (by simp), World.cell?_alloc_new]
      rfl
    · rw [hb.cell (p := ⟨w.heap.size, 2, none⟩) (by simp; omega), cell_alloc (by simp; omega), cell_alloc (by simp; omega), cell_alloc (by simp), World.cell?_alloc_new]
      rfl
    · rw [hb.cell (p := ⟨w.heap.size + 1, 0, none⟩) (by simp; try omega), cell_alloc (by simp; try omega), cell_alloc (by simp), World.cell?_alloc_at _ _ _ _ (by simp)]
      rfl
    · rw [hb.cell (p := ⟨w.heap.size + 1 + 1, 0, none⟩) (by simp; try omega), cell_alloc (by simp), World.cell?_alloc_at _ _ _ _ (by simp)]
      rfl
  rw [HF.out] at hv
  clear hb
  rcases hv with ⟨hz, rfl⟩ | ⟨hz, rfl⟩
  · clear hz
    have f1 := X1.out.wide
    have f2 := X1.out.ca
    have f3 := X1.out.cb
    go_wp2_with fail
    refine (fin_yes _ _ _ _ s0 s1).mono ?_
    rintro e w2 ⟨rfl, rfl⟩
    go_wp2_with fail
    refine (fplace_any W a p m _ W1 W2 A1 Pa.out.1 Pa.out.2).mono ?_
    rintro e w3 ⟨rfl, q3, hq3⟩
    have b3 : Below w2.heap.size w2 w3 := by rw [hq3]; exact _root_.Go.below_drewN (Below.refl _ _) _
    have B3 : Hid (Below w.heap.size w w3) := B1.out.trans (b3.mono B1.out.size)
    have X3 : Hid (Bsx w3 w.heap.size W (.slice (some y) gs.length c) a b) := X1.out.below b3 X1.out.lt
    clear hq3 b3 B1 X1 f1 f2 f3
    have f1 := X3.out.wide
    have f2 := X3.out.ca
    have f3 := X3.out.cb
    go_wp2_with fail
    refine (fplace_any W b q n _ W1 W2 B1' Pb.out.1 Pb.out.2).mono ?_
    rintro e w4 ⟨rfl, q4, hq4⟩
    have b4 : Below w3.heap.size w3 w4 := by rw [hq4]; exact _root_.Go.below_drewN (Below.refl _ _) _
    have B4 : Hid (Below w.heap.size w w4) := B3.out.trans (b4.mono B3.out.size)
    have X4 : Hid (Bsx w4 w.heap.size W (.slice (some y) gs.length c) a b) := X3.out.below b4 X3.out.lt
    clear hq4 b4 B3 X3 f1 f2 f3
    go_wp2_with fail
    refine (far_ok p m q n _ ⟨by omega, by omega⟩ ⟨by omega, by omega⟩ ⟨by omega, by omega⟩ ⟨by omega, by omega⟩).mono ?_
    rintro e w5 ⟨r, hr, rfl, rfl⟩
    have R : Hid (Ma.Sq r (((p : Int) - q) * ((p : Int) - q) + ((m : Int) - n) * ((m : Int) - n))) := hr
    clear hr
    by_cases hrs : r ≤ s
    · have f1 := X4.out.wide
      have f2 := X4.out.ca
      have f3 := X4.out.cb
      go_wp2_with fail
      refine (line_any W H a b _ W1 W2 h2' HA.out HB.out).mono ?_
      rintro e w6 ⟨u, rfl, ho, b6⟩
      have B6 : Hid (Below w.heap.size w w6) := B4.out.trans (b6.mono B4.out.size)
      have X6 : Bsx w6 w.heap.size W (.slice (some y) gs.length c) a b := X4.out.below b6 X4.out.lt
      have hh := has3_any u (.pointer (some ⟨w.heap.size + 1, 0, none⟩)) (.pointer (some ⟨w.heap.size + 1 + 1, 0, none⟩)) (.pointer (some ⟨w.heap.size, 0, none⟩)) (Fd.line W a b) (Fd.hide gs a b) w6 ho.ro
        (fun x hx => by
          obtain ⟨k, hk, e⟩ := List.mem_iff_getElem.1 hx
          rw [Fd.line_len] at hk
          have e2 := Fd.line_get (W := W) (a := a) (b := b) (k := k) (by omega)
          rw [List.getElem?_eq_getElem (by rw [Fd.line_len]; omega), e] at e2
          have e3 : ∃ t : Nat, x = t ∧ t < W * H := by
            injection e2 with e2
            by_cases h0 : Fd.span W a b = 0
            · rw [if_pos h0] at e2
              exact ⟨a, e2, HA.out⟩
            · rw [if_neg h0] at e2
              obtain ⟨r', c', -, -, -, -, e4, e5, -⟩ := Fd.spot_in W1 HA.out HB.out (show 0 < Fd.span W a b by omega) (show k ≤ Fd.span W a b by omega)
              exact ⟨_, e2.trans e4, e5⟩
          obtain ⟨t, rfl, ht⟩ := e3
          exact hides_any t a b _ _ _ y gs.length c gs w6 (by omega) (by have := GL.out; omega) rfl (by have := GL.out; omega) X6.ca X6.cb X6.ground
            (fun i d hd => by rw [B6.out.cell (p := y.add i) (by rw [add_block]; exact yl.out)]; exact Cg.out i d hd))
      generalize hbl : (Fd.line W a b).any (Fd.hide gs a b) = bl at *
      have Hbl : Hid ((Fd.line W a b).any (Fd.hide gs a b) = bl) := hbl
      have Hh : Hid (Calls Tryz.prog 136 #[u, .func (Fn.func 203) #[] #[.pointer (some ⟨w.heap.size + 1, 0, none⟩), .pointer (some ⟨w.heap.size + 1 + 1, 0, none⟩), .pointer (some ⟨w.heap.size, 0, none⟩)]] w6 fun e w' => e = .returned (.bool bl) ∧ w' = w6) := hh
      clear hh hbl ho b6 X6 X4 f1 f2 f3
      go_wp2_with fail
      refine Calls.mono Hh.out ?_
      rintro e w7 ⟨rfl, rfl⟩
      have Hrs : Hid (r ≤ s) := hrs
      clear hrs
      go_wp2
      go_ret2
      exact ⟨r, R, by show Ending.returned (.tuple #[.bool (!bl), .nilIface]) = _; rw [decide_eq_true Hrs.out, Bool.true_and, Hbl.out], B6⟩
    · have hrs' : s < r := by omega
      go_wp2
      go_ret2
      exact ⟨r, R, by show Ending.returned (.tuple #[.bool false, .nilIface]) = _; rw [decide_eq_false (by omega), Bool.false_and], B4⟩
  · exact absurd rfl hz
end Go.Proofs.YtoabhfipikkkeaaGreatDoor

namespace Go.Proofs.YtoabhfipikkkeaaGreatDoor
open Go.RowKit
set_option linter.unusedVariables false

theorem cell_new1 {w : World} {z : Nat} (v : Value) (T : TypeId) (hz : w.heap.size = z) : (w.alloc (.cells #[v] T)).cell? ⟨z, 0, none⟩ = some v := by
  subst hz
  simp
set_option maxRecDepth 100000 in
set_option maxHeartbeats 4000000 in
theorem reaches_any (v : Value) (W H : Nat) (gs os : List Int) (k : KV) (a b : Nat) (w : World) (h : Fl w v W H gs os) (G : Fd.Good W H gs os) (ha : a < W * H) (hb : b < W * H) (s0 : 0 ≤ k.n3) (s1 : k.n3 ≤ 12) :
    Calls Tryz.prog 134 #[v, k.val, .int .i64 (a : Nat), .int .i64 (b : Nat)] w fun e w' => e = .returned (.bool (seeN W gs k a b)) ∧ Below w.heap.size w w' := by
  have F0 : Hid (Fl w v W H gs os) := h
  have HG : Hid (Fd.Good W H gs os ∧ a < W * H ∧ b < W * H ∧ 0 ≤ k.n3 ∧ k.n3 ≤ 12) := ⟨G, ha, hb, s0, s1⟩
  have hm : W * H ≤ 144 := G.pos.2
  have FE : Hid (∀ r, Ma.Sq r ((((a % W : Nat) : Int) - ((b % W : Nat) : Int)) * (((a % W : Nat) : Int) - ((b % W : Nat) : Int)) + (((a / W : Nat) : Int) - ((b / W : Nat) : Int)) * (((a / W : Nat) : Int) - ((b / W : Nat) : Int))) → farN W a b = r) := fun r hr => farN_eq G.w2 (by omega) (by omega) G.w1 hr
  obtain ⟨ca, hca⟩ : ∃ n, a % W = n := ⟨_, rfl⟩
  obtain ⟨ra, hra⟩ : ∃ n, a / W = n := ⟨_, rfl⟩
  obtain ⟨cb, hcb⟩ : ∃ n, b % W = n := ⟨_, rfl⟩
  obtain ⟨rb, hrb⟩ : ∃ n, b / W = n := ⟨_, rfl⟩
  have hw : ¬ (W : Int) = 0 := by have := G.w1; omega
  have e1 : (a : Int) % (W : Int) = (ca : Nat) := by rw [← hca]; rfl
  have e2 : (a : Int) / (W : Int) = (ra : Nat) := by rw [← hra]; rfl
  have e3 : (b : Int) % (W : Int) = (cb : Nat) := by rw [← hcb]; rfl
  have e4 : (b : Int) / (W : Int) = (rb : Nat) := by rw [← hrb]; rfl
  have l1 : ra ≤ 144 := by rw [← hra]; exact Nat.le_trans (Nat.div_le_self _ _) (by omega)
  have l2 : rb ≤ 144 := by rw [← hrb]; exact Nat.le_trans (Nat.div_le_self _ _) (by omega)
  have l3 : ca ≤ 144 := by rw [← hca]; exact Nat.le_trans (Nat.mod_le _ _) (by omega)
  have l4 : cb ≤ 144 := by rw [← hcb]; exact Nat.le_trans (Nat.mod_le _ _) (by omega)
  have FO : Hid (∀ V, Calls Tryz.prog 167 #[.int .i64 (ca : Nat), .int .i64 (ra : Nat), .int .i64 (cb : Nat), .int .i64 (rb : Nat)] V fun e w' => e = .returned (.tuple #[.int .i64 (farN W a b), .nilIface]) ∧ w' = V) := fun V => by
    refine (far_ok _ _ _ _ V (small_in6 l3) (small_in6 l1) (small_in6 l4) (small_in6 l2)).mono ?_
    rintro e w' ⟨r, hr, rfl, rfl⟩
    rw [← hca, ← hra, ← hcb, ← hrb] at hr
    rw [FE.out r hr]
    exact ⟨rfl, rfl⟩
  clear hca hra hcb hrb
  obtain ⟨u1, u2, rfl, ⟨a1, c, rfl, c1, c2, ca'⟩, ⟨b1, d, rfl, d1, d2, cb'⟩⟩ := h
  clear ca' cb' G ha hb s0 s1 hm
  have B0 : Hid (Below w.heap.size w ((w.alloc (Obj.cells #[.int .i64 (W : Nat), .int .i64 (H : Nat), .slice a1 gs.length c, .slice b1 os.length d] 25)).alloc (Obj.cells #[.string k.b, .int .i64 k.n0, .int .i64 k.n1, .int .i64 k.n2, .int .i64 k.n3, .int .i64 k.n4, .int .i64 k.n5, .int .i64 k.n6, .int .i64 k.n7, .bool k.f, .bool k.t] 80))) := ((Below.refl _ _).alloc (Nat.le_refl _) _).alloc (by simp) _
  have F1 : Hid (Bf ((w.alloc (Obj.cells #[.int .i64 (W : Nat), .int .i64 (H : Nat), .slice a1 gs.length c, .slice b1 os.length d] 25)).alloc (Obj.cells #[.string k.b, .int .i64 k.n0, .int .i64 k.n1, .int .i64 k.n2, .int .i64 k.n3, .int .i64 k.n4, .int .i64 k.n5, .int .i64 k.n6, .int .i64 k.n7, .bool k.f, .bool k.t] 80)) w.heap.size W H (.slice a1 gs.length c) (.slice b1 os.length d)) := (Bf.mk' _ _ _ _ rfl).below ((Below.refl _ _).alloc (Nat.le_refl _) _) (by simp)
  have K1 : Hid (Kc ((w.alloc (Obj.cells #[.int .i64 (W : Nat), .int .i64 (H : Nat), .slice a1 gs.length c, .slice b1 os.length d] 25)).alloc (Obj.cells #[.string k.b, .int .i64 k.n0, .int .i64 k.n1, .int .i64 k.n2, .int .i64 k.n3, .int .i64 k.n4, .int .i64 k.n5, .int .i64 k.n6, .int .i64 k.n7, .bool k.f, .bool k.t] 80)) ⟨w.heap.size + 1, 0, none⟩ k) := Kc.mk' k (by simp)
  unfold KV.val
  go_enter Tryz.func134, Tryz.ntmps134
  go_upto_region 1 with fail
  generalize ((w.alloc (Obj.cells #[.int .i64 (W : Nat), .int .i64 (H : Nat), .slice a1 gs.length c, .slice b1 os.length d] 25)).alloc (Obj.cells #[.string k.b, .int .i64 k.n0, .int .i64 k.n1, .int .i64 k.n2, .int .i64 k.n3, .int .i64 k.n4, .int .i64 k.n5, .int .i64 k.n6, .int .i64 k.n7, .bool k.f, .bool k.t] 80)) = w0 at *
  obtain ⟨f0, f1, f2, f3⟩ := F1.out
  obtain ⟨y0, y1, y2, y3, y4, y5, y6, y7, y8, y9, y10⟩ := K1.out
  obtain ⟨f, hf⟩ : ∃ f, farN W a b = f := ⟨_, rfl⟩
  have HF : Hid (farN W a b = f) := hf
  rw [hf] at FO
  clear hf
  cases hk : k.f with
  | true =>
    have SE : Hid (seeN W gs k a b = decide (f ≤ k.n3)) := by unfold Hid seeN; rw [hk, HF.out]; simp
    rw [hk] at y9
    go_upto_region 2 with fail
    go_quiet ((go_at_call 167; exact Calls.quiet_of_same (FO.out _)))
    go_wp2
    go_ret
    exact ⟨by rw [SE.out]; rfl, ⟨B0.out.os, B0.out.tape, B0.out.output, B0.out.size, B0.out.block⟩⟩
  | false =>
    obtain ⟨z, hz⟩ : ∃ z, (decide (f ≤ k.n3) && !(Fd.line W a b).any (Fd.hide gs a b)) = z := ⟨_, rfl⟩
    have SE : Hid (seeN W gs k a b = z) := by unfold Hid seeN; rw [hk, HF.out, ← hz]; simp
    rw [hk] at y9
    go_upto_region 4 with fail
    go_wp2_with fail
    refine (Sees_ok _ W H gs os a b k.n3 w0 (F0.out.below B0.out) HG.out.1 HG.out.2.1 HG.out.2.2.1 HG.out.2.2.2.1 (by have := HG.out.2.2.2.2; omega)).mono ?_
    rintro e w1 ⟨r, hr, rfl, hb⟩
    have er : f = r := HF.out.symm.trans (FE.out r hr)
    rw [← er, hz]
    have B1 : Hid (Below w.heap.size w w1) := B0.out.trans (hb.mono B0.out.size)
    clear hb hr er hz f0 f1 f2 f3 y0 y1 y2 y3 y4 y5 y6 y7 y8 y9 y10
    cases z <;>
    · go_wp2
      go_ret
      exact ⟨by rw [SE.out]; rfl, B1.out⟩

set_option maxHeartbeats 1000000 in
theorem hasm_any (K : Nat) (eK : ∀ args w, (callFunc K args).run Tryz.prog w = .ok (.enter K args) w) (u : Value) (cs : Array Value) (ks : List UnV) (p : UnV → Bool) (w : World) (hu : Unl w u ks)
    (hp : ∀ W, Below w.heap.size w W → ∀ k ∈ ks, Calls Tryz.prog K (#[k.val] ++ cs) W fun e w' => e = .returned (.bool (p k)) ∧ Below W.heap.size W w') :
    Calls Tryz.prog 79 #[u, .func (Fn.func K) #[] cs] w fun e w' => e = .returned (.bool (ks.any p)) ∧ Below w.heap.size w w' := by
  have H' : Hid (Calls Tryz.prog 94 #[u, .func (Fn.func K) #[] cs] w fun e w' => ∃ r : Int, e = .returned (.int .i64 r) ∧ FstU p ks r ∧ Below w.heap.size w w') := idxm_any K eK u cs ks p w hu hp
  clear hp
  go_enter Tryz.func79, Tryz.ntmps79
  go_wp2_with fail
  refine Calls.mono H'.out ?_
  rintro e w1 ⟨r, rfl, hr, q⟩
  have Hr : Hid (decide (0 ≤ r) = ks.any p) := hr.has
  have Q : Hid (Below w.heap.size w w1) := q
  clear hr q
  go_wp2
  go_ret
  exact ⟨by show Ending.returned (.bool (decide (0 ≤ r))) = _; rw [Hr.out], Q⟩

set_option maxRecDepth 100000 in
set_option maxHeartbeats 4000000 in
theorem see_fg (ks : List KV) (X : WV) (u : UnV) (p : Int) (Wn c bp bw bk ba : Nat) (vk u1 u2 u3 u4 u5 : Value) (w : World) (WR : WRight ks X) (hw : X.wide = (Wn : Nat)) (hc : c < X.gs.length) (hu : u ∈ X.us)
    (hk : Kl w vk ks) (hx : Wl w (.agg #[.int .i64 X.turn, .int .i64 X.next, .int .i64 X.wide, .int .i64 X.high, u1, u2, u3, u4, u5]) X) (hb : Bw w bw X u1 u2 u3 u4 u5)
    (c1 : w.cell? ⟨bp, 0, none⟩ = some (.int .i64 p)) (c2 : w.cell? ⟨bk, 0, none⟩ = some vk) (c3 : w.cell? ⟨ba, 0, none⟩ = some (.int .i64 (c : Nat))) :
    Calls Tryz.prog 133 (#[u.val] ++ #[.pointer (some ⟨bp, 0, none⟩), .pointer (some ⟨bw, 0, none⟩), .pointer (some ⟨bk, 0, none⟩), .pointer (some ⟨ba, 0, none⟩)]) w fun e w' => e = .returned (.bool (seeU ks Wn X.gs p c u)) ∧ Below w.heap.size w w' := by
  obtain ⟨i, hi⟩ := List.mem_iff_getElem?.1 hu
  obtain ⟨k, fu⟩ := WR.fine hi
  obtain ⟨Wm, Hn, e1, e2, G⟩ := WR.good
  have ew : Wm = Wn := by omega
  subst ew
  obtain ⟨kn, hkn⟩ : ∃ n : Nat, u.kind = n := ⟨u.kind.toNat, by have := fu.k0.1; omega⟩
  obtain ⟨an, han⟩ : ∃ n : Nat, u.at_ = n := ⟨u.at_.toNat, by have := fu.at_.1; omega⟩
  have hkk : ks[kn]? = some k := by have := fu.kk; rw [hkn] at this; exact this
  have hkl : kn < ks.length := (List.getElem?_eq_some_iff.1 hkk).1
  have hN := kind_nums WR.kinds (List.mem_of_getElem? hkk)
  have HE : Hid (u.kind = (kn : Nat) ∧ u.at_ = (an : Nat) ∧ X.wide = (Wm : Nat) ∧ X.high = (Hn : Nat)) := ⟨hkn, han, e1, e2⟩
  have LL : Hid (Fd.Good Wm Hn X.gs X.os ∧ an < Wm * Hn ∧ c < Wm * Hn ∧ 0 ≤ k.n3 ∧ k.n3 ≤ 12) := ⟨G, by have := fu.at_.2; have := G.gl; omega, by have := G.gl; omega, hN.2.2.2.2.2.2.2.2.1, hN.2.2.2.2.2.2.2.2.2.1⟩
  have SE : Hid (seeU ks Wm X.gs p c u = ((u.player == p) && seeN Wm X.gs k an c)) := by
    unfold Hid seeU
    rw [hkn, han, Int.toNat_natCast, Int.toNat_natCast, hkk]
  have XL : Hid (Wl w (.agg #[.int .i64 X.turn, .int .i64 X.next, .int .i64 X.wide, .int .i64 X.high, u1, u2, u3, u4, u5]) X) := hx
  obtain ⟨pk, qk, rfl, ck1, ck2, kc⟩ := hk
  obtain ⟨xk, rfl, hxk, hkc⟩ := kc (by intro h; rw [h] at hkl; simp at hkl)
  have KC : Hid (Kc w (xk.add (kn * 11)) k ∧ (xk.add (kn * 11)).block < w.heap.size) := ⟨hkc kn k hkk, by rw [add_block]; exact hxk⟩
  have CF : Hid (w.cell? ⟨bp, 0, none⟩ = some (.int .i64 p) ∧ w.cell? ⟨bk, 0, none⟩ = some (.slice (some xk) ks.length qk) ∧ w.cell? ⟨ba, 0, none⟩ = some (.int .i64 (c : Nat)) ∧ bp < w.heap.size ∧ bk < w.heap.size ∧ ba < w.heap.size) := ⟨c1, c2, c3, cell_lt c1, cell_lt c2, cell_lt c3⟩
  have BX : Hid (Bw w bw X u1 u2 u3 u4 u5) := hb
  have B0 : Hid (Below w.heap.size w (w.alloc (Obj.cells #[.int .i64 u.id, .int .i64 u.player, .int .i64 u.kind, .int .i64 u.at_, .int .i64 u.life, .int .i64 u.load, .int .i64 u.task, .int .i64 u.goal] 63))) := (Below.refl _ _).alloc (Nat.le_refl _) _
  have O0 : Hid (Unc (w.alloc (Obj.cells #[.int .i64 u.id, .int .i64 u.player, .int .i64 u.kind, .int .i64 u.at_, .int .i64 u.life, .int .i64 u.load, .int .i64 u.task, .int .i64 u.goal] 63)) ⟨w.heap.size, 0, none⟩ u) := Unc.mk' u rfl
  clear kc hkc hxk hx hb c1 c2 c3 hkk fu hi e1 e2 G hN hkn han hc hu WR
  unfold UnV.val
  go_enter Tryz.func133, Tryz.ntmps133
  go_upto_region 1 with fail
  generalize (w.alloc (Obj.cells #[.int .i64 u.id, .int .i64 u.player, .int .i64 u.kind, .int .i64 u.at_, .int .i64 u.life, .int .i64 u.load, .int .i64 u.task, .int .i64 u.goal] 63)) = w0 at *
  by_cases hp : u.player = p
  case neg =>
    have hp' : (u.player == p) = false := by rw [beq_eq_false_iff_ne]; exact hp
    have hp2 : decide (u.player = p) = false := decide_eq_false hp
    have S1 : Hid (seeU ks Wm X.gs p c u = false) := by unfold Hid; rw [SE.out, hp']; rfl
    have d1 : w0.cell? ⟨w.heap.size, 1, none⟩ = some (.int .i64 u.player) := by have := O0.out.c1; rw [Nat.zero_add] at this; exact this
    have d2 : w0.cell? ⟨bp, 0, none⟩ = some (.int .i64 p) := by rw [B0.out.cell (p := ⟨bp, 0, none⟩) CF.out.2.2.2.1]; exact CF.out.1
    obtain ⟨q0, q1, q2, q3, q4, q5, q6, q7⟩ := O0.out
    clear hp
    go_quiet (fail)
    go_wp2
    go_ret
    exact ⟨by rw [S1.out]; rfl, ⟨B0.out.os, B0.out.tape, B0.out.output, B0.out.size, B0.out.block⟩⟩
  · have S1 : Hid (seeU ks Wm X.gs p c u = seeN Wm X.gs k an c) := by unfold Hid; rw [SE.out, hp]; simp
    have C1 : Hid (w.cell? ⟨bp, 0, none⟩ = some (.int .i64 u.player)) := by unfold Hid; rw [hp]; exact CF.out.1
    clear hp
    have CB : Hid (∀ V, Below w.heap.size w V → Unc V ⟨w.heap.size, 0, none⟩ u → (V.cell? ⟨w.heap.size, 1, none⟩ = some (.int .i64 u.player) ∧ V.cell? ⟨w.heap.size, 2, none⟩ = some (.int .i64 (kn : Nat)) ∧ V.cell? ⟨w.heap.size, 3, none⟩ = some (.int .i64 (an : Nat)) ∧ V.cell? ⟨bp, 0, none⟩ = some (.int .i64 u.player) ∧ V.cell? ⟨bk, 0, none⟩ = some (.slice (some xk) ks.length qk) ∧ V.cell? ⟨ba, 0, none⟩ = some (.int .i64 (c : Nat)) ∧ Bw V bw X u1 u2 u3 u4 u5 ∧ Kc V (xk.add (kn * 11)) k)) := fun V hb h0 =>
      ⟨by have := h0.c1; rw [Nat.zero_add] at this; exact this, by have := h0.c2; rw [Nat.zero_add, HE.out.1] at this; exact this, by have := h0.c3; rw [Nat.zero_add, HE.out.2.1] at this; exact this,
       by rw [hb.cell (p := ⟨bp, 0, none⟩) CF.out.2.2.2.1]; exact C1.out, by rw [hb.cell (p := ⟨bk, 0, none⟩) CF.out.2.2.2.2.1]; exact CF.out.2.1, by rw [hb.cell (p := ⟨ba, 0, none⟩) CF.out.2.2.2.2.2]; exact CF.out.2.2.1,
       BX.out.below hb BX.out.lt, KC.out.1.below hb KC.out.2⟩
    refine wp_region_two [(true, 0), (true, 1), (true, 2), (true, 3), (true, 4), (true, 5), (true, 6), (true, 7), (true, 8), (true, 9), (true, 10), (true, 11), (true, 12), (true, 13), (true, 14), (false, 15)] [(true, 16), (false, 17)] (fun V => (V.cell? ⟨w.heap.size, 1, none⟩ = some (.int .i64 u.player) ∧ V.cell? ⟨w.heap.size, 2, none⟩ = some (.int .i64 (kn : Nat)) ∧ V.cell? ⟨w.heap.size, 3, none⟩ = some (.int .i64 (an : Nat)) ∧ V.cell? ⟨bp, 0, none⟩ = some (.int .i64 u.player) ∧ V.cell? ⟨bk, 0, none⟩ = some (.slice (some xk) ks.length qk) ∧ V.cell? ⟨ba, 0, none⟩ = some (.int .i64 (c : Nat)) ∧ Bw V bw X u1 u2 u3 u4 u5 ∧ Kc V (xk.add (kn * 11)) k)) (by kernel_rfl) (by kernel_rfl) (by kernel_rfl) (by decide +kernel) (by decide +kernel) (CB.out _ B0.out.drew (O0.out.below ((Below.refl _ _).drew) O0.out.lt)) ?_
    have B1 : Hid (Below w.heap.size w { w0 with drawn := w0.drawn + 1 }) := B0.out.drew
    have O1 : Hid (Unc { w0 with drawn := w0.drawn + 1 } ⟨w.heap.size, 0, none⟩ u) := O0.out.below ((Below.refl _ _).drew) O0.out.lt
    generalize ({ w0 with drawn := w0.drawn + 1 } : World) = w1 at *
    clear B0 O0
    refine headT_read rfl (.pointer (some ⟨w.heap.size, 1, none⟩)) (by go_simp) (fun V hV => by go_simp) ?_
    go_simp
    refine headT_read rfl (.int .i64 u.player) (by go_simp) (fun V hV => by obtain ⟨d1, d2, d3, d4, d5, d6, ⟨x0, x1, x2, x3, x4, x5, x6, x7, x8⟩, ⟨y0, y1, y2, y3, y4, y5, y6, y7, y8, y9, y10⟩⟩ := hV; go_simp) ?_
    go_simp
    refine headT_read rfl (.int .i64 u.player) (by go_simp) (fun V hV => by obtain ⟨d1, d2, d3, d4, d5, d6, ⟨x0, x1, x2, x3, x4, x5, x6, x7, x8⟩, ⟨y0, y1, y2, y3, y4, y5, y6, y7, y8, y9, y10⟩⟩ := hV; go_simp) ?_
    go_simp
    refine headT_read rfl (.bool true) (by go_simp) (fun V hV => by go_simp) ?_
    go_simp
    refine headT_read rfl (.bool true) (by go_simp) (fun V hV => by go_simp) ?_
    go_simp
    refine headT_read rfl (.pointer (some ⟨bw, 2, none⟩)) (by go_simp) (fun V hV => by go_simp) ?_
    go_simp
    refine headT_read rfl (.agg #[.int .i64 X.wide, .int .i64 X.high, u1, u2]) (by go_simp) (fun V hV => by obtain ⟨d1, d2, d3, d4, d5, d6, ⟨x0, x1, x2, x3, x4, x5, x6, x7, x8⟩, ⟨y0, y1, y2, y3, y4, y5, y6, y7, y8, y9, y10⟩⟩ := hV; go_simp) ?_
    go_simp
    refine headT_read rfl (.slice (some xk) ks.length qk) (by go_simp) (fun V hV => by obtain ⟨d1, d2, d3, d4, d5, d6, ⟨x0, x1, x2, x3, x4, x5, x6, x7, x8⟩, ⟨y0, y1, y2, y3, y4, y5, y6, y7, y8, y9, y10⟩⟩ := hV; go_simp) ?_
    go_simp
    refine headT_read rfl (.pointer (some ⟨w.heap.size, 2, none⟩)) (by go_simp) (fun V hV => by go_simp) ?_
    go_simp
    refine headT_read rfl (.int .i64 (kn : Nat)) (by go_simp) (fun V hV => by obtain ⟨d1, d2, d3, d4, d5, d6, ⟨x0, x1, x2, x3, x4, x5, x6, x7, x8⟩, ⟨y0, y1, y2, y3, y4, y5, y6, y7, y8, y9, y10⟩⟩ := hV; go_simp) ?_
    go_simp
    refine headT_read rfl (.pointer (some (xk.add (kn * 11)))) (by go_simp) (fun V hV => by go_simp) ?_
    go_simp
    refine headT_read rfl (.agg #[.string k.b, .int .i64 k.n0, .int .i64 k.n1, .int .i64 k.n2, .int .i64 k.n3, .int .i64 k.n4, .int .i64 k.n5, .int .i64 k.n6, .int .i64 k.n7, .bool k.f, .bool k.t]) (by go_simp) (fun V hV => by obtain ⟨d1, d2, d3, d4, d5, d6, ⟨x0, x1, x2, x3, x4, x5, x6, x7, x8⟩, ⟨y0, y1, y2, y3, y4, y5, y6, y7, y8, y9, y10⟩⟩ := hV; go_simp) ?_
    go_simp
    refine headT_read rfl (.pointer (some ⟨w.heap.size, 3, none⟩)) (by go_simp) (fun V hV => by go_simp) ?_
    go_simp
    refine headT_read rfl (.int .i64 (an : Nat)) (by go_simp) (fun V hV => by obtain ⟨d1, d2, d3, d4, d5, d6, ⟨x0, x1, x2, x3, x4, x5, x6, x7, x8⟩, ⟨y0, y1, y2, y3, y4, y5, y6, y7, y8, y9, y10⟩⟩ := hV; go_simp) ?_
    go_simp
    refine headT_read rfl (.int .i64 (c : Nat)) (by go_simp) (fun V hV => by obtain ⟨d1, d2, d3, d4, d5, d6, ⟨x0, x1, x2, x3, x4, x5, x6, x7, x8⟩, ⟨y0, y1, y2, y3, y4, y5, y6, y7, y8, y9, y10⟩⟩ := hV; go_simp) ?_
    go_simp
    refine headT_call rfl 134 #[.agg #[.int .i64 X.wide, .int .i64 X.high, u1, u2], .agg #[.string k.b, .int .i64 k.n0, .int .i64 k.n1, .int .i64 k.n2, .int .i64 k.n3, .int .i64 k.n4, .int .i64 k.n5, .int .i64 k.n6, .int .i64 k.n7, .bool k.f, .bool k.t], .int .i64 (an : Nat), .int .i64 (c : Nat)] (by go_simp) (by go_simp) ?_
    have FLD := fl_of (XL.out.below B1.out)
    rw [HE.out.2.2.1, HE.out.2.2.2] at FLD ⊢
    refine (reaches_any _ Wm Hn X.gs X.os k an c w1 FLD LL.out.1 LL.out.2.1 LL.out.2.2.1 LL.out.2.2.2.1 LL.out.2.2.2.2).mono ?_
    rintro e w2 ⟨rfl, hb⟩
    have B2 : Hid (Below w.heap.size w w2) := B1.out.trans (hb.mono B1.out.size)
    refine ⟨_, rfl, CB.out _ B2.out (O1.out.below hb O1.out.lt), ?_⟩
    clear hb B1 O1 FLD
    go_simp
    obtain ⟨t, ht⟩ : ∃ t, seeN Wm X.gs k an c = t := ⟨_, rfl⟩
    rw [ht] at S1 ⊢
    clear ht
    refine sched_read rfl (.bool t) (by go_simp) (fun V hV => by go_simp) ?_
    go_simp
    refine sched_value rfl (.bool t) w2 (by go_simp) (by go_simp) trivial ?_
    go_simp
    unfold wpSched
    go_wp2
    go_ret
    exact ⟨by rw [S1.out]; rfl, B2.out⟩

set_option maxRecDepth 100000 in
set_option maxHeartbeats 4000000 in
theorem doesSee_any (vk vw : Value) (ks : List KV) (X : WV) (p : Int) (Wn c : Nat) (w : World) (WR : WRight ks X) (hw : X.wide = (Wn : Nat)) (hc : c < X.gs.length) (hk : Kl w vk ks) (hx : Wl w vw X) :
    Calls Tryz.prog 93 #[vk, vw, .int .i64 p, .int .i64 (c : Nat)] w fun e w' => e = .returned (.bool (seesP ks Wn X.gs X.us p c)) ∧ Below w.heap.size w w' := by
  have HR : Hid (WRight ks X ∧ X.wide = (Wn : Nat) ∧ c < X.gs.length) := ⟨WR, hw, hc⟩
  have K : Hid (Kl w vk ks) := hk
  have XL : Hid (Wl w vw X) := hx
  obtain ⟨p1, q1, p2, q2, p3, q3, p4, q4, p5, q5, rfl⟩ := wl_shape9 hx
  obtain ⟨pk, qk, rfl, -⟩ := hk
  clear hx hw hc WR
  have B0 : Hid (Below w.heap.size w ((((w.alloc (Obj.cells #[.slice pk ks.length qk] 22)).alloc (Obj.cells #[.int .i64 X.turn, .int .i64 X.next, .int .i64 X.wide, .int .i64 X.high, .slice p1 X.gs.length q1, .slice p2 X.os.length q2, .slice p3 X.gold.length q3, .slice p4 X.us.length q4, .slice p5 X.qs.length q5] 29)).alloc (Obj.cells #[.int .i64 p] 3)).alloc (Obj.cells #[.int .i64 (c : Nat)] 3))) := ((((Below.refl _ _).alloc (Nat.le_refl _) _).alloc (by simp) _).alloc (by simp; omega) _).alloc (by simp; omega) _
  have K0 : Hid (((((w.alloc (Obj.cells #[.slice pk ks.length qk] 22)).alloc (Obj.cells #[.int .i64 X.turn, .int .i64 X.next, .int .i64 X.wide, .int .i64 X.high, .slice p1 X.gs.length q1, .slice p2 X.os.length q2, .slice p3 X.gold.length q3, .slice p4 X.us.length q4, .slice p5 X.qs.length q5] 29)).alloc (Obj.cells #[.int .i64 p] 3)).alloc (Obj.cells #[.int .i64 (c : Nat)] 3)).cell? ⟨w.heap.size, 0, none⟩ = some (.slice pk ks.length qk) ∧ ((((w.alloc (Obj.cells #[.slice pk ks.length qk] 22)).alloc (Obj.cells #[.int .i64 X.turn, .int .i64 X.next, .int .i64 X.wide, .int .i64 X.high, .slice p1 X.gs.length q1, .slice p2 X.os.length q2, .slice p3 X.gold.length q3, .slice p4 X.us.length q4, .slice p5 X.qs.length q5] 29)).alloc (Obj.cells #[.int .i64 p] 3)).alloc (Obj.cells #[.int .i64 (c : Nat)] 3)).cell? ⟨w.heap.size + 1 + 1, 0, none⟩ = some (.int .i64 p) ∧ ((((w.alloc (Obj.cells #[.slice pk ks.length qk] 22)).alloc (Obj.cells #[.int .i64 X.turn, .int .i64 X.next, .int .i64 X.wide, .int .i64 X.high, .slice p1 X.gs.length q1, .slice p2 X.os.length q2, .slice p3 X.gold.length q3, .slice p4 X.us.length q4, .slice p5 X.qs.length q5] 29)).alloc (Obj.cells #[.int .i64 p] 3)).alloc (Obj.cells #[.int .i64 (c : Nat)] 3)).cell? ⟨w.heap.size + 1 + 1 + 1, 0, none⟩ = some (.int .i64 (c : Nat))) := by
    refine ⟨?_, ?_, ?_⟩
    · rw [cell_alloc (p := ⟨w.heap.size, 0, none⟩) (by simp; omega), cell_alloc (p := ⟨w.heap.size, 0, none⟩) (by simp; omega), cell_alloc (p := ⟨w.heap.size, 0, none⟩) (by simp)]
      simp
    · rw [cell_alloc (p := ⟨w.heap.size + 1 + 1, 0, none⟩) (by simp)]
      exact cell_new1 _ _ (by simp)
    · exact cell_new1 _ _ (by simp)
  have X0 : Hid (Bw ((((w.alloc (Obj.cells #[.slice pk ks.length qk] 22)).alloc (Obj.cells #[.int .i64 X.turn, .int .i64 X.next, .int .i64 X.wide, .int .i64 X.high, .slice p1 X.gs.length q1, .slice p2 X.os.length q2, .slice p3 X.gold.length q3, .slice p4 X.us.length q4, .slice p5 X.qs.length q5] 29)).alloc (Obj.cells #[.int .i64 p] 3)).alloc (Obj.cells #[.int .i64 (c : Nat)] 3)) (w.heap.size + 1) X (.slice p1 X.gs.length q1) (.slice p2 X.os.length q2) (.slice p3 X.gold.length q3) (.slice p4 X.us.length q4) (.slice p5 X.qs.length q5)) := ((Bw.mk' X _ _ _ _ _ (by simp)).below ((Below.refl _ _).alloc (Nat.le_refl _) _) (by simp)).below ((Below.refl _ _).alloc (Nat.le_refl _) _) (by simp)
  go_enter Tryz.func93, Tryz.ntmps93
  go_upto_region 1 with fail
  generalize ((((w.alloc (Obj.cells #[.slice pk ks.length qk] 22)).alloc (Obj.cells #[.int .i64 X.turn, .int .i64 X.next, .int .i64 X.wide, .int .i64 X.high, .slice p1 X.gs.length q1, .slice p2 X.os.length q2, .slice p3 X.gold.length q3, .slice p4 X.us.length q4, .slice p5 X.qs.length q5] 29)).alloc (Obj.cells #[.int .i64 p] 3)).alloc (Obj.cells #[.int .i64 (c : Nat)] 3)) = w0 at *
  obtain ⟨x0, x1, x2, x3, x4, x5, x6, x7, x8⟩ := X0.out
  go_wp2_with fail
  refine (hasm_any 133 (by intro args w; go_simp) _ #[.pointer (some ⟨w.heap.size + 1 + 1, 0, none⟩), .pointer (some ⟨w.heap.size + 1, 0, none⟩), .pointer (some ⟨w.heap.size, 0, none⟩), .pointer (some ⟨w.heap.size + 1 + 1 + 1, 0, none⟩)] X.us (seeU ks Wn X.gs p c) w0 (XL.out.below B0.out).slices.2.2.2.1 (fun V hV u hu => see_fg ks X u p Wn c _ _ _ _ _ _ _ _ _ _ V HR.out.1 HR.out.2.1 HR.out.2.2 hu (K.out.below (B0.out.trans (hV.mono B0.out.size))) (XL.out.below (B0.out.trans (hV.mono B0.out.size))) (X0.out.below hV X0.out.lt) (by rw [hV.cell (p := ⟨w.heap.size + 1 + 1, 0, none⟩) (cell_lt K0.out.2.1)]; exact K0.out.2.1) (by rw [hV.cell (p := ⟨w.heap.size, 0, none⟩) (cell_lt K0.out.1)]; exact K0.out.1) (by rw [hV.cell (p := ⟨w.heap.size + 1 + 1 + 1, 0, none⟩) (cell_lt K0.out.2.2)]; exact K0.out.2.2))).mono ?_
  rintro e w1 ⟨rfl, hb⟩
  have B1 : Hid (Below w.heap.size w w1) := B0.out.trans (hb.mono B0.out.size)
  obtain ⟨t, ht⟩ : ∃ t, X.us.any (seeU ks Wn X.gs p c) = t := ⟨_, rfl⟩
  have ST : Hid (seesP ks Wn X.gs X.us p c = t) := ht
  rw [ht]
  clear hb ht x0 x1 x2 x3 x4 x5 x6 x7 x8
  go_wp2
  go_ret
  exact ⟨by rw [ST.out]; rfl, B1.out⟩
end Go.Proofs.YtoabhfipikkkeaaGreatDoor

namespace Go.Proofs.YtoabhfipikkkeaaGreatDoor
open Go.RowKit
set_option linter.unusedVariables false

/-- v is a slice of the bools xs. -/
def Bbl (w : World) (v : Value) (xs : List Bool) : Prop := ∃ (a : Option Addr) (c : Nat), v = .slice a xs.length c ∧ xs.length ≤ c ∧ c ≤ 9223372036854775807 ∧ (xs ≠ [] → ∃ x, a = some x ∧ x.block < w.heap.size ∧ ∀ i d, xs[i]? = some d → w.cell? (x.add i) = some (.bool d))
theorem Bbl.below {w w' : World} {v : Value} {xs : List Bool} (h : Bbl w v xs) (hb : Below w.heap.size w w') : Bbl w' v xs := by
  obtain ⟨a, c, h1, h2, h3, h4⟩ := h
  refine ⟨a, c, h1, h2, h3, fun hx => ?_⟩
  obtain ⟨x, ha, hl, hc⟩ := h4 hx
  refine ⟨x, ha, Nat.lt_of_lt_of_le hl hb.size, fun i d hd => ?_⟩
  rw [hb.cell (p := x.add i) (by rw [add_block]; exact hl)]
  exact hc i d hd
theorem Bbl.nil (w : World) : Bbl w (.slice none 0 0) [] := ⟨none, 0, rfl, Nat.le_refl _, by omega, fun h => absurd rfl h⟩
theorem Bbl.len {w : World} {v : Value} {xs : List Bool} (h : Bbl w v xs) : ∃ a c, v = .slice a xs.length c := by
  obtain ⟨a, c, h, -⟩ := h
  exact ⟨a, c, h⟩
def boolCells (ds : List Bool) : List Value := ds.map fun d => .bool d
/-- block b holds the bools ds. -/
def Bb (w : World) (b : Nat) (ds : List Bool) : Prop := w.heap[b]? = some (.cells (boolCells ds).toArray 4 (0, 0))
theorem Bb.cell {w : World} {b : Nat} {ds : List Bool} (h : Bb w b ds) {i : Nat} {d : Bool} (hd : ds[i]? = some d) : w.cell? ⟨b, i, none⟩ = some (.bool d) := by
  have hi : i < ds.length := (List.getElem?_eq_some_iff.1 hd).1
  unfold Bb at h
  simp only [World.cell?, h]
  simp [boolCells, hi]
  exact (List.getElem?_eq_some_iff.1 hd).2
theorem Bb.thaw {w : World} {b : Nat} {ds : List Bool} (h : Bb w b ds) (i : Nat) : w.frozen? ⟨b, i, none⟩ = false := by
  unfold Bb at h
  simp [World.frozen?, h]
theorem Bb.set {w : World} {b : Nat} {ds : List Bool} (h : Bb w b ds) (i : Nat) (d : Bool) : Bb (w.setCell ⟨b, i, none⟩ (.bool d)) b (ds.set i d) := by
  unfold Bb at *
  rw [heap_setCell_same w b i _ _ _ h]
  have e : (boolCells (ds.set i d)).toArray = (boolCells ds).toArray.setIfInBounds i (.bool d) := by
    simp [boolCells, List.map_set]
  rw [e]
theorem Bb.lt {w : World} {b : Nat} {ds : List Bool} (h : Bb w b ds) : b < w.heap.size := lt_of_block h
theorem Bb.low {w w' : World} {b B : Nat} {ds : List Bool} (h : Bb w b ds) (hb : Below B w w') (hB : b < B) : Bb w' b ds := by
  unfold Bb at *
  rw [hb.block b hB]; exact h
theorem Bb.bl {w : World} {b c : Nat} {ds : List Bool} (h : Bb w b ds) (h1 : ds.length ≤ c) (h2 : c ≤ 9223372036854775807) : Bbl w (.slice (some ⟨b, 0, none⟩) ds.length c) ds :=
  ⟨_, c, rfl, h1, h2, fun _ => ⟨_, rfl, h.lt, fun i d hd => by rw [Addr.add_lit, Nat.zero_add]; exact h.cell hd⟩⟩
theorem info_bool : (Tryz.prog.info? 4).map (fun i => (i.zero, i.size, i.bytes)) = some (some (.bool false), 1, 1) := by kernel_rfl
theorem made_bools (n : Nat) : madeCells #[Value.bool false] n = (boolCells (List.replicate n false)).toArray := by
  apply Array.ext_getElem?
  intro i
  unfold madeCells boolCells
  by_cases h : i < n
  · simp [h, Nat.mod_one]
  · simp [h]
theorem makeB (n : Nat) (w : World) (h : n ≤ 1000000) : ∃ w', (Instr.makeSlice 88 (.int .i64 (n : Nat)) (.int .i64 (n : Nat))).run Tryz.prog w = .ok (.slice (some ⟨w.heap.size, 0, none⟩) n n) w' ∧ Bb w' w.heap.size (List.replicate n false) ∧ Below w.heap.size w w' ∧ w'.heap.size = w.heap.size + 1 := by
  obtain ⟨i0, hi, hz0, hz1, hz2⟩ := info_parts info_bool
  have hr := run_make (P := Tryz.prog) w 88 4 i0 (.bool false) Tryz.underlying88 hi hz0 .i64 .i64 (n : Nat) (n : Nat) (by omega) (Int.le_refl _) (by rw [hz2]; omega) (by omega)
  refine ⟨_, hr, ?_, (Below.refl _ _).alloc (Nat.le_refl _) _, by simp⟩
  unfold Bb
  rw [hz1, Int.toNat_natCast, Nat.mul_one, heap_alloc_new]
  have e : (Value.bool false).cells = #[Value.bool false] := rfl
  rw [e, made_bools]
end Go.Proofs.YtoabhfipikkkeaaGreatDoor

namespace Go.Proofs.YtoabhfipikkkeaaGreatDoor
open Go.RowKit
set_option linter.unusedVariables false

/-- what is wrong with a world, or a player of it. -/
def pfault (ks : List KV) (X : WV) (p : Int) : Int := if Wd.wfault ks X = 0 then (if 0 ≤ p ∧ p < (X.gold.length : Int) then 0 else 1) else Wd.wfault ks X
/-- what is wrong with a world, or a cell of it. -/
def cfault (ks : List KV) (X : WV) (c : Int) : Int := if Wd.wfault ks X = 0 then (if 0 ≤ c ∧ c < (X.gs.length : Int) then 0 else 6) else Wd.wfault ks X
theorem pfault_zero {ks : List KV} {X : WV} {p : Int} (h : pfault ks X p = 0) : Wd.wfault ks X = 0 ∧ 0 ≤ p ∧ p < (X.gold.length : Int) := by
  unfold pfault at h
  split at h
  · rename_i h1
    split at h
    · rename_i h2; exact ⟨h1, h2⟩
    · cases h
  · rename_i h1; exact absurd h h1
theorem cfault_zero {ks : List KV} {X : WV} {c : Int} (h : cfault ks X c = 0) : Wd.wfault ks X = 0 ∧ 0 ≤ c ∧ c < (X.gs.length : Int) := by
  unfold cfault at h
  split at h
  · rename_i h1
    split at h
    · rename_i h2; exact ⟨h1, h2⟩
    · cases h
  · rename_i h1; exact absurd h h1
/-- what is seen of the first cells. -/
def seenUp (ks : List KV) (W : Nat) (X : WV) (p : Int) (n : Nat) : List Bool := (List.range X.gs.length).map (fun i => decide (i < n) && seesP ks W X.gs X.us p i)
theorem seenUp_len (ks : List KV) (W : Nat) (X : WV) (p : Int) (n : Nat) : (seenUp ks W X p n).length = X.gs.length := by unfold seenUp; simp
theorem seenUp_zero (ks : List KV) (W : Nat) (X : WV) (p : Int) : seenUp ks W X p 0 = List.replicate X.gs.length false := by
  unfold seenUp
  apply List.ext_getElem
  · simp
  · intro i h1 h2
    simp
theorem seenUp_all (ks : List KV) (W : Nat) (X : WV) (p : Int) : seenUp ks W X p X.gs.length = seenL ks W X p := by
  unfold seenUp seenL
  apply List.map_congr_left
  intro i hi
  simp [List.mem_range.1 hi]
theorem seenUp_next (ks : List KV) (W : Nat) (X : WV) (p : Int) (n : Nat) : seenUp ks W X p (n + 1) = (seenUp ks W X p n).set n (seesP ks W X.gs X.us p n) := by
  unfold seenUp
  apply List.ext_getElem
  · simp
  · intro i h1 h2
    rw [List.getElem_set]
    simp only [List.getElem_map, List.getElem_range]
    by_cases e : n = i
    · subst e; simp
    · rw [if_neg e]
      have : decide (i < n + 1) = decide (i < n) := decide_eq_decide.2 (by omega)
      rw [this]

set_option maxRecDepth 100000 in
set_option maxHeartbeats 4000000 in
theorem checkPlayer_any (vk vw : Value) (ks : List KV) (X : WV) (p : Int) (w : World) (hk : Kl w vk ks) (hb : ∀ k ∈ ks, k.b.size ≤ 9223372036854775807) (hw : Wl w vw X) :
    Calls Tryz.prog 37 #[vk, vw, .int .i64 p] w fun e w' => ∃ r, e = .returned r ∧ Er r (pfault ks X p) ∧ Below w.heap.size w w' := by
  have K : Hid (Kl w vk ks ∧ ∀ k ∈ ks, k.b.size ≤ 9223372036854775807) := ⟨hk, hb⟩
  have H : Hid (Wl w vw X) := hw
  obtain ⟨p1, q1, p2, q2, p3, q3, p4, q4, p5, q5, rfl⟩ := wl_shape9 hw
  obtain ⟨pk, qk, rfl, -⟩ := hk
  clear hb hw
  have B0 : Hid (Below w.heap.size w (w.alloc (Obj.cells #[.int .i64 X.turn, .int .i64 X.next, .int .i64 X.wide, .int .i64 X.high, .slice p1 X.gs.length q1, .slice p2 X.os.length q2, .slice p3 X.gold.length q3, .slice p4 X.us.length q4, .slice p5 X.qs.length q5] 29))) := (Below.refl _ _).alloc (Nat.le_refl _) _
  have X0 : Hid (Bw (w.alloc (Obj.cells #[.int .i64 X.turn, .int .i64 X.next, .int .i64 X.wide, .int .i64 X.high, .slice p1 X.gs.length q1, .slice p2 X.os.length q2, .slice p3 X.gold.length q3, .slice p4 X.us.length q4, .slice p5 X.qs.length q5] 29)) w.heap.size X (.slice p1 X.gs.length q1) (.slice p2 X.os.length q2) (.slice p3 X.gold.length q3) (.slice p4 X.us.length q4) (.slice p5 X.qs.length q5)) := Bw.mk' X _ _ _ _ _ rfl
  go_enter Tryz.func37, Tryz.ntmps37
  go_upto_region 1 with fail
  generalize (w.alloc (Obj.cells #[.int .i64 X.turn, .int .i64 X.next, .int .i64 X.wide, .int .i64 X.high, .slice p1 X.gs.length q1, .slice p2 X.os.length q2, .slice p3 X.gold.length q3, .slice p4 X.us.length q4, .slice p5 X.qs.length q5] 29)) = w0 at *
  obtain ⟨x0, x1, x2, x3, x4, x5, x6, x7, x8⟩ := X0.out
  go_wp2_with fail
  refine (wcheck_any _ _ ks X w0 (K.out.1.below B0.out) K.out.2 (H.out.below B0.out)).mono ?_
  rintro e w1 ⟨r, rfl, hr, hb⟩
  obtain ⟨fw, hfw⟩ : ∃ f, Wd.wfault ks X = f := ⟨_, rfl⟩
  have FW : Hid (Wd.wfault ks X = fw) := hfw
  rw [hfw] at hr
  have B1 : Hid (Below w.heap.size w w1) := B0.out.trans (hb.mono B0.out.size)
  have X1 : Hid (Bw w1 w.heap.size X (.slice p1 X.gs.length q1) (.slice p2 X.os.length q2) (.slice p3 X.gold.length q3) (.slice p4 X.us.length q4) (.slice p5 X.qs.length q5)) := X0.out.below hb X0.out.lt
  clear hb hfw x0 x1 x2 x3 x4 x5 x6 x7 x8 X0 B0
  rcases hr with ⟨rfl, rfl⟩ | ⟨hf, rfl⟩
  case inr =>
    have HF : Hid (fw ≠ 0) := hf
    clear hf
    have PF : Hid (pfault ks X p = fw) := by unfold Hid pfault; rw [FW.out, if_neg HF.out]
    go_wp2
    go_ret
    exact ⟨_, rfl, by rw [PF.out]; exact Er.no HF.out, B1.out⟩
  obtain ⟨x0, x1, x2, x3, x4, x5, x6, x7, x8⟩ := X1.out
  by_cases hi0 : p < 0
  · have PF : Hid (pfault ks X p = 1) := by unfold Hid pfault; rw [FW.out, if_pos rfl, if_neg (by omega)]
    go_wp2
    go_ret
    exact ⟨_, rfl, by rw [PF.out]; exact Er.no (by decide), B1.out⟩
  by_cases hi1 : (X.gold.length : Int) ≤ p
  · have PF : Hid (pfault ks X p = 1) := by unfold Hid pfault; rw [FW.out, if_pos rfl, if_neg (by omega)]
    go_wp2
    go_ret
    exact ⟨_, rfl, by rw [PF.out]; exact Er.no (by decide), B1.out⟩
  have PF : Hid (pfault ks X p = 0) := by unfold Hid pfault; rw [FW.out, if_pos rfl, if_pos (by omega)]
  go_wp2
  go_ret
  exact ⟨_, rfl, by rw [PF.out]; exact Er.nil, B1.out⟩

set_option maxRecDepth 100000 in
set_option maxHeartbeats 4000000 in
theorem seen_any (vk vw : Value) (ks : List KV) (X : WV) (p : Int) (Wn : Nat) (w : World) (WR : WRight ks X) (hww : X.wide = (Wn : Nat)) (hk : Kl w vk ks) (hb : ∀ k ∈ ks, k.b.size ≤ 9223372036854775807) (hw : Wl w vw X) :
    Calls Tryz.prog 39 #[vk, vw, .int .i64 p] w fun e w' => ∃ b, e = .returned (.slice (some ⟨b, 0, none⟩) X.gs.length X.gs.length) ∧ Bb w' b (seenL ks Wn X p) ∧ w.heap.size < b ∧ Below w.heap.size w w' := by
  have HR : Hid (WRight ks X ∧ X.wide = (Wn : Nat)) := ⟨WR, hww⟩
  have GL : X.gs.length ≤ 144 := by obtain ⟨_, _, -, -, G⟩ := WR.good; rw [G.gl]; exact G.pos.2
  clear WR hww
  have K : Hid (Kl w vk ks ∧ ∀ k ∈ ks, k.b.size ≤ 9223372036854775807) := ⟨hk, hb⟩
  have H : Hid (Wl w vw X) := hw
  obtain ⟨p1, q1, p2, q2, p3, q3, p4, q4, p5, q5, rfl⟩ := wl_shape9 hw
  obtain ⟨pk, qk, rfl, -⟩ := hk
  clear hb hw
  have B0 : Hid (Below w.heap.size w (w.alloc (Obj.cells #[.int .i64 X.turn, .int .i64 X.next, .int .i64 X.wide, .int .i64 X.high, .slice p1 X.gs.length q1, .slice p2 X.os.length q2, .slice p3 X.gold.length q3, .slice p4 X.us.length q4, .slice p5 X.qs.length q5] 29))) := (Below.refl _ _).alloc (Nat.le_refl _) _
  have X0 : Hid (Bw (w.alloc (Obj.cells #[.int .i64 X.turn, .int .i64 X.next, .int .i64 X.wide, .int .i64 X.high, .slice p1 X.gs.length q1, .slice p2 X.os.length q2, .slice p3 X.gold.length q3, .slice p4 X.us.length q4, .slice p5 X.qs.length q5] 29)) w.heap.size X (.slice p1 X.gs.length q1) (.slice p2 X.os.length q2) (.slice p3 X.gold.length q3) (.slice p4 X.us.length q4) (.slice p5 X.qs.length q5)) := Bw.mk' X _ _ _ _ _ rfl
  go_enter Tryz.func39, Tryz.ntmps39
  go_upto_region 1 with fail
  generalize (w.alloc (Obj.cells #[.int .i64 X.turn, .int .i64 X.next, .int .i64 X.wide, .int .i64 X.high, .slice p1 X.gs.length q1, .slice p2 X.os.length q2, .slice p3 X.gold.length q3, .slice p4 X.us.length q4, .slice p5 X.qs.length q5] 29)) = w0 at *
  have x4 := X0.out.c4
  obtain ⟨w1, hmk, hbk, hb1, hs1⟩ := makeB X.gs.length w0 (by omega)
  go_upto_region 2 with fail
  have BK : Hid (Bb w1 w0.heap.size (seenUp ks Wn X p 0)) := by unfold Hid; rw [seenUp_zero]; exact hbk
  have B1 : Hid (Below w.heap.size w w1) := B0.out.trans (hb1.mono B0.out.size)
  have X1 : Hid (Bw w1 w.heap.size X (.slice p1 X.gs.length q1) (.slice p2 X.os.length q2) (.slice p3 X.gold.length q3) (.slice p4 X.us.length q4) (.slice p5 X.qs.length q5)) := X0.out.below hb1 X0.out.lt
  obtain ⟨lb, hlb⟩ : ∃ z, w0.heap.size = z := ⟨_, rfl⟩
  have LB : Hid (w.heap.size < lb) := by unfold Hid; rw [← hlb]; exact X0.out.lt
  rw [hlb] at BK ⊢
  clear hmk hbk hb1 hs1 x4 hlb B0 X0
  go_wp2_with fail
  go_loopw [16] (fun i V => ∃ n : Nat, i = .int .i64 (n : Nat) ∧ n ≤ X.gs.length ∧ Bb V lb (seenUp ks Wn X p n) ∧ Bw V w.heap.size X (.slice p1 X.gs.length q1) (.slice p2 X.os.length q2) (.slice p3 X.gold.length q3) (.slice p4 X.us.length q4) (.slice p5 X.qs.length q5) ∧ Below w.heap.size w V) (fun i _ => X.gs.length - (intOf i).toNat)
  case atStart => exact ⟨0, rfl, Nat.zero_le _, BK.out, X1.out, B1.out⟩
  case round =>
    obtain ⟨n, rfl, hn, hbb, hx, hb⟩ := hrel
    clear BK X1 B1
    have BK : Hid (Bb wr lb (seenUp ks Wn X p n)) := hbb
    have X1 : Hid (Bw wr w.heap.size X (.slice p1 X.gs.length q1) (.slice p2 X.os.length q2) (.slice p3 X.gold.length q3) (.slice p4 X.us.length q4) (.slice p5 X.qs.length q5)) := hx
    have B1 : Hid (Below w.heap.size w wr) := hb
    clear hbb hx hb
    by_cases h0 : n = X.gs.length
    · subst h0
      go_wp2
      go_ret
      exact ⟨lb, rfl, by have := BK.out; rw [seenUp_all] at this; exact this, LB.out, B1.out⟩
    · have hnl : n < X.gs.length := by omega
      have hni : ((n : Nat) : Int) < (X.gs.length : Nat) := by omega
      have hnl2 : Hid (n < X.gs.length) := hnl
      have WN : IntKind.i64.wrap ((n : Nat) + 1 : Int) = ((n : Nat) : Int) + 1 := by rw [IntKind.wrap_i64]; omega
      obtain ⟨x0, x1, x2, x3, x4, x5, x6, x7, x8⟩ := X1.out
      go_wp2_with fail
      refine (doesSee_any _ _ ks X p Wn n wr HR.out.1 HR.out.2 hnl2.out (K.out.1.below B1.out) (H.out.below B1.out)).mono ?_
      rintro e w2 ⟨rfl, hb⟩
      have B2 : Hid (Below w.heap.size w w2) := B1.out.trans (hb.mono B1.out.size)
      have X2 : Hid (Bw w2 w.heap.size X (.slice p1 X.gs.length q1) (.slice p2 X.os.length q2) (.slice p3 X.gold.length q3) (.slice p4 X.us.length q4) (.slice p5 X.qs.length q5)) := X1.out.below hb X1.out.lt
      have BK2 : Hid (Bb w2 lb (seenUp ks Wn X p n)) := BK.out.low hb BK.out.lt
      obtain ⟨t, ht⟩ : ∃ t, seesP ks Wn X.gs X.us p n = t := ⟨_, rfl⟩
      have NX : Hid (seenUp ks Wn X p (n + 1) = (seenUp ks Wn X p n).set n t) := by unfold Hid; rw [seenUp_next, ht]
      obtain ⟨y, hy⟩ : ∃ y, (seenUp ks Wn X p n)[n]? = some y := ⟨_, List.getElem?_eq_getElem (by rw [seenUp_len]; exact hnl2.out)⟩
      have cy := BK2.out.cell hy
      have ty := BK2.out.thaw n
      rw [ht]
      clear hb ht hy x0 x1 x2 x3 x4 x5 x6 x7 x8 BK B1 X1
      have K3 : Hid (Kp lb w2 (w2.setCell ⟨lb, n, none⟩ (.bool t))) := Kp.set _ _ _
      have BK3 : Hid (Bb (w2.setCell ⟨lb, n, none⟩ (.bool t)) lb ((seenUp ks Wn X p n).set n t)) := BK2.out.set n t
      go_wp2
      generalize (w2.setCell ⟨lb, n, none⟩ (.bool t)) = w3 at *
      go_round
      case rel => exact ⟨n + 1, by go_num, by have := hnl2.out; omega, by rw [NX.out]; exact BK3.out, X2.out.kp9 K3.out (by have := LB.out; omega), K3.out.below B2.out B2.out.size (by have := LB.out; omega)⟩
      case measure => simp [intOf]; omega
/-- what Seen tells. -/
def SeenSays (ks : List KV) (X : WV) (p : Int) (w' : World) (v : Value) : Prop :=
  (pfault ks X p ≠ 0 ∧ v = .slice none 0 0) ∨ (pfault ks X p = 0 ∧ ∃ Wn : Nat, X.wide = (Wn : Nat) ∧ Bbl w' v (seenL ks Wn X p))
/-- what Seers tells. -/
def SeersSays (ks : List KV) (X : WV) (c : Int) (w' : World) (v : Value) : Prop :=
  (cfault ks X c ≠ 0 ∧ v = .slice none 0 0) ∨ (cfault ks X c = 0 ∧ ∃ Wn : Nat, X.wide = (Wn : Nat) ∧ Ro w' v (seersL ks Wn X c.toNat))
end Go.Proofs.YtoabhfipikkkeaaGreatDoor

namespace Go.Proofs.YtoabhfipikkkeaaGreatDoor
open Go.RowKit
set_option linter.unusedVariables false

/-- View's boxes: the player, the answer; and what was there. -/
def Rs (w : World) (p : Int) (V : World) : Prop := V.cell? ⟨w.heap.size + 1, 0, none⟩ = some (.int .i64 p) ∧ Wx V (w.heap.size + 1 + 1) (.int .i64 0) (.int .i64 0) (.int .i64 0) (.int .i64 0) (.slice none 0 0) (.slice none 0 0) (.slice none 0 0) (.slice none 0 0) (.slice none 0 0) ∧ Below w.heap.size w V
theorem Rs.gb {w V V' : World} {p : Int} {r : Option Nat} (h : Rs w p V) (k : V.grownBy V' r) (hr : ∀ b, r = some b → b = w.heap.size ∨ w.heap.size + 1 + 1 < b) : Rs w p V' := by
  obtain ⟨h1, h2, h3⟩ := h
  refine ⟨cell_gb h1 k (fun e => by have := hr _ e; simp at this; omega), (k.block _ h2.lt (fun e => by have := hr _ e.symm; omega)).trans h2, ?_⟩
  exact ⟨k.os.trans h3.os, k.tape.trans h3.tape, k.output.trans h3.output, Nat.le_trans h3.size k.size, fun i hi => (k.block i (Nat.lt_of_lt_of_le hi h3.size) (fun e => by have := hr _ e.symm; omega)).trans (h3.block i hi)⟩
/-- the bools, and the box of their slice. -/
def Bsg (V : World) (bb b9 n : Nat) (ds : List Bool) : Prop := Bb V bb ds ∧ V.cell? ⟨b9, 0, none⟩ = some (.slice (some ⟨bb, 0, none⟩) n n) ∧ b9 < V.heap.size
theorem Bsg.gb {V V' : World} {bb b9 n : Nat} {ds : List Bool} {r : Option Nat} (h : Bsg V bb b9 n ds) (k : V.grownBy V' r) (h1 : r ≠ some bb) (h2 : r ≠ some b9) : Bsg V' bb b9 n ds :=
  ⟨(k.block _ h.1.lt (Ne.symm h1)).trans h.1, cell_gb h.2.1 k h2, Nat.lt_of_lt_of_le h.2.2 k.size⟩
theorem Wx.gb {w w' : World} {z : Nat} {c0 c1 c2 c3 c4 c5 c6 c7 c8 : Value} {r : Option Nat} (h : Wx w z c0 c1 c2 c3 c4 c5 c6 c7 c8) (k : w.grownBy w' r) (hn : r ≠ some z) : Wx w' z c0 c1 c2 c3 c4 c5 c6 c7 c8 := (k.block z h.lt (Ne.symm hn)).trans h

set_option maxRecDepth 100000 in
set_option maxHeartbeats 2000000 in
theorem hid_fg (ks : List KV) (X : WV) (u : UnV) (p : Int) (Wn an n bp bc bb : Nat) (w : World) (ha : u.at_ = (an : Nat)) (hn : an < n)
    (c1 : w.cell? ⟨bp, 0, none⟩ = some (.int .i64 p)) (c2 : w.cell? ⟨bc, 0, none⟩ = some (.slice (some ⟨bb, 0, none⟩) n n)) (c3 : w.cell? ⟨bb, an, none⟩ = some (.bool (seesP ks Wn X.gs X.us p an))) :
    Calls Tryz.prog 41 (#[u.val] ++ #[.pointer (some ⟨bp, 0, none⟩), .pointer (some ⟨bc, 0, none⟩)]) w fun e w' => e = .returned (.bool (hidU ks Wn X p u)) ∧ Below w.heap.size w w' := by
  have HU : Hid (hidU ks Wn X p u = (!(u.player == p) && !seesP ks Wn X.gs X.us p an)) := by unfold Hid hidU; rw [ha, Int.toNat_natCast]
  have B0 : Hid (Below w.heap.size w (w.alloc (Obj.cells #[.int .i64 u.id, .int .i64 u.player, .int .i64 u.kind, .int .i64 u.at_, .int .i64 u.life, .int .i64 u.load, .int .i64 u.task, .int .i64 u.goal] 63))) := (Below.refl _ _).alloc (Nat.le_refl _) _
  have O0 : Hid (Unc (w.alloc (Obj.cells #[.int .i64 u.id, .int .i64 u.player, .int .i64 u.kind, .int .i64 u.at_, .int .i64 u.life, .int .i64 u.load, .int .i64 u.task, .int .i64 u.goal] 63)) ⟨w.heap.size, 0, none⟩ u) := Unc.mk' u rfl
  have d1 : (w.alloc (Obj.cells #[.int .i64 u.id, .int .i64 u.player, .int .i64 u.kind, .int .i64 u.at_, .int .i64 u.life, .int .i64 u.load, .int .i64 u.task, .int .i64 u.goal] 63)).cell? ⟨bp, 0, none⟩ = some (.int .i64 p) := by rw [B0.out.cell (p := ⟨bp, 0, none⟩) (cell_lt c1)]; exact c1
  have d2 : (w.alloc (Obj.cells #[.int .i64 u.id, .int .i64 u.player, .int .i64 u.kind, .int .i64 u.at_, .int .i64 u.life, .int .i64 u.load, .int .i64 u.task, .int .i64 u.goal] 63)).cell? ⟨bc, 0, none⟩ = some (.slice (some ⟨bb, 0, none⟩) n n) := by rw [B0.out.cell (p := ⟨bc, 0, none⟩) (cell_lt c2)]; exact c2
  have d3 : (w.alloc (Obj.cells #[.int .i64 u.id, .int .i64 u.player, .int .i64 u.kind, .int .i64 u.at_, .int .i64 u.life, .int .i64 u.load, .int .i64 u.task, .int .i64 u.goal] 63)).cell? ⟨bb, an, none⟩ = some (.bool (seesP ks Wn X.gs X.us p an)) := by rw [B0.out.cell (p := ⟨bb, an, none⟩) (cell_lt c3)]; exact c3
  have HE : Hid (u.at_ = (an : Nat)) := ha
  have hni : ((an : Nat) : Int) < (n : Nat) := by omega
  clear c1 c2 c3 ha
  unfold UnV.val
  go_enter Tryz.func41, Tryz.ntmps41
  go_upto_region 1 with fail
  generalize (w.alloc (Obj.cells #[.int .i64 u.id, .int .i64 u.player, .int .i64 u.kind, .int .i64 u.at_, .int .i64 u.life, .int .i64 u.load, .int .i64 u.task, .int .i64 u.goal] 63)) = w0 at *
  obtain ⟨q0, q1, q2, q3, q4, q5, q6, q7⟩ := O0.out
  rw [HE.out] at q3
  obtain ⟨t, ht⟩ : ∃ t, seesP ks Wn X.gs X.us p an = t := ⟨_, rfl⟩
  rw [ht] at d3 HU
  clear ht
  by_cases hp : u.player = p
  · have S1 : Hid (hidU ks Wn X p u = false) := by unfold Hid; rw [HU.out, hp]; simp
    rw [hp] at q1
    go_wp2
    go_ret
    exact ⟨by rw [S1.out]; rfl, B0.out⟩
  · have hp' : (u.player == p) = false := by rw [beq_eq_false_iff_ne]; exact hp
    have S1 : Hid (hidU ks Wn X p u = !t) := by unfold Hid; rw [HU.out, hp']; simp
    have HB : Hid ((u.player != p) = true) := by unfold Hid bne; rw [hp']; rfl
    go_wp2
    go_ret
    exact ⟨by rw [S1.out]; show Ending.returned (.bool (u.player != p && !t)) = _; rw [HB.out]; rfl, B0.out⟩
set_option maxRecDepth 100000 in
set_option maxHeartbeats 2000000 in
theorem not_fg (j : JbV) (p : Int) (bp : Nat) (w : World) (c1 : w.cell? ⟨bp, 0, none⟩ = some (.int .i64 p)) :
    Calls Tryz.prog 43 (#[j.val] ++ #[.pointer (some ⟨bp, 0, none⟩)]) w fun e w' => e = .returned (.bool (notJ p j)) ∧ Below w.heap.size w w' := by
  have B0 : Hid (Below w.heap.size w (w.alloc (Obj.cells #[.int .i64 j.player, .int .i64 j.unit, .int .i64 j.kind, .int .i64 j.left] 94))) := (Below.refl _ _).alloc (Nat.le_refl _) _
  have O0 : Hid (Jbc (w.alloc (Obj.cells #[.int .i64 j.player, .int .i64 j.unit, .int .i64 j.kind, .int .i64 j.left] 94)) ⟨w.heap.size, 0, none⟩ j) := Jbc.mk' j rfl
  have d1 : (w.alloc (Obj.cells #[.int .i64 j.player, .int .i64 j.unit, .int .i64 j.kind, .int .i64 j.left] 94)).cell? ⟨bp, 0, none⟩ = some (.int .i64 p) := by rw [B0.out.cell (p := ⟨bp, 0, none⟩) (cell_lt c1)]; exact c1
  clear c1
  unfold JbV.val
  go_enter Tryz.func43, Tryz.ntmps43
  go_upto_region 1 with fail
  generalize (w.alloc (Obj.cells #[.int .i64 j.player, .int .i64 j.unit, .int .i64 j.kind, .int .i64 j.left] 94)) = w0 at *
  obtain ⟨q0, q1, q2, q3⟩ := O0.out
  by_cases hp : j.player = p
  · have S1 : Hid (notJ p j = false) := by unfold Hid notJ; rw [hp]; simp
    rw [hp] at q0
    go_wp2
    go_ret
    exact ⟨by rw [S1.out]; simp, B0.out⟩
  · have hp' : (j.player == p) = false := by rw [beq_eq_false_iff_ne]; exact hp
    have S1 : Hid (notJ p j = true) := by unfold Hid notJ; rw [hp']; rfl
    have HB : Hid ((j.player != p) = true) := by unfold Hid bne; rw [hp']; rfl
    go_wp2
    go_ret
    exact ⟨by rw [S1.out]; show Ending.returned (.bool (j.player != p)) = _; rw [HB.out], B0.out⟩
end Go.Proofs.YtoabhfipikkkeaaGreatDoor

namespace Go.Proofs.YtoabhfipikkkeaaGreatDoor
open Go.RowKit
set_option linter.unusedVariables false

/-- what View tells. -/
def ViewSays (ks : List KV) (X : WV) (p : Int) (w w' : World) (v : Value) : Prop :=
  (pfault ks X p ≠ 0 ∧ v = .agg #[.int .i64 0, .int .i64 0, .int .i64 0, .int .i64 0, .slice none 0 0, .slice none 0 0, .slice none 0 0, .slice none 0 0, .slice none 0 0]) ∨ (pfault ks X p = 0 ∧ ∃ Wn : Nat, X.wide = (Wn : Nat) ∧ Wo w' w.heap.size v (viewOf ks Wn X p))
set_option maxRecDepth 100000 in
set_option maxHeartbeats 16000000 in
theorem View_any (vk vw : Value) (ks : List KV) (X : WV) (p : Int) (w : World) (hk : Kl w vk ks) (hb : ∀ k ∈ ks, k.b.size ≤ 9223372036854775807) (hw : Wl w vw X) :
    Calls Tryz.prog 8 #[vk, vw, .int .i64 p] w fun e w' => ∃ v r, e = .returned (.tuple #[v, r]) ∧ Er r (pfault ks X p) ∧ ViewSays ks X p w w' v ∧ Below w.heap.size w w' := by
  have K : Hid (Kl w vk ks ∧ ∀ k ∈ ks, k.b.size ≤ 9223372036854775807) := ⟨hk, hb⟩
  have H : Hid (Wl w vw X) := hw
  obtain ⟨p1, q1, p2, q2, p3, q3, p4, q4, p5, q5, rfl⟩ := wl_shape9 hw
  obtain ⟨pk, qk, rfl, -⟩ := hk
  clear hb hw
  go_enter Tryz.func8, Tryz.ntmps8
  go_upto_region 1 with fail
  have R0 : Hid (Rs w p (((w.alloc (Obj.cells #[.int .i64 X.turn, .int .i64 X.next, .int .i64 X.wide, .int .i64 X.high, .slice p1 X.gs.length q1, .slice p2 X.os.length q2, .slice p3 X.gold.length q3, .slice p4 X.us.length q4, .slice p5 X.qs.length q5] 29)).alloc (Obj.cells #[.int .i64 p] 3)).alloc (Obj.cells #[.int .i64 0, .int .i64 0, .int .i64 0, .int .i64 0, .slice none 0 0, .slice none 0 0, .slice none 0 0, .slice none 0 0, .slice none 0 0] 29))) := ⟨by rw [cell_alloc (p := ⟨w.heap.size + 1, 0, none⟩) (by simp)]; exact cell_new1 _ _ (by simp), Wx.new _ _ _ _ _ _ _ _ _ (by simp), (((Below.refl _ _).alloc (Nat.le_refl _) _).alloc (by simp) _).alloc (by simp; omega) _⟩
  have X0 : Hid (Wx (((w.alloc (Obj.cells #[.int .i64 X.turn, .int .i64 X.next, .int .i64 X.wide, .int .i64 X.high, .slice p1 X.gs.length q1, .slice p2 X.os.length q2, .slice p3 X.gold.length q3, .slice p4 X.us.length q4, .slice p5 X.qs.length q5] 29)).alloc (Obj.cells #[.int .i64 p] 3)).alloc (Obj.cells #[.int .i64 0, .int .i64 0, .int .i64 0, .int .i64 0, .slice none 0 0, .slice none 0 0, .slice none 0 0, .slice none 0 0, .slice none 0 0] 29)) w.heap.size (.int .i64 X.turn) (.int .i64 X.next) (.int .i64 X.wide) (.int .i64 X.high) (.slice p1 X.gs.length q1) (.slice p2 X.os.length q2) (.slice p3 X.gold.length q3) (.slice p4 X.us.length q4) (.slice p5 X.qs.length q5)) := ((Wx.new _ _ _ _ _ _ _ _ _ rfl).below ((Below.refl _ _).alloc (Nat.le_refl _) _) (by simp)).below ((Below.refl _ _).alloc (Nat.le_refl _) _) (by simp; omega)
  generalize (((w.alloc (Obj.cells #[.int .i64 X.turn, .int .i64 X.next, .int .i64 X.wide, .int .i64 X.high, .slice p1 X.gs.length q1, .slice p2 X.os.length q2, .slice p3 X.gold.length q3, .slice p4 X.us.length q4, .slice p5 X.qs.length q5] 29)).alloc (Obj.cells #[.int .i64 p] 3)).alloc (Obj.cells #[.int .i64 0, .int .i64 0, .int .i64 0, .int .i64 0, .slice none 0 0, .slice none 0 0, .slice none 0 0, .slice none 0 0, .slice none 0 0] 29)) = w0 at *
  obtain ⟨x0, x1, x2, x3, x4, x5, x6, x7, x8⟩ := X0.out.cells
  have pp := R0.out.1
  go_wp2_with fail
  refine (checkPlayer_any _ _ ks X p w0 (K.out.1.below R0.out.2.2) K.out.2 (H.out.below R0.out.2.2)).mono ?_
  rintro e w1 ⟨r, rfl, hr, hb⟩
  obtain ⟨fw, hfw⟩ : ∃ f, pfault ks X p = f := ⟨_, rfl⟩
  have FW : Hid (pfault ks X p = fw) := hfw
  rw [hfw] at hr
  have R1 : Hid (Rs w p w1) := R0.out.gb (r := none) (gb_below hb) (by simp)
  have X1 : Hid (Wx w1 w.heap.size (.int .i64 X.turn) (.int .i64 X.next) (.int .i64 X.wide) (.int .i64 X.high) (.slice p1 X.gs.length q1) (.slice p2 X.os.length q2) (.slice p3 X.gold.length q3) (.slice p4 X.us.length q4) (.slice p5 X.qs.length q5)) := X0.out.below hb X0.out.lt
  clear hb hfw x0 x1 x2 x3 x4 x5 x6 x7 x8 pp X0 R0
  rcases hr with ⟨rfl, rfl⟩ | ⟨hf, rfl⟩
  case inr =>
    have HF : Hid (fw ≠ 0) := hf
    clear hf
    obtain ⟨z0, z1, z2, z3, z4, z5, z6, z7, z8⟩ := R1.out.2.1.cells
    obtain ⟨t0, t1, t2, t3, t4, t5, t6, t7, t8⟩ := R1.out.2.1.thaws
    have KZ : Hid (Kp (w.heap.size + 1 + 1) w1 (((((((((w1.setCell ⟨w.heap.size + 1 + 1, 0, none⟩ (.int .i64 0)).setCell ⟨w.heap.size + 1 + 1, 1, none⟩ (.int .i64 0)).setCell ⟨w.heap.size + 1 + 1, 2, none⟩ (.int .i64 0)).setCell ⟨w.heap.size + 1 + 1, 3, none⟩ (.int .i64 0)).setCell ⟨w.heap.size + 1 + 1, 4, none⟩ (.slice none 0 0)).setCell ⟨w.heap.size + 1 + 1, 5, none⟩ (.slice none 0 0)).setCell ⟨w.heap.size + 1 + 1, 6, none⟩ (.slice none 0 0)).setCell ⟨w.heap.size + 1 + 1, 7, none⟩ (.slice none 0 0)).setCell ⟨w.heap.size + 1 + 1, 8, none⟩ (.slice none 0 0))) := put_kp _ _ _ _ _ _ _ _ _ _ _
    obtain ⟨y0, y1, y2, y3, y4, y5, y6, y7, y8⟩ := (R1.out.2.1.put (.int .i64 0) (.int .i64 0) (.int .i64 0) (.int .i64 0) (.slice none 0 0) (.slice none 0 0) (.slice none 0 0) (.slice none 0 0) (.slice none 0 0)).cells
    go_wp2
    clear z0 z1 z2 z3 z4 z5 z6 z7 z8 t0 t1 t2 t3 t4 t5 t6 t7 t8
    generalize (((((((((w1.setCell ⟨w.heap.size + 1 + 1, 0, none⟩ (.int .i64 0)).setCell ⟨w.heap.size + 1 + 1, 1, none⟩ (.int .i64 0)).setCell ⟨w.heap.size + 1 + 1, 2, none⟩ (.int .i64 0)).setCell ⟨w.heap.size + 1 + 1, 3, none⟩ (.int .i64 0)).setCell ⟨w.heap.size + 1 + 1, 4, none⟩ (.slice none 0 0)).setCell ⟨w.heap.size + 1 + 1, 5, none⟩ (.slice none 0 0)).setCell ⟨w.heap.size + 1 + 1, 6, none⟩ (.slice none 0 0)).setCell ⟨w.heap.size + 1 + 1, 7, none⟩ (.slice none 0 0)).setCell ⟨w.heap.size + 1 + 1, 8, none⟩ (.slice none 0 0)) = w9 at *
    refine bodyPost_ret (v := .tuple #[.agg #[.int .i64 0, .int .i64 0, .int .i64 0, .int .i64 0, .slice none 0 0, .slice none 0 0, .slice none 0 0, .slice none 0 0, .slice none 0 0], .iface 99 (.int .i64 fw)]) (by simp [results, Tryz.results8, go_sem, y0, y1, y2, y3, y4, y5, y6, y7, y8]) rfl ⟨_, _, rfl, by rw [FW.out]; exact Er.no HF.out, .inl ⟨by rw [FW.out]; exact HF.out, rfl⟩, KZ.out.below R1.out.2.2 R1.out.2.2.size (by omega)⟩
  have WR : Hid (WRight ks X) := wright_of (pfault_zero FW.out).1
  obtain ⟨Wn, Hn, e1, e2, G⟩ := WR.out.good
  have GD : Hid (X.wide = (Wn : Nat) ∧ X.gs.length ≤ 144 ∧ X.os.length = X.gs.length ∧ 0 < X.gs.length ∧ 0 < X.gold.length ∧ X.gold.length ≤ 4) := ⟨e1, by rw [G.gl]; exact G.pos.2, by rw [G.gl, G.ol], by rw [G.gl]; exact G.pos.1, by have := (pfault_zero FW.out).2; omega, by have := (nums_ok WR.out.nums).2; omega⟩
  clear e1 e2 G
  obtain ⟨x0, x1, x2, x3, x4, x5, x6, x7, x8⟩ := X1.out.cells
  go_wp2_with fail
  refine (copy_any _ X w1 (H.out.below R1.out.2.2) WR.out.len).mono ?_
  rintro e w2 ⟨cu, rfl, ⟨k1, k2, k3, k4, k5, rfl, ⟨o1, o2, o3, o4, o5⟩, d12, d13, d14, d15, d23, d24, d25, d34, d35, d45⟩, hb⟩
  obtain ⟨a1, r1, rfl⟩ := o1.len
  obtain ⟨a2, r2, rfl⟩ := o2.len
  obtain ⟨a3, r3, rfl⟩ := o3.len
  obtain ⟨a4, r4, rfl⟩ := o4.len
  obtain ⟨a5, r5, rfl⟩ := o5.len
  obtain ⟨b1, hb1⟩ : ∃ z, w1.heap.size = z := ⟨_, rfl⟩
  rw [hb1] at o1 o2 o3 o4 o5
  have BS : Hid (w.heap.size + 1 + 1 < b1 ∧ b1 ≤ w2.heap.size) := ⟨by rw [← hb1]; exact R1.out.2.1.lt, by rw [← hb1]; exact hb.size⟩
  have X2 : Hid (Wx w2 w.heap.size (.int .i64 X.turn) (.int .i64 X.next) (.int .i64 X.wide) (.int .i64 X.high) (.slice p1 X.gs.length q1) (.slice p2 X.os.length q2) (.slice p3 X.gold.length q3) (.slice p4 X.us.length q4) (.slice p5 X.qs.length q5)) := X1.out.below hb X1.out.lt
  have R2 : Hid (Rs w p w2) := R1.out.gb (r := none) (gb_below hb) (by simp)
  have O2 : Hid (Ow w2 b1 (.slice a1 X.gs.length r1) X.gs ∧ Ow w2 b1 (.slice a2 X.os.length r2) X.os ∧ Ow w2 b1 (.slice a3 X.gold.length r3) X.gold ∧ Uno w2 b1 (.slice a4 X.us.length r4) X.us ∧ Jbo w2 b1 (.slice a5 X.qs.length r5) X.qs) := ⟨o1, o2, o3, o4, o5⟩
  have DD : Hid (Dif (.slice a1 X.gs.length r1) (.slice a2 X.os.length r2) ∧ Dif (.slice a1 X.gs.length r1) (.slice a3 X.gold.length r3) ∧ Dif (.slice a1 X.gs.length r1) (.slice a4 X.us.length r4) ∧ Dif (.slice a1 X.gs.length r1) (.slice a5 X.qs.length r5) ∧ Dif (.slice a2 X.os.length r2) (.slice a3 X.gold.length r3) ∧ Dif (.slice a2 X.os.length r2) (.slice a4 X.us.length r4) ∧ Dif (.slice a2 X.os.length r2) (.slice a5 X.qs.length r5) ∧ Dif (.slice a3 X.gold.length r3) (.slice a4 X.us.length r4) ∧ Dif (.slice a3 X.gold.length r3) (.slice a5 X.qs.length r5) ∧ Dif (.slice a4 X.us.length r4) (.slice a5 X.qs.length r5)) := ⟨d12, d13, d14, d15, d23, d24, d25, d34, d35, d45⟩
  clear hb hb1 x0 x1 x2 x3 x4 x5 x6 x7 x8 o1 o2 o3 o4 o5 d12 d13 d14 d15 d23 d24 d25 d34 d35 d45 X1 R1
  obtain ⟨z0, z1, z2, z3, z4, z5, z6, z7, z8⟩ := X2.out.cells
  obtain ⟨t0, t1, t2, t3, t4, t5, t6, t7, t8⟩ := X2.out.thaws
  have KZ : Hid (Kp w.heap.size w2 (((((((((w2.setCell ⟨w.heap.size, 0, none⟩ (.int .i64 X.turn)).setCell ⟨w.heap.size, 1, none⟩ (.int .i64 X.next)).setCell ⟨w.heap.size, 2, none⟩ (.int .i64 X.wide)).setCell ⟨w.heap.size, 3, none⟩ (.int .i64 X.high)).setCell ⟨w.heap.size, 4, none⟩ (.slice a1 X.gs.length r1)).setCell ⟨w.heap.size, 5, none⟩ (.slice a2 X.os.length r2)).setCell ⟨w.heap.size, 6, none⟩ (.slice a3 X.gold.length r3)).setCell ⟨w.heap.size, 7, none⟩ (.slice a4 X.us.length r4)).setCell ⟨w.heap.size, 8, none⟩ (.slice a5 X.qs.length r5))) := put_kp _ _ _ _ _ _ _ _ _ _ _
  have X3 : Hid (Wx (((((((((w2.setCell ⟨w.heap.size, 0, none⟩ (.int .i64 X.turn)).setCell ⟨w.heap.size, 1, none⟩ (.int .i64 X.next)).setCell ⟨w.heap.size, 2, none⟩ (.int .i64 X.wide)).setCell ⟨w.heap.size, 3, none⟩ (.int .i64 X.high)).setCell ⟨w.heap.size, 4, none⟩ (.slice a1 X.gs.length r1)).setCell ⟨w.heap.size, 5, none⟩ (.slice a2 X.os.length r2)).setCell ⟨w.heap.size, 6, none⟩ (.slice a3 X.gold.length r3)).setCell ⟨w.heap.size, 7, none⟩ (.slice a4 X.us.length r4)).setCell ⟨w.heap.size, 8, none⟩ (.slice a5 X.qs.length r5)) w.heap.size (.int .i64 X.turn) (.int .i64 X.next) (.int .i64 X.wide) (.int .i64 X.high) (.slice a1 X.gs.length r1) (.slice a2 X.os.length r2) (.slice a3 X.gold.length r3) (.slice a4 X.us.length r4) (.slice a5 X.qs.length r5)) := X2.out.put (.int .i64 X.turn) (.int .i64 X.next) (.int .i64 X.wide) (.int .i64 X.high) (.slice a1 X.gs.length r1) (.slice a2 X.os.length r2) (.slice a3 X.gold.length r3) (.slice a4 X.us.length r4) (.slice a5 X.qs.length r5)
  go_upto_region 5 with fail
  clear z0 z1 z2 z3 z4 z5 z6 z7 z8 t0 t1 t2 t3 t4 t5 t6 t7 t8
  generalize (((((((((w2.setCell ⟨w.heap.size, 0, none⟩ (.int .i64 X.turn)).setCell ⟨w.heap.size, 1, none⟩ (.int .i64 X.next)).setCell ⟨w.heap.size, 2, none⟩ (.int .i64 X.wide)).setCell ⟨w.heap.size, 3, none⟩ (.int .i64 X.high)).setCell ⟨w.heap.size, 4, none⟩ (.slice a1 X.gs.length r1)).setCell ⟨w.heap.size, 5, none⟩ (.slice a2 X.os.length r2)).setCell ⟨w.heap.size, 6, none⟩ (.slice a3 X.gold.length r3)).setCell ⟨w.heap.size, 7, none⟩ (.slice a4 X.us.length r4)).setCell ⟨w.heap.size, 8, none⟩ (.slice a5 X.qs.length r5)) = w3 at *
  have R3 : Hid (Rs w p w3) := R2.out.gb (gb_kp KZ.out) (fun b hb => .inl (Option.some.inj hb).symm)
  have O3 : Hid (Ow w3 b1 (.slice a1 X.gs.length r1) X.gs ∧ Ow w3 b1 (.slice a2 X.os.length r2) X.os ∧ Ow w3 b1 (.slice a3 X.gold.length r3) X.gold ∧ Uno w3 b1 (.slice a4 X.us.length r4) X.us ∧ Jbo w3 b1 (.slice a5 X.qs.length r5) X.qs) := by
    have h := BS.out.1
    exact ⟨O2.out.1.kp KZ.out (by omega), O2.out.2.1.kp KZ.out (by omega), O2.out.2.2.1.kp KZ.out (by omega), O2.out.2.2.2.1.kp KZ.out (by omega), O2.out.2.2.2.2.kp KZ.out (by omega)⟩
  obtain ⟨b3, hb3⟩ : ∃ z, w3.heap.size = z := ⟨_, rfl⟩
  have LB : Hid ((∀ b, (Value.slice a1 X.gs.length r1).ownBlock = some b → b1 ≤ b ∧ b < b3) ∧ (∀ b, (Value.slice a2 X.os.length r2).ownBlock = some b → b1 ≤ b ∧ b < b3) ∧ (∀ b, (Value.slice a3 X.gold.length r3).ownBlock = some b → b1 ≤ b ∧ b < b3) ∧ (∀ b, (Value.slice a4 X.us.length r4).ownBlock = some b → b1 ≤ b ∧ b < b3) ∧ (∀ b, (Value.slice a5 X.qs.length r5).ownBlock = some b → b1 ≤ b ∧ b < b3)) := by
    unfold Hid
    rw [← hb3]
    exact ⟨O3.out.1.block, O3.out.2.1.block, O3.out.2.2.1.block, World.ownsRow.lt O3.out.2.2.2.1, World.ownsRow.lt O3.out.2.2.2.2⟩
  have L3 : Hid (Wl w3 (.agg #[.int .i64 X.turn, .int .i64 X.next, .int .i64 X.wide, .int .i64 X.high, .slice a1 X.gs.length r1, .slice a2 X.os.length r2, .slice a3 X.gold.length r3, .slice a4 X.us.length r4, .slice a5 X.qs.length r5]) X) := ⟨_, _, _, _, _, rfl, O3.out.1.ro, O3.out.2.1.ro, O3.out.2.2.1.ro, O3.out.2.2.2.1.l, O3.out.2.2.2.2.l⟩
  have S3 : Hid (b1 ≤ b3) := by unfold Hid; rw [← hb3]; exact Nat.le_trans BS.out.2 KZ.out.size
  clear KZ X2 R2 O2
  obtain ⟨x0, x1, x2, x3, x4, x5, x6, x7, x8⟩ := X3.out.cells
  have pp := R3.out.1
  go_wp2_with fail
  refine (seen_any _ _ ks X p Wn w3 WR.out GD.out.1 (K.out.1.below R3.out.2.2) K.out.2 L3.out).mono ?_
  rintro e w4 ⟨bb, rfl, hbb, hlt, hb⟩
  rw [hb3] at hlt
  have X4 : Hid (Wx w4 w.heap.size (.int .i64 X.turn) (.int .i64 X.next) (.int .i64 X.wide) (.int .i64 X.high) (.slice a1 X.gs.length r1) (.slice a2 X.os.length r2) (.slice a3 X.gold.length r3) (.slice a4 X.us.length r4) (.slice a5 X.qs.length r5)) := X3.out.below hb X3.out.lt
  have R4 : Hid (Rs w p w4) := R3.out.gb (r := none) (gb_below hb) (by simp)
  have O4 : Hid (Ow w4 b1 (.slice a1 X.gs.length r1) X.gs ∧ Ow w4 b1 (.slice a2 X.os.length r2) X.os ∧ Ow w4 b1 (.slice a3 X.gold.length r3) X.gold ∧ Uno w4 b1 (.slice a4 X.us.length r4) X.us ∧ Jbo w4 b1 (.slice a5 X.qs.length r5) X.qs) := ⟨O3.out.1.below hb, O3.out.2.1.below hb, O3.out.2.2.1.below hb, O3.out.2.2.2.1.below hb, O3.out.2.2.2.2.below hb⟩
  have BK : Hid (Bb w4 bb (seenL ks Wn X p)) := hbb
  have S4 : Hid (b3 < bb ∧ b3 ≤ w4.heap.size) := ⟨hlt, by rw [← hb3]; exact hb.size⟩
  clear hb hb3 hbb hlt x0 x1 x2 x3 x4 x5 x6 x7 x8 pp X3 R3 O3 L3
  go_upto_region 6 with fail
  have BA : Hid (Below w4.heap.size w4 (w4.alloc (Obj.cells #[.slice (some ⟨bb, 0, none⟩) X.gs.length X.gs.length] 88))) := (Below.refl _ _).alloc (Nat.le_refl _) _
  obtain ⟨b9, hb9⟩ : ∃ z, w4.heap.size = z := ⟨_, rfl⟩
  have S5 : Hid (b3 < bb ∧ bb < b9) := ⟨S4.out.1, by rw [← hb9]; exact BK.out.lt⟩
  have B5 : Hid (Bsg (w4.alloc (Obj.cells #[.slice (some ⟨bb, 0, none⟩) X.gs.length X.gs.length] 88)) bb b9 X.gs.length (seenL ks Wn X p)) := ⟨BK.out.low BA.out BK.out.lt, cell_new1 _ _ hb9, by rw [← hb9]; simp⟩
  rw [hb9]
  generalize (w4.alloc (Obj.cells #[.slice (some ⟨bb, 0, none⟩) X.gs.length X.gs.length] 88)) = w5 at *
  have X5 : Hid (Wx w5 w.heap.size (.int .i64 X.turn) (.int .i64 X.next) (.int .i64 X.wide) (.int .i64 X.high) (.slice a1 X.gs.length r1) (.slice a2 X.os.length r2) (.slice a3 X.gold.length r3) (.slice a4 X.us.length r4) (.slice a5 X.qs.length r5)) := X4.out.below BA.out X4.out.lt
  have R5 : Hid (Rs w p w5) := R4.out.gb (r := none) (gb_below BA.out) (by simp)
  have O5 : Hid (Ow w5 b1 (.slice a1 X.gs.length r1) X.gs ∧ Ow w5 b1 (.slice a2 X.os.length r2) X.os ∧ Ow w5 b1 (.slice a3 X.gold.length r3) X.gold ∧ Uno w5 b1 (.slice a4 X.us.length r4) X.us ∧ Jbo w5 b1 (.slice a5 X.qs.length r5) X.qs) := ⟨O4.out.1.below BA.out, O4.out.2.1.below BA.out, O4.out.2.2.1.below BA.out, O4.out.2.2.2.1.below BA.out, O4.out.2.2.2.2.below BA.out⟩
  have Z5 : Hid (b1 ≤ w5.heap.size) := by have h1 := BA.out.size; have h2 := S3.out; have h3 := S4.out.2; unfold Hid; omega
  clear BA hb9 BK S4 X4 R4 O4
  obtain ⟨-, -, -, -, -, -, -, x7, -⟩ := X5.out.cells
  go_wp2_with fail
  refine (del_own 41 (by intro args w; go_simp) (.slice a4 X.us.length r4) #[.pointer (some ⟨w.heap.size + 1, 0, none⟩), .pointer (some ⟨b9, 0, none⟩)] X.us (hidU ks Wn X p) w5 b1 O5.out.2.2.2.1 Z5.out (by have := WR.out.ul; omega) (fun W hbW hgW u hu => ?_)).mono ?_
  · obtain ⟨i, hi⟩ := List.mem_iff_getElem?.1 hu
    obtain ⟨k, fu⟩ := WR.out.fine hi
    have h1 := fu.at_
    have hB := B5.out.gb hgW (fun e => by have := LB.out.2.2.2.1 _ e; have := S5.out; omega) (fun e => by have := LB.out.2.2.2.1 _ e; have := S5.out; omega)
    have hR := R5.out.gb hgW (fun b e => .inr (by have := LB.out.2.2.2.1 _ e; have := BS.out.1; omega))
    exact hid_fg ks X u p Wn u.at_.toNat X.gs.length _ _ bb W (by omega) (by omega) hR.1 hB.2.1 (hB.1.cell (seen_at ks Wn X p (by omega)))
  rintro e w6 ⟨v4, rfl, ho, hb, hg, hown⟩
  obtain ⟨st, hst⟩ : ∃ l, X.us.filter (fun k => !hidU ks Wn X p k) = l := ⟨_, rfl⟩
  have ST : Hid (X.us.filter (fun k => !hidU ks Wn X p k) = st) := hst
  rw [hst] at ho
  obtain ⟨a6, r6, rfl⟩ := ho.len
  have OB : Hid ((Value.slice a6 st.length r6).ownBlock = (Value.slice a4 X.us.length r4).ownBlock) := hown
  have O6 : Hid (Ow w6 b1 (.slice a1 X.gs.length r1) X.gs ∧ Ow w6 b1 (.slice a2 X.os.length r2) X.os ∧ Ow w6 b1 (.slice a3 X.gold.length r3) X.gold ∧ Uno w6 b1 (.slice a6 st.length r6) st ∧ Jbo w6 b1 (.slice a5 X.qs.length r5) X.qs) := ⟨own_gb O5.out.1 hg (fun b h1 h2 => DD.out.2.2.1 b h1 h2), own_gb O5.out.2.1 hg (fun b h1 h2 => DD.out.2.2.2.2.2.1 b h1 h2), own_gb O5.out.2.2.1 hg (fun b h1 h2 => DD.out.2.2.2.2.2.2.2.1 b h1 h2), ho, own_gb O5.out.2.2.2.2 hg (fun b h1 h2 => DD.out.2.2.2.2.2.2.2.2.2 b h2 h1)⟩
  have X6 : Hid (Wx w6 w.heap.size (.int .i64 X.turn) (.int .i64 X.next) (.int .i64 X.wide) (.int .i64 X.high) (.slice a1 X.gs.length r1) (.slice a2 X.os.length r2) (.slice a3 X.gold.length r3) (.slice a4 X.us.length r4) (.slice a5 X.qs.length r5)) := X5.out.below hb (by have := BS.out.1; omega)
  have R6 : Hid (Rs w p w6) := R5.out.gb hg (fun b e => .inr (by have := LB.out.2.2.2.1 _ e; have := BS.out.1; omega))
  have B6 : Hid (Bsg w6 bb b9 X.gs.length (seenL ks Wn X p)) := B5.out.gb hg (fun e => by have := LB.out.2.2.2.1 _ e; have := S5.out; omega) (fun e => by have := LB.out.2.2.2.1 _ e; have := S5.out; omega)
  have Z6 : Hid (b1 ≤ w6.heap.size) := Nat.le_trans Z5.out hb.size
  clear ho hb hg hown hst x7 O5 X5 R5 B5 Z5
  obtain ⟨-, -, -, -, -, -, -, x7, -⟩ := X6.out.cells
  have t7 := X6.out.thaw 7
  have X7 : Hid (Wx (w6.setCell ⟨w.heap.size, 7, none⟩ (.slice a6 st.length r6)) w.heap.size (.int .i64 X.turn) (.int .i64 X.next) (.int .i64 X.wide) (.int .i64 X.high) (.slice a1 X.gs.length r1) (.slice a2 X.os.length r2) (.slice a3 X.gold.length r3) (.slice a6 st.length r6) (.slice a5 X.qs.length r5)) := X6.out.set7 _
  have K7 : Hid (Kp w.heap.size w6 (w6.setCell ⟨w.heap.size, 7, none⟩ (.slice a6 st.length r6))) := Kp.set _ _ _
  go_upto_region 7 with fail
  clear x7 t7
  generalize (w6.setCell ⟨w.heap.size, 7, none⟩ (.slice a6 st.length r6)) = w7 at *
  have O7 : Hid (Ow w7 b1 (.slice a1 X.gs.length r1) X.gs ∧ Ow w7 b1 (.slice a2 X.os.length r2) X.os ∧ Ow w7 b1 (.slice a3 X.gold.length r3) X.gold ∧ Uno w7 b1 (.slice a6 st.length r6) st ∧ Jbo w7 b1 (.slice a5 X.qs.length r5) X.qs) := by
    have h := BS.out.1
    exact ⟨O6.out.1.kp K7.out (by omega), O6.out.2.1.kp K7.out (by omega), O6.out.2.2.1.kp K7.out (by omega), O6.out.2.2.2.1.kp K7.out (by omega), O6.out.2.2.2.2.kp K7.out (by omega)⟩
  have R7 : Hid (Rs w p w7) := R6.out.gb (gb_kp K7.out) (fun b hb => .inl (Option.some.inj hb).symm)
  have B7 : Hid (Bsg w7 bb b9 X.gs.length (seenL ks Wn X p)) := B6.out.gb (gb_kp K7.out) (fun e => by have := Option.some.inj e; have := S5.out; have := S3.out; have := BS.out.1; omega) (fun e => by have := Option.some.inj e; have := S5.out; have := S3.out; have := BS.out.1; omega)
  have Z7 : Hid (b1 ≤ w7.heap.size) := Nat.le_trans Z6.out K7.out.size
  clear K7 O6 X6 R6 B6 Z6
  obtain ⟨-, -, -, -, -, -, -, -, x8⟩ := X7.out.cells
  go_wp2_with fail
  refine (delj_own 43 (by intro args w; go_simp) (.slice a5 X.qs.length r5) #[.pointer (some ⟨w.heap.size + 1, 0, none⟩)] X.qs (notJ p) w7 b1 O7.out.2.2.2.2 Z7.out (by have := WR.out.ql; omega) (fun W hbW hgW j _ => ?_)).mono ?_
  · exact not_fg j p _ W (R7.out.gb hgW (fun b e => .inr (by have := LB.out.2.2.2.2 _ e; have := BS.out.1; omega))).1
  rintro e w8 ⟨v5, rfl, ho, hb, hg, hown⟩
  obtain ⟨qs', hqs⟩ : ∃ l, X.qs.filter (fun k => !notJ p k) = l := ⟨_, rfl⟩
  have QS : Hid (X.qs.filter (fun k => !notJ p k) = qs') := hqs
  rw [hqs] at ho
  obtain ⟨a8, r8, rfl⟩ := ho.len
  have OC : Hid ((Value.slice a8 qs'.length r8).ownBlock = (Value.slice a5 X.qs.length r5).ownBlock) := hown
  have O8 : Hid (Ow w8 b1 (.slice a1 X.gs.length r1) X.gs ∧ Ow w8 b1 (.slice a2 X.os.length r2) X.os ∧ Ow w8 b1 (.slice a3 X.gold.length r3) X.gold ∧ Uno w8 b1 (.slice a6 st.length r6) st ∧ Jbo w8 b1 (.slice a8 qs'.length r8) qs') := ⟨own_gb O7.out.1 hg (fun b h1 h2 => DD.out.2.2.2.1 b h1 h2), own_gb O7.out.2.1 hg (fun b h1 h2 => DD.out.2.2.2.2.2.2.1 b h1 h2), own_gb O7.out.2.2.1 hg (fun b h1 h2 => DD.out.2.2.2.2.2.2.2.2.1 b h1 h2), own_gb O7.out.2.2.2.1 hg (fun b h1 h2 => DD.out.2.2.2.2.2.2.2.2.2 b (by rw [← OB.out]; exact h1) h2), ho⟩
  have X8 : Hid (Wx w8 w.heap.size (.int .i64 X.turn) (.int .i64 X.next) (.int .i64 X.wide) (.int .i64 X.high) (.slice a1 X.gs.length r1) (.slice a2 X.os.length r2) (.slice a3 X.gold.length r3) (.slice a6 st.length r6) (.slice a5 X.qs.length r5)) := X7.out.below hb (by have := BS.out.1; omega)
  have R8 : Hid (Rs w p w8) := R7.out.gb hg (fun b e => .inr (by have := LB.out.2.2.2.2 _ e; have := BS.out.1; omega))
  have B8 : Hid (Bsg w8 bb b9 X.gs.length (seenL ks Wn X p)) := B7.out.gb hg (fun e => by have := LB.out.2.2.2.2 _ e; have := S5.out; omega) (fun e => by have := LB.out.2.2.2.2 _ e; have := S5.out; omega)
  clear ho hb hg hown hqs x8 O7 X7 R7 B7 Z7
  obtain ⟨-, -, -, -, -, -, -, -, x8⟩ := X8.out.cells
  have t8 := X8.out.thaw 8
  have X9 : Hid (Wx (w8.setCell ⟨w.heap.size, 8, none⟩ (.slice a8 qs'.length r8)) w.heap.size (.int .i64 X.turn) (.int .i64 X.next) (.int .i64 X.wide) (.int .i64 X.high) (.slice a1 X.gs.length r1) (.slice a2 X.os.length r2) (.slice a3 X.gold.length r3) (.slice a6 st.length r6) (.slice a8 qs'.length r8)) := X8.out.set8 _
  have K9 : Hid (Kp w.heap.size w8 (w8.setCell ⟨w.heap.size, 8, none⟩ (.slice a8 qs'.length r8))) := Kp.set _ _ _
  go_upto_region 8 with fail
  clear x8 t8
  generalize (w8.setCell ⟨w.heap.size, 8, none⟩ (.slice a8 qs'.length r8)) = w9 at *
  have O9 : Hid (Ow w9 b1 (.slice a1 X.gs.length r1) X.gs ∧ Ow w9 b1 (.slice a2 X.os.length r2) X.os ∧ Ow w9 b1 (.slice a3 X.gold.length r3) X.gold ∧ Uno w9 b1 (.slice a6 st.length r6) st ∧ Jbo w9 b1 (.slice a8 qs'.length r8) qs') := by
    have h := BS.out.1
    exact ⟨O8.out.1.kp K9.out (by omega), O8.out.2.1.kp K9.out (by omega), O8.out.2.2.1.kp K9.out (by omega), O8.out.2.2.2.1.kp K9.out (by omega), O8.out.2.2.2.2.kp K9.out (by omega)⟩
  have R9 : Hid (Rs w p w9) := R8.out.gb (gb_kp K9.out) (fun b hb => .inl (Option.some.inj hb).symm)
  have B9 : Hid (Bsg w9 bb b9 X.gs.length (seenL ks Wn X p)) := B8.out.gb (gb_kp K9.out) (fun e => by have := Option.some.inj e; have := S5.out; have := S3.out; have := BS.out.1; omega) (fun e => by have := Option.some.inj e; have := S5.out; have := S3.out; have := BS.out.1; omega)
  clear K9 O8 X8 R8 B8
  rcases O9.out.2.2.1.bk with ⟨-, h⟩ | ⟨g3, cp3, rs3, h, -, hl3, hm3, hz3, hbk3⟩
  · exact absurd GD.out.2.2.2.2.1 (by rw [h]; simp)
  injection h with h1 h2 h3
  subst h1
  subst h3
  rcases O9.out.2.1.bk with ⟨-, h⟩ | ⟨g2, cp2, rs2, h, -, hl2, hm2, hz2, hbk2⟩
  · exact absurd GD.out.2.2.2.1 (by rw [← GD.out.2.2.1, h]; simp)
  injection h with h1 h2' h3
  subst h1
  subst h3
  have GG : Hid (b1 ≤ g3 ∧ g3 < b3 ∧ b1 ≤ g2 ∧ g2 < b3 ∧ g2 ≠ g3) := ⟨(LB.out.2.2.1 g3 rfl).1, (LB.out.2.2.1 g3 rfl).2, (LB.out.2.1 g2 rfl).1, (LB.out.2.1 g2 rfl).2, fun e => DD.out.2.2.2.2.1 g2 rfl (by rw [e]; rfl)⟩
  have CP : Hid ((X.gold.length ≤ r3 ∧ r3 ≤ maxLen ∧ X.gold.length + rs3.size = r3) ∧ X.os.length ≤ r2 ∧ r2 ≤ maxLen ∧ X.os.length + rs2.size = r2) := ⟨⟨hl3, hm3, hz3⟩, hl2, hm2, hz2⟩
  obtain ⟨q, hq⟩ : ∃ q : Nat → Bool, (fun i : Nat => !decide ((i : Int) = p)) = q := ⟨_, rfl⟩
  obtain ⟨s, hs⟩ : ∃ s : Nat → Bool, (fun i : Nat => !seesP ks Wn X.gs X.us p i) = s := ⟨_, rfl⟩
  have QQ : Hid ((∀ i : Nat, q i = !decide ((i : Int) = p)) ∧ ∀ i : Nat, s i = !seesP ks Wn X.gs X.us p i) := ⟨fun i => by rw [← hq], fun i => by rw [← hs]⟩
  have FO : Hid (viewOf ks Wn X p = { X with us := st, qs := qs', gold := zer q X.gold, os := zer s X.os }) := by unfold Hid viewOf; rw [ST.out, QS.out, hq, hs]
  have BK9 : Hid (Bk w9 g3 X.gold rs3) := hbk3
  clear hl3 hm3 hz3 hbk3 hl2 hm2 hz2 hbk2 h2 h2' hq hs
  obtain ⟨-, -, -, -, -, -, x6, -, -⟩ := X9.out.cells
  go_upto_region 9 with fail
  clear x6
  go_loopw [40] (fun v40 V => ∃ n : Nat, v40 = .int .i64 (n : Nat) ∧ n ≤ X.gold.length ∧ Bk V g3 (zerUp q n X.gold) rs3 ∧ Kp g3 w9 V) (fun v40 _ => X.gold.length - (intOf v40).toNat)
  case atStart => exact ⟨0, rfl, Nat.zero_le _, by rw [zerUp_zero]; exact BK9.out, Kp.refl _ _⟩
  case round =>
    obtain ⟨n, rfl, hn, hbk, hkp⟩ := hrel
    have BR : Hid (Bk wr g3 (zerUp q n X.gold) rs3) := hbk
    have KR : Hid (Kp g3 w9 wr) := hkp
    have XR : Hid (Wx wr w.heap.size (.int .i64 X.turn) (.int .i64 X.next) (.int .i64 X.wide) (.int .i64 X.high) (.slice a1 X.gs.length r1) (.slice (some ⟨g2, 0, none⟩) X.os.length r2) (.slice (some ⟨g3, 0, none⟩) X.gold.length r3) (.slice a6 st.length r6) (.slice a8 qs'.length r8)) := X9.out.kp hkp (by have := GG.out.1; have := BS.out.1; omega)
    have RR : Hid (Rs w p wr) := R9.out.gb (gb_kp hkp) (fun b hb => .inr (by have := Option.some.inj hb; have := GG.out.1; have := BS.out.1; omega))
    clear hbk hkp
    by_cases h0 : n = X.gold.length
    case neg =>
      have hnl : n < X.gold.length := by omega
      have hni : ((n : Nat) : Int) < (X.gold.length : Nat) := by omega
      have HN : Hid (n < X.gold.length) := hnl
      have WN : IntKind.i64.wrap ((n : Nat) + 1 : Int) = ((n : Nat) : Int) + 1 := by have := GD.out.2.2.2.2.2; rw [IntKind.wrap_i64]; omega
      have pp := RR.out.1
      obtain ⟨-, -, -, -, -, -, x6, -, -⟩ := XR.out.cells
      by_cases hp : ((n : Nat) : Int) = p
      · have NX : Hid (zerUp q (n + 1) X.gold = zerUp q n X.gold) := zerUp_no _ (by rw [QQ.out.1, hp]; simp)
        rw [← hp] at pp
        clear hp
        go_wp2
        go_round
        case rel => exact ⟨n + 1, by go_num, by have := HN.out; omega, by rw [NX.out]; exact BR.out, KR.out⟩
        case measure => simp [intOf]; omega
      · have NX : Hid (zerUp q (n + 1) X.gold = (zerUp q n X.gold).set n 0) := zerUp_yes _ (by rw [QQ.out.1]; simp [hp])
        have hp' : (((n : Nat) : Int) == p) = false := by rw [beq_eq_false_iff_ne]; exact hp
        obtain ⟨y, hy⟩ : ∃ y, (zerUp q n X.gold)[n]? = some y := ⟨_, List.getElem?_eq_getElem (by rw [zerUp_len]; exact hnl)⟩
        have cy := BR.out.cell hy
        have ty := BR.out.thaw n
        have KS : Hid (Kp g3 wr (wr.setCell ⟨g3, n, none⟩ (.int .i64 0))) := Kp.set _ _ _
        have BS3 : Hid (Bk (wr.setCell ⟨g3, n, none⟩ (.int .i64 0)) g3 ((zerUp q n X.gold).set n 0) rs3) := BR.out.set n 0 (by rw [zerUp_len]; exact hnl)
        clear hy
        go_wp2
        generalize (wr.setCell ⟨g3, n, none⟩ (.int .i64 0)) = w10 at *
        go_round
        case rel => exact ⟨n + 1, by go_num, by have := HN.out; omega, by rw [NX.out]; exact BS3.out, KR.out.trans KS.out⟩
        case measure => simp [intOf]; omega
    subst h0
    have O10 : Hid (Ow wr b1 (.slice a1 X.gs.length r1) X.gs ∧ Ow wr b1 (.slice (some ⟨g2, 0, none⟩) X.os.length r2) X.os ∧ Ow wr b1 (.slice (some ⟨g3, 0, none⟩) X.gold.length r3) (zer q X.gold) ∧ Uno wr b1 (.slice a6 st.length r6) st ∧ Jbo wr b1 (.slice a8 qs'.length r8) qs') := by
      have hg := gb_kp KR.out
      have hz := BR.out
      rw [zerUp_all] at hz
      have ho := hz.ow (base := b1) (cap := r3) GG.out.1 (by rw [zer_len]; exact CP.out.1.1) CP.out.1.2.1 (by rw [zer_len]; exact CP.out.1.2.2)
      rw [zer_len] at ho
      exact ⟨own_gb O9.out.1 hg (fun b h1 h2 => DD.out.2.1 b h1 h2), own_gb O9.out.2.1 hg (fun b h1 h2 => DD.out.2.2.2.2.1 b h1 h2), ho, own_gb O9.out.2.2.2.1 hg (fun b h1 h2 => DD.out.2.2.2.2.2.2.2.1 b h2 (by rw [← OB.out]; exact h1)), own_gb O9.out.2.2.2.2 hg (fun b h1 h2 => DD.out.2.2.2.2.2.2.2.2.1 b h2 (by rw [← OC.out]; exact h1))⟩
    have B10 : Hid (Bsg wr bb b9 X.gs.length (seenL ks Wn X p)) := B9.out.gb (gb_kp KR.out) (fun e => by have := Option.some.inj e; have := S5.out; have := GG.out; omega) (fun e => by have := Option.some.inj e; have := S5.out; have := GG.out; omega)
    clear BR KR BK9 X9 R9 B9 O9
    have c9 := B10.out.2.1
    go_upto_region 15 with fail
    clear c9
    generalize wr = w10 at *
    have BK10 : Hid (∃ rs, Bk w10 g2 X.os rs ∧ X.os.length + rs.size = r2) := by
      rcases O10.out.2.1.bk with ⟨h, -⟩ | ⟨g, cp, rs, h, -, -, -, hz, hbk⟩
      · cases h
      · injection h with h1 h2 h3
        injection h1 with h1
        injection h1 with h1
        subst h1
        subst h3
        exact ⟨rs, hbk, hz⟩
    obtain ⟨rs, hbk, hz⟩ := BK10.out
    have BK10 : Hid (Bk w10 g2 X.os rs ∧ X.os.length + rs.size = r2) := ⟨hbk, hz⟩
    clear hbk hz
    go_loopw [53] (fun v53 V => ∃ n : Nat, v53 = .int .i64 (n : Nat) ∧ n ≤ X.gs.length ∧ Bk V g2 (zerUp s n X.os) rs ∧ Kp g2 w10 V) (fun v53 _ => X.gs.length - (intOf v53).toNat)
    case atStart => exact ⟨0, rfl, Nat.zero_le _, by rw [zerUp_zero]; exact BK10.out.1, Kp.refl _ _⟩
    case round =>
      obtain ⟨n, rfl, hn, hbk, hkp⟩ := hrel
      have BR : Hid (Bk wr g2 (zerUp s n X.os) rs) := hbk
      have KR : Hid (Kp g2 w10 wr) := hkp
      have X11 : Hid (Wx wr w.heap.size (.int .i64 X.turn) (.int .i64 X.next) (.int .i64 X.wide) (.int .i64 X.high) (.slice a1 X.gs.length r1) (.slice (some ⟨g2, 0, none⟩) X.os.length r2) (.slice (some ⟨g3, 0, none⟩) X.gold.length r3) (.slice a6 st.length r6) (.slice a8 qs'.length r8)) := XR.out.kp hkp (by have := GG.out.2.2.1; have := BS.out.1; omega)
      have R11 : Hid (Rs w p wr) := RR.out.gb (gb_kp hkp) (fun b hb => .inr (by have := Option.some.inj hb; have := GG.out.2.2.1; have := BS.out.1; omega))
      have B11 : Hid (Bsg wr bb b9 X.gs.length (seenL ks Wn X p)) := B10.out.gb (gb_kp hkp) (fun e => by have := Option.some.inj e; have := S5.out; have := GG.out; omega) (fun e => by have := Option.some.inj e; have := S5.out; have := GG.out; omega)
      clear hbk hkp
      by_cases h0 : n = X.gs.length
      case neg =>
        have hnl : n < X.gs.length := by omega
        have hni : ((n : Nat) : Int) < (X.gs.length : Nat) := by omega
        have hno : ((n : Nat) : Int) < (X.os.length : Nat) := by have := GD.out.2.2.1; omega
        have HN : Hid (n < X.gs.length) := hnl
        have WN : IntKind.i64.wrap ((n : Nat) + 1 : Int) = ((n : Nat) : Int) + 1 := by have := GD.out.2.1; rw [IntKind.wrap_i64]; omega
        have cb := B11.out.1.cell (seen_at ks Wn X p hnl)
        have SQ := QQ.out.2 n
        obtain ⟨-, -, -, -, -, x5, -, -, -⟩ := X11.out.cells
        obtain ⟨t, ht⟩ : ∃ t, seesP ks Wn X.gs X.us p n = t := ⟨_, rfl⟩
        rw [ht] at cb SQ
        clear ht
        cases t with
        | true =>
          have NX : Hid (zerUp s (n + 1) X.os = zerUp s n X.os) := zerUp_no _ SQ
          clear SQ
          go_wp2
          go_round
          case rel => exact ⟨n + 1, by go_num, by have := HN.out; omega, by rw [NX.out]; exact BR.out, KR.out⟩
          case measure => simp [intOf]; omega
        | false =>
          have NX : Hid (zerUp s (n + 1) X.os = (zerUp s n X.os).set n 0) := zerUp_yes _ SQ
          obtain ⟨y, hy⟩ : ∃ y, (zerUp s n X.os)[n]? = some y := ⟨_, List.getElem?_eq_getElem (by rw [zerUp_len]; omega)⟩
          have cy := BR.out.cell hy
          have ty := BR.out.thaw n
          have KS : Hid (Kp g2 wr (wr.setCell ⟨g2, n, none⟩ (.int .i64 0))) := Kp.set _ _ _
          have BS3 : Hid (Bk (wr.setCell ⟨g2, n, none⟩ (.int .i64 0)) g2 ((zerUp s n X.os).set n 0) rs) := BR.out.set n 0 (by rw [zerUp_len]; omega)
          clear SQ hy
          go_wp2
          generalize (wr.setCell ⟨g2, n, none⟩ (.int .i64 0)) = w12 at *
          go_round
          case rel => exact ⟨n + 1, by go_num, by have := HN.out; omega, by rw [NX.out]; exact BS3.out, KR.out.trans KS.out⟩
          case measure => simp [intOf]; omega
      subst h0
      have O11 : Hid (Ow wr b1 (.slice a1 X.gs.length r1) X.gs ∧ Ow wr b1 (.slice (some ⟨g2, 0, none⟩) X.os.length r2) (zer s X.os) ∧ Ow wr b1 (.slice (some ⟨g3, 0, none⟩) X.gold.length r3) (zer q X.gold) ∧ Uno wr b1 (.slice a6 st.length r6) st ∧ Jbo wr b1 (.slice a8 qs'.length r8) qs') := by
        have hg := gb_kp KR.out
        have hz := BR.out
        rw [← GD.out.2.2.1, zerUp_all] at hz
        have ho := hz.ow (base := b1) (cap := r2) GG.out.2.2.1 (by rw [zer_len]; exact CP.out.2.1) CP.out.2.2.1 (by rw [zer_len]; exact BK10.out.2)
        rw [zer_len] at ho
        exact ⟨own_gb O10.out.1 hg (fun b h1 h2 => DD.out.1 b h1 h2), ho, own_gb O10.out.2.2.1 hg (fun b h1 h2 => DD.out.2.2.2.2.1 b h2 h1), own_gb O10.out.2.2.2.1 hg (fun b h1 h2 => DD.out.2.2.2.2.2.1 b h2 (by rw [← OB.out]; exact h1)), own_gb O10.out.2.2.2.2 hg (fun b h1 h2 => DD.out.2.2.2.2.2.2.1 b h2 (by rw [← OC.out]; exact h1))⟩
      clear BR KR BK10 XR RR B10 O10
      obtain ⟨x0, x1, x2, x3, x4, x5, x6, x7, x8⟩ := X11.out.cells
      obtain ⟨z0, z1, z2, z3, z4, z5, z6, z7, z8⟩ := R11.out.2.1.cells
      obtain ⟨t0, t1, t2, t3, t4, t5, t6, t7, t8⟩ := R11.out.2.1.thaws
      have KZ : Hid (Kp (w.heap.size + 1 + 1) wr (((((((((wr.setCell ⟨w.heap.size + 1 + 1, 0, none⟩ (.int .i64 X.turn)).setCell ⟨w.heap.size + 1 + 1, 1, none⟩ (.int .i64 X.next)).setCell ⟨w.heap.size + 1 + 1, 2, none⟩ (.int .i64 X.wide)).setCell ⟨w.heap.size + 1 + 1, 3, none⟩ (.int .i64 X.high)).setCell ⟨w.heap.size + 1 + 1, 4, none⟩ (.slice a1 X.gs.length r1)).setCell ⟨w.heap.size + 1 + 1, 5, none⟩ (.slice (some ⟨g2, 0, none⟩) X.os.length r2)).setCell ⟨w.heap.size + 1 + 1, 6, none⟩ (.slice (some ⟨g3, 0, none⟩) X.gold.length r3)).setCell ⟨w.heap.size + 1 + 1, 7, none⟩ (.slice a6 st.length r6)).setCell ⟨w.heap.size + 1 + 1, 8, none⟩ (.slice a8 qs'.length r8))) := put_kp _ _ _ _ _ _ _ _ _ _ _
      obtain ⟨y0, y1, y2, y3, y4, y5, y6, y7, y8⟩ := (R11.out.2.1.put (.int .i64 X.turn) (.int .i64 X.next) (.int .i64 X.wide) (.int .i64 X.high) (.slice a1 X.gs.length r1) (.slice (some ⟨g2, 0, none⟩) X.os.length r2) (.slice (some ⟨g3, 0, none⟩) X.gold.length r3) (.slice a6 st.length r6) (.slice a8 qs'.length r8)).cells
      go_wp2
      clear x0 x1 x2 x3 x4 x5 x6 x7 x8 z0 z1 z2 z3 z4 z5 z6 z7 z8 t0 t1 t2 t3 t4 t5 t6 t7 t8
      generalize (((((((((wr.setCell ⟨w.heap.size + 1 + 1, 0, none⟩ (.int .i64 X.turn)).setCell ⟨w.heap.size + 1 + 1, 1, none⟩ (.int .i64 X.next)).setCell ⟨w.heap.size + 1 + 1, 2, none⟩ (.int .i64 X.wide)).setCell ⟨w.heap.size + 1 + 1, 3, none⟩ (.int .i64 X.high)).setCell ⟨w.heap.size + 1 + 1, 4, none⟩ (.slice a1 X.gs.length r1)).setCell ⟨w.heap.size + 1 + 1, 5, none⟩ (.slice (some ⟨g2, 0, none⟩) X.os.length r2)).setCell ⟨w.heap.size + 1 + 1, 6, none⟩ (.slice (some ⟨g3, 0, none⟩) X.gold.length r3)).setCell ⟨w.heap.size + 1 + 1, 7, none⟩ (.slice a6 st.length r6)).setCell ⟨w.heap.size + 1 + 1, 8, none⟩ (.slice a8 qs'.length r8)) = wz at *
      refine bodyPost_ret (v := .tuple #[.agg #[.int .i64 X.turn, .int .i64 X.next, .int .i64 X.wide, .int .i64 X.high, .slice a1 X.gs.length r1, .slice (some ⟨g2, 0, none⟩) X.os.length r2, .slice (some ⟨g3, 0, none⟩) X.gold.length r3, .slice a6 st.length r6, .slice a8 qs'.length r8], .nilIface]) (by simp [results, Tryz.results8, go_sem, y0, y1, y2, y3, y4, y5, y6, y7, y8]) rfl ⟨_, _, rfl, by rw [FW.out]; exact Er.nil, .inr ⟨FW.out, Wn, GD.out.1, ?_⟩, KZ.out.below R11.out.2.2 R11.out.2.2.size (by omega)⟩
      have h := BS.out.1
      rw [FO.out]
      exact ⟨_, _, _, _, _, rfl, (O11.out.1.kp KZ.out (by omega)).mono (by omega), (O11.out.2.1.kp KZ.out (by omega)).mono (by omega), (O11.out.2.2.1.kp KZ.out (by omega)).mono (by omega), (O11.out.2.2.2.1.kp KZ.out (by omega)).mono (by omega), (O11.out.2.2.2.2.kp KZ.out (by omega)).mono (by omega)⟩
end Go.Proofs.YtoabhfipikkkeaaGreatDoor

