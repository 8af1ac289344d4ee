/- Fields: a field as far as its text is read. -/
import Derived.Test.YthnfaflhecfnfaaFdP
import Derived.Test.YthnfaflhecfnfaaFdOwn
import Derived.Laws.Pointers
namespace Go.Proofs.Ythnfaflhecfnfaa
open Go.RowKit
set_option linter.unusedVariables false

/-- two lists in blocks of their own, which are two. -/
structure Two (w : World) (base : Nat) (u1 u2 : Value) (gs os : List Int) : Prop where
  o1 : Ow w base u1 gs
  o2 : Ow w base u2 os
  ne : ∀ k, u1.ownBlock = some k → u2.ownBlock ≠ some k
theorem Two.below {w w' : World} {base n : Nat} {u1 u2 : Value} {gs os : List Int} (h : Two w base u1 u2 gs os) (hb : Below n w w') (hn : w.heap.size ≤ n) : Two w' base u1 u2 gs os :=
  ⟨h.o1.below (hb.mono hn), h.o2.below (hb.mono hn), h.ne⟩
/-- what stays where one block below the base turns. -/
theorem Two.kp {w w' : World} {base z : Nat} {u1 u2 : Value} {gs os : List Int} (h : Two w base u1 u2 gs os) (hk : Kp z w w') (hz : z < base) : Two w' base u1 u2 gs os := by
  have hg : w.grownBy w' (some z) := ⟨hk.os, hk.tape, hk.output, hk.size, fun k hk' hne => hk.block k hk' (fun e => hne (by rw [e]))⟩
  refine ⟨h.o1.kept hg ?_, h.o2.kept hg ?_, h.ne⟩
  · right; intro e; have := (h.o1.block z e).1; omega
  · right; intro e; have := (h.o2.block z e).1; omega

/-- the block of a draft. -/
def Dt (w : World) (z : Nat) (u1 u2 : Value) (s : Fd.St) : Prop := w.heap[z]? = some (.cells #[.int .i64 (s.W : Nat), .int .i64 (s.H : Nat), u1, u2, .int .i64 (s.c : Nat)] 39 (0, 0))
/-- a draft. -/
def Dr (w : World) (z : Nat) (s : Fd.St) : Prop := ∃ u1 u2, Dt w z u1 u2 s ∧ Two w (z + 1) u1 u2 s.gs s.os

section
variable {w : World} {z : Nat} {u1 u2 : Value} {s : Fd.St}
theorem Dt.c0 (h : Dt w z u1 u2 s) : w.cell? ⟨z, 0, none⟩ = some (.int .i64 (s.W : Nat)) := by unfold Dt at h; simp [World.cell?, h]
theorem Dt.c1 (h : Dt w z u1 u2 s) : w.cell? ⟨z, 1, none⟩ = some (.int .i64 (s.H : Nat)) := by unfold Dt at h; simp [World.cell?, h]
theorem Dt.c2 (h : Dt w z u1 u2 s) : w.cell? ⟨z, 2, none⟩ = some u1 := by unfold Dt at h; simp [World.cell?, h]
theorem Dt.c3 (h : Dt w z u1 u2 s) : w.cell? ⟨z, 3, none⟩ = some u2 := by unfold Dt at h; simp [World.cell?, h]
theorem Dt.c4 (h : Dt w z u1 u2 s) : w.cell? ⟨z, 4, none⟩ = some (.int .i64 (s.c : Nat)) := by unfold Dt at h; simp [World.cell?, h]
theorem Dt.fz (h : Dt w z u1 u2 s) (i : Nat) : w.frozen? ⟨z, i, none⟩ = false := by unfold Dt at h; simp [World.frozen?, h]
theorem Dt.lt (h : Dt w z u1 u2 s) : z < w.heap.size := lt_of_block h
theorem Dt.below {w' : World} {n : Nat} (h : Dt w z u1 u2 s) (hb : Below n w w') (hz : z < n) : Dt w' z u1 u2 s := (hb.block z hz).trans h
end

set_option maxHeartbeats 1000000 in
theorem end_bad (z : Nat) (u1 u2 : Value) (s : Fd.St) (w : World) (h : Dt w z u1 u2 s) (hc : s.c ≤ 12) (hw : s.W ≤ 12) (hb : s.c = 0 ∨ s.c < s.W) :
    Calls Try.prog 20 #[.pointer (some ⟨z, 0, none⟩)] w fun e w' => e = .returned (.iface 41 (.int .i64 2)) ∧ ∃ n, w' = w.drewN n := by
  have c0 := h.c0
  have c4 := h.c4
  obtain ⟨c, W, H, gs, os⟩ := s
  simp only at hc hw hb c0 c4
  clear h
  by_cases q : c = 0
  · subst q
    go_enter Try.func20, Try.ntmps20
    go_wp2_with fail
    go_quiet (fail)
    go_wp2
    go_ret
    exact ⟨rfl, _, rfl⟩
  · have q2 : c < W := by omega
    have q' : ((c : Int) == 0) = false := by rw [beq_eq_false_iff_ne]; omega
    clear hb
    go_enter Try.func20, Try.ntmps20
    go_wp2_with fail
    go_quiet (fail)
    go_wp2
    go_ret
    exact ⟨rfl, _, rfl⟩

set_option maxHeartbeats 1000000 in
theorem end_ok (z : Nat) (u1 u2 : Value) (s : Fd.St) (w : World) (h : Dt w z u1 u2 s) (hc : s.c ≤ 12) (hw : s.W ≤ 12) (hh : s.H ≤ 12) (h0 : s.c ≠ 0) (h1 : ¬ s.c < s.W) :
    Calls Try.prog 20 #[.pointer (some ⟨z, 0, none⟩)] w fun e w' => e = .returned .nilIface ∧ Dt w' z u1 u2 ⟨0, s.c, s.H + 1, s.gs, s.os⟩ ∧ Kp z w w' := by
  have D : Hid (Dt w z u1 u2 s) := h
  have c0 := h.c0
  have c1 := h.c1
  have c4 := h.c4
  have f0 := h.fz 0
  have f1 := h.fz 1
  have f4 := h.fz 4
  obtain ⟨c, W, H, gs, os⟩ := s
  simp only at hc hw hh h0 h1 c0 c1 c4
  have q' : ((c : Int) == 0) = false := by rw [beq_eq_false_iff_ne]; omega
  clear h
  go_enter Try.func20, Try.ntmps20
  go_wp2_with fail
  go_quiet (fail)
  have Dq : Hid (Dt (w.drewN nq) z u1 u2 ⟨c, W, H, gs, os⟩) := D.out
  have Kq : Hid (Kp z w (w.drewN nq)) := (Kp.refl z w).drewN nq
  have c0 : (w.drewN nq).cell? ⟨z, 0, none⟩ = some (.int .i64 (W : Nat)) := Dq.out.c0
  have c1 : (w.drewN nq).cell? ⟨z, 1, none⟩ = some (.int .i64 (H : Nat)) := Dq.out.c1
  have c4 : (w.drewN nq).cell? ⟨z, 4, none⟩ = some (.int .i64 (c : Nat)) := Dq.out.c4
  have f0 := Dq.out.fz 0
  have f1 := Dq.out.fz 1
  have f4 := Dq.out.fz 4
  generalize w.drewN nq = w1 at *
  go_wp2
  go_ret
  refine ⟨rfl, ?_, ?_⟩
  · unfold Dt
    rw [heap_setCell_same _ z 4 _ _ _ (heap_setCell_same _ z 1 _ _ _ (heap_setCell_same w1 z 0 _ _ _ Dq.out))]
    simp
  · exact ((Kq.out.trans (Kp.set _ _ _)).trans (Kp.set _ _ _)).trans (Kp.set _ _ _)
end Go.Proofs.Ythnfaflhecfnfaa
