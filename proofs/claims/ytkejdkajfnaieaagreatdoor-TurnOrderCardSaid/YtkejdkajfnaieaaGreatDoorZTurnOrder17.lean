/- Fields: Parse. -/
import Derived.Test.YtkejdkajfnaieaaGreatDoorZTurnOrder16
import Derived.Test.YtkejdkajfnaieaaGreatDoorZTurnOrder1
namespace Go.Proofs.YtkejdkajfnaieaaGreatDoor
open Go.RowKit
set_option linter.unusedVariables false

theorem read_any (z : Nat) (s : Fd.St) (b : UInt8) (w : World) (h : Dr w z s) (ok : Okay s) :
    Calls Tryz.prog 103 #[.pointer (some ⟨z, 0, none⟩), .int .u8 (b.toNat : Nat)] w fun e w' => (∃ f, Fd.step s b = .inl f ∧ e = .returned (.iface 97 (.int .i64 f)) ∧ f ≠ 0 ∧ Below z w w') ∨ (∃ s', Fd.step s b = .inr s' ∧ e = .returned .nilIface ∧ Dr w' z s' ∧ Below z w w') := by
  by_cases hb : b = 10
  · subst hb
    exact read_ten z s w h ok
  · exact read_sign z s b w h ok hb

theorem run_at {l : List UInt8} {k : Nat} (st : Fd.St) (h : k < l.length) : Fd.run st k (l.drop k) = match Fd.step st l[k] with | .inl e => .inl (k, e) | .inr s' => Fd.run s' (k + 1) (l.drop (k + 1)) := by
  rw [List.drop_eq_getElem_cons h]
  rfl

/-- what Parse says of a text. -/
def Says (l : List UInt8) (e : Ending) (w' : World) : Prop :=
  (∃ (i : Nat) (f : Int), Fd.parse l = .inl (i, f) ∧ e = .returned (.tuple #[.agg #[.int .i64 0, .int .i64 0, .slice none 0 0, .slice none 0 0], .int .i64 (i : Nat), .iface 97 (.int .i64 f)]) ∧ f ≠ 0) ∨
  (∃ st u1 u2, Fd.parse l = .inr st ∧ e = .returned (.tuple #[.agg #[.int .i64 (st.W : Nat), .int .i64 (st.H : Nat), u1, u2], .int .i64 0, .nilIface]) ∧ Ro w' u1 st.gs ∧ Ro w' u2 st.os)

/-- and that the lists are new. -/
def SaysOwn (b : Nat) (l : List UInt8) (e : Ending) (w' : World) : Prop :=
  (∃ (i : Nat) (f : Int), Fd.parse l = .inl (i, f) ∧ e = .returned (.tuple #[.agg #[.int .i64 0, .int .i64 0, .slice none 0 0, .slice none 0 0], .int .i64 (i : Nat), .iface 97 (.int .i64 f)]) ∧ f ≠ 0) ∨
  (∃ st u1 u2, Fd.parse l = .inr st ∧ e = .returned (.tuple #[.agg #[.int .i64 (st.W : Nat), .int .i64 (st.H : Nat), u1, u2], .int .i64 0, .nilIface]) ∧ Two w' (b + 1 + 1) u1 u2 st.gs st.os)

set_option maxRecDepth 100000 in
set_option maxHeartbeats 4000000 in
theorem parse_own (s : ByteArray) (w : World) (hs : s.size ≤ maxLen) :
    Calls Tryz.prog 44 #[.string s] w fun e w' => SaysOwn w.heap.size s.data.toList e w' ∧ Below w.heap.size w w' := by
  unfold maxLen at hs
  generalize hl : s.data.toList = l
  have Hl : Hid (s.data.toList = l) := hl
  have Ll : Hid (l.length = s.size) := by unfold Hid; rw [← hl]; rfl
  clear hl
  have P : Hid (Fd.parse l = match Fd.run Fd.st0 0 l with | .inl x => .inl x | .inr s => if 0 < s.c ∨ s.H = 0 then .inl (l.length, 2) else .inr s) := rfl
  go_enter Tryz.func44, Tryz.ntmps44
  go_wp2_with fail
  have B0 : Hid (Below w.heap.size w ((w.alloc (Obj.cells #[.int .i64 0, .int .i64 0, .slice none 0 0, .slice none 0 0] 25)).alloc (Obj.cells #[.int .i64 0, .int .i64 0, .slice none 0 0, .slice none 0 0, .int .i64 0] 150))) := ((Below.refl _ _).alloc (Nat.le_refl _) _).alloc (by simp) _
  have D0 : Hid (Dr ((w.alloc (Obj.cells #[.int .i64 0, .int .i64 0, .slice none 0 0, .slice none 0 0] 25)).alloc (Obj.cells #[.int .i64 0, .int .i64 0, .slice none 0 0, .slice none 0 0, .int .i64 0] 150)) (w.heap.size + 1) Fd.st0) := by
    refine ⟨.slice none 0 0, .slice none 0 0, ?_, ⟨Ow.nil _ _, Ow.nil _ _, fun k h => by cases h⟩⟩
    have e : (w.alloc (Obj.cells #[.int .i64 0, .int .i64 0, .slice none 0 0, .slice none 0 0] 25)).heap.size = w.heap.size + 1 := by simp
    unfold Dt
    rw [← e]
    exact heap_alloc_new _ _
  have X0 : Hid (Bf ((w.alloc (Obj.cells #[.int .i64 0, .int .i64 0, .slice none 0 0, .slice none 0 0] 25)).alloc (Obj.cells #[.int .i64 0, .int .i64 0, .slice none 0 0, .slice none 0 0, .int .i64 0] 150)) w.heap.size 0 0 (.slice none 0 0) (.slice none 0 0)) :=
    (Bf.mk' (w := w) 0 0 (.slice none 0 0) (.slice none 0 0) rfl).below ((Below.refl _ _).alloc (Nat.le_refl _) _) (by simp)
  have Z0 : Hid (∀ i, ((w.alloc (Obj.cells #[.int .i64 0, .int .i64 0, .slice none 0 0, .slice none 0 0] 25)).alloc (Obj.cells #[.int .i64 0, .int .i64 0, .slice none 0 0, .slice none 0 0, .int .i64 0] 150)).frozen? ⟨w.heap.size, i, none⟩ = false) := by
    intro i
    rw [((Below.refl _ (w.alloc (Obj.cells #[.int .i64 0, .int .i64 0, .slice none 0 0, .slice none 0 0] 25))).alloc (Nat.le_refl _) _).frozen (p := ⟨w.heap.size, i, none⟩) (by simp)]
    simp
  generalize (w.alloc (Obj.cells #[.int .i64 0, .int .i64 0, .slice none 0 0, .slice none 0 0] 25)).alloc (Obj.cells #[.int .i64 0, .int .i64 0, .slice none 0 0, .slice none 0 0, .int .i64 0] 150) = w0 at *
  go_loopw [10] (fun i W' => ∃ (k : Nat) (st : Fd.St), k ≤ s.size ∧ i = .int .i64 (k : Nat) ∧ Dr W' (w.heap.size + 1) st ∧ Fd.Inv st (l.take k) ∧ Fd.run st k (l.drop k) = Fd.run Fd.st0 0 l ∧ Below (w.heap.size + 1) w0 W') (fun i _ => s.size - (intOf i).toNat)
  case atStart => exact ⟨0, Fd.st0, Nat.zero_le _, rfl, D0, by simpa using Fd.inv0, by simp, Below.refl _ _⟩
  case round =>
    obtain ⟨k, st, hk, rfl, hd, hi, hrun, hb⟩ := hrel
    have D : Hid (Dr wr (w.heap.size + 1) st) := hd
    have I : Hid (Fd.Inv st (l.take k)) := hi
    have R : Hid (Fd.run st k (l.drop k) = Fd.run Fd.st0 0 l) := hrun
    have B : Hid (Below (w.heap.size + 1) w0 wr) := hb
    have X : Hid (Bf wr w.heap.size 0 0 (.slice none 0 0) (.slice none 0 0)) := X0.out.below hb (Nat.lt_succ_self _)
    have Z : Hid (∀ i, wr.frozen? ⟨w.heap.size, i, none⟩ = false) := fun i => by rw [hb.frozen (p := ⟨w.heap.size, i, none⟩) (Nat.lt_succ_self _)]; exact Z0.out i
    have BW : Hid (Below w.heap.size w wr) := B0.out.trans (hb.mono (Nat.le_succ _))
    clear hd hi hrun hb D0
    by_cases h0 : k = s.size
    · subst h0
      have R2 : Hid (Fd.run Fd.st0 0 l = .inr st) := by
        unfold Hid
        rw [← R.out, List.drop_of_length_le (by rw [Ll.out]; exact Nat.le_refl _)]
        rfl
      obtain ⟨u1, u2, hd, ht⟩ := D.out
      have T : Hid (Two wr (w.heap.size + 1 + 1) u1 u2 st.gs st.os) := ht
      have c0 := hd.c0
      have c1 := hd.c1
      have c2 := hd.c2
      have c3 := hd.c3
      have c4 := hd.c4
      obtain ⟨x0, x1, x2, x3⟩ := X.out
      have z0 := Z.out 0
      have z1 := Z.out 1
      have z2 := Z.out 2
      have z3 := Z.out 3
      have k12 := I.out.c12
      have h12 := I.out.h12
      have w12 := I.out.w12
      obtain ⟨c, W, H, gs, os⟩ := st
      simp only at c0 c1 c4 k12 h12 w12
      have P2 : Hid (Fd.parse l = if 0 < c ∨ H = 0 then .inl (l.length, 2) else .inr ⟨c, W, H, gs, os⟩) := by
        unfold Hid
        rw [P.out, R2.out]
      clear hd ht
      by_cases q1 : 0 < c
      · go_wp2
        refine bodyPost_ret (v := .tuple #[.agg #[.int .i64 0, .int .i64 0, .slice none 0 0, .slice none 0 0], .int .i64 (s.size : Nat), .iface 97 (.int .i64 2)]) (by simp [results, Tryz.results44, go_sem, x0, x1, x2, x3]) rfl ⟨.inl ⟨s.size, 2, by rw [P2.out, if_pos (.inl q1), Ll.out], rfl, by decide⟩, ?_⟩
        exact (((BW.out.setCell (Nat.le_refl _) _).setCell (Nat.le_refl _) _).setCell (Nat.le_refl _) _).setCell (Nat.le_refl _) _
      · obtain rfl : c = 0 := by omega
        by_cases q2 : H = 0
        · subst q2
          go_wp2
          refine bodyPost_ret (v := .tuple #[.agg #[.int .i64 0, .int .i64 0, .slice none 0 0, .slice none 0 0], .int .i64 (s.size : Nat), .iface 97 (.int .i64 2)]) (by simp [results, Tryz.results44, go_sem, x0, x1, x2, x3]) rfl ⟨.inl ⟨s.size, 2, by rw [P2.out, Ll.out]; simp, rfl, by decide⟩, ?_⟩
          exact (((BW.out.setCell (Nat.le_refl _) _).setCell (Nat.le_refl _) _).setCell (Nat.le_refl _) _).setCell (Nat.le_refl _) _
        · have q2b : ((H : Int) == 0) = false := by rw [beq_eq_false_iff_ne]; omega
          obtain ⟨p1, k1, rfl⟩ := T.out.o1.len
          obtain ⟨p2, k2, rfl⟩ := T.out.o2.len
          have KK : Hid (Kp w.heap.size wr ((((wr.setCell ⟨w.heap.size, 0, none⟩ (.int .i64 (W : Nat))).setCell ⟨w.heap.size, 1, none⟩ (.int .i64 (H : Nat))).setCell ⟨w.heap.size, 2, none⟩ (.slice p1 gs.length k1)).setCell ⟨w.heap.size, 3, none⟩ (.slice p2 os.length k2))) := (((Kp.set _ _ _).trans (Kp.set _ _ _)).trans (Kp.set _ _ _)).trans (Kp.set _ _ _)
          go_wp2
          refine bodyPost_ret (v := .tuple #[.agg #[.int .i64 (W : Nat), .int .i64 (H : Nat), .slice p1 gs.length k1, .slice p2 os.length k2], .int .i64 0, .nilIface]) (by simp [results, Tryz.results44, go_sem, x0, x1, x2, x3]) rfl ⟨.inr ⟨_, _, _, by rw [P2.out, if_neg (by omega)], rfl, ?_⟩, ?_⟩
          · exact T.out.kp KK.out (by omega)
          · exact (((BW.out.setCell (Nat.le_refl _) _).setCell (Nat.le_refl _) _).setCell (Nat.le_refl _) _).setCell (Nat.le_refl _) _
    · have hks : k < s.size := by omega
      have hkl : k < l.length := by rw [Ll.out]; exact hks
      have RA := run_at st hkl
      rw [R.out] at RA
      have eb : l[k] = s[k] := by
        have := Hl.out
        subst this
        rfl
      rw [eb] at RA
      have RA' : Hid _ := RA
      have TK : Hid (l.take (k + 1) = l.take k ++ [s[k]]) := by unfold Hid; rw [List.take_succ_eq_append_getElem hkl, eb]
      have KR : Hid (Calls Tryz.prog 103 #[.pointer (some ⟨w.heap.size + 1, 0, none⟩), .int .u8 (s[k].toNat : Nat)] wr fun e w' => (∃ f, Fd.step st s[k] = .inl f ∧ e = .returned (.iface 97 (.int .i64 f)) ∧ f ≠ 0 ∧ Below (w.heap.size + 1) wr w') ∨ (∃ s', Fd.step st s[k] = .inr s' ∧ e = .returned .nilIface ∧ Dr w' (w.heap.size + 1) s' ∧ Below (w.heap.size + 1) wr w')) := read_any _ st s[k] wr D.out (Okay.of I.out)
      clear RA eb
      go_wp2_with fail
      refine Calls.mono KR.out ?_
      rintro e w1 hm
      rcases hm with ⟨f, hst, rfl, hf, hb⟩ | ⟨st', hst, rfl, hd', hb⟩
      · have P2 : Hid (Fd.parse l = .inl (k, f)) := by
          unfold Hid
          rw [P.out, RA'.out, hst]
        have Hf : Hid (f ≠ 0) := hf
        have B1 : Hid (Below w.heap.size w w1) := BW.out.trans (hb.mono (Nat.le_succ _))
        have X1 : Bf w1 w.heap.size 0 0 (.slice none 0 0) (.slice none 0 0) := X.out.below hb (Nat.lt_succ_self _)
        have z0 : w1.frozen? ⟨w.heap.size, 0, none⟩ = false := by rw [hb.frozen (p := ⟨w.heap.size, 0, none⟩) (Nat.lt_succ_self _)]; exact Z.out 0
        have z1 : w1.frozen? ⟨w.heap.size, 1, none⟩ = false := by rw [hb.frozen (p := ⟨w.heap.size, 1, none⟩) (Nat.lt_succ_self _)]; exact Z.out 1
        have z2 : w1.frozen? ⟨w.heap.size, 2, none⟩ = false := by rw [hb.frozen (p := ⟨w.heap.size, 2, none⟩) (Nat.lt_succ_self _)]; exact Z.out 2
        have z3 : w1.frozen? ⟨w.heap.size, 3, none⟩ = false := by rw [hb.frozen (p := ⟨w.heap.size, 3, none⟩) (Nat.lt_succ_self _)]; exact Z.out 3
        obtain ⟨x0, x1, x2, x3⟩ := X1
        clear hst hf hb KR RA'
        go_wp2
        refine bodyPost_ret (v := .tuple #[.agg #[.int .i64 0, .int .i64 0, .slice none 0 0, .slice none 0 0], .int .i64 (k : Nat), .iface 97 (.int .i64 f)]) (by simp [results, Tryz.results44, go_sem, x0, x1, x2, x3]) rfl ⟨.inl ⟨k, f, P2.out, rfl, Hf.out⟩, ?_⟩
        exact (((B1.out.setCell (Nat.le_refl _) _).setCell (Nat.le_refl _) _).setCell (Nat.le_refl _) _).setCell (Nat.le_refl _) _
      · have I2 : Hid (Fd.Inv st' (l.take (k + 1))) := by unfold Hid; rw [TK.out]; exact I.out.step hst
        have R2 : Hid (Fd.run st' (k + 1) (l.drop (k + 1)) = Fd.run Fd.st0 0 l) := by unfold Hid; rw [RA'.out, hst]
        have D2 : Hid (Dr w1 (w.heap.size + 1) st') := hd'
        have B2 : Hid (Below (w.heap.size + 1) w0 w1) := B.out.trans hb
        clear hst hd' hb KR RA'
        go_wp2
        go_round
        case rel => exact ⟨k + 1, st', by omega, by go_num, D2, I2, R2, B2⟩
        case measure => simp [intOf]; omega

theorem parse_any (s : ByteArray) (w : World) (hs : s.size ≤ maxLen) :
    Calls Tryz.prog 44 #[.string s] w fun e w' => Says s.data.toList e w' ∧ Below w.heap.size w w' :=
  (parse_own s w hs).mono fun e w' ⟨h, hb⟩ => ⟨h.imp id fun ⟨st, u1, u2, h1, h2, h3⟩ => ⟨st, u1, u2, h1, h2, h3.o1.ro, h3.o2.ro⟩, hb⟩
end Go.Proofs.YtkejdkajfnaieaaGreatDoor

