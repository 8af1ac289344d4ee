/- orders.Last. · turn.give. · A map of integers by integers that a call makes. · works.Train$1: whether a job is its unit's first. · world.checkPlace. · world.Place. · works.come. · works.Train. -/
import Derived.Test.YtoabhfipikkkeaaGreatDoorZTopViews9
import Derived.Test.YtoabhfipikkkeaaGreatDoorZTopViews10
import Derived.Deep.DeepCutAuto
import Derived.Test.YtoabhfipikkkeaaGreatDoorZTopViews6
import Derived.Test.YtoabhfipikkkeaaGreatDoorZTopViews3
import Derived.Test.YtoabhfipikkkeaaGreatDoorZTopViews1
import Derived.Maps.Own
import Derived.Maps.OwnOps
import Derived.Maps.Views
import Derived.Carry
import Derived.DeepKeys4
import Derived.Test.YtoabhfipikkkeaaGreatDoorZTopViews5
import Derived.Test.YtoabhfipikkkeaaGreatDoorZTopViews8
namespace Go.Proofs.YtoabhfipikkkeaaGreatDoor
open Go.RowKit Go.Proofs.YtoabhfipikkkeaaGreatDoor.So
set_option linter.unusedVariables false

theorem Oro.rb {w : World} {base : Nat} {v : Value} {ks : List OrV} (h : Oro w base v ks) : (v = .slice none 0 0 ∧ ks = []) ∨ ∃ g cap rest, v = .slice (some ⟨g, 0, none⟩) ks.length cap ∧ base ≤ g ∧ ks.length ≤ cap ∧ cap ≤ maxLen ∧ ks.length * 4 + rest.length = cap * 4 ∧ Rb w g ks rest := by
  rcases h.2 with ⟨h1, h2⟩ | ⟨g, cap, cur, h1, h2, h3, h4, h5, h6, h7⟩
  · exact .inl ⟨h1, List.length_eq_zero_iff.1 h2⟩
  · refine .inr ⟨g, cap, cur.toList.drop (ks.length * 4), h1, h2, h4, h5, ?_, ?_⟩
    · have e6 : cur.toList.length = cap * 4 := by simpa using h6
      rw [List.length_drop, e6]
      have : ks.length * 4 ≤ cap * 4 := Nat.mul_le_mul_right _ h4
      omega
    · unfold Rb
      rw [← h7, List.take_append_drop, Array.toArray_toList]
      exact h3
theorem Rb.oro {w : World} {base g cap : Nat} {ks : List OrV} {rest : List Value} (h : Rb w g ks rest) (hb : base ≤ g) (h1 : ks.length ≤ cap) (h2 : cap ≤ maxLen) (h3 : ks.length * 4 + rest.length = cap * 4) : Oro w base (.slice (some ⟨g, 0, none⟩) ks.length cap) ks := by
  refine ⟨oflat_len ks, .inr ⟨g, cap, _, rfl, hb, h, h1, h2, ?_, ?_⟩⟩
  · simp only [List.size_toArray, List.length_append, oflat_len]; omega
  · show (ks.flatMap OrV.cs ++ rest).take (ks.length * 4) = _
    rw [List.take_append_of_le_length (by rw [oflat_len]; exact Nat.le_refl _), List.take_of_length_le (by rw [oflat_len]; exact Nat.le_refl _)]
set_option maxHeartbeats 1000000 in
theorem isort_nil (fv : Value) (w : World) : Calls Tryz.prog 206 #[.slice none 0 0, .int .i64 0, .int .i64 0, fv] w fun e w' => e = .returned (.tuple #[]) ∧ w' = w := by
  go_enter Tryz.func206, Tryz.ntmps206
  go_wp2_with fail
  refine wp_loop_rounds 1 ?_
  rw [rounds_succ]
  go_wp2
  go_end0
  exact ⟨rfl, rfl⟩
set_option maxHeartbeats 1000000 in
theorem stab_nil (fv : Value) (w : World) : Calls Tryz.prog 170 #[.slice none 0 0, .int .i64 0, fv] w fun e w' => e = .returned (.tuple #[]) ∧ w' = w := by
  go_enter Tryz.func170, Tryz.ntmps170
  go_wp2_with fail
  refine wp_loop_rounds 1 ?_
  rw [rounds_succ]
  go_wp2_with fail
  refine Calls.mono (isort_nil fv w) ?_
  rintro e w' ⟨rfl, rfl⟩
  go_wp2_with fail
  refine wp_loop_rounds 1 ?_
  rw [rounds_succ]
  go_wp2
  go_end0
  exact ⟨rfl, rfl⟩
set_option maxHeartbeats 1000000 in
theorem sort_nil (fv : Value) (w : World) : Calls Tryz.prog 140 #[.slice none 0 0, fv] w fun e w' => e = .returned (.tuple #[]) ∧ w' = w := by
  go_enter Tryz.func140, Tryz.ntmps140
  go_wp2_with fail
  refine Calls.mono (stab_nil fv w) ?_
  rintro e w' ⟨rfl, rfl⟩
  go_wp2
  go_end0
  exact ⟨rfl, rfl⟩
/-- what comes of a sort of an owned list. -/
theorem sort_own (l : List OrV) (v : Value) (b1 : Nat) (w : World) (hl : l.length ≤ 60) (ho : Oro w b1 v (fs (kp l l.length))) :
    Calls Tryz.prog 140 #[v, .func (.func 141) #[] #[]] w fun e w' => e = .returned (.tuple #[]) ∧ ∃ out, LastSays l out ∧ Oro w' b1 v out ∧ w.grownBy w' v.ownBlock := by
  rcases ho.rb with ⟨rfl, hn⟩ | ⟨g, cap, rest, rfl, hb, h1, h2, h3, hr⟩
  · refine (sort_nil _ w).mono ?_
    rintro e w' ⟨rfl, rfl⟩
    have e0 : kp l l.length = [] := List.map_eq_nil_iff.1 hn
    refine ⟨rfl, [], ⟨[], by rw [e0], List.Pairwise.nil, rfl⟩, by rw [hn] at ho; exact ho, ?_⟩
    exact ⟨rfl, rfl, rfl, Nat.le_refl _, fun _ _ _ => rfl⟩
  · have hlen : (fs (kp l l.length)).length = (kp l l.length).length := by simp [fs]
    rw [hlen] at h1 h3 ⊢
    refine (sortst_any (kp l l.length) g cap _ rest w rfl (Nat.le_trans (kp_len _) hl) (kp_tags _) hr).mono ?_
    rintro e w' ⟨rfl, S, hp, hs, hr', hk⟩
    have el : (fs S).length = (kp l l.length).length := by simp [fs, hp.length_eq]
    refine ⟨rfl, fs S, ⟨S, hp, hs, rfl⟩, ?_, ⟨hk.os, hk.tape, hk.output, hk.size, fun k hk' hn => hk.block k hk' (fun e => hn (by rw [e]; rfl))⟩⟩
    have := hr'.oro (base := b1) (cap := cap) hb (by omega) h2 (by omega)
    rw [el] at this
    exact this
def LsI (ks : List OrV) (w1 : World) (mb n : Nat) (j kv : Value) (W : World) : Prop := ∃ q : Nat, q ≤ ks.length ∧ j = .int .i64 (q : Nat) ∧ Oro W w1.heap.size kv (fs (kp ks q)) ∧ Um W mb n (lf ks ks.length) ∧ Below w1.heap.size w1 W
def LastTells (ks : List OrV) (w : World) (e : Ending) (w' : World) : Prop := ∃ u r, e = .returned (.tuple #[u, r]) ∧ Er r (Od.faults ks) ∧ ((Od.faults ks ≠ 0 ∧ u = .slice none 0 0) ∨ (Od.faults ks = 0 ∧ ∃ out, LastSays ks out ∧ Oro w' w.heap.size u out)) ∧ Below w.heap.size w w'
set_option maxRecDepth 100000 in
set_option maxHeartbeats 8000000 in
theorem last_any (v : Value) (ks : List OrV) (w : World) (h : Orl w v ks) : Calls Tryz.prog 100 #[v] w (LastTells ks w) := by
  have K0 : Hid (Orl w v ks) := h
  obtain ⟨a, c, rfl, c1, c2, -⟩ := h
  go_enter Tryz.func100, Tryz.ntmps100
  go_wp2_with fail
  refine Calls.mono (ocheck_any _ ks w K0.out) ?_
  rintro e w0 ⟨u, rfl, hu, b0⟩
  obtain ⟨F, hF⟩ : ∃ F, Od.faults ks = F := ⟨_, rfl⟩
  have HF : Hid (Od.faults ks = F) := hF
  rw [hF] at hu
  have B0 : Hid (Below w.heap.size w w0) := b0
  clear hF b0
  rcases hu with ⟨hF, rfl⟩ | ⟨hF, rfl⟩
  case inr =>
    have E : Hid (F ≠ 0) := hF
    clear hF
    go_wp2
    go_ret2
    exact ⟨_, _, rfl, by rw [HF.out]; exact Er.no E.out, .inl ⟨by rw [HF.out]; exact E.out, rfl⟩, B0.out⟩
  subst hF
  have FO : Hid (ks.length ≤ 60 ∧ ∀ o ∈ ks, ¬ Od.bad o) := Od.faults_ok HF.out
  go_wp2_with fail
  refine Calls.mono (lastOnes_any _ ks w0 (K0.out.below B0.out) FO.out.1 FO.out.2) ?_
  rintro e w1 ⟨mb, n, rfl, hm, hmb, b1⟩
  have M1 : Hid (Um w1 mb n (lf ks ks.length)) := hm
  have B1 : Hid (Below w.heap.size w w1) := B0.out.trans (b1.mono B0.out.size)
  clear hm hmb b1
  go_wp2_with fail
  go_loopw [18, 6] (fun j kv W => LsI ks w1 mb n j kv W) (fun j _ _ => ks.length - (intOf j).toNat)
  case atStart => exact ⟨0, Nat.zero_le _, rfl, Oro.nil _ _, M1.out, Below.refl _ _⟩
  case round =>
    obtain ⟨q, hq, rfl, hko, hm, hb⟩ := hrel
    have OQ : Hid (Oro wr w1.heap.size u6 (fs (kp ks q))) := hko
    have MQ : Hid (Um wr mb n (lf ks ks.length)) := hm
    have BQ : Hid (Below w1.heap.size w1 wr) := hb
    clear hko hm hb
    by_cases hql : q = ks.length
    · subst hql
      go_wp2_with fail
      refine Calls.mono (sort_own ks u6 w1.heap.size wr FO.out.1 OQ.out) ?_
      rintro e w2 ⟨rfl, out, hls, ho, hg⟩
      have G2 : Hid (Below w.heap.size w w2) := (B1.out.trans (BQ.out.mono B1.out.size)).grown hg (by have := B1.out.size; have := BQ.out.size; omega) (fun k hk => by have := (OQ.out.block k hk).1; have := B1.out.size; omega)
      have FIN : Hid (∃ out, LastSays ks out ∧ Oro w2 w.heap.size u6 out) := ⟨out, hls, ho.mono B1.out.size⟩
      clear hls ho hg
      go_wp2
      go_ret2
      exact ⟨_, _, rfl, by rw [HF.out]; exact Er.nil, .inr ⟨HF.out, FIN.out⟩, G2.out⟩
    · have hqk : q < ks.length := by omega
      obtain ⟨k, hk⟩ : ∃ k, ks[q]? = some k := ⟨_, List.getElem?_eq_getElem hqk⟩
      have HK : Hid (ks[q]? = some k) := hk
      have OK := Od.ok_of (FO.out.2 k (List.mem_of_getElem? hk))
      have WF : Hid ((Lit.int .i64 k.player).wf = true ∧ (Lit.int .i64 k.unit).wf = true) := ⟨wf64 (by omega) (by omega), wf64 (by omega) (by omega)⟩
      have K1 := K0.out.below (B1.out.trans (BQ.out.mono B1.out.size))
      obtain ⟨a', c', e, -, -, h3⟩ := K1
      injection e with e1 e2 e3
      subst e1 e3
      obtain ⟨x, rfl, hx1, hx⟩ := h3 (by rintro rfl; simp at hqk)
      have Yc := hx q k hk
      clear hx h3 e2 hk OK
      obtain ⟨q0, q1, q2, q3⟩ := Yc
      go_upto_region 9 with fail
      have BA : Hid (Below wr.heap.size wr (wr.alloc (Obj.cells #[.int .i64 k.player, .int .i64 k.unit, .int .i64 k.what, .int .i64 k.arg] 86))) := (Below.refl _ _).alloc (Nat.le_refl _) _
      have XA : Hid (Orc (wr.alloc (Obj.cells #[.int .i64 k.player, .int .i64 k.unit, .int .i64 k.what, .int .i64 k.arg] 86)) ⟨wr.heap.size, 0, none⟩ k) := Orc.mk' (w := wr) k rfl
      clear q0 q1 q2 q3
      obtain ⟨z, hz⟩ : ∃ z, wr.heap.size = z := ⟨_, rfl⟩
      rw [hz] at XA ⊢
      have SZ : Hid (wr.heap.size = z) := hz
      clear hz
      generalize wr.alloc (Obj.cells #[.int .i64 k.player, .int .i64 k.unit, .int .i64 k.what, .int .i64 k.arg] 86) = w2 at *
      have B2 : Hid (Below w1.heap.size w1 w2) := BQ.out.trans (BA.out.mono BQ.out.size)
      have M2 : Hid (Um w2 mb n (lf ks ks.length)) := MQ.out.below BA.out
      have O2 : Hid (Oro w2 w1.heap.size u6 (fs (kp ks q))) := OQ.out.below BA.out
      clear MQ OQ BQ BA
      have KL : Hid ((fs (kp ks q)).length ≤ 60) := by have h1 := kp_len (l := ks) q; have h2 := FO.out.1; unfold Hid; simp [fs]; omega
      by_cases h3 : k.what = 3
      · obtain ⟨x0, x1, x2, x3⟩ := XA.out
        simp only [Nat.zero_add] at x1 x2 x3
        have OA : Hid (Oro (w2.alloc (Obj.cells #[.int .i64 k.player, .int .i64 k.unit, .int .i64 k.what, .int .i64 k.arg] 86)) w1.heap.size u6 (fs (kp ks q))) := O2.out.alloc _
        have RC : Hid (Orc (w2.alloc (Obj.cells #[.int .i64 k.player, .int .i64 k.unit, .int .i64 k.what, .int .i64 k.arg] 86)) ⟨w2.heap.size, 0, none⟩ k) := Orc.mk' (w := w2) k rfl
        have BB : Hid (Below w2.heap.size w2 (w2.alloc (Obj.cells #[.int .i64 k.player, .int .i64 k.unit, .int .i64 k.what, .int .i64 k.arg] 86))) := (Below.refl _ _).alloc (Nat.le_refl _) _
        have SB : Hid (w1.heap.size ≤ (w2.alloc (Obj.cells #[.int .i64 k.player, .int .i64 k.unit, .int .i64 k.what, .int .i64 k.arg] 86)).heap.size) := Nat.le_trans B2.out.size BB.out.size
        have h3c : k.what = 3 := h3
        have NK : Hid (kp ks (q + 1) = kp ks q ++ [(k, q)]) := kp_yes HK.out (.inl h3)
        rw [h3] at OA RC BB SB
        go_wp2_with (at_builtin; refine app_or _ rfl _ _ rfl w1.heap.size _ (fs (kp ks q)) rfl OA.out w2.heap.size k rfl RC.out (by have := KL.out; omega) SB.out ?_)
        intro g cap w5 o5 g5 a5 l5
        have B5 : Hid (Below w1.heap.size w1 w5) := (B2.out.trans (BB.out.mono B2.out.size)).grown g5 SB.out (fun k hk => (O2.out.block k hk).1)
        have M5 : Hid (Um w5 mb n (lf ks ks.length)) := (M2.out.below BB.out).gb g5 (fun e => by have := (O2.out.block mb e.symm).1; have := M1.out.lt; omega)
        have O5 : Hid (Oro w5 w1.heap.size (.slice (some ⟨g, 0, none⟩) ((kp ks q).length + 1) cap) (fs (kp ks (q + 1)))) := by unfold Hid; rw [NK.out]; simpa [fs] using o5
        clear o5 g5 a5 l5 x0 x1 x2 x3
        go_wp2
        go_round
        case rel => exact ⟨q + 1, by omega, by go_num, O5.out, M5.out, B5.out⟩
        case measure => simp [intOf]; omega
      · have h3b : (k.what == 3) = false := beq_eq_false_iff_ne.2 h3
        obtain ⟨x0, x1, x2, x3⟩ := XA.out
        simp only [Nat.zero_add] at x1 x2 x3
        go_wp2_with fail
        refine Calls.mono (unitOf_any k w2) ?_
        rintro e w3 ⟨rfl, b3⟩
        have B3 : Hid (Below w1.heap.size w1 w3) := B2.out.trans (b3.mono B2.out.size)
        have M3 : Hid (Um w3 mb n (lf ks ks.length)) := M2.out.below b3
        have O3 : Hid (Oro w3 w1.heap.size u6 (fs (kp ks q))) := O2.out.below b3
        have X3 : Hid (Orc w3 ⟨z, 0, none⟩ k) := XA.out.below b3 XA.out.lt
        have LK := M3.out.look WF.out.1 WF.out.2
        clear b3 x0 x1 x2 x3 B2 M2 O2 XA
        by_cases hi : lf ks ks.length k.player k.unit = (q : Nat)
        · obtain ⟨x0, x1, x2, x3⟩ := X3.out
          simp only [Nat.zero_add] at x1 x2 x3
          have OA : Hid (Oro (w3.alloc (Obj.cells #[.int .i64 k.player, .int .i64 k.unit, .int .i64 k.what, .int .i64 k.arg] 86)) w1.heap.size u6 (fs (kp ks q))) := O3.out.alloc _
          have RC : Hid (Orc (w3.alloc (Obj.cells #[.int .i64 k.player, .int .i64 k.unit, .int .i64 k.what, .int .i64 k.arg] 86)) ⟨w3.heap.size, 0, none⟩ k) := Orc.mk' (w := w3) k rfl
          have BB : Hid (Below w3.heap.size w3 (w3.alloc (Obj.cells #[.int .i64 k.player, .int .i64 k.unit, .int .i64 k.what, .int .i64 k.arg] 86))) := (Below.refl _ _).alloc (Nat.le_refl _) _
          have SB : Hid (w1.heap.size ≤ (w3.alloc (Obj.cells #[.int .i64 k.player, .int .i64 k.unit, .int .i64 k.what, .int .i64 k.arg] 86)).heap.size) := Nat.le_trans B3.out.size BB.out.size
          have NK : Hid (kp ks (q + 1) = kp ks q ++ [(k, q)]) := kp_yes HK.out (.inr hi)
          rw [hi] at LK
          clear hi
          go_wp2_with (at_builtin; refine app_or _ rfl _ _ rfl w1.heap.size _ (fs (kp ks q)) rfl OA.out w3.heap.size k rfl RC.out (by have := KL.out; omega) SB.out ?_)
          intro g cap w5 o5 g5 a5 l5
          have B5 : Hid (Below w1.heap.size w1 w5) := (B3.out.trans (BB.out.mono B3.out.size)).grown g5 SB.out (fun k hk => (O3.out.block k hk).1)
          have M5 : Hid (Um w5 mb n (lf ks ks.length)) := (M3.out.below BB.out).gb g5 (fun e => by have := (O3.out.block mb e.symm).1; have := M1.out.lt; omega)
          have O5 : Hid (Oro w5 w1.heap.size (.slice (some ⟨g, 0, none⟩) ((kp ks q).length + 1) cap) (fs (kp ks (q + 1)))) := by unfold Hid; rw [NK.out]; simpa [fs] using o5
          clear o5 g5 a5 l5 x0 x1 x2 x3
          go_wp2
          go_round
          case rel => exact ⟨q + 1, by omega, by go_num, O5.out, M5.out, B5.out⟩
          case measure => simp [intOf]; omega
        · have hib : (lf ks ks.length k.player k.unit == ((q : Nat) : Int)) = false := beq_eq_false_iff_ne.2 hi
          have NK : Hid (kp ks (q + 1) = kp ks q) := kp_no HK.out (by rintro (h | h); exact h3 h; exact hi h)
          generalize lf ks ks.length k.player k.unit = lfv at *
          go_wp2
          go_round
          case rel => exact ⟨q + 1, by omega, by go_num, by rw [NK.out]; exact O3.out, M3.out, B3.out⟩
          case measure => simp [intOf]; omega
end Go.Proofs.YtoabhfipikkkeaaGreatDoor

namespace Go.Proofs.YtoabhfipikkkeaaGreatDoor
open Go.RowKit Go.Proofs.YtoabhfipikkkeaaGreatDoor.So
set_option linter.unusedVariables false

def GiveTells (ks : List KV) (X : WV) (l : List OrV) (w : World) (e : Ending) (w' : World) : Prop := ∃ v ur r, e = .returned (.tuple #[v, ur, r]) ∧ Er r (Od.faults l) ∧ ((Od.faults l ≠ 0 ∧ v = .agg #[.int .i64 0, .int .i64 0, .int .i64 0, .int .i64 0, .slice none 0 0, .slice none 0 0, .slice none 0 0, .slice none 0 0, .slice none 0 0] ∧ ur = .slice none 0 0) ∨ (Od.faults l = 0 ∧ ∃ out, LastSays l out ∧ Wo w' w.heap.size v (gv ks X out out.length).1 ∧ Ow w' w.heap.size ur (gv ks X out out.length).2)) ∧ Below w.heap.size w w'
def GvI (ks : List KV) (X : WV) (out : List OrV) (b1 z : Nat) (w1 : World) (ur j : Value) (V : World) : Prop := ∃ (q : Nat) (u1 u2 u3 u4 u5 : Value), q ≤ out.length ∧ j = .int .i64 (q : Nat) ∧ (gv ks X out q).2.length ≤ q ∧ GvS ks (gv ks X out q).1 (gv ks X out q).2 b1 z w1 u1 u2 u3 u4 u5 ur V
set_option maxRecDepth 100000 in
set_option maxHeartbeats 16000000 in
theorem give_any (vk vw vl : Value) (ks : List KV) (X : WV) (l : List OrV) (w : World) (hk : Kl w vk ks) (hw : Wl w vw X) (hl : Orl w vl l) (hr : WRight ks X) :
    Calls Tryz.prog 47 #[vk, vw, vl] w (GiveTells ks X l w) := by
  have K : Hid (Kl w vk ks) := hk
  have H : Hid (Wl w vw X) := hw
  have L : Hid (Orl w vl l) := hl
  have R : Hid (WRight ks X) := hr
  obtain ⟨p1, q1, p2, q2, p3, q3, p4, q4, p5, q5, rfl⟩ := wl_shape9 hw
  obtain ⟨pk, qk, rfl, ck1, ck2, kc⟩ := hk
  obtain ⟨pl, ql, rfl, cl1, cl2, lc⟩ := hl
  have kl8 : ks.length ≤ 8 := hr.gfit.kinds.1
  clear hw kc lc hr
  go_enter Tryz.func47, Tryz.ntmps47
  go_upto_region 1 with fail
  have B0 : Hid (Below w.heap.size w ((w.alloc (Obj.cells #[.int .i64 X.turn, .int .i64 X.next, .int .i64 X.wide, .int .i64 X.high, .slice p1 X.gs.length q1, .slice p2 X.os.length q2, .slice p3 X.gold.length q3, .slice p4 X.us.length q4, .slice p5 X.qs.length q5] 29)).alloc (Obj.cells #[.int .i64 0, .int .i64 0, .int .i64 0, .int .i64 0, .slice none 0 0, .slice none 0 0, .slice none 0 0, .slice none 0 0, .slice none 0 0] 29))) := ((Below.refl _ _).alloc (Nat.le_refl _) _).alloc (by simp) _
  have X0 : Hid (Wx ((w.alloc (Obj.cells #[.int .i64 X.turn, .int .i64 X.next, .int .i64 X.wide, .int .i64 X.high, .slice p1 X.gs.length q1, .slice p2 X.os.length q2, .slice p3 X.gold.length q3, .slice p4 X.us.length q4, .slice p5 X.qs.length q5] 29)).alloc (Obj.cells #[.int .i64 0, .int .i64 0, .int .i64 0, .int .i64 0, .slice none 0 0, .slice none 0 0, .slice none 0 0, .slice none 0 0, .slice none 0 0] 29)) w.heap.size (.int .i64 X.turn) (.int .i64 X.next) (.int .i64 X.wide) (.int .i64 X.high) (.slice p1 X.gs.length q1) (.slice p2 X.os.length q2) (.slice p3 X.gold.length q3) (.slice p4 X.us.length q4) (.slice p5 X.qs.length q5)) := (Wx.new (w := w) _ _ _ _ _ _ _ _ _ rfl).below ((Below.refl _ _).alloc (Nat.le_refl _) _) (by simp)
  have Z0 : Hid (Wx ((w.alloc (Obj.cells #[.int .i64 X.turn, .int .i64 X.next, .int .i64 X.wide, .int .i64 X.high, .slice p1 X.gs.length q1, .slice p2 X.os.length q2, .slice p3 X.gold.length q3, .slice p4 X.us.length q4, .slice p5 X.qs.length q5] 29)).alloc (Obj.cells #[.int .i64 0, .int .i64 0, .int .i64 0, .int .i64 0, .slice none 0 0, .slice none 0 0, .slice none 0 0, .slice none 0 0, .slice none 0 0] 29)) (w.heap.size + 1) (.int .i64 0) (.int .i64 0) (.int .i64 0) (.int .i64 0) (.slice none 0 0) (.slice none 0 0) (.slice none 0 0) (.slice none 0 0) (.slice none 0 0)) := Wx.new (w := w.alloc (Obj.cells #[.int .i64 X.turn, .int .i64 X.next, .int .i64 X.wide, .int .i64 X.high, .slice p1 X.gs.length q1, .slice p2 X.os.length q2, .slice p3 X.gold.length q3, .slice p4 X.us.length q4, .slice p5 X.qs.length q5] 29)) _ _ _ _ _ _ _ _ _ (by simp)
  have S0 : Hid (((w.alloc (Obj.cells #[.int .i64 X.turn, .int .i64 X.next, .int .i64 X.wide, .int .i64 X.high, .slice p1 X.gs.length q1, .slice p2 X.os.length q2, .slice p3 X.gold.length q3, .slice p4 X.us.length q4, .slice p5 X.qs.length q5] 29)).alloc (Obj.cells #[.int .i64 0, .int .i64 0, .int .i64 0, .int .i64 0, .slice none 0 0, .slice none 0 0, .slice none 0 0, .slice none 0 0, .slice none 0 0] 29)).heap.size = w.heap.size + 1 + 1) := by unfold Hid; simp
  generalize ((w.alloc (Obj.cells #[.int .i64 X.turn, .int .i64 X.next, .int .i64 X.wide, .int .i64 X.high, .slice p1 X.gs.length q1, .slice p2 X.os.length q2, .slice p3 X.gold.length q3, .slice p4 X.us.length q4, .slice p5 X.qs.length q5] 29)).alloc (Obj.cells #[.int .i64 0, .int .i64 0, .int .i64 0, .int .i64 0, .slice none 0 0, .slice none 0 0, .slice none 0 0, .slice none 0 0, .slice none 0 0] 29)) = w0 at *
  obtain ⟨z, hz⟩ : ∃ z, w.heap.size = z := ⟨_, rfl⟩
  have HZ : Hid (w.heap.size = z) := hz
  rw [hz] at X0 Z0 S0 ⊢
  clear hz
  go_wp2_with fail
  refine Calls.mono (last_any _ l w0 (L.out.below B0.out)) ?_
  rintro e w1 ⟨ul, rl, rfl, hrl, hul, b1'⟩
  have B1 : Hid (Below w.heap.size w w1) := B0.out.trans (b1'.mono B0.out.size)
  have X1 : Hid (Wx w1 z (.int .i64 X.turn) (.int .i64 X.next) (.int .i64 X.wide) (.int .i64 X.high) (.slice p1 X.gs.length q1) (.slice p2 X.os.length q2) (.slice p3 X.gold.length q3) (.slice p4 X.us.length q4) (.slice p5 X.qs.length q5)) := X0.out.below b1' X0.out.lt
  have Z1 : Hid (Wx w1 (z + 1) (.int .i64 0) (.int .i64 0) (.int .i64 0) (.int .i64 0) (.slice none 0 0) (.slice none 0 0) (.slice none 0 0) (.slice none 0 0) (.slice none 0 0)) := Z0.out.below b1' Z0.out.lt
  obtain ⟨F, hF⟩ : ∃ F, Od.faults l = F := ⟨_, rfl⟩
  have HF : Hid (Od.faults l = F) := hF
  rw [hF] at hrl hul
  clear hF b1' X0 Z0
  rcases hrl with ⟨rfl, rfl⟩ | ⟨hF, rfl⟩
  case inr =>
    have HN : Hid (F ≠ 0) := hF
    clear hF hul
    obtain ⟨z0, z1, z2, z3, z4, z5, z6, z7, z8⟩ := Z1.out.cells
    obtain ⟨t0, t1, t2, t3, t4, t5, t6, t7, t8⟩ := Z1.out.thaws
    have KZ : Hid (Kp (z + 1) w1 ((((((((((w1.setCell ⟨z + 1, 0, none⟩ (.int .i64 0)).setCell ⟨z + 1, 1, none⟩ (.int .i64 0)).setCell ⟨z + 1, 2, none⟩ (.int .i64 0)).setCell ⟨z + 1, 3, none⟩ (.int .i64 0)).setCell ⟨z + 1, 4, none⟩ (.slice none 0 0)).setCell ⟨z + 1, 5, none⟩ (.slice none 0 0)).setCell ⟨z + 1, 6, none⟩ (.slice none 0 0)).setCell ⟨z + 1, 7, none⟩ (.slice none 0 0)).setCell ⟨z + 1, 8, none⟩ (.slice none 0 0)))) := put_kp _ _ _ _ _ _ _ _ _ _ _
    obtain ⟨y0, y1, y2, y3, y4, y5, y6, y7, y8⟩ := (Z1.out.put (.int .i64 0) (.int .i64 0) (.int .i64 0) (.int .i64 0) (.slice none 0 0) (.slice none 0 0) (.slice none 0 0) (.slice none 0 0) (.slice none 0 0)).cells
    go_wp2
    clear z0 z1 z2 z3 z4 z5 z6 z7 z8 t0 t1 t2 t3 t4 t5 t6 t7 t8
    generalize (((((((((w1.setCell ⟨z + 1, 0, none⟩ (.int .i64 0)).setCell ⟨z + 1, 1, none⟩ (.int .i64 0)).setCell ⟨z + 1, 2, none⟩ (.int .i64 0)).setCell ⟨z + 1, 3, none⟩ (.int .i64 0)).setCell ⟨z + 1, 4, none⟩ (.slice none 0 0)).setCell ⟨z + 1, 5, none⟩ (.slice none 0 0)).setCell ⟨z + 1, 6, none⟩ (.slice none 0 0)).setCell ⟨z + 1, 7, none⟩ (.slice none 0 0)).setCell ⟨z + 1, 8, none⟩ (.slice none 0 0)) = w9 at *
    refine bodyPost_ret (v := .tuple #[.agg #[.int .i64 0, .int .i64 0, .int .i64 0, .int .i64 0, .slice none 0 0, .slice none 0 0, .slice none 0 0, .slice none 0 0, .slice none 0 0], .slice none 0 0, .iface 99 (.int .i64 F)]) (by simp [results, Tryz.results47, go_sem, y0, y1, y2, y3, y4, y5, y6, y7, y8]) rfl ⟨_, _, _, rfl, by rw [HF.out]; exact Er.no HN.out, .inl ⟨by rw [HF.out]; exact HN.out, rfl, rfl⟩, KZ.out.below B1.out B1.out.size (by rw [HZ.out]; omega)⟩
  obtain ⟨out, hls, ho⟩ : ∃ out, LastSays l out ∧ Oro w1 w0.heap.size ul out := by
    rcases hul with ⟨h, -⟩ | ⟨-, h⟩
    · exact absurd rfl h
    · exact h
  have LS : Hid (LastSays l out) := hls
  have OB : Hid (∀ o ∈ out, ¬ Od.bad o) := fun o h => (Od.faults_ok HF.out).2 o (hls.mem h)
  have OL : Hid (out.length ≤ 60) := Nat.le_trans hls.len (Od.faults_ok HF.out).1
  obtain ⟨plo, clo, rfl⟩ := ho.len
  have O1 : Hid (Oro w1 (z + 1 + 1) (.slice plo out.length clo) out) := by have h := ho; rw [S0.out] at h; exact h
  clear hls ho hul
  obtain ⟨x0, x1, x2, x3, x4, x5, x6, x7, x8⟩ := X1.out.cells
  go_wp2_with fail
  refine (copy_any _ X w1 (H.out.below B1.out) R.out.len).mono ?_
  rintro e w2 ⟨cu, rfl, ⟨k1, k2, k3, k4, k5, rfl, ⟨o1, o2, o3, o4, o5⟩, d12, d13, d14, d15, d23, d24, d25, d34, d35, d45⟩, hb⟩
  obtain ⟨b1, hb1⟩ : ∃ b, w1.heap.size = b := ⟨_, rfl⟩
  have HB1 : Hid (w1.heap.size = b1 ∧ z + 1 < b1) := ⟨hb1, by rw [← hb1]; exact Z1.out.lt⟩
  rw [hb1] at o1 o2 o3 o4 o5
  have X2 : Hid (Wx w2 z (.int .i64 X.turn) (.int .i64 X.next) (.int .i64 X.wide) (.int .i64 X.high) (.slice p1 X.gs.length q1) (.slice p2 X.os.length q2) (.slice p3 X.gold.length q3) (.slice p4 X.us.length q4) (.slice p5 X.qs.length q5)) := X1.out.below hb X1.out.lt
  obtain ⟨t0, t1, t2, t3, t4, t5, t6, t7, t8⟩ := X2.out.thaws
  obtain ⟨y0, y1, y2, y3, y4, y5, y6, y7, y8⟩ := X2.out.cells
  have KZ : Hid (Kp z w2 ((((((((((w2.setCell ⟨z, 0, none⟩ (.int .i64 X.turn)).setCell ⟨z, 1, none⟩ (.int .i64 X.next)).setCell ⟨z, 2, none⟩ (.int .i64 X.wide)).setCell ⟨z, 3, none⟩ (.int .i64 X.high)).setCell ⟨z, 4, none⟩ (k1)).setCell ⟨z, 5, none⟩ (k2)).setCell ⟨z, 6, none⟩ (k3)).setCell ⟨z, 7, none⟩ (k4)).setCell ⟨z, 8, none⟩ (k5)))) := put_kp _ _ _ _ _ _ _ _ _ _ _
  have X3 : Hid (Wx ((((((((((w2.setCell ⟨z, 0, none⟩ (.int .i64 X.turn)).setCell ⟨z, 1, none⟩ (.int .i64 X.next)).setCell ⟨z, 2, none⟩ (.int .i64 X.wide)).setCell ⟨z, 3, none⟩ (.int .i64 X.high)).setCell ⟨z, 4, none⟩ (k1)).setCell ⟨z, 5, none⟩ (k2)).setCell ⟨z, 6, none⟩ (k3)).setCell ⟨z, 7, none⟩ (k4)).setCell ⟨z, 8, none⟩ (k5))) z (.int .i64 X.turn) (.int .i64 X.next) (.int .i64 X.wide) (.int .i64 X.high) k1 k2 k3 k4 k5) := X2.out.put _ _ _ _ _ _ _ _ _
  have G3 : Hid (GvS ks X [] b1 z w1 k1 k2 k3 k4 k5 (.slice none 0 0) ((((((((((w2.setCell ⟨z, 0, none⟩ (.int .i64 X.turn)).setCell ⟨z, 1, none⟩ (.int .i64 X.next)).setCell ⟨z, 2, none⟩ (.int .i64 X.wide)).setCell ⟨z, 3, none⟩ (.int .i64 X.high)).setCell ⟨z, 4, none⟩ (k1)).setCell ⟨z, 5, none⟩ (k2)).setCell ⟨z, 6, none⟩ (k3)).setCell ⟨z, 7, none⟩ (k4)).setCell ⟨z, 8, none⟩ (k5)))) := by
    have hz1 := HB1.out.2
    refine ⟨X3.out, o1.kp KZ.out (by omega), o2.kp KZ.out (by omega), o3.kp KZ.out (by omega), o4.kp KZ.out (by omega), o5.kp KZ.out (by omega), Ow.nil _ _, ?_, (Kp.of hb).trans KZ.out, R.out.gfit⟩
    have dn : ∀ u, Dif u (.slice none 0 0) := fun u k h1 h2 => by cases h2
    simp only [List.pairwise_cons, List.mem_cons, List.not_mem_nil, or_false, forall_eq_or_imp, forall_eq]
    exact ⟨⟨d12, d13, d14, d15, dn _⟩, ⟨d23, d24, d25, dn _⟩, ⟨d34, d35, dn _⟩, ⟨d45, dn _⟩, dn _, by simp, by simp⟩
  obtain ⟨kp1, kc1, rfl⟩ := o1.len
  obtain ⟨kp2, kc2, rfl⟩ := o2.len
  obtain ⟨kp3, kc3, rfl⟩ := o3.len
  obtain ⟨kp4, kc4, rfl⟩ := o4.len
  obtain ⟨kp5, kc5, rfl⟩ := o5.len
  clear hb hb1 x0 x1 x2 x3 x4 x5 x6 x7 x8 o1 o2 o3 o4 o5 d12 d13 d14 d15 d23 d24 d25 d34 d35 d45 X1
  go_upto_region 5 with fail
  clear t0 t1 t2 t3 t4 t5 t6 t7 t8 y0 y1 y2 y3 y4 y5 y6 y7 y8
  generalize (((((((((w2.setCell ⟨z, 0, none⟩ (.int .i64 X.turn)).setCell ⟨z, 1, none⟩ (.int .i64 X.next)).setCell ⟨z, 2, none⟩ (.int .i64 X.wide)).setCell ⟨z, 3, none⟩ (.int .i64 X.high)).setCell ⟨z, 4, none⟩ (.slice kp1 X.gs.length kc1)).setCell ⟨z, 5, none⟩ (.slice kp2 X.os.length kc2)).setCell ⟨z, 6, none⟩ (.slice kp3 X.gold.length kc3)).setCell ⟨z, 7, none⟩ (.slice kp4 X.us.length kc4)).setCell ⟨z, 8, none⟩ (.slice kp5 X.qs.length kc5)) = w3 at *
  have ZZ : Hid (∀ V, Kp z w1 V → Wx V (z + 1) (.int .i64 0) (.int .i64 0) (.int .i64 0) (.int .i64 0) (.slice none 0 0) (.slice none 0 0) (.slice none 0 0) (.slice none 0 0) (.slice none 0 0)) := fun V hV => Z1.out.kp hV (by omega)
  have OO : Hid (∀ V, Kp z w1 V → Oro V (z + 1 + 1) (.slice plo out.length clo) out) := fun V hV => owns_kp O1.out hV (by omega)
  have BV : Hid (∀ V, Kp z w1 V → Below w.heap.size w V) := fun V hV => hV.below B1.out B1.out.size (by rw [HZ.out]; omega)
  have ol : out.length ≤ 60 := OL.out
  clear KZ X2 X3
  go_wp2_with fail
  go_loopw [11, 29] (fun ur j V => GvI ks X out b1 z w1 ur j V) (fun _ j _ => out.length - (intOf j).toNat)
  case atStart => exact ⟨0, _, _, _, _, _, Nat.zero_le _, rfl, Nat.le_refl _, G3.out⟩
  case round =>
    obtain ⟨q, u1, u2, u3, u4, u5, hq, rfl, hrl, hg⟩ := hrel
    obtain ⟨Y, hY⟩ : ∃ Y, (gv ks X out q).1 = Y := ⟨_, rfl⟩
    obtain ⟨ref, hR⟩ : ∃ r, (gv ks X out q).2 = r := ⟨_, rfl⟩
    have HY : Hid ((gv ks X out q).1 = Y ∧ (gv ks X out q).2 = ref) := ⟨hY, hR⟩
    rw [hY, hR] at hg
    rw [hR] at hrl
    have GQ : Hid (GvS ks Y ref b1 z w1 u1 u2 u3 u4 u5 u11 wr) := hg
    have RL : Hid (ref.length ≤ q) := hrl
    clear hY hR
    obtain ⟨ra, rc, rfl⟩ := hg.r.len
    obtain ⟨a1, h1, rfl⟩ := hg.o1.len
    obtain ⟨a2, h2, rfl⟩ := hg.o2.len
    obtain ⟨a3, h3, rfl⟩ := hg.o3.len
    obtain ⟨a4, h4, rfl⟩ := hg.o4.len
    obtain ⟨a5, h5, rfl⟩ := hg.o5.len
    clear hg hrl
    by_cases hqo : q = out.length
    · have FIN : Hid ((gv ks X out out.length).1 = Y ∧ (gv ks X out out.length).2 = ref) := by rw [← hqo]; exact HY.out
      subst hqo
      obtain ⟨x0, x1, x2, x3, x4, x5, x6, x7, x8⟩ := GQ.out.x.cells
      obtain ⟨z0, z1, z2, z3, z4, z5, z6, z7, z8⟩ := (ZZ.out _ GQ.out.k).cells
      obtain ⟨t0, t1, t2, t3, t4, t5, t6, t7, t8⟩ := (ZZ.out _ GQ.out.k).thaws
      have KZ : Hid (Kp (z + 1) wr ((((((((((wr.setCell ⟨z + 1, 0, none⟩ (.int .i64 Y.turn)).setCell ⟨z + 1, 1, none⟩ (.int .i64 Y.next)).setCell ⟨z + 1, 2, none⟩ (.int .i64 Y.wide)).setCell ⟨z + 1, 3, none⟩ (.int .i64 Y.high)).setCell ⟨z + 1, 4, none⟩ (.slice a1 Y.gs.length h1)).setCell ⟨z + 1, 5, none⟩ (.slice a2 Y.os.length h2)).setCell ⟨z + 1, 6, none⟩ (.slice a3 Y.gold.length h3)).setCell ⟨z + 1, 7, none⟩ (.slice a4 Y.us.length h4)).setCell ⟨z + 1, 8, none⟩ (.slice a5 Y.qs.length h5)))) := put_kp _ _ _ _ _ _ _ _ _ _ _
      obtain ⟨y0, y1, y2, y3, y4, y5, y6, y7, y8⟩ := ((ZZ.out _ GQ.out.k).put (.int .i64 Y.turn) (.int .i64 Y.next) (.int .i64 Y.wide) (.int .i64 Y.high) (.slice a1 Y.gs.length h1) (.slice a2 Y.os.length h2) (.slice a3 Y.gold.length h3) (.slice a4 Y.us.length h4) (.slice a5 Y.qs.length h5)).cells
      go_wp2
      clear x0 x1 x2 x3 x4 x5 x6 x7 x8 z0 z1 z2 z3 z4 z5 z6 z7 z8 t0 t1 t2 t3 t4 t5 t6 t7 t8
      generalize (((((((((wr.setCell ⟨z + 1, 0, none⟩ (.int .i64 Y.turn)).setCell ⟨z + 1, 1, none⟩ (.int .i64 Y.next)).setCell ⟨z + 1, 2, none⟩ (.int .i64 Y.wide)).setCell ⟨z + 1, 3, none⟩ (.int .i64 Y.high)).setCell ⟨z + 1, 4, none⟩ (.slice a1 Y.gs.length h1)).setCell ⟨z + 1, 5, none⟩ (.slice a2 Y.os.length h2)).setCell ⟨z + 1, 6, none⟩ (.slice a3 Y.gold.length h3)).setCell ⟨z + 1, 7, none⟩ (.slice a4 Y.us.length h4)).setCell ⟨z + 1, 8, none⟩ (.slice a5 Y.qs.length h5)) = w9 at *
      refine bodyPost_ret (v := .tuple #[.agg #[.int .i64 Y.turn, .int .i64 Y.next, .int .i64 Y.wide, .int .i64 Y.high, .slice a1 Y.gs.length h1, .slice a2 Y.os.length h2, .slice a3 Y.gold.length h3, .slice a4 Y.us.length h4, .slice a5 Y.qs.length h5], .slice ra ref.length rc, .nilIface]) (by simp [results, Tryz.results47, go_sem, y0, y1, y2, y3, y4, y5, y6, y7, y8]) rfl ⟨_, _, _, rfl, by rw [HF.out]; exact Er.nil, .inr ⟨HF.out, out, LS.out, ?_, ?_⟩, ?_⟩
      · rw [FIN.out.1]
        exact (GQ.out.wo.kp KZ.out HB1.out.2).mono (by have h1 := HB1.out; have h2 := HZ.out; omega)
      · rw [FIN.out.2]
        exact (GQ.out.r.kp KZ.out HB1.out.2).mono (by have h1 := HB1.out; have h2 := HZ.out; omega)
      · exact KZ.out.below (BV.out _ GQ.out.k) (BV.out _ GQ.out.k).size (by rw [HZ.out]; omega)
    · have hqk : q < out.length := by omega
      obtain ⟨o, ho⟩ : ∃ o, out[q]? = some o := ⟨_, List.getElem?_eq_getElem hqk⟩
      have HO : Hid (out[q]? = some o) := ho
      have OBK : Hid (¬ Od.bad o) := OB.out o (List.mem_of_getElem? ho)
      obtain ⟨a', c', e, -, -, hx⟩ := (OO.out _ GQ.out.k).l
      injection e with e1 e2 e3
      subst e1 e3
      obtain ⟨xo, rfl, -, hxo⟩ := hx (by rintro hn; rw [hn] at hqk; simp at hqk)
      obtain ⟨r0, r1, r2, r3⟩ := hxo q o ho
      clear hx hxo e2 ho
      have hqi : ((q : Nat) : Int) < (out.length : Nat) := by omega
      go_upto_region 9 with fail
      have BA : Hid (Below wr.heap.size wr (wr.alloc (Obj.cells #[.int .i64 o.player, .int .i64 o.unit, .int .i64 o.what, .int .i64 o.arg] 86))) := (Below.refl _ _).alloc (Nat.le_refl _) _
      have OA : Hid (Orc (wr.alloc (Obj.cells #[.int .i64 o.player, .int .i64 o.unit, .int .i64 o.what, .int .i64 o.arg] 86)) ⟨wr.heap.size, 0, none⟩ o) := Orc.mk' (w := wr) o rfl
      obtain ⟨y, hy⟩ : ∃ y, wr.heap.size = y := ⟨_, rfl⟩
      have YL : Hid (wr.heap.size = y ∧ b1 ≤ y) := ⟨hy, by rw [← hy, ← HB1.out.1]; exact GQ.out.k.size⟩
      rw [hy] at OA ⊢
      clear r0 r1 r2 r3 hy
      generalize wr.alloc (Obj.cells #[.int .i64 o.player, .int .i64 o.unit, .int .i64 o.what, .int .i64 o.arg] 86) = w4 at *
      have G4 : Hid (GvS ks Y ref b1 z w1 (.slice a1 Y.gs.length h1) (.slice a2 Y.os.length h2) (.slice a3 Y.gold.length h3) (.slice a4 Y.us.length h4) (.slice a5 Y.qs.length h5) (.slice ra ref.length rc) w4) := GQ.out.below BA.out
      have yl4 : Hid (y < w4.heap.size) := OA.out.lt
      clear BA GQ
      obtain ⟨x0, x1, x2, x3, x4, x5, x6, x7, x8⟩ := G4.out.x.cells
      go_wp2_with fail
      refine (idxm_any 101 (by intro args w; go_simp) _ #[.pointer (some ⟨y, 0, none⟩)] Y.us (askU o) w4 G4.out.o4.l (fun W hW u hu => ?_)).mono ?_
      · obtain ⟨c0, c1, -, -⟩ := OA.out.below hW yl4.out
        simp only [Nat.zero_add] at c1
        exact ask_fn o u y W c0 c1
      rintro e w5 ⟨r, rfl, hfr, b5⟩
      have G5 : Hid (GvS ks Y ref b1 z w1 (.slice a1 Y.gs.length h1) (.slice a2 Y.os.length h2) (.slice a3 Y.gold.length h3) (.slice a4 Y.us.length h4) (.slice a5 Y.qs.length h5) (.slice ra ref.length rc) w5) := G4.out.below b5
      have O5 : Hid (Orc w5 ⟨y, 0, none⟩ o) := OA.out.below b5 yl4.out
      clear b5 x0 x1 x2 x3 x4 x5 x6 x7 x8 G4 OA
      have kl8i : ks.length ≤ 8 := kl8
      rcases hfr with ⟨rfl, hnone⟩ | ⟨i, u, rfl, hu, hask, hfirst⟩
      · have GN : Hid (given1 ks Y o = none) := by unfold Hid given1; rw [ask_none hnone]
        clear hnone
        go_upto_region 11 with fail
        go_quiet (fail)
        have D6 : Hid (Below w5.heap.size w5 (w5.drewN nq)) := ⟨rfl, rfl, rfl, Nat.le_refl _, fun _ _ => rfl⟩
        generalize w5.drewN nq = w6 at *
        have G6 : Hid (GvS ks Y ref b1 z w1 (.slice a1 Y.gs.length h1) (.slice a2 Y.os.length h2) (.slice a3 Y.gold.length h3) (.slice a4 Y.us.length h4) (.slice a5 Y.qs.length h5) (.slice ra ref.length rc) w6) := G5.out.below D6.out
        have NX : Hid (gv ks X out (q + 1) = (Y, ref ++ [(q : Int)])) := by
          have h9 := gv_no (ks := ks) (Y := X) HO.out (by rw [HY.out.1]; exact GN.out)
          unfold Hid
          rw [h9, HY.out.1, HY.out.2]
        have BA : Hid (Below w6.heap.size w6 (w6.alloc (Obj.cells #[.int .i64 (q : Nat)] 3))) := (Below.refl _ _).alloc (Nat.le_refl _) _
        have GA : Hid (GvS ks Y ref b1 z w1 (.slice a1 Y.gs.length h1) (.slice a2 Y.os.length h2) (.slice a3 Y.gold.length h3) (.slice a4 Y.us.length h4) (.slice a5 Y.qs.length h5) (.slice ra ref.length rc) (w6.alloc (Obj.cells #[.int .i64 (q : Nat)] 3))) := G6.out.below BA.out
        have SB : Hid (b1 ≤ (w6.alloc (Obj.cells #[.int .i64 (q : Nat)] 3)).heap.size) := Nat.le_trans (by have h1 := G6.out.k.size; rw [HB1.out.1] at h1; exact h1) BA.out.size
        go_wp2_with (at_builtin; refine app_int _ rfl _ _ rfl b1 _ ref rfl GA.out.r ⟨w6.heap.size, 0, none⟩ (q : Int) rfl (by simp) (by have := RL.out; omega) SB.out ?_)
        intro g7 c7 w7 o7 gr7 a7 l7
        have G7 : Hid (GvS ks Y (ref ++ [(q : Int)]) b1 z w1 (.slice a1 Y.gs.length h1) (.slice a2 Y.os.length h2) (.slice a3 Y.gold.length h3) (.slice a4 Y.us.length h4) (.slice a5 Y.qs.length h5) (.slice (some ⟨g7, 0, none⟩) (ref.length + 1) c7) w7) := GA.out.refuse (by have := HB1.out.2; omega) HB1.out.1 gr7 o7 (by
          rcases a7 with h | h
          · exact .inl h.symm
          · exact .inr ⟨g7, rfl, by rw [h]; simp⟩)
        clear o7 gr7 a7 l7
        go_wp2
        go_round
        case rel => exact ⟨q + 1, _, _, _, _, _, by omega, by go_num, by rw [NX.out]; have := RL.out; simp; omega, by rw [NX.out]; exact G7.out⟩
        case measure => simp [intOf]; omega
      · have FI : Hid (Y.us.findIdx? (askU o) = some i ∧ Y.us[i]? = some u) := ⟨ask_some hu hask hfirst, hu⟩
        obtain ⟨⟨kn, k, hkn, hkk⟩, pn, hpn, hpl⟩ := G5.out.f.units u (List.mem_of_getElem? hu)
        have hap : u.player = o.player := (of_decide_eq_true hask).2
        have KU : Hid (u.kind = (kn : Nat) ∧ ks[kn]? = some k ∧ o.player = (pn : Nat) ∧ pn < Y.gold.length) := ⟨hkn, hkk, by rw [← hap]; exact hpn, hpl⟩
        have hil : i < Y.us.length := (List.getElem?_eq_some_iff.1 hu).1
        have hkl : kn < ks.length := (List.getElem?_eq_some_iff.1 hkk).1
        have G1 : Hid (given1 ks Y o = if mayB ks Y k o = true then some (if o.what = 3 then hired ks Y o else sentW Y i u o) else none) := by
          unfold Hid given1
          rw [FI.out.1]
          simp only [FI.out.2]
          rw [KU.out.1, Int.toNat_natCast]
          simp only [KU.out.2.1]
        obtain ⟨gu, cap, urest, e4, hgu, hc1, hc2, hc3, hub⟩ : ∃ gu cap rest, Value.slice a4 Y.us.length h4 = .slice (some ⟨gu, 0, none⟩) Y.us.length cap ∧ b1 ≤ gu ∧ Y.us.length ≤ cap ∧ cap ≤ maxLen ∧ Y.us.length * 8 + rest.length = cap * 8 ∧ Ub w5 gu Y.us rest := by
          rcases G5.out.o4.ub with ⟨-, h⟩ | ⟨gu, cap, rest, h⟩
          · rw [h] at hil; simp at hil
          · exact ⟨gu, cap, rest, h⟩
        injection e4 with e41 e42 e43
        subst e41 e43
        have UG : Hid (b1 ≤ gu ∧ Y.us.length ≤ h4 ∧ h4 ≤ maxLen ∧ Y.us.length * 8 + urest.length = h4 * 8 ∧ Ub w5 gu Y.us urest) := ⟨hgu, hc1, hc2, hc3, hub⟩
        have UB : Hid (∀ V, Below w5.heap.size w5 V → Ub V gu Y.us urest) := fun V hV => hub.below hV hub.lt
        obtain ⟨xk, rfl, hxk1, hxk⟩ : ∃ xk, pk = some xk ∧ xk.block < w.heap.size ∧ ∀ (i : Nat) k, ks[i]? = some k → Kc w (xk.add (i * 11)) k := by
          obtain ⟨a', c', e', -, -, hx⟩ := K.out
          injection e' with e1' e2' e3'
          subst e1'
          exact hx (by rintro hn; rw [hn] at hkl; simp at hkl)
        have BW : Hid (∀ V, Below w5.heap.size w5 V → Below w.heap.size w V) := fun V hV => (BV.out _ G5.out.k).trans (hV.mono (BV.out _ G5.out.k).size)
        have KX : Hid (∀ V, Below w5.heap.size w5 V → ∀ (j : Nat) kk, ks[j]? = some kk → Kc V (xk.add (j * 11)) kk) := fun V hV j kk hj => (hxk j kk hj).below (BW.out V hV) (by rw [add_block]; exact hxk1)
        have C5 : Hid (∀ V, Below w5.heap.size w5 V → (Wx V z (.int .i64 Y.turn) (.int .i64 Y.next) (.int .i64 Y.wide) (.int .i64 Y.high) (.slice a1 Y.gs.length h1) (.slice a2 Y.os.length h2) (.slice a3 Y.gold.length h3) (.slice (some ⟨gu, 0, none⟩) Y.us.length h4) (.slice a5 Y.qs.length h5) ∧ Unc V ⟨gu, i * 8, none⟩ u ∧ Kc V (xk.add (kn * 11)) k ∧ Orc V ⟨y, 0, none⟩ o)) := fun V hV => ⟨G5.out.x.below hV G5.out.x.lt, (UB.out V hV).unc FI.out.2, KX.out V hV kn k KU.out.2.1, O5.out.below hV O5.out.lt⟩
        have hkni : ((kn : Nat) : Int) < (ks.length : Nat) := by omega
        have hii : ((i : Nat) : Int) < (Y.us.length : Nat) := by omega
        have hi0 : ¬ ((i : Nat) : Int) < 0 := by omega
        have D5 : Hid (Below w5.heap.size w5 { w5 with drawn := w5.drawn + 1 }) := (Below.refl _ _).drew
        clear hu hask hfirst hkk hap hpn hpl hgu hc1 hc2 hc3 hub e42 hxk hxk1 hkn hil hkl
        go_upto_region 11 with fail
        refine wp_region_two [(true, 0), (true, 1), (true, 2), (true, 3), (true, 4), (true, 5), (true, 6), (true, 7), (true, 8), (true, 9), (true, 10), (true, 11), (true, 12), (true, 13), (true, 14), (false, 15)] [(false, 16), (false, 17)] (fun V => Wx V z (.int .i64 Y.turn) (.int .i64 Y.next) (.int .i64 Y.wide) (.int .i64 Y.high) (.slice a1 Y.gs.length h1) (.slice a2 Y.os.length h2) (.slice a3 Y.gold.length h3) (.slice (some ⟨gu, 0, none⟩) Y.us.length h4) (.slice a5 Y.qs.length h5) ∧ Unc V ⟨gu, i * 8, none⟩ u ∧ Kc V (xk.add (kn * 11)) k ∧ Orc V ⟨y, 0, none⟩ o) (by kernel_rfl) (by kernel_rfl) (by kernel_rfl) (by decide +kernel) (by decide +kernel) (C5.out _ D5.out) ?_
        generalize ({ w5 with drawn := w5.drawn + 1 } : World) = w6 at *
        refine headT_read rfl (.int .i64 (i : Nat)) (by go_simp) (fun V hV => by go_simp) ?_
        go_simp
        refine headT_read rfl (.bool false) (by go_simp) (fun V hV => by go_simp) ?_
        go_simp
        refine headT_read rfl (.bool false) (by go_simp) (fun V hV => by go_simp) ?_
        go_simp
        refine headT_read rfl (.slice (some xk) ks.length qk) (by go_simp) (fun V hV => by go_simp) ?_
        go_simp
        refine headT_read rfl (.agg #[.int .i64 Y.turn, .int .i64 Y.next, .int .i64 Y.wide, .int .i64 Y.high, .slice a1 Y.gs.length h1, .slice a2 Y.os.length h2, .slice a3 Y.gold.length h3, .slice (some ⟨gu, 0, none⟩) Y.us.length h4, .slice a5 Y.qs.length h5]) (by go_simp) (fun V hV => by obtain ⟨hX, hU, hK, hO⟩ := hV; obtain ⟨x0, x1, x2, x3, x4, x5, x6, x7, x8⟩ := hX.cells; obtain ⟨y0, y1, y2, y3, y4, y5, y6, y7⟩ := hU; obtain ⟨k0, k1, k2, k3, k4, k5, k6, k7, k8, k9, k10⟩ := hK; obtain ⟨o0, o1, o2, o3⟩ := hO; simp only [Nat.zero_add] at o1 o2 o3; go_simp) ?_
        go_simp
        refine headT_read rfl (.slice (some xk) ks.length qk) (by go_simp) (fun V hV => by go_simp) ?_
        go_simp
        refine headT_read rfl (.pointer (some ⟨z, 7, none⟩)) (by go_simp) (fun V hV => by go_simp) ?_
        go_simp
        refine headT_read rfl (.slice (some ⟨gu, 0, none⟩) Y.us.length h4) (by go_simp) (fun V hV => by obtain ⟨hX, hU, hK, hO⟩ := hV; obtain ⟨x0, x1, x2, x3, x4, x5, x6, x7, x8⟩ := hX.cells; obtain ⟨y0, y1, y2, y3, y4, y5, y6, y7⟩ := hU; obtain ⟨k0, k1, k2, k3, k4, k5, k6, k7, k8, k9, k10⟩ := hK; obtain ⟨o0, o1, o2, o3⟩ := hO; simp only [Nat.zero_add] at o1 o2 o3; go_simp) ?_
        go_simp
        refine headT_read rfl (.int .i64 (i : Nat)) (by go_simp) (fun V hV => by go_simp) ?_
        go_simp
        refine headT_read rfl (.pointer (some ⟨gu, i * 8, none⟩)) (by go_simp) (fun V hV => by go_simp) ?_
        go_simp
        refine headT_read rfl (.pointer (some ⟨gu, i * 8 + 2, none⟩)) (by go_simp) (fun V hV => by go_simp) ?_
        go_simp
        refine headT_read rfl (.int .i64 (kn : Nat)) (by go_simp) (fun V hV => by obtain ⟨hX, hU, hK, hO⟩ := hV; obtain ⟨x0, x1, x2, x3, x4, x5, x6, x7, x8⟩ := hX.cells; obtain ⟨y0, y1, y2, y3, y4, y5, y6, y7⟩ := hU; obtain ⟨k0, k1, k2, k3, k4, k5, k6, k7, k8, k9, k10⟩ := hK; obtain ⟨o0, o1, o2, o3⟩ := hO; simp only [Nat.zero_add] at o1 o2 o3; rw [KU.out.1] at y2; go_simp) ?_
        go_simp
        refine headT_read rfl (.pointer (some (xk.add (kn * 11)))) (by go_simp) (fun V hV => by go_simp) ?_
        go_simp
        refine headT_read rfl (.agg #[.string k.b, .int .i64 k.n0, .int .i64 k.n1, .int .i64 k.n2, .int .i64 k.n3, .int .i64 k.n4, .int .i64 k.n5, .int .i64 k.n6, .int .i64 k.n7, .bool k.f, .bool k.t]) (by go_simp) (fun V hV => by obtain ⟨hX, hU, hK, hO⟩ := hV; obtain ⟨x0, x1, x2, x3, x4, x5, x6, x7, x8⟩ := hX.cells; obtain ⟨y0, y1, y2, y3, y4, y5, y6, y7⟩ := hU; obtain ⟨k0, k1, k2, k3, k4, k5, k6, k7, k8, k9, k10⟩ := hK; obtain ⟨o0, o1, o2, o3⟩ := hO; simp only [Nat.zero_add] at o1 o2 o3; go_simp) ?_
        go_simp
        refine headT_read rfl (.agg #[.int .i64 o.player, .int .i64 o.unit, .int .i64 o.what, .int .i64 o.arg]) (by go_simp) (fun V hV => by obtain ⟨hX, hU, hK, hO⟩ := hV; obtain ⟨x0, x1, x2, x3, x4, x5, x6, x7, x8⟩ := hX.cells; obtain ⟨y0, y1, y2, y3, y4, y5, y6, y7⟩ := hU; obtain ⟨k0, k1, k2, k3, k4, k5, k6, k7, k8, k9, k10⟩ := hK; obtain ⟨o0, o1, o2, o3⟩ := hO; simp only [Nat.zero_add] at o1 o2 o3; go_simp) ?_
        go_simp
        refine headT_call rfl 102 #[.slice (some xk) ks.length qk, .agg #[.int .i64 Y.turn, .int .i64 Y.next, .int .i64 Y.wide, .int .i64 Y.high, .slice a1 Y.gs.length h1, .slice a2 Y.os.length h2, .slice a3 Y.gold.length h3, .slice (some ⟨gu, 0, none⟩) Y.us.length h4, .slice a5 Y.qs.length h5], .agg #[.string k.b, .int .i64 k.n0, .int .i64 k.n1, .int .i64 k.n2, .int .i64 k.n3, .int .i64 k.n4, .int .i64 k.n5, .int .i64 k.n6, .int .i64 k.n7, .bool k.f, .bool k.t], .agg #[.int .i64 o.player, .int .i64 o.unit, .int .i64 o.what, .int .i64 o.arg]] (by go_simp) (by go_simp) ?_
        have GW : Hid (GvS ks Y ref b1 z w1 (.slice a1 Y.gs.length h1) (.slice a2 Y.os.length h2) (.slice a3 Y.gold.length h3) (.slice (some ⟨gu, 0, none⟩) Y.us.length h4) (.slice a5 Y.qs.length h5) (.slice ra ref.length rc) w6) := G5.out.below D5.out
        refine Calls.mono (maybe_any _ _ ks Y k o w6 (K.out.below (BW.out w6 D5.out)) GW.out.wo.l GW.out.f OBK.out (by rw [KU.out.2.2.1, Int.toNat_natCast]; exact KU.out.2.2.2)) ?_
        rintro e w7 ⟨rfl, b7⟩
        have D7 : Hid (Below w5.heap.size w5 w7) := D5.out.trans (b7.mono D5.out.size)
        refine ⟨_, rfl, C5.out _ D7.out, ?_⟩
        obtain ⟨mb, hmb⟩ : ∃ b, mayB ks Y k o = b := ⟨_, rfl⟩
        have MB : Hid (mayB ks Y k o = mb) := hmb
        rw [hmb]
        clear b7 hmb
        go_simp
        refine sched_value rfl (.bool (!mb)) w7 (by go_simp) (by go_simp) trivial ?_
        go_simp
        refine sched_value rfl (.bool (!mb)) w7 (by go_simp) (by go_simp) trivial ?_
        go_simp
        unfold wpSched
        have G7' : Hid (GvS ks Y ref b1 z w1 (.slice a1 Y.gs.length h1) (.slice a2 Y.os.length h2) (.slice a3 Y.gold.length h3) (.slice (some ⟨gu, 0, none⟩) Y.us.length h4) (.slice a5 Y.qs.length h5) (.slice ra ref.length rc) w7) := G5.out.below D7.out
        cases mb with
        | false =>
          have GN : Hid (given1 ks Y o = none) := by unfold Hid; rw [G1.out, MB.out]; simp
          have NX : Hid (gv ks X out (q + 1) = (Y, ref ++ [(q : Int)])) := by
            have h9 := gv_no (ks := ks) (Y := X) HO.out (by rw [HY.out.1]; exact GN.out)
            unfold Hid
            rw [h9, HY.out.1, HY.out.2]
          have BA : Hid (Below w7.heap.size w7 (w7.alloc (Obj.cells #[.int .i64 (q : Nat)] 3))) := (Below.refl _ _).alloc (Nat.le_refl _) _
          have GA : Hid (GvS ks Y ref b1 z w1 (.slice a1 Y.gs.length h1) (.slice a2 Y.os.length h2) (.slice a3 Y.gold.length h3) (.slice (some ⟨gu, 0, none⟩) Y.us.length h4) (.slice a5 Y.qs.length h5) (.slice ra ref.length rc) (w7.alloc (Obj.cells #[.int .i64 (q : Nat)] 3))) := G7'.out.below BA.out
          have SB : Hid (b1 ≤ (w7.alloc (Obj.cells #[.int .i64 (q : Nat)] 3)).heap.size) := Nat.le_trans (by have h1 := G7'.out.k.size; rw [HB1.out.1] at h1; exact h1) BA.out.size
          go_wp2_with (at_builtin; refine app_int _ rfl _ _ rfl b1 _ ref rfl GA.out.r ⟨w7.heap.size, 0, none⟩ (q : Int) rfl (by simp) (by have := RL.out; omega) SB.out ?_)
          intro g7 c7 w8 o7 gr7 a7 l7
          have G8 : Hid (GvS ks Y (ref ++ [(q : Int)]) b1 z w1 (.slice a1 Y.gs.length h1) (.slice a2 Y.os.length h2) (.slice a3 Y.gold.length h3) (.slice (some ⟨gu, 0, none⟩) Y.us.length h4) (.slice a5 Y.qs.length h5) (.slice (some ⟨g7, 0, none⟩) (ref.length + 1) c7) w8) := GA.out.refuse (by have := HB1.out.2; omega) HB1.out.1 gr7 o7 (by
            rcases a7 with h | h
            · exact .inl h.symm
            · exact .inr ⟨g7, rfl, by rw [h]; simp⟩)
          clear o7 gr7 a7 l7
          go_wp2
          go_round
          case rel => exact ⟨q + 1, _, _, _, _, _, by omega, by go_num, by rw [NX.out]; have := RL.out; simp; omega, by rw [NX.out]; exact G8.out⟩
          case measure => simp [intOf]; omega
        | true =>
          have GY : Hid (given1 ks Y o = some (if o.what = 3 then hired ks Y o else sentW Y i u o)) := by unfold Hid; rw [G1.out, MB.out]; simp
          obtain ⟨c0, c1, c2, c3⟩ := (C5.out _ D7.out).2.2.2
          simp only [Nat.zero_add] at c1 c2 c3
          by_cases hw3 : o.what = 3
          · have hw3b : (o.what == 3) = true := beq_iff_eq.2 hw3
            have HW3 : Hid (o.what = 3) := hw3
            have M3 : Hid (k.t = true ∧ o.arg < (ks.length : Int) ∧ priceOf ks o.arg ≤ Y.gold.getD o.player.toNat 0 ∧ Y.qs.length < 12) := by
              have h9 := MB.out
              unfold mayB at h9
              rw [if_neg (by omega), if_neg (by omega), if_pos hw3] at h9
              unfold Hid
              exact of_decide_eq_true h9
            have A0 : 0 ≤ o.arg := by have h9 := Od.ok_of OBK.out; omega
            obtain ⟨an, han⟩ : ∃ an : Nat, o.arg = an := ⟨o.arg.toNat, by omega⟩
            obtain ⟨kk, hkk⟩ : ∃ kk, ks[an]? = some kk := ⟨_, List.getElem?_eq_getElem (by have := M3.out.2.1; omega)⟩
            have AK : Hid (o.arg = (an : Nat) ∧ ks[an]? = some kk) := ⟨han, hkk⟩
            have hani : ((an : Nat) : Int) < (ks.length : Nat) := by have := M3.out.2.1; omega
            obtain ⟨g, hgp⟩ : ∃ g, Y.gold[pn]? = some g := ⟨_, List.getElem?_eq_getElem KU.out.2.2.2⟩
            have GP : Hid (Y.gold[pn]? = some g) := hgp
            obtain ⟨gg, cg, grest, e3, hgg, hd1, hd2, hd3, hbk⟩ : ∃ g cap rest, Value.slice a3 Y.gold.length h3 = .slice (some ⟨g, 0, none⟩) Y.gold.length cap ∧ b1 ≤ g ∧ Y.gold.length ≤ cap ∧ cap ≤ maxLen ∧ Y.gold.length + rest.size = cap ∧ Bk w7 g Y.gold rest := by
              rcases G7'.out.o3.bk with ⟨-, h⟩ | h
              · have := KU.out.2.2.2; rw [h] at this; simp at this
              · exact h
            injection e3 with e31 e32 e33
            subst e31 e33
            have GG : Hid (b1 ≤ gg ∧ Y.gold.length ≤ h3 ∧ h3 ≤ maxLen ∧ Y.gold.length + grest.size = h3 ∧ Bk w7 gg Y.gold grest) := ⟨hgg, hd1, hd2, hd3, hbk⟩
            have EG : Hid ((hired ks Y o).gold = Y.gold.set pn (g - kk.n5)) := by
              unfold Hid hired priceOf
              simp only [KU.out.2.2.1, AK.out.1, Int.toNat_natCast, AK.out.2, List.getD_eq_getElem?_getD, GP.out, Option.getD_some]
            have EQ : Hid ((hired ks Y o).qs = Y.qs ++ [⟨o.player, o.unit, o.arg, max kk.n6 1⟩]) := by
              unfold Hid hired turnsOf
              simp only [AK.out.1, Int.toNat_natCast, AK.out.2]
            have NX : Hid (gv ks X out (q + 1) = (hired ks Y o, ref)) := by
              have h9 := gv_yes (ks := ks) (Y := X) HO.out (Z := hired ks Y o) (by rw [HY.out.1, GY.out, if_pos hw3])
              unfold Hid
              rw [h9, HY.out.2]
            have CE : Hid (∀ V, Below w7.heap.size w7 V → (Kc V (xk.add (an * 11)) kk ∧ Orc V ⟨y, 0, none⟩ o)) := fun V hV => ⟨KX.out V (D7.out.trans (hV.mono D7.out.size)) an kk AK.out.2, (C5.out V (D7.out.trans (hV.mono D7.out.size))).2.2.2⟩
            have D8 : Hid (Below w7.heap.size w7 { w7 with drawn := w7.drawn + 1 }) := (Below.refl _ _).drew
            clear hw3 A0 han hkk hgp hgg hd1 hd2 hd3 hbk e32
            go_upto_region 14 with fail
            clear c0 c1 c2 c3 hw3b
            refine wp_region_two [(true, 0), (true, 1), (true, 2), (true, 3), (true, 4), (true, 5)] [(false, 6)] (fun V => Kc V (xk.add (an * 11)) kk ∧ Orc V ⟨y, 0, none⟩ o) (by kernel_rfl) (by kernel_rfl) (by kernel_rfl) (by decide +kernel) (by decide +kernel) (CE.out _ D8.out) ?_
            generalize ({ w7 with drawn := w7.drawn + 1 } : World) = w8 at *
            refine headT_read rfl (.slice (some xk) ks.length qk) (by go_simp) (fun V hV => by go_simp) ?_
            go_simp
            refine headT_read rfl (.pointer (some ⟨y, 3, none⟩)) (by go_simp) (fun V hV => by go_simp) ?_
            go_simp
            refine headT_read rfl (.int .i64 (an : Nat)) (by go_simp) (fun V hV => by obtain ⟨hK, hO⟩ := hV; obtain ⟨o0, o1, o2, o3⟩ := hO; simp only [Nat.zero_add] at o1 o2 o3; rw [AK.out.1] at o3; go_simp) ?_
            go_simp
            refine headT_read rfl (.pointer (some (xk.add (an * 11)))) (by go_simp) (fun V hV => by go_simp) ?_
            go_simp
            refine headT_read rfl (.agg #[.string kk.b, .int .i64 kk.n0, .int .i64 kk.n1, .int .i64 kk.n2, .int .i64 kk.n3, .int .i64 kk.n4, .int .i64 kk.n5, .int .i64 kk.n6, .int .i64 kk.n7, .bool kk.f, .bool kk.t]) (by go_simp) (fun V hV => by obtain ⟨hK, hO⟩ := hV; obtain ⟨k0, k1, k2, k3, k4, k5, k6, k7, k8, k9, k10⟩ := hK; obtain ⟨o0, o1, o2, o3⟩ := hO; simp only [Nat.zero_add] at o1 o2 o3; go_simp) ?_
            go_simp
            refine headT_read rfl (.agg #[.int .i64 o.player, .int .i64 o.unit, .int .i64 o.what, .int .i64 o.arg]) (by go_simp) (fun V hV => by obtain ⟨hK, hO⟩ := hV; obtain ⟨o0, o1, o2, o3⟩ := hO; simp only [Nat.zero_add] at o1 o2 o3; go_simp) ?_
            go_simp
            unfold wpHeadT
            have G8 : Hid (GvS ks Y ref b1 z w1 (.slice a1 Y.gs.length h1) (.slice a2 Y.os.length h2) (.slice (some ⟨gg, 0, none⟩) Y.gold.length h3) (.slice (some ⟨gu, 0, none⟩) Y.us.length h4) (.slice a5 Y.qs.length h5) (.slice ra ref.length rc) w8) := G7'.out.below D8.out
            have B8 : Hid (Bk w8 gg Y.gold grest) := GG.out.2.2.2.2.below D8.out
            have KM : Hid (0 ≤ kk.n5 ∧ kk.n5 ≤ 1000 ∧ 0 ≤ kk.n6 ∧ kk.n6 ≤ 1000) := G8.out.f.kinds.2 kk (List.mem_of_getElem? AK.out.2)
            refine sched_call rfl 103 #[.pointer (some ⟨z, 0, none⟩), .agg #[.string kk.b, .int .i64 kk.n0, .int .i64 kk.n1, .int .i64 kk.n2, .int .i64 kk.n3, .int .i64 kk.n4, .int .i64 kk.n5, .int .i64 kk.n6, .int .i64 kk.n7, .bool kk.f, .bool kk.t], .agg #[.int .i64 o.player, .int .i64 o.unit, .int .i64 o.what, .int .i64 o.arg]] (by go_simp) (by go_simp) ?_
            refine Calls.mono (hire_any z gg Y.gold.length h3 b1 _ _ _ _ _ _ _ Y.gold grest a5 h5 Y.qs kk o pn g w8 G8.out.x B8.out G8.out.o5 KU.out.2.2.1 KU.out.2.2.2 GP.out (G8.out.f.gold g (List.mem_of_getElem? GP.out)) ⟨KM.out.1, KM.out.2.1⟩ KM.out.2.2 G8.out.f.ql (by have := HB1.out.2; omega) GG.out.1 (by have h1 := G8.out.k.size; rw [HB1.out.1] at h1; exact h1) (fun h => G8.out.difs.2.2.1.2.1 gg rfl h)) ?_
            rintro e w9 ⟨rfl, a8', h8', hx, hbk, hj, hf, hn⟩
            refine ⟨_, rfl, trivial, ?_⟩
            have G9 : Hid (GvS ks (hired ks Y o) ref b1 z w1 (.slice a1 Y.gs.length h1) (.slice a2 Y.os.length h2) (.slice (some ⟨gg, 0, none⟩) Y.gold.length h3) (.slice (some ⟨gu, 0, none⟩) Y.us.length h4) (.slice a8' (Y.qs.length + 1) h8') (.slice ra ref.length rc) w9) := G8.out.hire (pn := pn) (g := g) (rest := grest) (by have := HB1.out.2; omega) HB1.out.1 GG.out.1 GG.out.2.1 GG.out.2.2.1 GG.out.2.2.2.1 hx (by rw [EG.out]; exact hbk) (by rw [EQ.out]; exact hj) hf hn (G8.out.f.hire M3.out.2.2.1 (by rw [KU.out.2.2.1, Int.toNat_natCast]; exact KU.out.2.2.2) M3.out.2.2.2)
            clear hx hbk hj hf hn
            go_simp
            unfold wpSched
            go_wp2
            go_round
            case rel => exact ⟨q + 1, _, _, _, _, _, by omega, by go_num, by rw [NX.out]; have := RL.out; show ref.length ≤ q + 1; omega, by rw [NX.out]; exact G9.out⟩
            case measure => simp [intOf]; omega
          · have hw3b : (o.what == 3) = false := beq_eq_false_iff_ne.2 hw3
            have NX : Hid (gv ks X out (q + 1) = (sentW Y i u o, ref)) := by
              have h9 := gv_yes (ks := ks) (Y := X) HO.out (Z := sentW Y i u o) (by rw [HY.out.1, GY.out, if_neg hw3])
              unfold Hid
              rw [h9, HY.out.2]
            have WH : Hid (o.what = 0 ∧ o.arg = 0 ∨ o.what = 1 ∨ o.what = 2) := by have h9 := Od.ok_of OBK.out; unfold Hid; omega
            have CE : Hid (∀ V, Below w7.heap.size w7 V → (Wx V z (.int .i64 Y.turn) (.int .i64 Y.next) (.int .i64 Y.wide) (.int .i64 Y.high) (.slice a1 Y.gs.length h1) (.slice a2 Y.os.length h2) (.slice a3 Y.gold.length h3) (.slice (some ⟨gu, 0, none⟩) Y.us.length h4) (.slice a5 Y.qs.length h5) ∧ Unc V ⟨gu, i * 8, none⟩ u ∧ Kc V (xk.add (kn * 11)) k ∧ Orc V ⟨y, 0, none⟩ o)) := fun V hV => C5.out V (D7.out.trans (hV.mono D7.out.size))
            have D8 : Hid (Below w7.heap.size w7 { w7 with drawn := w7.drawn + 1 }) := (Below.refl _ _).drew
            clear hw3
            go_upto_region 15 with fail
            clear c0 c1 c2 c3
            refine wp_region_two [(true, 0), (true, 1), (true, 2), (true, 3), (true, 4)] [(false, 5)] (fun V => Wx V z (.int .i64 Y.turn) (.int .i64 Y.next) (.int .i64 Y.wide) (.int .i64 Y.high) (.slice a1 Y.gs.length h1) (.slice a2 Y.os.length h2) (.slice a3 Y.gold.length h3) (.slice (some ⟨gu, 0, none⟩) Y.us.length h4) (.slice a5 Y.qs.length h5) ∧ Unc V ⟨gu, i * 8, none⟩ u ∧ Kc V (xk.add (kn * 11)) k ∧ Orc V ⟨y, 0, none⟩ o) (by kernel_rfl) (by kernel_rfl) (by kernel_rfl) (by decide +kernel) (by decide +kernel) (CE.out _ D8.out) ?_
            generalize ({ w7 with drawn := w7.drawn + 1 } : World) = w8 at *
            refine headT_read rfl (.pointer (some ⟨z, 7, none⟩)) (by go_simp) (fun V hV => by go_simp) ?_
            go_simp
            refine headT_read rfl (.slice (some ⟨gu, 0, none⟩) Y.us.length h4) (by go_simp) (fun V hV => by obtain ⟨hX, hU, hK, hO⟩ := hV; obtain ⟨x0, x1, x2, x3, x4, x5, x6, x7, x8⟩ := hX.cells; obtain ⟨y0, y1, y2, y3, y4, y5, y6, y7⟩ := hU; obtain ⟨k0, k1, k2, k3, k4, k5, k6, k7, k8, k9, k10⟩ := hK; obtain ⟨o0, o1, o2, o3⟩ := hO; simp only [Nat.zero_add] at o1 o2 o3; go_simp) ?_
            go_simp
            refine headT_read rfl (.int .i64 (i : Nat)) (by go_simp) (fun V hV => by go_simp) ?_
            go_simp
            refine headT_read rfl (.pointer (some ⟨gu, i * 8, none⟩)) (by go_simp) (fun V hV => by go_simp) ?_
            go_simp
            refine headT_read rfl (.agg #[.int .i64 o.player, .int .i64 o.unit, .int .i64 o.what, .int .i64 o.arg]) (by go_simp) (fun V hV => by obtain ⟨hX, hU, hK, hO⟩ := hV; obtain ⟨x0, x1, x2, x3, x4, x5, x6, x7, x8⟩ := hX.cells; obtain ⟨y0, y1, y2, y3, y4, y5, y6, y7⟩ := hU; obtain ⟨k0, k1, k2, k3, k4, k5, k6, k7, k8, k9, k10⟩ := hK; obtain ⟨o0, o1, o2, o3⟩ := hO; simp only [Nat.zero_add] at o1 o2 o3; go_simp) ?_
            go_simp
            unfold wpHeadT
            have G8 : Hid (GvS ks Y ref b1 z w1 (.slice a1 Y.gs.length h1) (.slice a2 Y.os.length h2) (.slice a3 Y.gold.length h3) (.slice (some ⟨gu, 0, none⟩) Y.us.length h4) (.slice a5 Y.qs.length h5) (.slice ra ref.length rc) w8) := G7'.out.below D8.out
            refine sched_call rfl 104 #[.pointer (some ⟨gu, i * 8, none⟩), .agg #[.int .i64 o.player, .int .i64 o.unit, .int .i64 o.what, .int .i64 o.arg]] (by go_simp) (by go_simp) ?_
            refine Calls.mono (send_any gu i Y.us urest u o w8 (UB.out _ (D7.out.trans (D8.out.mono D7.out.size))) FI.out.2 WH.out) ?_
            rintro e w9 ⟨rfl, hub, hkp⟩
            refine ⟨_, rfl, trivial, ?_⟩
            have G9 : Hid (GvS ks (sentW Y i u o) ref b1 z w1 (.slice a1 Y.gs.length h1) (.slice a2 Y.os.length h2) (.slice a3 Y.gold.length h3) (.slice (some ⟨gu, 0, none⟩) Y.us.length h4) (.slice a5 Y.qs.length h5) (.slice ra ref.length rc) w9) := G8.out.send (by have := HB1.out.2; omega) HB1.out.1 FI.out.2 UG.out.1 UG.out.2.1 UG.out.2.2.1 UG.out.2.2.2.1 hub hkp
            clear hub hkp
            go_simp
            unfold wpSched
            go_wp2
            go_round
            case rel => exact ⟨q + 1, _, _, _, _, _, by omega, by go_num, by rw [NX.out]; have := RL.out; show ref.length ≤ q + 1; omega, by rw [NX.out]; exact G9.out⟩
            case measure => simp [intOf]; omega
end Go.Proofs.YtoabhfipikkkeaaGreatDoor

namespace Go.Proofs.YtoabhfipikkkeaaGreatDoor
open Go.RowKit
set_option linter.unusedVariables false
set_option maxRecDepth 100000

theorem im_law : Maps.Keyed Tryz.prog 3 := Maps.int_keyed Tryz.underlying3
theorem im_key {p : Int} (hp : (Lit.int .i64 p).wf = true) : ∃ kl, keyOf Tryz.prog 3 (.int .i64 p) = some kl := ⟨_, Maps.keyOf_int_mk Tryz.underlying3 hp⟩
theorem im_zero (w : World) : (zeroValue 3).run Tryz.prog w = .ok (.int .i64 0) w := by kernel_rfl
theorem wfi64 {n : Int} (h0 : -9223372036854775808 ≤ n) (h1 : n ≤ 9223372036854775807) : (Lit.int .i64 n).wf = true := WalkArith.wf_i64 (by omega)
/-- block b is a map: f tells what stands at each number. -/
def Im (w : World) (b n : Nat) (f : Int → Int) : Prop := ∃ D : DataW Unit, w.ownsMap Tryz.prog 3 (plainElem Tryz.prog 3) b n D ∧ Maps.IsMap D ∧ ∀ p kl, keyOf Tryz.prog 3 (.int .i64 p) = some kl → D.atKey kl (.lit (.int .i64 0)) = .lit (.int .i64 (f p))
def updI (f : Int → Int) (p v : Int) : Int → Int := fun p' => if p' = p then v else f p'
theorem im_made (w : World) : Im (w.alloc (.map #[] 0)) w.heap.size 0 (fun _ => 0) :=
  ⟨.map [], World.ownsMap_made _ _ _ _, Maps.isMap_empty, fun p kl _ => Maps.atKey_of_not_has rfl _⟩
theorem Im.lt {w : World} {b n : Nat} {f : Int → Int} (h : Im w b n f) : b < w.heap.size := by
  obtain ⟨D, h1, -⟩ := h
  exact h1.lt
theorem Im.gb {w w' : World} {b n : Nat} {f : Int → Int} {r : Option Nat} (h : Im w b n f) (g : w.grownBy w' r) (hr : some b ≠ r) : Im w' b n f := by
  obtain ⟨D, h1, h2⟩ := h
  exact ⟨D, h1.kept g hr, h2⟩
theorem Im.below {w w' : World} {b n : Nat} {f : Int → Int} (h : Im w b n f) (g : Below w.heap.size w w') : Im w' b n f :=
  h.gb (r := none) ⟨g.os, g.tape, g.output, g.size, fun k hk _ => g.block k hk⟩ (by simp)
theorem Im.put {w : World} {b n : Nat} {f : Int → Int} (h : Im w b n f) (hn : n < maxLen) {p v : Int} (hp : (Lit.int .i64 p).wf = true) (hv : (Lit.int .i64 v).wf = true) :
    ∃ w', (Instr.mapUpdate 124 (.map (some b)) (.int .i64 p) (.int .i64 v)).run Tryz.prog w = .ok () w' ∧ Im w' b (n + 1) (updI f p v) ∧ w.grownBy w' (some b) := by
  obtain ⟨D, h1, hD, h2⟩ := h
  obtain ⟨kl, hk⟩ := im_key hp
  obtain ⟨w', r, o, g⟩ := World.ownsMap.update h1 im_law Tryz.underlying124 hn hk (plainElem_int Tryz.underlying3 hv)
  refine ⟨w', r, ⟨_, o, hD.put _ _, fun p' kl' hk' => ?_⟩, g⟩
  unfold updI
  by_cases e : kl' = kl
  · subst e
    have ei := im_law.inj hk hk'
    simp only [Value.int.injEq, true_and] at ei
    rw [if_pos ei.symm]
    exact Maps.atKey_put_same hD (im_law.key hk) _ _
  · rw [Maps.atKey_put_other e, if_neg, h2 p' kl' hk']
    rintro rfl
    exact e (Option.some.inj (hk'.symm.trans hk))
theorem Im.look {w : World} {b n : Nat} {f : Int → Int} (h : Im w b n f) {p : Int} (hp : (Lit.int .i64 p).wf = true) :
    (Instr.lookup 124 (.map (some b)) (.int .i64 p) false).run Tryz.prog w = .ok (.int .i64 (f p)) w := by
  obtain ⟨D, h1, hD, h2⟩ := h
  obtain ⟨kl, hk⟩ := im_key hp
  obtain ⟨c, hr, hat, -⟩ := h1.lookup_int im_law Tryz.underlying124 Tryz.underlying3 (im_zero w) hk
  rw [h2 p kl hk] at hat
  injection hat with e
  injection e with _ e
  rw [e]
  exact hr
end Go.Proofs.YtoabhfipikkkeaaGreatDoor

namespace Go.Proofs.YtoabhfipikkkeaaGreatDoor
open Go.RowKit
set_option linter.unusedVariables false

set_option maxRecDepth 100000 in
set_option maxHeartbeats 4000000 in
theorem isfirst_any (j : JbV) (bc bm n : Nat) (f : Int → Int) (w : World) (hc : w.cell? ⟨bc, 0, none⟩ = some (.map (some bm))) (hm : Im w bm n f) (hne : bc ≠ bm) (hn : n ≤ 1000) (hf : 0 ≤ f j.unit ∧ f j.unit ≤ 1000) (hu : (Lit.int .i64 j.unit).wf = true) :
    Calls Tryz.prog 74 #[j.val, .pointer (some ⟨bc, 0, none⟩)] w fun e w' => ∃ b : Bool, b = (f j.unit == 0) ∧ e = .returned (.bool b) ∧ Im w' bm (n + 1) (updI f j.unit (f j.unit + 1)) ∧ Fr (fun q => q = bm) w w' := by
  have HC : Hid (w.cell? ⟨bc, 0, none⟩ = some (.map (some bm))) := hc
  have HM : Hid (Im w bm n f) := hm
  have WF : Hid ((Lit.int .i64 j.unit).wf = true ∧ (Lit.int .i64 (f j.unit + 1)).wf = true) := ⟨hu, wfi64 (by omega) (by omega)⟩
  obtain ⟨fu, hfu⟩ : ∃ x, f j.unit = x := ⟨_, rfl⟩
  have FU : Hid (f j.unit = fu) := hfu
  rw [hfu] at hf
  clear hc hm hu hfu
  unfold JbV.val
  go_enter Tryz.func74, Tryz.ntmps74
  go_upto_region 1 with fail
  have B1 : Hid (Below w.heap.size w (w.alloc (Obj.cells #[.int .i64 j.player, .int .i64 j.unit, .int .i64 j.kind, .int .i64 j.left] 94))) := (Below.refl _ _).alloc (Nat.le_refl _) _
  obtain ⟨z, hz⟩ : ∃ z, w.heap.size = z := ⟨_, rfl⟩
  have X1 : Hid (Jbc (w.alloc (Obj.cells #[.int .i64 j.player, .int .i64 j.unit, .int .i64 j.kind, .int .i64 j.left] 94)) ⟨z, 0, none⟩ j) := Jbc.mk' (w := w) j hz
  have ZM : Hid (bm < z ∧ bc < z) := by unfold Hid; rw [← hz]; exact ⟨HM.out.lt, cell_lt HC.out⟩
  rw [hz]
  clear hz
  generalize w.alloc (Obj.cells #[.int .i64 j.player, .int .i64 j.unit, .int .i64 j.kind, .int .i64 j.left] 94) = w1 at *
  have c1 : w1.cell? ⟨bc, 0, none⟩ = some (.map (some bm)) := by rw [B1.out.cell (p := ⟨bc, 0, none⟩) (cell_lt HC.out)]; exact HC.out
  have m1 := HM.out.below B1.out
  have j1 : w1.cell? ⟨z, 1, none⟩ = some (.int .i64 j.unit) := X1.out.c1
  have l1 := m1.look WF.out.1
  rw [FU.out] at l1
  obtain ⟨w2, u2, o2, g2⟩ := m1.put (by unfold maxLen; omega) WF.out.1 WF.out.2
  rw [FU.out] at u2
  have M2 : Hid (Im w2 bm (n + 1) (updI f j.unit (f j.unit + 1))) := o2
  have G2 : Hid (w1.grownBy w2 (some bm)) := g2
  have L2 := o2.look WF.out.1
  have e2 : updI f j.unit (f j.unit + 1) j.unit = fu + 1 := by unfold updI; rw [if_pos rfl, FU.out]
  rw [e2] at L2
  have c2 : w2.cell? ⟨bc, 0, none⟩ = some (.map (some bm)) := by
    have := G2.out.block bc (Nat.lt_trans ZM.out.2 X1.out.lt) (by simp; omega)
    unfold World.cell? at c1 ⊢
    rw [this]
    exact c1
  have j2 : w2.cell? ⟨z, 1, none⟩ = some (.int .i64 j.unit) := by
    have := G2.out.block z X1.out.lt (by simp; have := ZM.out; omega)
    unfold World.cell? at j1 ⊢
    rw [this]
    exact j1
  have wf1 : IntKind.i64.wrap (fu + 1) = fu + 1 := by rw [IntKind.wrap_i64]; omega
  have FR : Hid (Fr (fun q => q = bm) w w2) := (Fr.below B1.out).trans (Fr.gb G2.out (fun k hk => by injection hk with hk; exact hk.symm))
  clear m1 o2 g2 e2
  by_cases h0 : fu = 0
  · subst h0
    simp only [Int.zero_add] at u2 L2 wf1
    go_wp2
    go_ret
    exact ⟨true, by rw [FU.out]; rfl, rfl, by rw [FU.out] at M2; rw [FU.out]; exact M2.out, FR.out⟩
  · have h1 : (fu + 1 == 1) = false := by rw [beq_eq_false_iff_ne]; omega
    have h1' : ¬ fu + 1 = 1 := by omega
    go_wp2
    go_ret
    exact ⟨false, by rw [FU.out]; exact (beq_eq_false_iff_ne.2 h0).symm, rfl, by rw [FU.out] at M2; rw [FU.out]; exact M2.out, FR.out⟩
end Go.Proofs.YtoabhfipikkkeaaGreatDoor

namespace Go.Proofs.YtoabhfipikkkeaaGreatDoor
open Go.RowKit
set_option linter.unusedVariables false

set_option maxRecDepth 100000 in
set_option maxHeartbeats 4000000 in
theorem cplace_any (vk vw : Value) (ks : List KV) (W : WV) (pl kd at_ : Int) (w : World) (hk : Kl w vk ks) (hw : Wl w vw W) (hr : WRight ks W) :
    Calls Tryz.prog 89 #[vk, vw, .int .i64 pl, .int .i64 kd, .int .i64 at_] w fun e w' => ∃ r, e = .returned r ∧ Er r (Wd.placeFault ks W pl kd at_) ∧ Below w.heap.size w w' := by
  have K : Hid (Kl w vk ks) := hk
  have H : Hid (Wl w vw W) := hw
  have R : Hid (WRight ks W) := hr
  obtain ⟨u1, u2, u3, u4, u5, rfl, r1, r2, r3, r4, r5⟩ := hw
  obtain ⟨p1, q1, rfl, -⟩ := r1
  obtain ⟨p2, q2, rfl, -⟩ := r2
  obtain ⟨p3, q3, rfl, -⟩ := r3
  obtain ⟨p4, q4, rfl, -⟩ := r4
  obtain ⟨p5, q5, rfl, -⟩ := r5
  obtain ⟨pk, qk, rfl, -, -, kc⟩ := hk
  have KC : Hid (ks ≠ [] → ∃ x, pk = some x ∧ x.block < w.heap.size ∧ ∀ (i : Nat) k, ks[i]? = some k → Kc w (x.add (i * 11)) k) := kc
  have lk : ks.length ≤ 8 := kinds_len hr.kinds
  have lg : W.gold.length ≤ 4 := (nums_ok hr.nums).2
  have lu : W.us.length ≤ 40 := hr.ul
  have lc : W.gs.length ≤ 144 := by
    obtain ⟨Wn, Hn, -, -, G⟩ := hr.good
    have h1 := G.pos
    have h2 := G.gl
    omega
  clear hr kc
  go_enter Tryz.func89, Tryz.ntmps89
  go_upto_region 1 with fail
  have B0 : Hid (Below w.heap.size w (w.alloc (Obj.cells #[.int .i64 W.turn, .int .i64 W.next, .int .i64 W.wide, .int .i64 W.high, .slice p1 W.gs.length q1, .slice p2 W.os.length q2, .slice p3 W.gold.length q3, .slice p4 W.us.length q4, .slice p5 W.qs.length q5] 29))) := (Below.refl _ _).alloc (Nat.le_refl _) _
  have X0 : Hid (Bw (w.alloc (Obj.cells #[.int .i64 W.turn, .int .i64 W.next, .int .i64 W.wide, .int .i64 W.high, .slice p1 W.gs.length q1, .slice p2 W.os.length q2, .slice p3 W.gold.length q3, .slice p4 W.us.length q4, .slice p5 W.qs.length q5] 29)) w.heap.size W (.slice p1 W.gs.length q1) (.slice p2 W.os.length q2) (.slice p3 W.gold.length q3) (.slice p4 W.us.length q4) (.slice p5 W.qs.length q5)) := Bw.mk' W _ _ _ _ _ rfl
  generalize (w.alloc (Obj.cells #[.int .i64 W.turn, .int .i64 W.next, .int .i64 W.wide, .int .i64 W.high, .slice p1 W.gs.length q1, .slice p2 W.os.length q2, .slice p3 W.gold.length q3, .slice p4 W.us.length q4, .slice p5 W.qs.length q5] 29)) = w0 at *
  obtain ⟨x0, x1, x2, x3, x4, x5, x6, x7, x8⟩ := X0.out
  by_cases h40 : (40 : Int) ≤ (W.us.length : Int)
  · go_wp2
    go_ret
    exact ⟨_, rfl, by rw [Wd.pf4 (.inl h40)]; exact Er.no (by decide), B0.out⟩
  by_cases hnx : (1000000 : Int) ≤ W.next
  · go_wp2
    go_ret
    exact ⟨_, rfl, by rw [Wd.pf4 (.inr hnx)]; exact Er.no (by decide), B0.out⟩
  have HF : Hid (¬ (40 ≤ (W.us.length : Int) ∨ 1000000 ≤ W.next)) := fun h => h.elim h40 hnx
  by_cases h1 : 0 ≤ pl ∧ pl < (W.gold.length : Int)
  case neg =>
    have t1 : decide (0 ≤ pl ∧ pl < (W.gold.length : Int)) = false := decide_eq_false h1
    have F : Hid (Wd.placeFault ks W pl kd at_ = 1) := Wd.pf1 HF.out (.inl h1)
    clear h1
    go_wp2_with fail
    refine (isone_ints _ _ _ _ _ (by omega)).mono ?_
    rintro e w1 ⟨rfl, hww⟩
    obtain rfl := hww.symm
    rw [t1]
    clear t1
    go_wp2
    go_ret
    exact ⟨_, rfl, by rw [F.out]; exact Er.no (by decide), B0.out⟩
  have t1 : decide (0 ≤ pl ∧ pl < (W.gold.length : Int)) = true := decide_eq_true h1
  have H1 : Hid (0 ≤ pl ∧ pl < (W.gold.length : Int)) := h1
  clear h1
  go_wp2_with fail
  refine (isone_ints _ _ _ _ _ (by omega)).mono ?_
  rintro e w1 ⟨rfl, hww⟩
  obtain rfl := hww.symm
  rw [t1]
  clear t1
  by_cases h2 : 0 ≤ kd ∧ kd < (ks.length : Int)
  case neg =>
    have t1 : decide (0 ≤ kd ∧ kd < (ks.length : Int)) = false := decide_eq_false h2
    have F : Hid (Wd.placeFault ks W pl kd at_ = 1) := Wd.pf1 HF.out (.inr h2)
    clear h2
    go_wp2_with fail
    refine (isone_kinds _ _ _ _ _ (by omega)).mono ?_
    rintro e w1 ⟨rfl, hww⟩
    obtain rfl := hww.symm
    rw [t1]
    clear t1
    go_wp2
    go_ret
    exact ⟨_, rfl, by rw [F.out]; exact Er.no (by decide), B0.out⟩
  have t1 : decide (0 ≤ kd ∧ kd < (ks.length : Int)) = true := decide_eq_true h2
  have H2 : Hid (0 ≤ kd ∧ kd < (ks.length : Int)) := h2
  clear h2
  go_wp2_with fail
  refine (isone_kinds _ _ _ _ _ (by omega)).mono ?_
  rintro e w1 ⟨rfl, hww⟩
  obtain rfl := hww.symm
  rw [t1]
  clear t1
  by_cases h3 : 0 ≤ at_ ∧ at_ < (W.gs.length : Int)
  case neg =>
    have t1 : decide (0 ≤ at_ ∧ at_ < (W.gs.length : Int)) = false := decide_eq_false h3
    have F : Hid (Wd.placeFault ks W pl kd at_ = 6) := Wd.pf6 HF.out H1.out H2.out h3
    clear h3
    go_wp2_with fail
    refine (isone_ints _ _ _ _ _ (by omega)).mono ?_
    rintro e w1 ⟨rfl, hww⟩
    obtain rfl := hww.symm
    rw [t1]
    clear t1
    go_wp2
    go_ret
    exact ⟨_, rfl, by rw [F.out]; exact Er.no (by decide), B0.out⟩
  have t1 : decide (0 ≤ at_ ∧ at_ < (W.gs.length : Int)) = true := decide_eq_true h3
  have H3 : Hid (0 ≤ at_ ∧ at_ < (W.gs.length : Int)) := h3
  go_wp2_with fail
  refine (isone_ints _ _ _ _ _ (by omega)).mono ?_
  rintro e w1 ⟨rfl, hww⟩
  obtain rfl := hww.symm
  rw [t1]
  clear t1
  obtain ⟨an, ea⟩ : ∃ an : Nat, at_ = an := ⟨at_.toNat, by omega⟩
  obtain ⟨kn, ek⟩ : ∃ kn : Nat, kd = kn := ⟨kd.toNat, by have := H2.out; omega⟩
  subst ea
  subst ek
  have hkl : kn < ks.length := by have := H2.out; omega
  have hki : (kn : Int) < (ks.length : Int) := by omega
  obtain ⟨k, hk⟩ : ∃ k, ks[kn]? = some k := ⟨_, List.getElem?_eq_getElem hkl⟩
  obtain ⟨g, hg0⟩ : ∃ g, W.gs[an]? = some g := ⟨_, List.getElem?_eq_getElem (by omega)⟩
  have FK : Hid (Wd.placeFault ks W pl (kn : Nat) (an : Nat) = if Wd.open_ W.gs W.us (an : Nat) k.f = false then 7 else 0) := Wd.pfk HF.out H1.out H2.out H3.out (by simpa using hk)
  have hgan : Hid (W.gs[an]? = some g) := hg0
  obtain ⟨xk, rfl, hxl, hxc⟩ := KC.out (by intro e; rw [e] at hkl; simp at hkl)
  have hkc : Hid (Kc w0 (xk.add (kn * 11)) k) := (hxc kn k hk).below B0.out (by rw [add_block]; exact hxl)
  have FC : Hid (∀ V, Below w0.heap.size w0 V → V.cell? ⟨w.heap.size, 2, none⟩ = some (.int .i64 W.wide) ∧ V.cell? ⟨w.heap.size, 3, none⟩ = some (.int .i64 W.high) ∧ V.cell? ⟨w.heap.size, 4, none⟩ = some (.slice p1 W.gs.length q1) ∧ V.cell? ⟨w.heap.size, 5, none⟩ = some (.slice p2 W.os.length q2) ∧ V.cell? ⟨w.heap.size, 7, none⟩ = some (.slice p4 W.us.length q4) ∧ V.cell? ⟨(xk.add (kn * 11)).block, (xk.add (kn * 11)).off + 9, none⟩ = some (.bool k.f)) := fun V hV => by
    obtain ⟨-, -, z2, z3, z4, z5, -, z7, -⟩ := X0.out.below hV X0.out.lt
    obtain ⟨-, -, -, -, -, -, -, -, -, m9, -⟩ := hkc.out.below hV hkc.out.lt
    exact ⟨z2, z3, z4, z5, z7, m9⟩
  have OPN : Hid (∀ V, Below w0.heap.size w0 V → Calls Tryz.prog 132 #[.agg #[.int .i64 W.wide, .int .i64 W.high, .slice p1 W.gs.length q1, .slice p2 W.os.length q2], .slice p4 W.us.length q4, .int .i64 (an : Nat), .bool k.f] V fun e w' => e = .returned (.bool (Wd.open_ W.gs W.us (an : Nat) k.f)) ∧ Below w0.heap.size w0 w') := fun V hV => by
    have BV : Below w.heap.size w V := B0.out.trans (hV.mono B0.out.size)
    obtain ⟨r1, r2, -, r4, -⟩ := (H.out.below BV).slices
    obtain ⟨Wn, Hn, hWn, hHn, hGood⟩ := R.out.good
    rw [hWn, hHn]
    exact (isopen_any _ _ Wn Hn W.gs W.os W.us an g k.f V ⟨_, _, rfl, r1, r2⟩ hGood r4 (by have := hGood.gl; omega) hgan.out).mono fun e w' ⟨h1, h2⟩ => ⟨h1, hV.trans (h2.mono hV.size)⟩
  have eo : ∀ args w, (callFunc 132 args).run Tryz.prog w = .ok (.enter 132 args) w := by intro args w; go_simp
  clear hxc hk hg0 h3 x0 x1 x2 x3 x4 x5 x6 x7 x8
  go_upto_region 9 with fail
  refine wp_region_class 11 (fun V => Below w0.heap.size w0 V) (by kernel_rfl) (by kernel_rfl) (Below.refl _ _).drew ?_
  simp only [List.take_succ_cons, List.take_zero, List.drop_succ_cons, List.drop_zero]
  refine head_step (.pointer (some ⟨w.heap.size, 2, none⟩)) (by go_simp) (fun V hV => by go_simp) ?_
  go_simp
  refine head_step (.agg #[.int .i64 W.wide, .int .i64 W.high, .slice p1 W.gs.length q1, .slice p2 W.os.length q2]) (by go_simp) (fun V hV => by obtain ⟨f2, f3, f4, f5, -⟩ := FC.out V hV; go_simp) ?_
  go_simp
  refine head_step (.pointer (some ⟨w.heap.size, 7, none⟩)) (by go_simp) (fun V hV => by go_simp) ?_
  go_simp
  refine head_step (.slice p4 W.us.length q4) (by go_simp) (fun V hV => by obtain ⟨-, -, -, -, f7, -⟩ := FC.out V hV; go_simp) ?_
  go_simp
  refine head_step (.int .i64 (an : Nat)) (by go_simp) (fun V hV => by go_simp) ?_
  go_simp
  refine head_step (.slice (some xk) ks.length qk) (by go_simp) (fun V hV => by go_simp) ?_
  go_simp
  refine head_step (.int .i64 (kn : Nat)) (by go_simp) (fun V hV => by go_simp) ?_
  go_simp
  refine head_step (.pointer (some (xk.add (kn * 11)))) (by go_simp) (fun V hV => by go_simp) ?_
  go_simp
  refine head_step (.pointer (some ⟨(xk.add (kn * 11)).block, (xk.add (kn * 11)).off + 9, none⟩)) (by go_simp) (fun V hV => by go_simp) ?_
  go_simp
  refine head_step (.bool k.f) (by go_simp) (fun V hV => by obtain ⟨-, -, -, -, -, f10⟩ := FC.out V hV; go_simp) ?_
  go_simp
  refine head_call (.bool (Wd.open_ W.gs W.us (an : Nat) k.f)) 132 #[.agg #[.int .i64 W.wide, .int .i64 W.high, .slice p1 W.gs.length q1, .slice p2 W.os.length q2], .slice p4 W.us.length q4, .int .i64 (an : Nat), .bool k.f] (by go_simp) (fun V hV => by go_simp) (fun V hV => OPN.out V hV) ?_
  go_simp
  intro V hV
  have BV : Hid (Below w.heap.size w V) := B0.out.trans (hV.mono B0.out.size)
  obtain ⟨b9, hb9⟩ : ∃ b, Wd.open_ W.gs W.us (an : Nat) k.f = b := ⟨_, rfl⟩
  rw [hb9] at FK ⊢
  clear hV FC OPN hb9
  cases b9 with
  | false =>
    go_wp2
    go_ret
    exact ⟨_, rfl, by rw [FK.out]; exact Er.no (by decide), BV.out⟩
  | true =>
    go_wp2
    go_ret
    exact ⟨_, rfl, by rw [FK.out]; exact Er.nil, BV.out⟩
end Go.Proofs.YtoabhfipikkkeaaGreatDoor

namespace Go.Proofs.YtoabhfipikkkeaaGreatDoor
open Go.RowKit
set_option linter.unusedVariables false

set_option maxRecDepth 100000 in
set_option maxHeartbeats 8000000 in
theorem place_any (vk vw : Value) (ks : List KV) (W : WV) (pl kd at_ : Int) (w : World) (hk : Kl w vk ks) (hb : ∀ k ∈ ks, k.b.size ≤ 9223372036854775807) (hw : Wl w vw W) :
    Calls Tryz.prog 36 #[vk, vw, .int .i64 pl, .int .i64 kd, .int .i64 at_] w fun e w' => ∃ u r, e = .returned (.tuple #[u, r]) ∧ Er r (Wd.putFault ks W pl kd at_) ∧ Wo w' w.heap.size u (Wd.placed ks W pl kd at_) ∧ Below w.heap.size w w' := by
  have K : Hid (Kl w vk ks ∧ ∀ k ∈ ks, k.b.size ≤ 9223372036854775807) := ⟨hk, hb⟩
  have H : Hid (Wl w vw W) := hw
  obtain ⟨u1, u2, u3, u4, u5, rfl, r1, r2, r3, r4, r5⟩ := hw
  obtain ⟨p1, q1, rfl, -⟩ := r1
  obtain ⟨p2, q2, rfl, -⟩ := r2
  obtain ⟨p3, q3, rfl, -⟩ := r3
  obtain ⟨p4, q4, rfl, -⟩ := r4
  obtain ⟨p5, q5, rfl, -⟩ := r5
  obtain ⟨pk, qk, rfl, -, -, kc⟩ := hk
  have KC : Hid (ks ≠ [] → ∃ x, pk = some x ∧ x.block < w.heap.size ∧ ∀ (i : Nat) k, ks[i]? = some k → Kc w (x.add (i * 11)) k) := kc
  clear hb kc
  go_enter Tryz.func36, Tryz.ntmps36
  go_upto_region 1 with fail
  have B0 : Hid (Below w.heap.size w ((w.alloc (.cells #[.int .i64 W.turn, .int .i64 W.next, .int .i64 W.wide, .int .i64 W.high, .slice p1 W.gs.length q1, .slice p2 W.os.length q2, .slice p3 W.gold.length q3, .slice p4 W.us.length q4, .slice p5 W.qs.length q5] 29)).alloc (.cells #[.int .i64 0, .int .i64 0, .int .i64 0, .int .i64 0, .slice none 0 0, .slice none 0 0, .slice none 0 0, .slice none 0 0, .slice none 0 0] 29))) := ((Below.refl _ _).alloc (Nat.le_refl _) _).alloc (by simp) _
  have X0 : Hid (Wx ((w.alloc (.cells #[.int .i64 W.turn, .int .i64 W.next, .int .i64 W.wide, .int .i64 W.high, .slice p1 W.gs.length q1, .slice p2 W.os.length q2, .slice p3 W.gold.length q3, .slice p4 W.us.length q4, .slice p5 W.qs.length q5] 29)).alloc (.cells #[.int .i64 0, .int .i64 0, .int .i64 0, .int .i64 0, .slice none 0 0, .slice none 0 0, .slice none 0 0, .slice none 0 0, .slice none 0 0] 29)) w.heap.size (.int .i64 W.turn) (.int .i64 W.next) (.int .i64 W.wide) (.int .i64 W.high) (.slice p1 W.gs.length q1) (.slice p2 W.os.length q2) (.slice p3 W.gold.length q3) (.slice p4 W.us.length q4) (.slice p5 W.qs.length q5)) := (Wx.new (w := w) _ _ _ _ _ _ _ _ _ rfl).below ((Below.refl _ _).alloc (Nat.le_refl _) _) (by simp)
  have Z0 : Hid (Wx ((w.alloc (.cells #[.int .i64 W.turn, .int .i64 W.next, .int .i64 W.wide, .int .i64 W.high, .slice p1 W.gs.length q1, .slice p2 W.os.length q2, .slice p3 W.gold.length q3, .slice p4 W.us.length q4, .slice p5 W.qs.length q5] 29)).alloc (.cells #[.int .i64 0, .int .i64 0, .int .i64 0, .int .i64 0, .slice none 0 0, .slice none 0 0, .slice none 0 0, .slice none 0 0, .slice none 0 0] 29)) (w.heap.size + 1) (.int .i64 0) (.int .i64 0) (.int .i64 0) (.int .i64 0) (.slice none 0 0) (.slice none 0 0) (.slice none 0 0) (.slice none 0 0) (.slice none 0 0)) := Wx.new _ _ _ _ _ _ _ _ _ (by simp)
  have S0 : Hid (w.heap.size + 2 ≤ ((w.alloc (.cells #[.int .i64 W.turn, .int .i64 W.next, .int .i64 W.wide, .int .i64 W.high, .slice p1 W.gs.length q1, .slice p2 W.os.length q2, .slice p3 W.gold.length q3, .slice p4 W.us.length q4, .slice p5 W.qs.length q5] 29)).alloc (.cells #[.int .i64 0, .int .i64 0, .int .i64 0, .int .i64 0, .slice none 0 0, .slice none 0 0, .slice none 0 0, .slice none 0 0, .slice none 0 0] 29)).heap.size) := by unfold Hid; simp
  generalize ((w.alloc (.cells #[.int .i64 W.turn, .int .i64 W.next, .int .i64 W.wide, .int .i64 W.high, .slice p1 W.gs.length q1, .slice p2 W.os.length q2, .slice p3 W.gold.length q3, .slice p4 W.us.length q4, .slice p5 W.qs.length q5] 29)).alloc (.cells #[.int .i64 0, .int .i64 0, .int .i64 0, .int .i64 0, .slice none 0 0, .slice none 0 0, .slice none 0 0, .slice none 0 0, .slice none 0 0] 29)) = w0 at *
  obtain ⟨x0, x1, x2, x3, x4, x5, x6, x7, x8⟩ := X0.out.cells
  go_wp2_with fail
  refine (wcheck_any _ _ ks W w0 (K.out.1.below B0.out) K.out.2 (H.out.below B0.out)).mono ?_
  rintro e w1 ⟨r, rfl, hr, hb1⟩
  clear x0 x1 x2 x3 x4 x5 x6 x7 x8
  have B1 : Hid (Below w.heap.size w w1) := B0.out.trans (hb1.mono B0.out.size)
  have X1 : Hid (Wx w1 w.heap.size (.int .i64 W.turn) (.int .i64 W.next) (.int .i64 W.wide) (.int .i64 W.high) (.slice p1 W.gs.length q1) (.slice p2 W.os.length q2) (.slice p3 W.gold.length q3) (.slice p4 W.us.length q4) (.slice p5 W.qs.length q5)) := X0.out.below hb1 X0.out.lt
  have Z1 : Hid (Wx w1 (w.heap.size + 1) (.int .i64 0) (.int .i64 0) (.int .i64 0) (.int .i64 0) (.slice none 0 0) (.slice none 0 0) (.slice none 0 0) (.slice none 0 0) (.slice none 0 0)) := Z0.out.below hb1 Z0.out.lt
  have S1 : Hid (w.heap.size + 2 ≤ w1.heap.size) := Nat.le_trans S0.out hb1.size
  clear hb1 B0 X0 Z0 S0
  rcases hr with ⟨hf, rfl⟩ | ⟨hf, rfl⟩
  case inr =>
    obtain ⟨fe, hfe⟩ : ∃ f, Wd.wfault ks W = f := ⟨_, rfl⟩
    have HFE : Hid (fe ≠ 0) := by rw [← hfe]; exact hf
    have FE : Hid (Wd.putFault ks W pl kd at_ = fe) := by unfold Hid Wd.putFault; rw [if_neg hf]; exact hfe
    rw [hfe]
    clear hf hfe
    obtain ⟨z0, z1, z2, z3, z4, z5, z6, z7, z8⟩ := Z1.out.cells
    obtain ⟨t0, t1, t2, t3, t4, t5, t6, t7, t8⟩ := Z1.out.thaws
    have KZ : Hid (Kp (w.heap.size + 1) w1 (((((((((w1.setCell ⟨w.heap.size + 1, 0, none⟩ (.int .i64 0)).setCell ⟨w.heap.size + 1, 1, none⟩ (.int .i64 0)).setCell ⟨w.heap.size + 1, 2, none⟩ (.int .i64 0)).setCell ⟨w.heap.size + 1, 3, none⟩ (.int .i64 0)).setCell ⟨w.heap.size + 1, 4, none⟩ (.slice none 0 0)).setCell ⟨w.heap.size + 1, 5, none⟩ (.slice none 0 0)).setCell ⟨w.heap.size + 1, 6, none⟩ (.slice none 0 0)).setCell ⟨w.heap.size + 1, 7, none⟩ (.slice none 0 0)).setCell ⟨w.heap.size + 1, 8, none⟩ (.slice none 0 0))) := put_kp _ _ _ _ _ _ _ _ _ _ _
    obtain ⟨y0, y1, y2, y3, y4, y5, y6, y7, y8⟩ := (Z1.out.put (.int .i64 0) (.int .i64 0) (.int .i64 0) (.int .i64 0) (.slice none 0 0) (.slice none 0 0) (.slice none 0 0) (.slice none 0 0) (.slice none 0 0)).cells
    go_wp2
    clear z0 z1 z2 z3 z4 z5 z6 z7 z8 t0 t1 t2 t3 t4 t5 t6 t7 t8
    generalize (((((((((w1.setCell ⟨w.heap.size + 1, 0, none⟩ (.int .i64 0)).setCell ⟨w.heap.size + 1, 1, none⟩ (.int .i64 0)).setCell ⟨w.heap.size + 1, 2, none⟩ (.int .i64 0)).setCell ⟨w.heap.size + 1, 3, none⟩ (.int .i64 0)).setCell ⟨w.heap.size + 1, 4, none⟩ (.slice none 0 0)).setCell ⟨w.heap.size + 1, 5, none⟩ (.slice none 0 0)).setCell ⟨w.heap.size + 1, 6, none⟩ (.slice none 0 0)).setCell ⟨w.heap.size + 1, 7, none⟩ (.slice none 0 0)).setCell ⟨w.heap.size + 1, 8, none⟩ (.slice none 0 0)) = w9 at *
    refine bodyPost_ret (v := .tuple #[.agg #[.int .i64 0, .int .i64 0, .int .i64 0, .int .i64 0, .slice none 0 0, .slice none 0 0, .slice none 0 0, .slice none 0 0, .slice none 0 0], .iface 99 (.int .i64 fe)]) (by simp [results, Tryz.results36, go_sem, y0, y1, y2, y3, y4, y5, y6, y7, y8]) rfl ⟨_, _, rfl, by rw [FE.out]; exact Er.no HFE.out, by rw [placed_bad (by rw [FE.out]; exact HFE.out)]; exact zero_wo _ _, KZ.out.below B1.out B1.out.size (by omega)⟩
  have HF : Hid (Wd.wfault ks W = 0) := hf
  have PF : Hid (Wd.putFault ks W pl kd at_ = Wd.placeFault ks W pl kd at_) := by unfold Hid Wd.putFault; rw [if_pos hf]
  have RT : Hid (WRight ks W) := wright_of hf
  clear hf
  obtain ⟨x0, x1, x2, x3, x4, x5, x6, x7, x8⟩ := X1.out.cells
  go_wp2_with fail
  refine (cplace_any _ _ ks W pl kd at_ w1 (K.out.1.below B1.out) (H.out.below B1.out) RT.out).mono ?_
  rintro e w2 ⟨r, rfl, hr, hb2⟩
  clear x0 x1 x2 x3 x4 x5 x6 x7 x8
  have B2 : Hid (Below w.heap.size w w2) := B1.out.trans (hb2.mono B1.out.size)
  have X2 : Hid (Wx w2 w.heap.size (.int .i64 W.turn) (.int .i64 W.next) (.int .i64 W.wide) (.int .i64 W.high) (.slice p1 W.gs.length q1) (.slice p2 W.os.length q2) (.slice p3 W.gold.length q3) (.slice p4 W.us.length q4) (.slice p5 W.qs.length q5)) := X1.out.below hb2 X1.out.lt
  have Z2 : Hid (Wx w2 (w.heap.size + 1) (.int .i64 0) (.int .i64 0) (.int .i64 0) (.int .i64 0) (.slice none 0 0) (.slice none 0 0) (.slice none 0 0) (.slice none 0 0) (.slice none 0 0)) := Z1.out.below hb2 Z1.out.lt
  have S2 : Hid (w.heap.size + 2 ≤ w2.heap.size) := Nat.le_trans S1.out hb2.size
  clear hb2 B1 X1 Z1 S1
  rcases hr with ⟨hf, rfl⟩ | ⟨hf, rfl⟩
  case inr =>
    obtain ⟨fe, hfe⟩ : ∃ f, Wd.placeFault ks W pl kd at_ = f := ⟨_, rfl⟩
    have HFE : Hid (fe ≠ 0) := by rw [← hfe]; exact hf
    have FE : Hid (Wd.putFault ks W pl kd at_ = fe) := by unfold Hid; rw [PF.out]; exact hfe
    rw [hfe]
    clear hf hfe
    obtain ⟨z0, z1, z2, z3, z4, z5, z6, z7, z8⟩ := Z2.out.cells
    obtain ⟨t0, t1, t2, t3, t4, t5, t6, t7, t8⟩ := Z2.out.thaws
    have KZ : Hid (Kp (w.heap.size + 1) w2 (((((((((w2.setCell ⟨w.heap.size + 1, 0, none⟩ (.int .i64 0)).setCell ⟨w.heap.size + 1, 1, none⟩ (.int .i64 0)).setCell ⟨w.heap.size + 1, 2, none⟩ (.int .i64 0)).setCell ⟨w.heap.size + 1, 3, none⟩ (.int .i64 0)).setCell ⟨w.heap.size + 1, 4, none⟩ (.slice none 0 0)).setCell ⟨w.heap.size + 1, 5, none⟩ (.slice none 0 0)).setCell ⟨w.heap.size + 1, 6, none⟩ (.slice none 0 0)).setCell ⟨w.heap.size + 1, 7, none⟩ (.slice none 0 0)).setCell ⟨w.heap.size + 1, 8, none⟩ (.slice none 0 0))) := put_kp _ _ _ _ _ _ _ _ _ _ _
    obtain ⟨y0, y1, y2, y3, y4, y5, y6, y7, y8⟩ := (Z2.out.put (.int .i64 0) (.int .i64 0) (.int .i64 0) (.int .i64 0) (.slice none 0 0) (.slice none 0 0) (.slice none 0 0) (.slice none 0 0) (.slice none 0 0)).cells
    go_wp2
    clear z0 z1 z2 z3 z4 z5 z6 z7 z8 t0 t1 t2 t3 t4 t5 t6 t7 t8
    generalize (((((((((w2.setCell ⟨w.heap.size + 1, 0, none⟩ (.int .i64 0)).setCell ⟨w.heap.size + 1, 1, none⟩ (.int .i64 0)).setCell ⟨w.heap.size + 1, 2, none⟩ (.int .i64 0)).setCell ⟨w.heap.size + 1, 3, none⟩ (.int .i64 0)).setCell ⟨w.heap.size + 1, 4, none⟩ (.slice none 0 0)).setCell ⟨w.heap.size + 1, 5, none⟩ (.slice none 0 0)).setCell ⟨w.heap.size + 1, 6, none⟩ (.slice none 0 0)).setCell ⟨w.heap.size + 1, 7, none⟩ (.slice none 0 0)).setCell ⟨w.heap.size + 1, 8, none⟩ (.slice none 0 0)) = w9 at *
    refine bodyPost_ret (v := .tuple #[.agg #[.int .i64 0, .int .i64 0, .int .i64 0, .int .i64 0, .slice none 0 0, .slice none 0 0, .slice none 0 0, .slice none 0 0, .slice none 0 0], .iface 99 (.int .i64 fe)]) (by simp [results, Tryz.results36, go_sem, y0, y1, y2, y3, y4, y5, y6, y7, y8]) rfl ⟨_, _, rfl, by rw [FE.out]; exact Er.no HFE.out, by rw [placed_bad (by rw [FE.out]; exact HFE.out)]; exact zero_wo _ _, KZ.out.below B2.out B2.out.size (by omega)⟩
  obtain ⟨h40, hpl, hat, kn, k, rfl, hkn, hkk, hop⟩ := pf_zero hf
  have P0 : Hid (Wd.putFault ks W pl (kn : Nat) at_ = 0) := by unfold Hid; rw [PF.out]; exact hf
  have NU : Hid (Wd.newUnit ks W pl (kn : Nat) at_ = ⟨W.next, pl, (kn : Nat), at_, k.n0, 0, 0, 0⟩) := by unfold Hid Wd.newUnit; rw [Int.toNat_natCast, hkk]
  have L40 : Hid (W.us.length < 40) := by unfold Hid; omega
  have hnx : W.next < 1000000 := by omega
  have hn1 : 1 ≤ W.next := by
    have := (nums_ok RT.out.nums).1
    unfold Wd.off at this
    simp at this
    omega
  obtain ⟨xk, rfl, hxl, hxc⟩ := KC.out (by intro e; rw [e] at hkn; simp at hkn)
  have HK : Hid (Kc w (xk.add (kn * 11)) k ∧ (xk.add (kn * 11)).block < w.heap.size) := ⟨hxc kn k hkk, by rw [add_block]; exact hxl⟩
  have hki : (kn : Int) < (ks.length : Int) := by omega
  clear hf h40 hpl hat hkn hkk hop hxc hxl
  obtain ⟨x0, x1, x2, x3, x4, x5, x6, x7, x8⟩ := X2.out.cells
  go_wp2_with fail
  refine (copy_any _ W w2 (H.out.below B2.out) RT.out.len).mono ?_
  rintro e w3 ⟨u, rfl, ho, hb3⟩
  clear x0 x1 x2 x3 x4 x5 x6 x7 x8
  have B3 : Hid (Below w.heap.size w w3) := B2.out.trans (hb3.mono B2.out.size)
  have X3 : Hid (Wx w3 w.heap.size (.int .i64 W.turn) (.int .i64 W.next) (.int .i64 W.wide) (.int .i64 W.high) (.slice p1 W.gs.length q1) (.slice p2 W.os.length q2) (.slice p3 W.gold.length q3) (.slice p4 W.us.length q4) (.slice p5 W.qs.length q5)) := X2.out.below hb3 X2.out.lt
  have Z3 : Hid (Wx w3 (w.heap.size + 1) (.int .i64 0) (.int .i64 0) (.int .i64 0) (.int .i64 0) (.slice none 0 0) (.slice none 0 0) (.slice none 0 0) (.slice none 0 0) (.slice none 0 0)) := Z2.out.below hb3 Z2.out.lt
  have S3 : Hid (w.heap.size + 2 ≤ w3.heap.size) := Nat.le_trans S2.out hb3.size
  obtain ⟨v1, v2, v3, v4, v5, rfl, ⟨o1, o2, o3, o4, o5⟩, -, -, d14, -, -, d24, -, d34, -, d45⟩ := ho.mono S2.out
  have O1 : Hid (Ow w3 (w.heap.size + 2) v1 W.gs ∧ Ow w3 (w.heap.size + 2) v2 W.os ∧ Ow w3 (w.heap.size + 2) v3 W.gold ∧ Uno w3 (w.heap.size + 2) v4 W.us ∧ Jbo w3 (w.heap.size + 2) v5 W.qs) := ⟨o1, o2, o3, o4, o5⟩
  have DD : Hid (Dif v1 v4 ∧ Dif v2 v4 ∧ Dif v3 v4 ∧ Dif v5 v4) := ⟨d14, d24, d34, d45.symm⟩
  clear d14 d24 d34 d45
  obtain ⟨a1, b1, rfl⟩ := o1.len
  obtain ⟨a2, b2, rfl⟩ := o2.len
  obtain ⟨a3, b3, rfl⟩ := o3.len
  obtain ⟨a4, b4, rfl⟩ := o4.len
  obtain ⟨a5, b5, rfl⟩ := o5.len
  clear ho hb3 B2 X2 Z2 S2 o1 o2 o3 o4 o5
  obtain ⟨x0, x1, x2, x3, x4, x5, x6, x7, x8⟩ := X3.out.cells
  obtain ⟨t0, t1, t2, t3, t4, t5, t6, t7, t8⟩ := X3.out.thaws
  have K4 : Hid (Kp w.heap.size w3 (((((((((w3.setCell ⟨w.heap.size, 0, none⟩ (.int .i64 W.turn)).setCell ⟨w.heap.size, 1, none⟩ (.int .i64 W.next)).setCell ⟨w.heap.size, 2, none⟩ (.int .i64 W.wide)).setCell ⟨w.heap.size, 3, none⟩ (.int .i64 W.high)).setCell ⟨w.heap.size, 4, none⟩ (.slice a1 W.gs.length b1)).setCell ⟨w.heap.size, 5, none⟩ (.slice a2 W.os.length b2)).setCell ⟨w.heap.size, 6, none⟩ (.slice a3 W.gold.length b3)).setCell ⟨w.heap.size, 7, none⟩ (.slice a4 W.us.length b4)).setCell ⟨w.heap.size, 8, none⟩ (.slice a5 W.qs.length b5))) := put_kp _ _ _ _ _ _ _ _ _ _ _
  have X4 : Hid (Wx (((((((((w3.setCell ⟨w.heap.size, 0, none⟩ (.int .i64 W.turn)).setCell ⟨w.heap.size, 1, none⟩ (.int .i64 W.next)).setCell ⟨w.heap.size, 2, none⟩ (.int .i64 W.wide)).setCell ⟨w.heap.size, 3, none⟩ (.int .i64 W.high)).setCell ⟨w.heap.size, 4, none⟩ (.slice a1 W.gs.length b1)).setCell ⟨w.heap.size, 5, none⟩ (.slice a2 W.os.length b2)).setCell ⟨w.heap.size, 6, none⟩ (.slice a3 W.gold.length b3)).setCell ⟨w.heap.size, 7, none⟩ (.slice a4 W.us.length b4)).setCell ⟨w.heap.size, 8, none⟩ (.slice a5 W.qs.length b5)) w.heap.size (.int .i64 W.turn) (.int .i64 W.next) (.int .i64 W.wide) (.int .i64 W.high) (.slice a1 W.gs.length b1) (.slice a2 W.os.length b2) (.slice a3 W.gold.length b3) (.slice a4 W.us.length b4) (.slice a5 W.qs.length b5)) := X3.out.put (.int .i64 W.turn) (.int .i64 W.next) (.int .i64 W.wide) (.int .i64 W.high) (.slice a1 W.gs.length b1) (.slice a2 W.os.length b2) (.slice a3 W.gold.length b3) (.slice a4 W.us.length b4) (.slice a5 W.qs.length b5)
  go_upto_region 8 with fail
  clear x0 x1 x2 x3 x4 x5 x6 x7 x8 t0 t1 t2 t3 t4 t5 t6 t7 t8
  generalize (((((((((w3.setCell ⟨w.heap.size, 0, none⟩ (.int .i64 W.turn)).setCell ⟨w.heap.size, 1, none⟩ (.int .i64 W.next)).setCell ⟨w.heap.size, 2, none⟩ (.int .i64 W.wide)).setCell ⟨w.heap.size, 3, none⟩ (.int .i64 W.high)).setCell ⟨w.heap.size, 4, none⟩ (.slice a1 W.gs.length b1)).setCell ⟨w.heap.size, 5, none⟩ (.slice a2 W.os.length b2)).setCell ⟨w.heap.size, 6, none⟩ (.slice a3 W.gold.length b3)).setCell ⟨w.heap.size, 7, none⟩ (.slice a4 W.us.length b4)).setCell ⟨w.heap.size, 8, none⟩ (.slice a5 W.qs.length b5)) = w4 at *
  have B4 : Hid (Below w.heap.size w w4) := K4.out.below B3.out B3.out.size (Nat.le_refl _)
  have Z4 : Hid (Wx w4 (w.heap.size + 1) (.int .i64 0) (.int .i64 0) (.int .i64 0) (.int .i64 0) (.slice none 0 0) (.slice none 0 0) (.slice none 0 0) (.slice none 0 0) (.slice none 0 0)) := Z3.out.kp K4.out (by omega)
  have S4 : Hid (w.heap.size + 2 ≤ w4.heap.size) := Nat.le_trans S3.out K4.out.size
  have O4 : Hid (Ow w4 (w.heap.size + 2) (.slice a1 W.gs.length b1) W.gs ∧ Ow w4 (w.heap.size + 2) (.slice a2 W.os.length b2) W.os ∧ Ow w4 (w.heap.size + 2) (.slice a3 W.gold.length b3) W.gold ∧ Uno w4 (w.heap.size + 2) (.slice a4 W.us.length b4) W.us ∧ Jbo w4 (w.heap.size + 2) (.slice a5 W.qs.length b5) W.qs) :=
    ⟨O1.out.1.kp K4.out (by omega), O1.out.2.1.kp K4.out (by omega), O1.out.2.2.1.kp K4.out (by omega), O1.out.2.2.2.1.kp K4.out (by omega), O1.out.2.2.2.2.kp K4.out (by omega)⟩
  clear K4 B3 X3 Z3 S3 O1
  -- the region that draws
  refine wp_region_two [(true, 0), (true, 1), (true, 2), (true, 3), (true, 4), (true, 5), (true, 6), (true, 7), (true, 8), (true, 9), (true, 10), (true, 11), (true, 12), (false, 13), (false, 14)] [(false, 15), (false, 16)] (fun V => V.cell? ⟨w.heap.size, 7, none⟩ = some (.slice a4 W.us.length b4) ∧ V.cell? ⟨w.heap.size, 1, none⟩ = some (.int .i64 W.next) ∧ V.cell? ⟨(xk.add (kn * 11)).block, (xk.add (kn * 11)).off + 1, none⟩ = some (.int .i64 k.n0)) (by kernel_rfl) (by kernel_rfl) (by kernel_rfl) (by kernel_rfl) (by kernel_rfl) ?_ ?_
  · obtain ⟨-, x1, -, -, -, -, -, x7, -⟩ := X4.out.cells
    exact ⟨x7, x1, (HK.out.1.below B4.out HK.out.2).c1⟩
  have X5 : Hid (Wx { w4 with drawn := w4.drawn + 1 } w.heap.size (.int .i64 W.turn) (.int .i64 W.next) (.int .i64 W.wide) (.int .i64 W.high) (.slice a1 W.gs.length b1) (.slice a2 W.os.length b2) (.slice a3 W.gold.length b3) (.slice a4 W.us.length b4) (.slice a5 W.qs.length b5)) := X4.out
  have B5 : Hid (Below w.heap.size w { w4 with drawn := w4.drawn + 1 }) := B4.out.drew
  have Z5 : Hid (Wx { w4 with drawn := w4.drawn + 1 } (w.heap.size + 1) (.int .i64 0) (.int .i64 0) (.int .i64 0) (.int .i64 0) (.slice none 0 0) (.slice none 0 0) (.slice none 0 0) (.slice none 0 0) (.slice none 0 0)) := Z4.out
  have S5 : Hid (w.heap.size + 2 ≤ ({ w4 with drawn := w4.drawn + 1 } : World).heap.size) := S4.out
  have D5 : Hid (Below w4.heap.size w4 { w4 with drawn := w4.drawn + 1 }) := (Below.refl _ _).drew
  generalize ({ w4 with drawn := w4.drawn + 1 } : World) = w5 at *
  have O5 : Hid (Ow w5 (w.heap.size + 2) (.slice a1 W.gs.length b1) W.gs ∧ Ow w5 (w.heap.size + 2) (.slice a2 W.os.length b2) W.os ∧ Ow w5 (w.heap.size + 2) (.slice a3 W.gold.length b3) W.gold ∧ Uno w5 (w.heap.size + 2) (.slice a4 W.us.length b4) W.us ∧ Jbo w5 (w.heap.size + 2) (.slice a5 W.qs.length b5) W.qs) :=
    ⟨O4.out.1.below D5.out, O4.out.2.1.below D5.out, O4.out.2.2.1.below D5.out, O4.out.2.2.2.1.below D5.out, O4.out.2.2.2.2.below D5.out⟩
  clear X4 B4 Z4 S4 O4 D5
  refine headT_read rfl (.pointer (some ⟨w.heap.size, 7, none⟩)) (by go_simp) (fun V hV => by go_simp) ?_
  go_simp
  refine headT_read rfl (.slice a4 W.us.length b4) (by go_simp) (fun V hV => by obtain ⟨f7, f1, fk⟩ := hV; go_simp) ?_
  go_simp
  refine headT_read rfl (.pointer (some ⟨w.heap.size, 1, none⟩)) (by go_simp) (fun V hV => by go_simp) ?_
  go_simp
  refine headT_read rfl (.int .i64 W.next) (by go_simp) (fun V hV => by obtain ⟨f7, f1, fk⟩ := hV; go_simp) ?_
  go_simp
  refine headT_read rfl (.int .i64 pl) (by go_simp) (fun V hV => by go_simp) ?_
  go_simp
  refine headT_read rfl (.int .i64 (kn : Nat)) (by go_simp) (fun V hV => by go_simp) ?_
  go_simp
  refine headT_read rfl (.int .i64 at_) (by go_simp) (fun V hV => by go_simp) ?_
  go_simp
  refine headT_read rfl (.slice (some xk) ks.length qk) (by go_simp) (fun V hV => by go_simp) ?_
  go_simp
  refine headT_read rfl (.int .i64 (kn : Nat)) (by go_simp) (fun V hV => by go_simp) ?_
  go_simp
  refine headT_read rfl (.pointer (some (xk.add (kn * 11)))) (by go_simp) (fun V hV => by go_simp) ?_
  go_simp
  refine headT_read rfl (.pointer (some ⟨(xk.add (kn * 11)).block, (xk.add (kn * 11)).off + 1, none⟩)) (by go_simp) (fun V hV => by go_simp) ?_
  go_simp
  refine headT_read rfl (.int .i64 k.n0) (by go_simp) (fun V hV => by obtain ⟨f7, f1, fk⟩ := hV; go_simp) ?_
  go_simp
  refine headT_read rfl (.agg #[.int .i64 W.next, .int .i64 pl, .int .i64 (kn : Nat), .int .i64 at_, .int .i64 k.n0, .int .i64 0, .int .i64 0, .int .i64 0]) (by go_simp) (fun V hV => by go_simp) ?_
  go_simp
  have CL : Hid (∀ V, Wx V w.heap.size (.int .i64 W.turn) (.int .i64 W.next) (.int .i64 W.wide) (.int .i64 W.high) (.slice a1 W.gs.length b1) (.slice a2 W.os.length b2) (.slice a3 W.gold.length b3) (.slice a4 W.us.length b4) (.slice a5 W.qs.length b5) → Below w.heap.size w V → V.cell? ⟨w.heap.size, 7, none⟩ = some (.slice a4 W.us.length b4) ∧ V.cell? ⟨w.heap.size, 1, none⟩ = some (.int .i64 W.next) ∧ V.cell? ⟨(xk.add (kn * 11)).block, (xk.add (kn * 11)).off + 1, none⟩ = some (.int .i64 k.n0)) := fun V hX hB => by
    obtain ⟨-, x1, -, -, -, -, -, x7, -⟩ := hX.cells
    exact ⟨x7, x1, (HK.out.1.below hB HK.out.2).c1⟩
  have BA : Hid (Below w5.heap.size w5 (w5.alloc (.cells #[.int .i64 W.next, .int .i64 pl, .int .i64 (kn : Nat), .int .i64 at_, .int .i64 k.n0, .int .i64 0, .int .i64 0, .int .i64 0] 63))) := (Below.refl _ _).alloc (Nat.le_refl _) _
  have SA : Hid ((w5.alloc (.cells #[.int .i64 W.next, .int .i64 pl, .int .i64 (kn : Nat), .int .i64 at_, .int .i64 k.n0, .int .i64 0, .int .i64 0, .int .i64 0] 63)).heap.size = w5.heap.size + 1) := by unfold Hid; simp
  have UA : Hid (Unc (w5.alloc (.cells #[.int .i64 W.next, .int .i64 pl, .int .i64 (kn : Nat), .int .i64 at_, .int .i64 k.n0, .int .i64 0, .int .i64 0, .int .i64 0] 63)) ⟨w5.heap.size, 0, none⟩ (⟨W.next, pl, (kn : Nat), at_, k.n0, 0, 0, 0⟩ : UnV)) := Unc.mk' (w := w5) (⟨W.next, pl, (kn : Nat), at_, k.n0, 0, 0, 0⟩ : UnV) rfl
  have OA : Hid (Uno (w5.alloc (.cells #[.int .i64 W.next, .int .i64 pl, .int .i64 (kn : Nat), .int .i64 at_, .int .i64 k.n0, .int .i64 0, .int .i64 0, .int .i64 0] 63)) (w.heap.size + 2) (.slice a4 W.us.length b4) W.us) := O5.out.2.2.2.1.alloc _
  have XA : Hid (Wx (w5.alloc (.cells #[.int .i64 W.next, .int .i64 pl, .int .i64 (kn : Nat), .int .i64 at_, .int .i64 k.n0, .int .i64 0, .int .i64 0, .int .i64 0] 63)) w.heap.size (.int .i64 W.turn) (.int .i64 W.next) (.int .i64 W.wide) (.int .i64 W.high) (.slice a1 W.gs.length b1) (.slice a2 W.os.length b2) (.slice a3 W.gold.length b3) (.slice a4 W.us.length b4) (.slice a5 W.qs.length b5)) := X5.out.below BA.out X5.out.lt
  have BB : Hid (Below w.heap.size w (w5.alloc (.cells #[.int .i64 W.next, .int .i64 pl, .int .i64 (kn : Nat), .int .i64 at_, .int .i64 k.n0, .int .i64 0, .int .i64 0, .int .i64 0] 63))) := B5.out.trans (BA.out.mono B5.out.size)
  refine headT_value rfl (.slice (some ⟨w5.heap.size, 0, none⟩) 1 1) (w5.alloc (.cells #[.int .i64 W.next, .int .i64 pl, .int .i64 (kn : Nat), .int .i64 at_, .int .i64 k.n0, .int .i64 0, .int .i64 0, .int .i64 0] 63)) (by go_simp) (by go_simp) (CL.out _ XA.out BB.out) ?_
  go_simp
  generalize (w5.alloc (.cells #[.int .i64 W.next, .int .i64 pl, .int .i64 (kn : Nat), .int .i64 at_, .int .i64 k.n0, .int .i64 0, .int .i64 0, .int .i64 0] 63)) = wa at *
  obtain ⟨i0, hi, hz0, hz1, hz2⟩ := info_parts info_un
  obtain ⟨g, cap, w6, hr, ho6, hg6, ha6, hl6⟩ := run_append_lies (P := Tryz.prog) wa 26 26 (w.heap.size + 2) 63 i0 _ 8 64 Tryz.underlying26 hi hz0 hz1 hz2 rfl (by decide) (.slice a4 W.us.length b4) W.us.length _ OA.out ⟨w5.heap.size, 0, none⟩ 1 1 (UnV.cs (⟨W.next, pl, (kn : Nat), at_, k.n0, 0, 0, 0⟩ : UnV)) rfl (fun j u hj => by
    have hd := UA.out
    have hjn : j < 8 := (List.getElem?_eq_some_iff.1 hj).1
    rw [Addr.add_lit, Nat.zero_add]
    match j, hjn, hj with
    | 0, _, hj => simp [UnV.cs] at hj; subst hj; exact hd.c0
    | 1, _, hj => simp [UnV.cs] at hj; subst hj; exact hd.c1
    | 2, _, hj => simp [UnV.cs] at hj; subst hj; exact hd.c2
    | 3, _, hj => simp [UnV.cs] at hj; subst hj; exact hd.c3
    | 4, _, hj => simp [UnV.cs] at hj; subst hj; exact hd.c4
    | 5, _, hj => simp [UnV.cs] at hj; subst hj; exact hd.c5
    | 6, _, hj => simp [UnV.cs] at hj; subst hj; exact hd.c6
    | 7, _, hj => simp [UnV.cs] at hj; subst hj; exact hd.c7) (fun u hu => by
    simp [UnV.cs] at hu
    rcases hu with rfl | rfl | rfl | rfl | rfl | rfl | rfl | rfl <;> rfl) (by decide) (by have := L40.out; unfold maxLen; omega) (by have := L40.out; omega) (by have := S5.out; have := SA.out; omega) _ rfl
  have ON : Hid (Uno w6 (w.heap.size + 2) (.slice (some ⟨g, 0, none⟩) (W.us.length + 1) cap) (W.us ++ [(⟨W.next, pl, (kn : Nat), at_, k.n0, 0, 0, 0⟩ : UnV)])) := by
    unfold Hid Uno
    rw [List.length_append, List.flatMap_append]
    simpa using ho6
  have GB : Hid (∀ b, ((.slice a4 W.us.length b4) : Value).ownBlock = some b → w.heap.size + 2 ≤ b) := fun b hb => (OA.out.block b hb).1
  have BG : Hid (Below (w.heap.size + 2) wa w6) := (Below.refl _ _).grown hg6 (by have := S5.out; have := SA.out; omega) (fun b hb => GB.out b hb)
  have X6 : Hid (Wx w6 w.heap.size (.int .i64 W.turn) (.int .i64 W.next) (.int .i64 W.wide) (.int .i64 W.high) (.slice a1 W.gs.length b1) (.slice a2 W.os.length b2) (.slice a3 W.gold.length b3) (.slice a4 W.us.length b4) (.slice a5 W.qs.length b5)) := XA.out.below BG.out (by omega)
  have Z6 : Hid (Wx w6 (w.heap.size + 1) (.int .i64 0) (.int .i64 0) (.int .i64 0) (.int .i64 0) (.slice none 0 0) (.slice none 0 0) (.slice none 0 0) (.slice none 0 0) (.slice none 0 0)) := (Z5.out.below BA.out Z5.out.lt).below BG.out (by omega)
  have B6 : Hid (Below w.heap.size w w6) := BB.out.trans (BG.out.mono (by omega))
  refine headT_value rfl (.slice (some ⟨g, 0, none⟩) (W.us.length + 1) cap) w6 (by go_simp) (exec_append _ _ _ _ rfl _ _ (by go_simp) (by go_simp) hr) (CL.out _ X6.out B6.out) ?_
  have S6 : Hid (w.heap.size + 2 ≤ w6.heap.size) := by have := S5.out; have := SA.out; have := BG.out.size; unfold Hid; omega
  have N1 : Hid (Ow w6 (w.heap.size + 2) (.slice a1 W.gs.length b1) W.gs) := ((O5.out.1).below BA.out).kept hg6 DD.out.1.ne
  have N2 : Hid (Ow w6 (w.heap.size + 2) (.slice a2 W.os.length b2) W.os) := ((O5.out.2.1).below BA.out).kept hg6 DD.out.2.1.ne
  have N3 : Hid (Ow w6 (w.heap.size + 2) (.slice a3 W.gold.length b3) W.gold) := ((O5.out.2.2.1).below BA.out).kept hg6 DD.out.2.2.1.ne
  have N5 : Hid (Jbo w6 (w.heap.size + 2) (.slice a5 W.qs.length b5) W.qs) := ((O5.out.2.2.2.2).below BA.out).kept hg6 DD.out.2.2.2.ne
  clear hr ho6 hg6 ha6 hl6 hi hz0 hz1 hz2 BG GB OA UA XA BB BA X5 Z5 S5 B5 O5 CL SA DD
  go_simp
  unfold wpHeadT
  refine sched_value rfl (.pointer (some ⟨w.heap.size, 7, none⟩)) w6 (by go_simp) (by go_simp) trivial ?_
  go_simp
  have K7 : Hid (Kp w.heap.size w6 (w6.setCell ⟨w.heap.size, 7, none⟩ (.slice (some ⟨g, 0, none⟩) (W.us.length + 1) cap))) := Kp.set _ _ _
  have X7 : Hid (Wx (w6.setCell ⟨w.heap.size, 7, none⟩ (.slice (some ⟨g, 0, none⟩) (W.us.length + 1) cap)) w.heap.size (.int .i64 W.turn) (.int .i64 W.next) (.int .i64 W.wide) (.int .i64 W.high) (.slice a1 W.gs.length b1) (.slice a2 W.os.length b2) (.slice a3 W.gold.length b3) (.slice (some ⟨g, 0, none⟩) (W.us.length + 1) cap) (.slice a5 W.qs.length b5)) := X6.out.set7 _
  have t7 := X6.out.thaw 7
  obtain ⟨-, -, -, -, -, -, -, x7, -⟩ := X6.out.cells
  refine sched_skip rfl (w6.setCell ⟨w.heap.size, 7, none⟩ (.slice (some ⟨g, 0, none⟩) (W.us.length + 1) cap)) (by go_simp) (by go_simp) trivial ?_
  go_simp
  clear t7 x7
  generalize (w6.setCell ⟨w.heap.size, 7, none⟩ (.slice (some ⟨g, 0, none⟩) (W.us.length + 1) cap)) = w7 at *
  have B7 : Hid (Below w.heap.size w w7) := K7.out.below B6.out B6.out.size (Nat.le_refl _)
  have Z7 : Hid (Wx w7 (w.heap.size + 1) (.int .i64 0) (.int .i64 0) (.int .i64 0) (.int .i64 0) (.slice none 0 0) (.slice none 0 0) (.slice none 0 0) (.slice none 0 0) (.slice none 0 0)) := Z6.out.kp K7.out (by omega)
  have S7 : Hid (w.heap.size + 2 ≤ w7.heap.size) := Nat.le_trans S6.out K7.out.size
  have M : Hid (Ow w7 (w.heap.size + 2) (.slice a1 W.gs.length b1) W.gs ∧ Ow w7 (w.heap.size + 2) (.slice a2 W.os.length b2) W.os ∧ Ow w7 (w.heap.size + 2) (.slice a3 W.gold.length b3) W.gold ∧ Uno w7 (w.heap.size + 2) (.slice (some ⟨g, 0, none⟩) (W.us.length + 1) cap) (W.us ++ [(⟨W.next, pl, (kn : Nat), at_, k.n0, 0, 0, 0⟩ : UnV)]) ∧ Jbo w7 (w.heap.size + 2) (.slice a5 W.qs.length b5) W.qs) :=
    ⟨N1.out.kp K7.out (by omega), N2.out.kp K7.out (by omega), N3.out.kp K7.out (by omega), ON.out.kp K7.out (by omega), N5.out.kp K7.out (by omega)⟩
  clear K7 B6 Z6 S6 N1 N2 N3 N5 ON X6
  unfold wpSched
  have wn : IntKind.i64.wrap (W.next + 1) = W.next + 1 := by rw [IntKind.wrap_i64]; omega
  have K8 : Hid (Kp w.heap.size w7 (w7.setCell ⟨w.heap.size, 1, none⟩ (.int .i64 (W.next + 1)))) := Kp.set _ _ _
  have X8 : Hid (Wx (w7.setCell ⟨w.heap.size, 1, none⟩ (.int .i64 (W.next + 1))) w.heap.size (.int .i64 W.turn) (.int .i64 (W.next + 1)) (.int .i64 W.wide) (.int .i64 W.high) (.slice a1 W.gs.length b1) (.slice a2 W.os.length b2) (.slice a3 W.gold.length b3) (.slice (some ⟨g, 0, none⟩) (W.us.length + 1) cap) (.slice a5 W.qs.length b5)) := X7.out.set1 _
  have t1 := X7.out.thaw 1
  obtain ⟨-, x1, -, -, -, -, -, -, -⟩ := X7.out.cells
  go_upto_region 10 with fail
  clear t1 x1 wn
  generalize (w7.setCell ⟨w.heap.size, 1, none⟩ (.int .i64 (W.next + 1))) = w8 at *
  have B8 : Hid (Below w.heap.size w w8) := K8.out.below B7.out B7.out.size (Nat.le_refl _)
  have Z8 : Hid (Wx w8 (w.heap.size + 1) (.int .i64 0) (.int .i64 0) (.int .i64 0) (.int .i64 0) (.slice none 0 0) (.slice none 0 0) (.slice none 0 0) (.slice none 0 0) (.slice none 0 0)) := Z7.out.kp K8.out (by omega)
  have S8 : Hid (w.heap.size + 2 ≤ w8.heap.size) := Nat.le_trans S7.out K8.out.size
  have M8 : Hid (Ow w8 (w.heap.size + 2) (.slice a1 W.gs.length b1) W.gs ∧ Ow w8 (w.heap.size + 2) (.slice a2 W.os.length b2) W.os ∧ Ow w8 (w.heap.size + 2) (.slice a3 W.gold.length b3) W.gold ∧ Uno w8 (w.heap.size + 2) (.slice (some ⟨g, 0, none⟩) (W.us.length + 1) cap) (W.us ++ [(⟨W.next, pl, (kn : Nat), at_, k.n0, 0, 0, 0⟩ : UnV)]) ∧ Jbo w8 (w.heap.size + 2) (.slice a5 W.qs.length b5) W.qs) :=
    ⟨M.out.1.kp K8.out (by omega), M.out.2.1.kp K8.out (by omega), M.out.2.2.1.kp K8.out (by omega), M.out.2.2.2.1.kp K8.out (by omega), M.out.2.2.2.2.kp K8.out (by omega)⟩
  clear K8 B7 Z7 S7 M X7
  obtain ⟨x0, x1, x2, x3, x4, x5, x6, x7, x8⟩ := X8.out.cells
  obtain ⟨z0, z1, z2, z3, z4, z5, z6, z7, z8⟩ := Z8.out.cells
  obtain ⟨t0, t1, t2, t3, t4, t5, t6, t7, t8⟩ := Z8.out.thaws
  have KZ : Hid (Kp (w.heap.size + 1) w8 (((((((((w8.setCell ⟨w.heap.size + 1, 0, none⟩ (.int .i64 W.turn)).setCell ⟨w.heap.size + 1, 1, none⟩ (.int .i64 (W.next + 1))).setCell ⟨w.heap.size + 1, 2, none⟩ (.int .i64 W.wide)).setCell ⟨w.heap.size + 1, 3, none⟩ (.int .i64 W.high)).setCell ⟨w.heap.size + 1, 4, none⟩ (.slice a1 W.gs.length b1)).setCell ⟨w.heap.size + 1, 5, none⟩ (.slice a2 W.os.length b2)).setCell ⟨w.heap.size + 1, 6, none⟩ (.slice a3 W.gold.length b3)).setCell ⟨w.heap.size + 1, 7, none⟩ (.slice (some ⟨g, 0, none⟩) (W.us.length + 1) cap)).setCell ⟨w.heap.size + 1, 8, none⟩ (.slice a5 W.qs.length b5))) := put_kp _ _ _ _ _ _ _ _ _ _ _
  obtain ⟨y0, y1, y2, y3, y4, y5, y6, y7, y8⟩ := (Z8.out.put (.int .i64 W.turn) (.int .i64 (W.next + 1)) (.int .i64 W.wide) (.int .i64 W.high) (.slice a1 W.gs.length b1) (.slice a2 W.os.length b2) (.slice a3 W.gold.length b3) (.slice (some ⟨g, 0, none⟩) (W.us.length + 1) cap) (.slice a5 W.qs.length b5)).cells
  go_wp2
  clear x0 x1 x2 x3 x4 x5 x6 x7 x8 z0 z1 z2 z3 z4 z5 z6 z7 z8 t0 t1 t2 t3 t4 t5 t6 t7 t8
  generalize (((((((((w8.setCell ⟨w.heap.size + 1, 0, none⟩ (.int .i64 W.turn)).setCell ⟨w.heap.size + 1, 1, none⟩ (.int .i64 (W.next + 1))).setCell ⟨w.heap.size + 1, 2, none⟩ (.int .i64 W.wide)).setCell ⟨w.heap.size + 1, 3, none⟩ (.int .i64 W.high)).setCell ⟨w.heap.size + 1, 4, none⟩ (.slice a1 W.gs.length b1)).setCell ⟨w.heap.size + 1, 5, none⟩ (.slice a2 W.os.length b2)).setCell ⟨w.heap.size + 1, 6, none⟩ (.slice a3 W.gold.length b3)).setCell ⟨w.heap.size + 1, 7, none⟩ (.slice (some ⟨g, 0, none⟩) (W.us.length + 1) cap)).setCell ⟨w.heap.size + 1, 8, none⟩ (.slice a5 W.qs.length b5)) = w9 at *
  refine bodyPost_ret (v := .tuple #[.agg #[.int .i64 W.turn, .int .i64 (W.next + 1), .int .i64 W.wide, .int .i64 W.high, .slice a1 W.gs.length b1, .slice a2 W.os.length b2, .slice a3 W.gold.length b3, .slice (some ⟨g, 0, none⟩) (W.us.length + 1) cap, .slice a5 W.qs.length b5], .nilIface]) (by simp [results, Tryz.results36, go_sem, y0, y1, y2, y3, y4, y5, y6, y7, y8]) rfl ⟨_, _, rfl, by rw [P0.out]; exact Er.nil, ?_, KZ.out.below B8.out B8.out.size (by omega)⟩
  rw [placed_ok P0.out]
  unfold Wd.put
  rw [NU.out]
  exact ⟨_, _, _, _, _, rfl, (M8.out.1.kp KZ.out (by omega)).mono (by omega), (M8.out.2.1.kp KZ.out (by omega)).mono (by omega), (M8.out.2.2.1.kp KZ.out (by omega)).mono (by omega), (M8.out.2.2.2.1.kp KZ.out (by omega)).mono (by omega), (M8.out.2.2.2.2.kp KZ.out (by omega)).mono (by omega)⟩
end Go.Proofs.YtoabhfipikkkeaaGreatDoor

namespace Go.Proofs.YtoabhfipikkkeaaGreatDoor
open Go.RowKit
set_option linter.unusedVariables false

set_option maxRecDepth 100000 in
set_option maxHeartbeats 16000000 in
theorem come_any (vk vw : Value) (ks : List KV) (Y : WV) (j : JbV) (w : World) (hk : Kl w vk ks) (hb : ∀ k ∈ ks, k.b.size ≤ 9223372036854775807) (hw : Wl w vw Y) (hr : Wd.wfault ks Y = 0) (hs : Sd w) :
    Calls Tryz.prog 75 #[vk, vw, j.val] w fun e w' => ∃ u r Z, e = .returned (.tuple #[u, r]) ∧ Wo w' w.heap.size u Z ∧ Below w.heap.size w w' ∧ ((∃ c, Comes ks Y j c ∧ r = .nilIface ∧ Z = Wd.put ks Y j.player j.kind c) ∨ (NoCome ks Y j ∧ ∃ n : Int, n ≠ 0 ∧ r = .iface 99 (.int .i64 n))) := by
  have K : Hid (Kl w vk ks ∧ ∀ k ∈ ks, k.b.size ≤ 9223372036854775807) := ⟨hk, hb⟩
  have H : Hid (Wl w vw Y ∧ Wd.wfault ks Y = 0 ∧ Sd w) := ⟨hw, hr, hs⟩
  obtain ⟨p1, q1, p2, q2, p3, q3, p4, q4, p5, q5, rfl⟩ := wl_shape9 hw
  obtain ⟨pk, qk, rfl, ck1, ck2, kc⟩ := hk
  clear hb hw kc hr hs
  unfold JbV.val
  go_enter Tryz.func75, Tryz.ntmps75
  go_upto_region 1 with fail
  obtain ⟨z, hz⟩ : ∃ z, w.heap.size = z := ⟨_, rfl⟩
  have HZ : Hid (w.heap.size = z) := hz
  have z1 : (w.alloc (Obj.cells #[.int .i64 Y.turn, .int .i64 Y.next, .int .i64 Y.wide, .int .i64 Y.high, .slice p1 Y.gs.length q1, .slice p2 Y.os.length q2, .slice p3 Y.gold.length q3, .slice p4 Y.us.length q4, .slice p5 Y.qs.length q5] 29)).heap.size = z + 1 := by rw [← hz]; simp
  have z2 : ((w.alloc (Obj.cells #[.int .i64 Y.turn, .int .i64 Y.next, .int .i64 Y.wide, .int .i64 Y.high, .slice p1 Y.gs.length q1, .slice p2 Y.os.length q2, .slice p3 Y.gold.length q3, .slice p4 Y.us.length q4, .slice p5 Y.qs.length q5] 29)).alloc (Obj.cells #[.int .i64 j.player, .int .i64 j.unit, .int .i64 j.kind, .int .i64 j.left] 94)).heap.size = z + 2 := by rw [← hz]; simp
  have X0 : Hid (Wx (((w.alloc (Obj.cells #[.int .i64 Y.turn, .int .i64 Y.next, .int .i64 Y.wide, .int .i64 Y.high, .slice p1 Y.gs.length q1, .slice p2 Y.os.length q2, .slice p3 Y.gold.length q3, .slice p4 Y.us.length q4, .slice p5 Y.qs.length q5] 29)).alloc (Obj.cells #[.int .i64 j.player, .int .i64 j.unit, .int .i64 j.kind, .int .i64 j.left] 94)).alloc (Obj.cells #[.int .i64 0, .int .i64 0, .int .i64 0, .int .i64 0, .slice none 0 0, .slice none 0 0, .slice none 0 0, .slice none 0 0, .slice none 0 0] 29)) z (.int .i64 Y.turn) (.int .i64 Y.next) (.int .i64 Y.wide) (.int .i64 Y.high) (.slice p1 Y.gs.length q1) (.slice p2 Y.os.length q2) (.slice p3 Y.gold.length q3) (.slice p4 Y.us.length q4) (.slice p5 Y.qs.length q5)) := ((Wx.new (w := w) (.int .i64 Y.turn) (.int .i64 Y.next) (.int .i64 Y.wide) (.int .i64 Y.high) (.slice p1 Y.gs.length q1) (.slice p2 Y.os.length q2) (.slice p3 Y.gold.length q3) (.slice p4 Y.us.length q4) (.slice p5 Y.qs.length q5) hz).below ((Below.refl _ _).alloc (Nat.le_refl _) _) (Wx.new (w := w) (.int .i64 Y.turn) (.int .i64 Y.next) (.int .i64 Y.wide) (.int .i64 Y.high) (.slice p1 Y.gs.length q1) (.slice p2 Y.os.length q2) (.slice p3 Y.gold.length q3) (.slice p4 Y.us.length q4) (.slice p5 Y.qs.length q5) hz).lt).below ((Below.refl _ _).alloc (Nat.le_refl _) _) (by rw [z2]; omega)
  have J0 : Hid (Jbc (((w.alloc (Obj.cells #[.int .i64 Y.turn, .int .i64 Y.next, .int .i64 Y.wide, .int .i64 Y.high, .slice p1 Y.gs.length q1, .slice p2 Y.os.length q2, .slice p3 Y.gold.length q3, .slice p4 Y.us.length q4, .slice p5 Y.qs.length q5] 29)).alloc (Obj.cells #[.int .i64 j.player, .int .i64 j.unit, .int .i64 j.kind, .int .i64 j.left] 94)).alloc (Obj.cells #[.int .i64 0, .int .i64 0, .int .i64 0, .int .i64 0, .slice none 0 0, .slice none 0 0, .slice none 0 0, .slice none 0 0, .slice none 0 0] 29)) ⟨z + 1, 0, none⟩ j) := (Jbc.mk' (w := (w.alloc (Obj.cells #[.int .i64 Y.turn, .int .i64 Y.next, .int .i64 Y.wide, .int .i64 Y.high, .slice p1 Y.gs.length q1, .slice p2 Y.os.length q2, .slice p3 Y.gold.length q3, .slice p4 Y.us.length q4, .slice p5 Y.qs.length q5] 29))) j z1).below ((Below.refl _ _).alloc (Nat.le_refl _) _) (Jbc.mk' (w := (w.alloc (Obj.cells #[.int .i64 Y.turn, .int .i64 Y.next, .int .i64 Y.wide, .int .i64 Y.high, .slice p1 Y.gs.length q1, .slice p2 Y.os.length q2, .slice p3 Y.gold.length q3, .slice p4 Y.us.length q4, .slice p5 Y.qs.length q5] 29))) j z1).lt
  have Z0 : Hid (Wx (((w.alloc (Obj.cells #[.int .i64 Y.turn, .int .i64 Y.next, .int .i64 Y.wide, .int .i64 Y.high, .slice p1 Y.gs.length q1, .slice p2 Y.os.length q2, .slice p3 Y.gold.length q3, .slice p4 Y.us.length q4, .slice p5 Y.qs.length q5] 29)).alloc (Obj.cells #[.int .i64 j.player, .int .i64 j.unit, .int .i64 j.kind, .int .i64 j.left] 94)).alloc (Obj.cells #[.int .i64 0, .int .i64 0, .int .i64 0, .int .i64 0, .slice none 0 0, .slice none 0 0, .slice none 0 0, .slice none 0 0, .slice none 0 0] 29)) (z + 2) (.int .i64 0) (.int .i64 0) (.int .i64 0) (.int .i64 0) (.slice none 0 0) (.slice none 0 0) (.slice none 0 0) (.slice none 0 0) (.slice none 0 0)) := Wx.new (w := ((w.alloc (Obj.cells #[.int .i64 Y.turn, .int .i64 Y.next, .int .i64 Y.wide, .int .i64 Y.high, .slice p1 Y.gs.length q1, .slice p2 Y.os.length q2, .slice p3 Y.gold.length q3, .slice p4 Y.us.length q4, .slice p5 Y.qs.length q5] 29)).alloc (Obj.cells #[.int .i64 j.player, .int .i64 j.unit, .int .i64 j.kind, .int .i64 j.left] 94))) (.int .i64 0) (.int .i64 0) (.int .i64 0) (.int .i64 0) (.slice none 0 0) (.slice none 0 0) (.slice none 0 0) (.slice none 0 0) (.slice none 0 0) z2
  have B0 : Hid (Below w.heap.size w (((w.alloc (Obj.cells #[.int .i64 Y.turn, .int .i64 Y.next, .int .i64 Y.wide, .int .i64 Y.high, .slice p1 Y.gs.length q1, .slice p2 Y.os.length q2, .slice p3 Y.gold.length q3, .slice p4 Y.us.length q4, .slice p5 Y.qs.length q5] 29)).alloc (Obj.cells #[.int .i64 j.player, .int .i64 j.unit, .int .i64 j.kind, .int .i64 j.left] 94)).alloc (Obj.cells #[.int .i64 0, .int .i64 0, .int .i64 0, .int .i64 0, .slice none 0 0, .slice none 0 0, .slice none 0 0, .slice none 0 0, .slice none 0 0] 29))) := (((Below.refl _ _).alloc (Nat.le_refl _) _).alloc (by simp) _).alloc (by simp; omega) _
  rw [hz]
  clear hz z1 z2
  generalize (((w.alloc (Obj.cells #[.int .i64 Y.turn, .int .i64 Y.next, .int .i64 Y.wide, .int .i64 Y.high, .slice p1 Y.gs.length q1, .slice p2 Y.os.length q2, .slice p3 Y.gold.length q3, .slice p4 Y.us.length q4, .slice p5 Y.qs.length q5] 29)).alloc (Obj.cells #[.int .i64 j.player, .int .i64 j.unit, .int .i64 j.kind, .int .i64 j.left] 94)).alloc (Obj.cells #[.int .i64 0, .int .i64 0, .int .i64 0, .int .i64 0, .slice none 0 0, .slice none 0 0, .slice none 0 0, .slice none 0 0, .slice none 0 0] 29)) = w0 at *
  obtain ⟨x0, x1, x2, x3, x4, x5, x6, x7, x8⟩ := X0.out.cells
  obtain ⟨j0, j1, j2, j3⟩ := J0.out
  go_wp2_with fail
  refine (spot_any _ _ ks Y j.unit j.kind w0 (K.out.1.below B0.out) K.out.2 (H.out.1.below B0.out) (H.out.2.2.below B0.out)).mono ?_
  rintro e w1 ⟨c, r, F, rfl, hr, hs, hb⟩
  have SS : Hid (SpotSays ks Y j.unit j.kind c F) := hs
  have B1 : Hid (Below w.heap.size w w1) := B0.out.trans (hb.mono B0.out.size)
  have X1 : Hid (Wx w1 z (.int .i64 Y.turn) (.int .i64 Y.next) (.int .i64 Y.wide) (.int .i64 Y.high) (.slice p1 Y.gs.length q1) (.slice p2 Y.os.length q2) (.slice p3 Y.gold.length q3) (.slice p4 Y.us.length q4) (.slice p5 Y.qs.length q5)) := X0.out.below hb X0.out.lt
  have J1 : Hid (Jbc w1 ⟨z + 1, 0, none⟩ j) := J0.out.below hb J0.out.lt
  have Z1 : Hid (Wx w1 (z + 2) (.int .i64 0) (.int .i64 0) (.int .i64 0) (.int .i64 0) (.slice none 0 0) (.slice none 0 0) (.slice none 0 0) (.slice none 0 0) (.slice none 0 0)) := Z0.out.below hb Z0.out.lt
  clear hb hs x0 x1 x2 x3 x4 x5 x6 x7 x8 j0 j1 j2 j3 X0 J0 Z0 B0
  rcases hr with ⟨rfl, rfl⟩ | ⟨hf, rfl⟩
  case inr =>
    have HF : Hid (F ≠ 0) := hf
    clear hf
    obtain ⟨z0, z1, z2, z3, z4, z5, z6, z7, z8⟩ := Z1.out.cells
    obtain ⟨t0, t1, t2, t3, t4, t5, t6, t7, t8⟩ := Z1.out.thaws
    have KZ : Hid (Kp (z + 2) w1 (((((((((w1.setCell ⟨z + 2, 0, none⟩ (.int .i64 0)).setCell ⟨z + 2, 1, none⟩ (.int .i64 0)).setCell ⟨z + 2, 2, none⟩ (.int .i64 0)).setCell ⟨z + 2, 3, none⟩ (.int .i64 0)).setCell ⟨z + 2, 4, none⟩ (.slice none 0 0)).setCell ⟨z + 2, 5, none⟩ (.slice none 0 0)).setCell ⟨z + 2, 6, none⟩ (.slice none 0 0)).setCell ⟨z + 2, 7, none⟩ (.slice none 0 0)).setCell ⟨z + 2, 8, none⟩ (.slice none 0 0))) := put_kp _ _ _ _ _ _ _ _ _ _ _
    obtain ⟨y0, y1, y2, y3, y4, y5, y6, y7, y8⟩ := (Z1.out.put (.int .i64 0) (.int .i64 0) (.int .i64 0) (.int .i64 0) (.slice none 0 0) (.slice none 0 0) (.slice none 0 0) (.slice none 0 0) (.slice none 0 0)).cells
    go_wp2
    clear z0 z1 z2 z3 z4 z5 z6 z7 z8 t0 t1 t2 t3 t4 t5 t6 t7 t8
    generalize (((((((((w1.setCell ⟨z + 2, 0, none⟩ (.int .i64 0)).setCell ⟨z + 2, 1, none⟩ (.int .i64 0)).setCell ⟨z + 2, 2, none⟩ (.int .i64 0)).setCell ⟨z + 2, 3, none⟩ (.int .i64 0)).setCell ⟨z + 2, 4, none⟩ (.slice none 0 0)).setCell ⟨z + 2, 5, none⟩ (.slice none 0 0)).setCell ⟨z + 2, 6, none⟩ (.slice none 0 0)).setCell ⟨z + 2, 7, none⟩ (.slice none 0 0)).setCell ⟨z + 2, 8, none⟩ (.slice none 0 0)) = w2 at *
    refine bodyPost_ret (v := .tuple #[.agg #[.int .i64 0, .int .i64 0, .int .i64 0, .int .i64 0, .slice none 0 0, .slice none 0 0, .slice none 0 0, .slice none 0 0, .slice none 0 0], .iface 99 (.int .i64 F)]) (by simp [results, Tryz.results75, go_sem, y0, y1, y2, y3, y4, y5, y6, y7, y8]) rfl ⟨_, _, WV.zero, rfl, zero_wo _ _, ?_, .inr ⟨⟨c, F, SS.out, .inl HF.out⟩, F, HF.out, rfl⟩⟩
    exact KZ.out.below B1.out B1.out.size (by have := HZ.out; omega)
  obtain ⟨x0, x1, x2, x3, x4, x5, x6, x7, x8⟩ := X1.out.cells
  obtain ⟨j0, j1, j2, j3⟩ := J1.out
  go_wp2_with fail
  refine (place_any _ _ ks Y j.player j.kind c w1 (K.out.1.below B1.out) K.out.2 (H.out.1.below B1.out)).mono ?_
  rintro e w2 ⟨u, r, rfl, hr, hu, hb⟩
  have PF : Hid (Wd.putFault ks Y j.player j.kind c = Wd.placeFault ks Y j.player j.kind c) := by unfold Hid Wd.putFault; rw [if_pos H.out.2.1]
  rw [PF.out] at hr
  have B2 : Hid (Below w.heap.size w w2) := B1.out.trans (hb.mono B1.out.size)
  have X2 : Hid (Wx w2 z (.int .i64 Y.turn) (.int .i64 Y.next) (.int .i64 Y.wide) (.int .i64 Y.high) (.slice p1 Y.gs.length q1) (.slice p2 Y.os.length q2) (.slice p3 Y.gold.length q3) (.slice p4 Y.us.length q4) (.slice p5 Y.qs.length q5)) := X1.out.below hb X1.out.lt
  have J2 : Hid (Jbc w2 ⟨z + 1, 0, none⟩ j) := J1.out.below hb J1.out.lt
  have Z2 : Hid (Wx w2 (z + 2) (.int .i64 0) (.int .i64 0) (.int .i64 0) (.int .i64 0) (.slice none 0 0) (.slice none 0 0) (.slice none 0 0) (.slice none 0 0) (.slice none 0 0)) := Z1.out.below hb Z1.out.lt
  have U2 : Hid (Wo w2 w1.heap.size u (Wd.placed ks Y j.player j.kind c)) := hu
  have S1 : Hid (z + 2 < w1.heap.size) := Z1.out.lt
  obtain ⟨Z, hZ⟩ : ∃ Z, Wd.placed ks Y j.player j.kind c = Z := ⟨_, rfl⟩
  have HP : Hid (Wd.placed ks Y j.player j.kind c = Z) := hZ
  rw [hZ] at U2 hu
  obtain ⟨k1, k2, k3, k4, k5, rfl, o1, o2, o3, o4, o5⟩ := hu
  obtain ⟨a1, r1, rfl⟩ := o1.len
  obtain ⟨a2, r2, rfl⟩ := o2.len
  obtain ⟨a3, r3, rfl⟩ := o3.len
  obtain ⟨a4, r4, rfl⟩ := o4.len
  obtain ⟨a5, r5, rfl⟩ := o5.len
  have OO : Hid (Ow w2 w1.heap.size (Value.slice a1 Z.gs.length r1) Z.gs ∧ Ow w2 w1.heap.size (Value.slice a2 Z.os.length r2) Z.os ∧ Ow w2 w1.heap.size (Value.slice a3 Z.gold.length r3) Z.gold ∧ Uno w2 w1.heap.size (Value.slice a4 Z.us.length r4) Z.us ∧ Jbo w2 w1.heap.size (Value.slice a5 Z.qs.length r5) Z.qs) := ⟨o1, o2, o3, o4, o5⟩
  have ND : Hid (((∃ c, Comes ks Y j c ∧ r = .nilIface ∧ Z = Wd.put ks Y j.player j.kind c) ∨ (NoCome ks Y j ∧ ∃ n : Int, n ≠ 0 ∧ r = .iface 99 (.int .i64 n)))) := by
    unfold Hid
    rcases hr with ⟨h0, rfl⟩ | ⟨h0, rfl⟩
    · exact .inl ⟨c, ⟨SS.out, h0⟩, rfl, by rw [← HP.out, placed_ok (by rw [PF.out]; exact h0)]⟩
    · exact .inr ⟨⟨c, 0, SS.out, .inr h0⟩, _, h0, rfl⟩
  clear hb hr hZ o1 o2 o3 o4 o5 x0 x1 x2 x3 x4 x5 x6 x7 x8 j0 j1 j2 j3 X1 J1 Z1 B1 U2 HP PF SS
  obtain ⟨z0, z1, z2, z3, z4, z5, z6, z7, z8⟩ := Z2.out.cells
  obtain ⟨t0, t1, t2, t3, t4, t5, t6, t7, t8⟩ := Z2.out.thaws
  have KZ : Hid (Kp (z + 2) w2 (((((((((w2.setCell ⟨z + 2, 0, none⟩ (.int .i64 Z.turn)).setCell ⟨z + 2, 1, none⟩ (.int .i64 Z.next)).setCell ⟨z + 2, 2, none⟩ (.int .i64 Z.wide)).setCell ⟨z + 2, 3, none⟩ (.int .i64 Z.high)).setCell ⟨z + 2, 4, none⟩ (Value.slice a1 Z.gs.length r1)).setCell ⟨z + 2, 5, none⟩ (Value.slice a2 Z.os.length r2)).setCell ⟨z + 2, 6, none⟩ (Value.slice a3 Z.gold.length r3)).setCell ⟨z + 2, 7, none⟩ (Value.slice a4 Z.us.length r4)).setCell ⟨z + 2, 8, none⟩ (Value.slice a5 Z.qs.length r5))) := put_kp _ _ _ _ _ _ _ _ _ _ _
  obtain ⟨y0, y1, y2, y3, y4, y5, y6, y7, y8⟩ := (Z2.out.put (.int .i64 Z.turn) (.int .i64 Z.next) (.int .i64 Z.wide) (.int .i64 Z.high) (Value.slice a1 Z.gs.length r1) (Value.slice a2 Z.os.length r2) (Value.slice a3 Z.gold.length r3) (Value.slice a4 Z.us.length r4) (Value.slice a5 Z.qs.length r5)).cells
  go_wp2
  clear z0 z1 z2 z3 z4 z5 z6 z7 z8 t0 t1 t2 t3 t4 t5 t6 t7 t8
  generalize (((((((((w2.setCell ⟨z + 2, 0, none⟩ (.int .i64 Z.turn)).setCell ⟨z + 2, 1, none⟩ (.int .i64 Z.next)).setCell ⟨z + 2, 2, none⟩ (.int .i64 Z.wide)).setCell ⟨z + 2, 3, none⟩ (.int .i64 Z.high)).setCell ⟨z + 2, 4, none⟩ (Value.slice a1 Z.gs.length r1)).setCell ⟨z + 2, 5, none⟩ (Value.slice a2 Z.os.length r2)).setCell ⟨z + 2, 6, none⟩ (Value.slice a3 Z.gold.length r3)).setCell ⟨z + 2, 7, none⟩ (Value.slice a4 Z.us.length r4)).setCell ⟨z + 2, 8, none⟩ (Value.slice a5 Z.qs.length r5)) = w3 at *
  have h1 := S1.out
  have h2 := HZ.out
  refine bodyPost_ret (v := .tuple #[.agg #[.int .i64 Z.turn, .int .i64 Z.next, .int .i64 Z.wide, .int .i64 Z.high, Value.slice a1 Z.gs.length r1, Value.slice a2 Z.os.length r2, Value.slice a3 Z.gold.length r3, Value.slice a4 Z.us.length r4, Value.slice a5 Z.qs.length r5], r]) (by simp [results, Tryz.results75, go_sem, y0, y1, y2, y3, y4, y5, y6, y7, y8]) rfl ⟨_, _, Z, rfl, ⟨_, _, _, _, _, rfl, (OO.out.1.kp KZ.out (by omega)).mono (by omega), (OO.out.2.1.kp KZ.out (by omega)).mono (by omega), (OO.out.2.2.1.kp KZ.out (by omega)).mono (by omega), (OO.out.2.2.2.1.kp KZ.out (by omega)).mono (by omega), (OO.out.2.2.2.2.kp KZ.out (by omega)).mono (by omega)⟩, ?_, ND.out⟩
  exact KZ.out.below B2.out B2.out.size (by omega)
end Go.Proofs.YtoabhfipikkkeaaGreatDoor

namespace Go.Proofs.YtoabhfipikkkeaaGreatDoor
open Go.RowKit
set_option linter.unusedVariables false

theorem job_in {ks : List KV} {X : WV} (h : WRight ks X) {j : JbV} (hj : j ∈ X.qs) : (1 ≤ j.left ∧ j.left ≤ 1000) ∧ 1 ≤ j.unit ∧ j.unit ≤ 1000000 := by
  have hf := h.job hj
  unfold Wd.jobFault at hf
  split at hf
  · cases hf
  · rename_i u hu
    split at hf
    · cases hf
    · split at hf
      · cases hf
      · split at hf
        · cases hf
        · rename_i k hk h1 h2
          simp only [Bool.or_eq_true, Bool.not_eq_true', decide_eq_false_iff_not, not_or, Classical.not_not, Bool.not_eq_false] at h2
          refine ⟨h2.2, ?_⟩
          have hm := List.mem_of_find?_eq_some hu
          have he := List.find?_some hu
          simp at he
          obtain ⟨i, hi⟩ := List.mem_iff_getElem?.1 hm
          obtain ⟨k', F⟩ := h.fine hi
          have h3 := F.id1
          have h4 := F.id2
          have h5 := h.nums
          unfold Wd.numsBad at h5
          simp only [Bool.or_eq_false_iff] at h5
          have h6 := h5.2.1
          unfold Wd.off at h6
          simp at h6
          omega
theorem dec1_same (l : List JbV) (j : JbV) : (dec1 l j).player = j.player ∧ (dec1 l j).unit = j.unit ∧ (dec1 l j).kind = j.kind ∧ one1 (dec1 l j) = one1 j := by
  unfold dec1 one1
  split <;> exact ⟨rfl, rfl, rfl, rfl⟩
theorem comes_dec {ks : List KV} {Y : WV} {l : List JbV} {j : JbV} {c : Int} (h : Comes ks Y (dec1 l j) c) : Comes ks Y j c := by
  obtain ⟨e1, e2, e3, -⟩ := dec1_same l j
  unfold Comes at h ⊢
  rw [e1, e2, e3] at h
  exact h
theorem nocome_dec {ks : List KV} {Y : WV} {l : List JbV} {j : JbV} (h : NoCome ks Y (dec1 l j)) : NoCome ks Y j := by
  obtain ⟨e1, e2, e3, -⟩ := dec1_same l j
  unfold NoCome at h ⊢
  rw [e1, e2, e3] at h
  exact h
/-- what Train tells. -/
def TrainSays (ks : List KV) (X : WV) (w w' : World) (v ev : Value) : Prop :=
  (Wd.wfault ks X ≠ 0 ∧ v = .agg #[.int .i64 0, .int .i64 0, .int .i64 0, .int .i64 0, .slice none 0 0, .slice none 0 0, .slice none 0 0, .slice none 0 0, .slice none 0 0] ∧ ev = .slice none 0 0)
  ∨ (Wd.wfault ks X = 0 ∧ ∃ Y es qs, Tr ks X X.qs.length Y es qs ∧ Wo w' w.heap.size v { Y with qs := qs } ∧ Evo w' w.heap.size ev es)
set_option maxRecDepth 100000 in
set_option maxHeartbeats 64000000 in
theorem Train_any (vk vw : Value) (ks : List KV) (X : WV) (w : World) (hk : Kl w vk ks) (hb : ∀ k ∈ ks, k.b.size ≤ 9223372036854775807) (hw : Wl w vw X) (hs : Sd w) :
    Calls Tryz.prog 23 #[vk, vw] w fun e w' => ∃ v ev r, e = .returned (.tuple #[v, ev, r]) ∧ Er r (Wd.wfault ks X) ∧ TrainSays ks X w w' v ev ∧ Below w.heap.size w w' := by
  have K : Hid (Kl w vk ks ∧ ∀ k ∈ ks, k.b.size ≤ 9223372036854775807) := ⟨hk, hb⟩
  have H : Hid (Wl w vw X) := hw
  have SD : Hid (Sd w) := hs
  clear hs
  obtain ⟨p1, q1, p2, q2, p3, q3, p4, q4, p5, q5, rfl⟩ := wl_shape9 hw
  obtain ⟨pk, qk, rfl, ck1, ck2, kc⟩ := hk
  clear hb hw kc
  go_enter Tryz.func23, Tryz.ntmps23
  go_upto_region 1 with fail
  have B0 : Hid (Below w.heap.size w ((w.alloc (Obj.cells #[.int .i64 X.turn, .int .i64 X.next, .int .i64 X.wide, .int .i64 X.high, .slice p1 X.gs.length q1, .slice p2 X.os.length q2, .slice p3 X.gold.length q3, .slice p4 X.us.length q4, .slice p5 X.qs.length q5] 29)).alloc (Obj.cells #[.int .i64 0, .int .i64 0, .int .i64 0, .int .i64 0, .slice none 0 0, .slice none 0 0, .slice none 0 0, .slice none 0 0, .slice none 0 0] 29))) := ((Below.refl _ _).alloc (Nat.le_refl _) _).alloc (by simp) _
  have X0 : Hid (Wx ((w.alloc (Obj.cells #[.int .i64 X.turn, .int .i64 X.next, .int .i64 X.wide, .int .i64 X.high, .slice p1 X.gs.length q1, .slice p2 X.os.length q2, .slice p3 X.gold.length q3, .slice p4 X.us.length q4, .slice p5 X.qs.length q5] 29)).alloc (Obj.cells #[.int .i64 0, .int .i64 0, .int .i64 0, .int .i64 0, .slice none 0 0, .slice none 0 0, .slice none 0 0, .slice none 0 0, .slice none 0 0] 29)) (w.heap.size) (.int .i64 X.turn) (.int .i64 X.next) (.int .i64 X.wide) (.int .i64 X.high) (.slice p1 X.gs.length q1) (.slice p2 X.os.length q2) (.slice p3 X.gold.length q3) (.slice p4 X.us.length q4) (.slice p5 X.qs.length q5)) := (Wx.new (.int .i64 X.turn) (.int .i64 X.next) (.int .i64 X.wide) (.int .i64 X.high) (.slice p1 X.gs.length q1) (.slice p2 X.os.length q2) (.slice p3 X.gold.length q3) (.slice p4 X.us.length q4) (.slice p5 X.qs.length q5) rfl).below ((Below.refl _ _).alloc (Nat.le_refl _) _) (by simp)
  have Z0 : Hid (Wx ((w.alloc (Obj.cells #[.int .i64 X.turn, .int .i64 X.next, .int .i64 X.wide, .int .i64 X.high, .slice p1 X.gs.length q1, .slice p2 X.os.length q2, .slice p3 X.gold.length q3, .slice p4 X.us.length q4, .slice p5 X.qs.length q5] 29)).alloc (Obj.cells #[.int .i64 0, .int .i64 0, .int .i64 0, .int .i64 0, .slice none 0 0, .slice none 0 0, .slice none 0 0, .slice none 0 0, .slice none 0 0] 29)) (w.heap.size + 1) (.int .i64 0) (.int .i64 0) (.int .i64 0) (.int .i64 0) (.slice none 0 0) (.slice none 0 0) (.slice none 0 0) (.slice none 0 0) (.slice none 0 0)) := Wx.new (.int .i64 0) (.int .i64 0) (.int .i64 0) (.int .i64 0) (.slice none 0 0) (.slice none 0 0) (.slice none 0 0) (.slice none 0 0) (.slice none 0 0) (by simp)
  generalize ((w.alloc (Obj.cells #[.int .i64 X.turn, .int .i64 X.next, .int .i64 X.wide, .int .i64 X.high, .slice p1 X.gs.length q1, .slice p2 X.os.length q2, .slice p3 X.gold.length q3, .slice p4 X.us.length q4, .slice p5 X.qs.length q5] 29)).alloc (Obj.cells #[.int .i64 0, .int .i64 0, .int .i64 0, .int .i64 0, .slice none 0 0, .slice none 0 0, .slice none 0 0, .slice none 0 0, .slice none 0 0] 29)) = w0 at *
  obtain ⟨x0, x1, x2, x3, x4, x5, x6, x7, x8⟩ := X0.out.cells
  go_wp2_with fail
  refine (wcheck_any _ _ ks X w0 (K.out.1.below B0.out) K.out.2 (H.out.below B0.out)).mono ?_
  rintro e w1 ⟨r, rfl, hr, hb⟩
  obtain ⟨fw, hfw⟩ : ∃ f, Wd.wfault ks X = f := ⟨_, rfl⟩
  have FW : Hid (Wd.wfault ks X = fw) := hfw
  rw [hfw] at hr
  have B1 : Hid (Below w.heap.size w w1) := B0.out.trans (hb.mono B0.out.size)
  have X1 : Hid (Wx w1 (w.heap.size) (.int .i64 X.turn) (.int .i64 X.next) (.int .i64 X.wide) (.int .i64 X.high) (.slice p1 X.gs.length q1) (.slice p2 X.os.length q2) (.slice p3 X.gold.length q3) (.slice p4 X.us.length q4) (.slice p5 X.qs.length q5)) := X0.out.below hb X0.out.lt
  have Z1 : Hid (Wx w1 (w.heap.size + 1) (.int .i64 0) (.int .i64 0) (.int .i64 0) (.int .i64 0) (.slice none 0 0) (.slice none 0 0) (.slice none 0 0) (.slice none 0 0) (.slice none 0 0)) := Z0.out.below hb Z0.out.lt
  clear hb hfw x0 x1 x2 x3 x4 x5 x6 x7 x8 X0 B0 Z0
  rcases hr with ⟨rfl, rfl⟩ | ⟨hf, rfl⟩
  case inr =>
    have HF : Hid (fw ≠ 0) := hf
    clear hf
    obtain ⟨z0, z1, z2, z3, z4, z5, z6, z7, z8⟩ := Z1.out.cells
    obtain ⟨t0, t1, t2, t3, t4, t5, t6, t7, t8⟩ := Z1.out.thaws
    have KZ : Hid (Kp (w.heap.size + 1) w1 (((((((((w1.setCell ⟨w.heap.size + 1, 0, none⟩ (.int .i64 0)).setCell ⟨w.heap.size + 1, 1, none⟩ (.int .i64 0)).setCell ⟨w.heap.size + 1, 2, none⟩ (.int .i64 0)).setCell ⟨w.heap.size + 1, 3, none⟩ (.int .i64 0)).setCell ⟨w.heap.size + 1, 4, none⟩ (.slice none 0 0)).setCell ⟨w.heap.size + 1, 5, none⟩ (.slice none 0 0)).setCell ⟨w.heap.size + 1, 6, none⟩ (.slice none 0 0)).setCell ⟨w.heap.size + 1, 7, none⟩ (.slice none 0 0)).setCell ⟨w.heap.size + 1, 8, none⟩ (.slice none 0 0))) := put_kp _ _ _ _ _ _ _ _ _ _ _
    obtain ⟨y0, y1, y2, y3, y4, y5, y6, y7, y8⟩ := (Z1.out.put (.int .i64 0) (.int .i64 0) (.int .i64 0) (.int .i64 0) (.slice none 0 0) (.slice none 0 0) (.slice none 0 0) (.slice none 0 0) (.slice none 0 0)).cells
    go_wp2
    clear z0 z1 z2 z3 z4 z5 z6 z7 z8 t0 t1 t2 t3 t4 t5 t6 t7 t8
    generalize (((((((((w1.setCell ⟨w.heap.size + 1, 0, none⟩ (.int .i64 0)).setCell ⟨w.heap.size + 1, 1, none⟩ (.int .i64 0)).setCell ⟨w.heap.size + 1, 2, none⟩ (.int .i64 0)).setCell ⟨w.heap.size + 1, 3, none⟩ (.int .i64 0)).setCell ⟨w.heap.size + 1, 4, none⟩ (.slice none 0 0)).setCell ⟨w.heap.size + 1, 5, none⟩ (.slice none 0 0)).setCell ⟨w.heap.size + 1, 6, none⟩ (.slice none 0 0)).setCell ⟨w.heap.size + 1, 7, none⟩ (.slice none 0 0)).setCell ⟨w.heap.size + 1, 8, none⟩ (.slice none 0 0)) = w9 at *
    refine bodyPost_ret (v := .tuple #[.agg #[.int .i64 0, .int .i64 0, .int .i64 0, .int .i64 0, .slice none 0 0, .slice none 0 0, .slice none 0 0, .slice none 0 0, .slice none 0 0], .slice none 0 0, .iface 99 (.int .i64 fw)]) (by simp [results, Tryz.results23, go_sem, y0, y1, y2, y3, y4, y5, y6, y7, y8]) rfl ⟨_, _, _, rfl, by rw [FW.out]; exact Er.no HF.out, .inl ⟨by rw [FW.out]; exact HF.out, rfl, rfl⟩, KZ.out.below B1.out B1.out.size (by omega)⟩
  have WR : Hid (WRight ks X) := wright_of FW.out
  obtain ⟨Wn, Hn, e1, e2, G⟩ := WR.out.good
  clear e1 e2 G
  obtain ⟨x0, x1, x2, x3, x4, x5, x6, x7, x8⟩ := X1.out.cells
  go_wp2_with fail
  refine (copy_any _ X w1 (H.out.below B1.out) WR.out.len).mono ?_
  rintro e w2 ⟨cu, rfl, ⟨k1, k2, k3, k4, k5, rfl, ⟨o1, o2, o3, o4, o5⟩, -⟩, hb⟩
  obtain ⟨a1, r1, rfl⟩ := o1.len
  obtain ⟨a2, r2, rfl⟩ := o2.len
  obtain ⟨a3, r3, rfl⟩ := o3.len
  obtain ⟨a4, r4, rfl⟩ := o4.len
  obtain ⟨a5, r5, rfl⟩ := o5.len
  obtain ⟨b1, hb1⟩ : ∃ z, w1.heap.size = z := ⟨_, rfl⟩
  rw [hb1] at o1 o2 o3 o4 o5
  have BS : Hid (w.heap.size + 1 < b1 ∧ b1 ≤ w2.heap.size) := ⟨by rw [← hb1]; exact Z1.out.lt, by rw [← hb1]; exact hb.size⟩
  have X2 : Hid (Wx w2 (w.heap.size) (.int .i64 X.turn) (.int .i64 X.next) (.int .i64 X.wide) (.int .i64 X.high) (.slice p1 X.gs.length q1) (.slice p2 X.os.length q2) (.slice p3 X.gold.length q3) (.slice p4 X.us.length q4) (.slice p5 X.qs.length q5)) := X1.out.below hb X1.out.lt
  have Z2 : Hid (Wx w2 (w.heap.size + 1) (.int .i64 0) (.int .i64 0) (.int .i64 0) (.int .i64 0) (.slice none 0 0) (.slice none 0 0) (.slice none 0 0) (.slice none 0 0) (.slice none 0 0)) := Z1.out.below hb Z1.out.lt
  have B2 : Hid (Below w.heap.size w w2) := B1.out.trans (hb.mono B1.out.size)
  have O2 : Hid (Ow w2 b1 (Value.slice a1 X.gs.length r1) X.gs ∧ Ow w2 b1 (Value.slice a2 X.os.length r2) X.os ∧ Ow w2 b1 (Value.slice a3 X.gold.length r3) X.gold ∧ Uno w2 b1 (Value.slice a4 X.us.length r4) X.us ∧ Jbo w2 b1 (Value.slice a5 X.qs.length r5) X.qs) := ⟨o1, o2, o3, o4, o5⟩
  skip
  clear hb hb1 x0 x1 x2 x3 x4 x5 x6 x7 x8 o1 o2 o3 o4 o5 X1 Z1 B1
  obtain ⟨z0, z1, z2, z3, z4, z5, z6, z7, z8⟩ := X2.out.cells
  obtain ⟨t0, t1, t2, t3, t4, t5, t6, t7, t8⟩ := X2.out.thaws
  have KZ : Hid (Kp (w.heap.size) w2 (((((((((w2.setCell ⟨w.heap.size, 0, none⟩ (.int .i64 X.turn)).setCell ⟨w.heap.size, 1, none⟩ (.int .i64 X.next)).setCell ⟨w.heap.size, 2, none⟩ (.int .i64 X.wide)).setCell ⟨w.heap.size, 3, none⟩ (.int .i64 X.high)).setCell ⟨w.heap.size, 4, none⟩ (Value.slice a1 X.gs.length r1)).setCell ⟨w.heap.size, 5, none⟩ (Value.slice a2 X.os.length r2)).setCell ⟨w.heap.size, 6, none⟩ (Value.slice a3 X.gold.length r3)).setCell ⟨w.heap.size, 7, none⟩ (Value.slice a4 X.us.length r4)).setCell ⟨w.heap.size, 8, none⟩ (Value.slice a5 X.qs.length r5))) := put_kp _ _ _ _ _ _ _ _ _ _ _
  have X3 : Hid (Wx (((((((((w2.setCell ⟨w.heap.size, 0, none⟩ (.int .i64 X.turn)).setCell ⟨w.heap.size, 1, none⟩ (.int .i64 X.next)).setCell ⟨w.heap.size, 2, none⟩ (.int .i64 X.wide)).setCell ⟨w.heap.size, 3, none⟩ (.int .i64 X.high)).setCell ⟨w.heap.size, 4, none⟩ (Value.slice a1 X.gs.length r1)).setCell ⟨w.heap.size, 5, none⟩ (Value.slice a2 X.os.length r2)).setCell ⟨w.heap.size, 6, none⟩ (Value.slice a3 X.gold.length r3)).setCell ⟨w.heap.size, 7, none⟩ (Value.slice a4 X.us.length r4)).setCell ⟨w.heap.size, 8, none⟩ (Value.slice a5 X.qs.length r5)) (w.heap.size) (.int .i64 X.turn) (.int .i64 X.next) (.int .i64 X.wide) (.int .i64 X.high) (Value.slice a1 X.gs.length r1) (Value.slice a2 X.os.length r2) (Value.slice a3 X.gold.length r3) (Value.slice a4 X.us.length r4) (Value.slice a5 X.qs.length r5)) := X2.out.put (.int .i64 X.turn) (.int .i64 X.next) (.int .i64 X.wide) (.int .i64 X.high) (Value.slice a1 X.gs.length r1) (Value.slice a2 X.os.length r2) (Value.slice a3 X.gold.length r3) (Value.slice a4 X.us.length r4) (Value.slice a5 X.qs.length r5)
  go_upto_region 5 with fail
  clear z0 z1 z2 z3 z4 z5 z6 z7 z8 t0 t1 t2 t3 t4 t5 t6 t7 t8
  generalize (((((((((w2.setCell ⟨w.heap.size, 0, none⟩ (.int .i64 X.turn)).setCell ⟨w.heap.size, 1, none⟩ (.int .i64 X.next)).setCell ⟨w.heap.size, 2, none⟩ (.int .i64 X.wide)).setCell ⟨w.heap.size, 3, none⟩ (.int .i64 X.high)).setCell ⟨w.heap.size, 4, none⟩ (Value.slice a1 X.gs.length r1)).setCell ⟨w.heap.size, 5, none⟩ (Value.slice a2 X.os.length r2)).setCell ⟨w.heap.size, 6, none⟩ (Value.slice a3 X.gold.length r3)).setCell ⟨w.heap.size, 7, none⟩ (Value.slice a4 X.us.length r4)).setCell ⟨w.heap.size, 8, none⟩ (Value.slice a5 X.qs.length r5)) = w3 at *
  have Z3 : Hid (Wx w3 (w.heap.size + 1) (.int .i64 0) (.int .i64 0) (.int .i64 0) (.int .i64 0) (.slice none 0 0) (.slice none 0 0) (.slice none 0 0) (.slice none 0 0) (.slice none 0 0)) := Z2.out.kp KZ.out (by omega)
  have B3 : Hid (Below w.heap.size w w3) := KZ.out.below B2.out B2.out.size (Nat.le_refl _)
  have O3 : Hid (Ow w3 b1 (Value.slice a1 X.gs.length r1) X.gs ∧ Ow w3 b1 (Value.slice a2 X.os.length r2) X.os ∧ Ow w3 b1 (Value.slice a3 X.gold.length r3) X.gold ∧ Uno w3 b1 (Value.slice a4 X.us.length r4) X.us ∧ Jbo w3 b1 (Value.slice a5 X.qs.length r5) X.qs) := by
    have h := BS.out.1
    exact ⟨O2.out.1.kp KZ.out (by omega), O2.out.2.1.kp KZ.out (by omega), O2.out.2.2.1.kp KZ.out (by omega), O2.out.2.2.2.1.kp KZ.out (by omega), O2.out.2.2.2.2.kp KZ.out (by omega)⟩
  obtain ⟨b3, hb3⟩ : ∃ z, w3.heap.size = z := ⟨_, rfl⟩
  have S3 : Hid (b1 ≤ b3 ∧ w3.heap.size = b3) := ⟨by rw [← hb3]; exact Nat.le_trans BS.out.2 KZ.out.size, hb3⟩
  have L3 : Hid (Wl w3 (.agg #[.int .i64 X.turn, .int .i64 X.next, .int .i64 X.wide, .int .i64 X.high, Value.slice a1 X.gs.length r1, Value.slice a2 X.os.length r2, Value.slice a3 X.gold.length r3, Value.slice a4 X.us.length r4, Value.slice a5 X.qs.length r5]) X) := ⟨(Value.slice a1 X.gs.length r1), (Value.slice a2 X.os.length r2), (Value.slice a3 X.gold.length r3), (Value.slice a4 X.us.length r4), (Value.slice a5 X.qs.length r5), rfl, O3.out.1.ro, O3.out.2.1.ro, O3.out.2.2.1.ro, O3.out.2.2.2.1.l, O3.out.2.2.2.2.l⟩
  clear hb3 KZ X2 Z2 B2 O2
  obtain ⟨x0, x1, x2, x3, x4, x5, x6, x7, x8⟩ := X3.out.cells
  clear x0 x1 x2 x3 x4 x5 x6 x7 x8
  have N3 : Hid (w.heap.size + 1 < b1 ∧ b1 ≤ b3 ∧ w3.heap.size = b3) := ⟨BS.out.1, S3.out.1, S3.out.2⟩
  have B4 : Hid (Below w3.heap.size w3 ((w3.alloc (Obj.map #[] 0)).alloc (Obj.cells #[.map (some b3)] 124))) := ((Below.refl _ _).alloc (Nat.le_refl _) _).alloc (by simp) _
  have M5 : Hid (Im ((w3.alloc (Obj.map #[] 0)).alloc (Obj.cells #[.map (some b3)] 124)) b3 0 (fun u => ((cntU (X.qs.take 0) u : Nat) : Int))) := by
    have h := im_made w3
    rw [N3.out.2.2] at h
    exact h.below ((Below.refl _ _).alloc (Nat.le_refl _) _)
  have C5 : Hid (((w3.alloc (Obj.map #[] 0)).alloc (Obj.cells #[.map (some b3)] 124)).cell? ⟨b3 + 1, 0, none⟩ = some (.map (some b3))) := by
    unfold Hid
    have := N3.out.2.2
    rw [← this]
    simp
  have S5 : Hid (((w3.alloc (Obj.map #[] 0)).alloc (Obj.cells #[.map (some b3)] 124)).heap.size = b3 + 2) := by have := N3.out.2.2; unfold Hid; rw [← this]; simp
  have hb3 : w3.heap.size = b3 := N3.out.2.2
  have hmm := @run_makeMap Tryz.prog
  have x8 := (X3.out.below B4.out X3.out.lt).cells.2.2.2.2.2.2.2.2
  go_wp2_with fail
  clear hb3 hmm x8
  have T5 : Hid (∀ w5, w5 = (w3.alloc (Obj.map #[] 0)).alloc (Obj.cells #[.map (some b3)] 124) → TrS X [] [] w.heap.size b1 b3 (b3 + 2) w5 (Value.slice a1 X.gs.length r1) (Value.slice a2 X.os.length r2) (Value.slice a3 X.gold.length r3) (Value.slice a4 X.us.length r4) (Value.slice a5 X.qs.length r5) (.slice none 0 0) (.slice none 0 0) w5) := fun w5 e => by
    subst e
    have h1 := N3.out
    refine ⟨X3.out.below B4.out X3.out.lt, O3.out.1.below B4.out, O3.out.2.1.below B4.out, O3.out.2.2.1.below B4.out, O3.out.2.2.2.1.below B4.out, O3.out.2.2.2.2.below B4.out, (fun k _ h => by cases h), (fun x hx k hk => .inl ?_), Evo.nil _ _, Jbo.nil _ _, Fr.below (Below.refl _ _), ⟨by omega, h1.2.1, by omega, S5.out⟩⟩
    simp only [List.mem_cons, List.not_mem_nil, or_false] at hx
    rcases hx with rfl | rfl | rfl | rfl | rfl
    · have := (O3.out.1.block k hk).2; omega
    · have := (O3.out.2.1.block k hk).2; omega
    · have := (O3.out.2.2.1.block k hk).2; omega
    · have := (O3.out.2.2.2.1.block k hk).2; omega
    · have := (O3.out.2.2.2.2.block k hk).2; omega
  have Z5 : Hid (Wx ((w3.alloc (Obj.map #[] 0)).alloc (Obj.cells #[.map (some b3)] 124)) (w.heap.size + 1) (.int .i64 0) (.int .i64 0) (.int .i64 0) (.int .i64 0) (.slice none 0 0) (.slice none 0 0) (.slice none 0 0) (.slice none 0 0) (.slice none 0 0)) := Z3.out.below B4.out Z3.out.lt
  have B5 : Hid (Below w.heap.size w ((w3.alloc (Obj.map #[] 0)).alloc (Obj.cells #[.map (some b3)] 124))) := B3.out.trans (B4.out.mono B3.out.size)
  have J5 : Hid (Jbo ((w3.alloc (Obj.map #[] 0)).alloc (Obj.cells #[.map (some b3)] 124)) b1 (Value.slice a5 X.qs.length r5) X.qs ∧ ∀ k, (Value.slice a5 X.qs.length r5).ownBlock = some k → b1 ≤ k ∧ k < b3) := ⟨O3.out.2.2.2.2.below B4.out, fun k hk => by have := O3.out.2.2.2.2.block k hk; have := N3.out; omega⟩
  obtain ⟨w5, hw5⟩ : ∃ w5, ((w3.alloc (Obj.map #[] 0)).alloc (Obj.cells #[.map (some b3)] 124)) = w5 := ⟨_, rfl⟩
  have T6 : Hid (TrS X [] [] w.heap.size b1 b3 (b3 + 2) w5 (Value.slice a1 X.gs.length r1) (Value.slice a2 X.os.length r2) (Value.slice a3 X.gold.length r3) (Value.slice a4 X.us.length r4) (Value.slice a5 X.qs.length r5) (.slice none 0 0) (.slice none 0 0) w5) := T5.out w5 hw5.symm
  rw [hw5] at M5 C5 S5 Z5 B5 J5 ⊢
  clear hw5 T5 B4 X3 Z3 B3 O3 L3
  have QN : Hid (X.qs.length ≤ 12) := WR.out.ql
  go_loopw [10, 11, 31] (fun v10 v11 j V => ∃ q : Nat, q ≤ X.qs.length ∧ j = .int .i64 (q : Nat) ∧ ∃ Y es qs, Tr ks X q Y es qs ∧ ∃ u1 u2 u3 u4 u5 ev qv, ev = v10 ∧ qv = v11 ∧ TrS Y es qs w.heap.size b1 b3 (b3 + 2) w5 u1 u2 u3 u4 u5 ev qv V ∧ Im V b3 q (fun u => ((cntU (X.qs.take q) u : Nat) : Int))) (fun _ _ j _ => X.qs.length - (intOf j).toNat)
  case atStart => exact ⟨0, Nat.zero_le _, rfl, X, [], [], .zero, _, _, _, _, _, _, _, rfl, rfl, T6.out, M5.out⟩
  case round =>
    obtain ⟨q, hq, rfl, Y, es, qs, htr, u1, u2, u3, u4, u5, ev, qv, rfl, rfl, hT, hM⟩ := hrel
    have TR : Hid (Tr ks X q Y es qs) := htr
    have KP : Hid (WRight ks Y ∧ Y.qs = X.qs ∧ es.length ≤ q ∧ qs.length ≤ q ∧ Y.turn = X.turn ∧ Y.wide = X.wide ∧ Y.high = X.high ∧ Y.gs = X.gs ∧ Y.os = X.os ∧ Y.gold = X.gold) := htr.keep WR.out
    have QL : Hid (qs.length ≤ 12 ∧ es.length ≤ 12) := by have := KP.out; have := QN.out; unfold Hid; omega
    have TQ : Hid (TrS Y es qs w.heap.size b1 b3 (b3 + 2) w5 u1 u2 u3 u4 u5 ev qv wr) := hT
    have MQ : Hid (Im wr b3 q (fun u => ((cntU (X.qs.take q) u : Nat) : Int))) := hM
    clear htr hT hM
    have CW : Hid (wr.cell? ⟨b3 + 1, 0, none⟩ = some (.map (some b3))) := TQ.out.f.cell C5.out (fun h => by have := N3.out; simp only at h; omega)
    have SW : Hid (b3 + 2 ≤ wr.heap.size) := by have := TQ.out.f.size; have := S5.out; unfold Hid; omega
    have ZW : Hid (Wx wr (w.heap.size + 1) (.int .i64 0) (.int .i64 0) (.int .i64 0) (.int .i64 0) (.slice none 0 0) (.slice none 0 0) (.slice none 0 0) (.slice none 0 0) (.slice none 0 0)) := TQ.out.f.wx Z5.out (fun h => by have := N3.out; omega)
    have BW : Hid (Below w.heap.size w wr) := B5.out.trans (TQ.out.f.low (by have := B5.out.size; exact this) (fun k hk => by have := N3.out; rcases hk with h | h <;> omega))
    have JW : Hid (Jbl wr (Value.slice a5 X.qs.length r5) X.qs) := Jbo.l (TQ.out.f.own J5.out.1 (fun k hk h => by have h1 := J5.out.2 k hk; have h2 := N3.out; rcases h with h | h <;> omega) : Jbo wr b1 (Value.slice a5 X.qs.length r5) X.qs)
    by_cases hne : q = X.qs.length
    case pos =>
      have TE : Hid (Tr ks X X.qs.length Y es qs) := by rw [← hne]; exact TR.out
      subst hne
      obtain ⟨g1, c1, rfl⟩ := TQ.out.o1.len
      obtain ⟨g2, c2, rfl⟩ := TQ.out.o2.len
      obtain ⟨g3, c3, rfl⟩ := TQ.out.o3.len
      obtain ⟨g4, c4, rfl⟩ := TQ.out.o4.len
      obtain ⟨g6, c6, rfl⟩ := TQ.out.o.len
      have XS := TQ.out.x.set8 (.slice g6 qs.length c6)
      have t8 := TQ.out.x.thaw 8
      obtain ⟨x0, x1, x2, x3, x4, x5, x6, x7, x8⟩ := TQ.out.x.cells
      have KS : Hid (Kp w.heap.size wr (wr.setCell ⟨w.heap.size, 8, none⟩ (.slice g6 qs.length c6))) := Kp.set _ _ _
      go_upto_region 24 with fail
      clear x0 x1 x2 x3 x4 x5 x6 x7 x8 t8
      generalize wr.setCell ⟨w.heap.size, 8, none⟩ (.slice g6 qs.length c6) = ws at *
      obtain ⟨x0, x1, x2, x3, x4, x5, x6, x7, x8⟩ := XS.cells
      have ZS : Hid (Wx ws (w.heap.size + 1) (.int .i64 0) (.int .i64 0) (.int .i64 0) (.int .i64 0) (.slice none 0 0) (.slice none 0 0) (.slice none 0 0) (.slice none 0 0) (.slice none 0 0)) := ZW.out.kp KS.out (by omega)
      have BS2 : Hid (Below w.heap.size w ws) := KS.out.below BW.out BW.out.size (Nat.le_refl _)
      obtain ⟨z0, z1, z2, z3, z4, z5, z6, z7, z8⟩ := ZS.out.cells
      obtain ⟨t0, t1, t2, t3, t4, t5, t6, t7, t8⟩ := ZS.out.thaws
      have KZ : Hid (Kp (w.heap.size + 1) ws (((((((((ws.setCell ⟨w.heap.size + 1, 0, none⟩ (.int .i64 Y.turn)).setCell ⟨w.heap.size + 1, 1, none⟩ (.int .i64 Y.next)).setCell ⟨w.heap.size + 1, 2, none⟩ (.int .i64 Y.wide)).setCell ⟨w.heap.size + 1, 3, none⟩ (.int .i64 Y.high)).setCell ⟨w.heap.size + 1, 4, none⟩ (Value.slice g1 Y.gs.length c1)).setCell ⟨w.heap.size + 1, 5, none⟩ (Value.slice g2 Y.os.length c2)).setCell ⟨w.heap.size + 1, 6, none⟩ (Value.slice g3 Y.gold.length c3)).setCell ⟨w.heap.size + 1, 7, none⟩ (Value.slice g4 Y.us.length c4)).setCell ⟨w.heap.size + 1, 8, none⟩ (Value.slice g6 qs.length c6))) := put_kp _ _ _ _ _ _ _ _ _ _ _
      obtain ⟨y0, y1, y2, y3, y4, y5, y6, y7, y8⟩ := (ZS.out.put (.int .i64 Y.turn) (.int .i64 Y.next) (.int .i64 Y.wide) (.int .i64 Y.high) (Value.slice g1 Y.gs.length c1) (Value.slice g2 Y.os.length c2) (Value.slice g3 Y.gold.length c3) (Value.slice g4 Y.us.length c4) (Value.slice g6 qs.length c6)).cells
      go_wp2
      clear x0 x1 x2 x3 x4 x5 x6 x7 x8 z0 z1 z2 z3 z4 z5 z6 z7 z8 t0 t1 t2 t3 t4 t5 t6 t7 t8
      generalize (((((((((ws.setCell ⟨w.heap.size + 1, 0, none⟩ (.int .i64 Y.turn)).setCell ⟨w.heap.size + 1, 1, none⟩ (.int .i64 Y.next)).setCell ⟨w.heap.size + 1, 2, none⟩ (.int .i64 Y.wide)).setCell ⟨w.heap.size + 1, 3, none⟩ (.int .i64 Y.high)).setCell ⟨w.heap.size + 1, 4, none⟩ (Value.slice g1 Y.gs.length c1)).setCell ⟨w.heap.size + 1, 5, none⟩ (Value.slice g2 Y.os.length c2)).setCell ⟨w.heap.size + 1, 6, none⟩ (Value.slice g3 Y.gold.length c3)).setCell ⟨w.heap.size + 1, 7, none⟩ (Value.slice g4 Y.us.length c4)).setCell ⟨w.heap.size + 1, 8, none⟩ (Value.slice g6 qs.length c6)) = wt at *
      have hn := N3.out
      have kp2 : ∀ {T : TypeId} {size : Nat} {u : Value} {n : Nat} {cs : List Value} {base : Nat}, b1 ≤ base → wr.ownsRow base T size u n cs → wt.ownsRow base T size u n cs := fun hb h => (Fr.kp (S := fun k => k = w.heap.size + 1) KZ.out rfl).own ((Fr.kp (S := fun k => k = w.heap.size) KS.out rfl).own h (fun k hk => by have := (World.ownsRow.lt h k hk).1; omega)) (fun k hk => by have := (World.ownsRow.lt h k hk).1; omega)
      refine bodyPost_ret (v := .tuple #[.agg #[.int .i64 Y.turn, .int .i64 Y.next, .int .i64 Y.wide, .int .i64 Y.high, Value.slice g1 Y.gs.length c1, Value.slice g2 Y.os.length c2, Value.slice g3 Y.gold.length c3, Value.slice g4 Y.us.length c4, Value.slice g6 qs.length c6], ev, .nilIface]) (by simp [results, Tryz.results23, go_sem, y0, y1, y2, y3, y4, y5, y6, y7, y8]) rfl ⟨_, _, _, rfl, by rw [FW.out]; exact Er.nil, .inr ⟨FW.out, Y, es, qs, TE.out, ?_, ?_⟩, KZ.out.below BS2.out BS2.out.size (by omega)⟩
      · exact ⟨_, _, _, _, _, rfl, Ow.mono (kp2 (Nat.le_refl _) TQ.out.o1) (by omega), Ow.mono (kp2 (Nat.le_refl _) TQ.out.o2) (by omega), Ow.mono (kp2 (Nat.le_refl _) TQ.out.o3) (by omega), Uno.mono (kp2 (Nat.le_refl _) TQ.out.o4) (by omega), Jbo.mono (kp2 (by omega) TQ.out.o) (by omega)⟩
      · exact Evo.mono (kp2 (by omega) TQ.out.e) (by omega)
    case neg =>
    have hql : q < X.qs.length := by omega
    have hqi : ((q : Nat) : Int) < (X.qs.length : Nat) := by omega
    obtain ⟨o, ho⟩ : ∃ o, X.qs[q]? = some o := ⟨_, List.getElem?_eq_getElem hql⟩
    have HO : Hid (X.qs[q]? = some o) := ho
    have JI : Hid ((1 ≤ o.left ∧ o.left ≤ 1000) ∧ 1 ≤ o.unit ∧ o.unit ≤ 1000000) := job_in WR.out (List.mem_of_getElem? ho)
    obtain ⟨a', c', e', -, -, hy⟩ := JW.out
    injection e' with e1 e2 e3
    subst e1 e3
    obtain ⟨xj, rfl, hxl, hy⟩ := hy (by rintro hn; rw [hn] at hql; simp at hql)
    obtain ⟨j0, j1, j2, j3⟩ := hy q o ho
    clear hy hxl ho e2
    go_upto_region 12 with fail
    clear j0 j1 j2 j3
    have BJ : Hid (Below wr.heap.size wr (wr.alloc (Obj.cells #[.int .i64 o.player, .int .i64 o.unit, .int .i64 o.kind, .int .i64 o.left] 94))) := (Below.refl _ _).alloc (Nat.le_refl _) _
    obtain ⟨bj, hbj⟩ : ∃ b, wr.heap.size = b := ⟨_, rfl⟩
    have JB6 : Hid (Jbc (wr.alloc (Obj.cells #[.int .i64 o.player, .int .i64 o.unit, .int .i64 o.kind, .int .i64 o.left] 94)) ⟨bj, 0, none⟩ o) := Jbc.mk' (w := wr) o hbj
    have TH6 : Hid (Jk (wr.alloc (Obj.cells #[.int .i64 o.player, .int .i64 o.unit, .int .i64 o.kind, .int .i64 o.left] 94)) bj [o] []) := by
      unfold Hid Jk
      rw [← hbj]
      exact heap_alloc_new _ _
    have SJ : Hid (b3 + 2 ≤ bj) := by rw [← hbj]; exact SW.out
    rw [hbj]
    have HBJ : Hid (wr.heap.size = bj) := hbj
    have UN : Hid (∀ x ∈ [u1, u2, u3, u4, u5, ev, qv], ∀ k, x.ownBlock = some k → k < bj) := by rw [← hbj]; exact TQ.out.under
    clear hbj
    generalize wr.alloc (Obj.cells #[.int .i64 o.player, .int .i64 o.unit, .int .i64 o.kind, .int .i64 o.left] 94) = w6 at *
    have T7 : Hid (TrS Y es qs w.heap.size b1 b3 (b3 + 2) w5 u1 u2 u3 u4 u5 ev qv w6) := TQ.out.below BJ.out
    have M7 : Hid (Im w6 b3 q (fun u => ((cntU (X.qs.take q) u : Nat) : Int))) := MQ.out.below BJ.out
    have C7 : Hid (w6.cell? ⟨b3 + 1, 0, none⟩ = some (.map (some b3))) := by unfold Hid; rw [BJ.out.cell (p := ⟨b3 + 1, 0, none⟩) (cell_lt CW.out)]; exact CW.out
    have CN : Hid (cntU (X.qs.take q) o.unit ≤ q) := by
      unfold Hid cntU
      exact Nat.le_trans List.countP_le_length (by rw [List.length_take]; omega)
    obtain ⟨j0, j1, j2, j3⟩ := JB6.out
    go_wp2_with fail
    refine (isfirst_any o (b3 + 1) b3 q (fun u => ((cntU (X.qs.take q) u : Nat) : Int)) w6 C7.out M7.out (by omega) (by have := QN.out; omega) (by have := CN.out; have := QN.out; omega) (wfi64 (by have := JI.out; omega) (by have := JI.out; omega))).mono ?_
    rintro e w7 ⟨fb, hfb, rfl, hm, hf⟩
    have FB : Hid (fb = (((cntU (X.qs.take q) o.unit : Nat) : Int) == 0)) := hfb
    have F7 : Hid (Fr (fun k => k = b3) w6 w7) := hf
    have T8 : Hid (TrS Y es qs w.heap.size b1 b3 (b3 + 2) w5 u1 u2 u3 u4 u5 ev qv w7) := T7.out.map hf
    have M8 : Hid (Im w7 b3 (q + 1) (fun u => ((cntU (X.qs.take (q + 1)) u : Nat) : Int))) := by
      have e9 : updI (fun u => ((cntU (X.qs.take q) u : Nat) : Int)) o.unit (((cntU (X.qs.take q) o.unit : Nat) : Int) + 1) = (fun u => ((cntU (X.qs.take (q + 1)) u : Nat) : Int)) := by
        funext u
        unfold updI
        rw [cntU_next HO.out u]
        by_cases h : u = o.unit
        · rw [if_pos h, h, if_pos rfl]; rfl
        · rw [if_neg h, if_neg (fun e => h e.symm)]; rfl
      rw [e9] at hm
      exact hm
    have K8 : Hid (Jk w7 bj [o] []) := (F7.out.block bj TH6.out.lt (by have := SJ.out; omega)).trans TH6.out
    clear hfb hm hf j0 j1 j2 j3 T7 M7 C7 JB6
    obtain ⟨d, hd⟩ : ∃ d, dec1 (X.qs.take q) o = d := ⟨_, rfl⟩
    have HD : Hid (dec1 (X.qs.take q) o = d) := hd
    clear hd
    go_upto_if 37 with fail
    go_cut [37] (fun v37 V => v37 = .bool fb ∧ Jk V bj [d] [] ∧ TrS Y es qs w.heap.size b1 b3 (b3 + 2) w5 u1 u2 u3 u4 u5 ev qv V ∧ Im V b3 (q + 1) (fun u => ((cntU (X.qs.take (q + 1)) u : Nat) : Int)))
    case first =>
      cases fb with
      | false =>
        have ED : Hid (o = d) := by
          unfold Hid
          rw [← HD.out]
          unfold dec1
          rw [if_neg]
          intro h
          have := FB.out
          rw [h] at this
          simp at this
        go_wp2_with fail
        go_meet
        case rel => exact ⟨rfl, by rw [← ED.out]; exact K8.out, T8.out, M8.out⟩
      | true =>
        have ED : Hid ({ o with left := o.left - 1 } = d) := by
          unfold Hid
          rw [← HD.out]
          unfold dec1
          rw [if_pos]
          have := FB.out
          have h2 := eq_of_beq this.symm
          omega
        obtain ⟨j0, j1, j2, j3⟩ := K8.out.jbc (i := 0) (o := o) rfl
        simp only [Nat.zero_mul, Nat.zero_add] at j0 j1 j2 j3
        have t3 := K8.out.thaw 3
        have wl : IntKind.i64.wrap (o.left - 1) = o.left - 1 := by have := JI.out; rw [IntKind.wrap_i64]; omega
        have K9 : Hid (Jk (w7.setCell ⟨bj, 3, none⟩ (.int .i64 (o.left - 1))) bj [d] []) := by
          have h := K8.out.set3 (i := 0) (o := o) rfl (o.left - 1)
          simp only [Nat.zero_mul, Nat.zero_add, List.set_cons_zero] at h
          rw [ED.out] at h
          exact h
        have B9 : Hid (Kp bj w7 (w7.setCell ⟨bj, 3, none⟩ (.int .i64 (o.left - 1)))) := Kp.set _ _ _
        go_wp2_with fail
        go_meet
        case rel => exact ⟨rfl, K9.out, T8.out.box B9.out SJ.out UN.out, M8.out.gb (gb_kp B9.out) (by have := SJ.out; simp; omega)⟩
    case rest =>
      obtain ⟨rfl, hK, hT, hM⟩ := hcut
      have K9 : Hid (Jk wc bj [d] []) := hK
      have T9 : Hid (TrS Y es qs w.heap.size b1 b3 (b3 + 2) w5 u1 u2 u3 u4 u5 ev qv wc) := hT
      have M9 : Hid (Im wc b3 (q + 1) (fun u => ((cntU (X.qs.take (q + 1)) u : Nat) : Int))) := hM
      clear hK hT hM K8 T8 M8 F7 TH6
      generalize wc = w8 at *
      have J9 : Hid (Jbc w8 ⟨bj, 0, none⟩ d) := by have h := K9.out.jbc (i := 0) (o := d) rfl; simp only [Nat.zero_mul] at h; exact h
      have B9 : Hid (Below w.heap.size w w8) := B5.out.trans (T9.out.f.low (by have := B5.out.size; exact this) (fun k hk => by have := N3.out; rcases hk with h | h <;> omega))
      have S9 : Hid (b3 + 2 ≤ w8.heap.size) := by have := T9.out.f.size; have := S5.out; unfold Hid; omega
      by_cases hl0 : d.left = 0
      case neg =>
        have hlb : (d.left == 0) = false := by rw [beq_eq_false_iff_ne]; exact hl0
        have HN : Hid (Tr ks X (q + 1) Y es (qs ++ [d])) := by
          have h := Tr.wait TR.out HO.out (by rw [HD.out]; exact hl0)
          rw [HD.out] at h
          exact h
        obtain ⟨j0, j1, j2, j3⟩ := J9.out
        have BA : Hid (Below w8.heap.size w8 (w8.alloc (Obj.cells #[.int .i64 d.player, .int .i64 d.unit, .int .i64 d.kind, .int .i64 d.left] 94))) := (Below.refl _ _).alloc (Nat.le_refl _) _
        have TA : Hid (TrS Y es qs w.heap.size b1 b3 (b3 + 2) w5 u1 u2 u3 u4 u5 ev qv (w8.alloc (Obj.cells #[.int .i64 d.player, .int .i64 d.unit, .int .i64 d.kind, .int .i64 d.left] 94))) := T9.out.below BA.out
        have JA : Hid (Jbc (w8.alloc (Obj.cells #[.int .i64 d.player, .int .i64 d.unit, .int .i64 d.kind, .int .i64 d.left] 94)) ⟨w8.heap.size, 0, none⟩ d) := Jbc.mk' (w := w8) d rfl
        have MA : Hid (Im (w8.alloc (Obj.cells #[.int .i64 d.player, .int .i64 d.unit, .int .i64 d.kind, .int .i64 d.left] 94)) b3 (q + 1) (fun u => ((cntU (X.qs.take (q + 1)) u : Nat) : Int))) := M9.out.below BA.out
        have SA : Hid (b3 + 2 ≤ (w8.alloc (Obj.cells #[.int .i64 d.player, .int .i64 d.unit, .int .i64 d.kind, .int .i64 d.left] 94)).heap.size) := by have h1 := TA.out.f.size; have h2 := TA.out.n; unfold Hid; omega
        go_wp2_with (at_builtin; refine app_jb _ rfl _ _ rfl (b3 + 2) _ qs rfl TA.out.o w8.heap.size d rfl JA.out (by have := QL.out; omega) SA.out ?_)
        intro g cap wE o8 g8 a8 l8
        have TE : Hid (TrS Y es (qs ++ [d]) w.heap.size b1 b3 (b3 + 2) w5 u1 u2 u3 u4 u5 ev (.slice (some ⟨g, 0, none⟩) (qs.length + 1) cap) wE) := TA.out.left g8 o8 rfl (by simpa using a8)
        have ME : Hid (Im wE b3 (q + 1) (fun u => ((cntU (X.qs.take (q + 1)) u : Nat) : Int))) := MA.out.gb g8 (fun h => by have := (TA.out.o.block b3 h.symm).1; omega)
        clear o8 g8 a8 l8 j0 j1 j2 j3
        have hq12 : X.qs.length ≤ 12 := QN.out
        go_wp2
        go_round
        case rel => exact ⟨q + 1, by omega, by go_num, Y, es, _, HN.out, u1, u2, u3, u4, u5, _, _, rfl, rfl, TE.out, ME.out⟩
        case measure => simp [intOf]; omega
      case pos =>
        have DL : Hid (d.left = 0) := hl0
        obtain ⟨j0, j1, j2, j3⟩ := J9.out
        rw [hl0] at j3
        obtain ⟨x0, x1, x2, x3, x4, x5, x6, x7, x8⟩ := T9.out.x.cells
        clear hl0
        go_wp2_with fail
        have CA := come_any (.slice pk ks.length qk) _ ks Y d w8 (K.out.1.below B9.out) K.out.2 T9.out.wl KP.out.1.zero (SD.out.below B9.out)
        unfold JbV.val at CA
        rw [DL.out] at CA
        refine Calls.mono CA ?_
        clear CA
        rintro e w9 ⟨u, r, Z, rfl, hu, hb, hc⟩
        have T10 : Hid (TrS Y es qs w.heap.size b1 b3 (b3 + 2) w5 u1 u2 u3 u4 u5 ev qv w9) := T9.out.below hb
        have M10 : Hid (Im w9 b3 (q + 1) (fun u => ((cntU (X.qs.take (q + 1)) u : Nat) : Int))) := M9.out.below hb
        have K10 : Hid (Jk w9 bj [d] []) := K9.out.below hb K9.out.lt
        have UQ : Hid (∀ x ∈ [u1, u2, u3, u4, u5, ev, qv], ∀ k, x.ownBlock = some k → k < w8.heap.size) := T9.out.under
        have S10 : Hid (w8.heap.size ≤ w9.heap.size) := hb.size
        obtain ⟨B, hB⟩ : ∃ B, w8.heap.size = B := ⟨_, rfl⟩
        rw [hB] at hu UQ S9 S10
        clear hB
        obtain ⟨k1, k2, k3, k4, k5, rfl, o1, o2, o3, o4, o5⟩ := hu
        obtain ⟨n1, m1, rfl⟩ := o1.len
        obtain ⟨n2, m2, rfl⟩ := o2.len
        obtain ⟨n3, m3, rfl⟩ := o3.len
        obtain ⟨n4, m4, rfl⟩ := o4.len
        obtain ⟨n5, m5, rfl⟩ := o5.len
        have OZ : Hid (Ow w9 B (Value.slice n1 Z.gs.length m1) Z.gs ∧ Ow w9 B (Value.slice n2 Z.os.length m2) Z.os ∧ Ow w9 B (Value.slice n3 Z.gold.length m3) Z.gold ∧ Uno w9 B (Value.slice n4 Z.us.length m4) Z.us ∧ Jbo w9 B (Value.slice n5 Z.qs.length m5) Z.qs) := ⟨o1, o2, o3, o4, o5⟩
        clear hb o1 o2 o3 o4 o5 j0 j1 j2 j3 x0 x1 x2 x3 x4 x5 x6 x7 x8 K9 T9 M9 J9
        obtain ⟨bn, hbn⟩ : ∃ b, w9.heap.size = b := ⟨_, rfl⟩
        have BN : Hid (Below w9.heap.size w9 (w9.alloc (Obj.cells #[.int .i64 Z.turn, .int .i64 Z.next, .int .i64 Z.wide, .int .i64 Z.high, Value.slice n1 Z.gs.length m1, Value.slice n2 Z.os.length m2, Value.slice n3 Z.gold.length m3, Value.slice n4 Z.us.length m4, Value.slice n5 Z.qs.length m5] 29))) := (Below.refl _ _).alloc (Nat.le_refl _) _
        have XN : Hid (Wx (w9.alloc (Obj.cells #[.int .i64 Z.turn, .int .i64 Z.next, .int .i64 Z.wide, .int .i64 Z.high, Value.slice n1 Z.gs.length m1, Value.slice n2 Z.os.length m2, Value.slice n3 Z.gold.length m3, Value.slice n4 Z.us.length m4, Value.slice n5 Z.qs.length m5] 29)) bn (.int .i64 Z.turn) (.int .i64 Z.next) (.int .i64 Z.wide) (.int .i64 Z.high) (Value.slice n1 Z.gs.length m1) (Value.slice n2 Z.os.length m2) (Value.slice n3 Z.gold.length m3) (Value.slice n4 Z.us.length m4) (Value.slice n5 Z.qs.length m5)) := Wx.new (w := w9) (.int .i64 Z.turn) (.int .i64 Z.next) (.int .i64 Z.wide) (.int .i64 Z.high) (Value.slice n1 Z.gs.length m1) (Value.slice n2 Z.os.length m2) (Value.slice n3 Z.gold.length m3) (Value.slice n4 Z.us.length m4) (Value.slice n5 Z.qs.length m5) hbn
        have NB : Hid (B ≤ bn) := by rw [← hbn]; exact S10.out
        rcases hc with ⟨c, hc, rfl, hZ⟩ | ⟨hc, n, h0, rfl⟩
        case inr =>
          have NC : Hid (NoCome ks Y o) := nocome_dec (l := X.qs.take q) (by rw [HD.out]; exact hc)
          clear hc h0
          go_upto_region 20 with fail
          (try rw [hbn])
          clear hbn
          generalize w9.alloc (Obj.cells #[.int .i64 Z.turn, .int .i64 Z.next, .int .i64 Z.wide, .int .i64 Z.high, Value.slice n1 Z.gs.length m1, Value.slice n2 Z.os.length m2, Value.slice n3 Z.gold.length m3, Value.slice n4 Z.us.length m4, Value.slice n5 Z.qs.length m5] 29) = wa at *
          have T11 : Hid (TrS Y es qs w.heap.size b1 b3 (b3 + 2) w5 u1 u2 u3 u4 u5 ev qv wa) := T10.out.below BN.out
          have M11 : Hid (Im wa b3 (q + 1) (fun u => ((cntU (X.qs.take (q + 1)) u : Nat) : Int))) := M10.out.below BN.out
          have K11 : Hid (Jk wa bj [d] []) := K10.out.below BN.out K10.out.lt
          obtain ⟨f, hf⟩ : ∃ f, one1 o = f := ⟨_, rfl⟩
          have HF : Hid (one1 d = f) := by unfold Hid; rw [← hf, ← HD.out]; exact (dec1_same _ _).2.2.2
          have HS : Hid (Tr ks X (q + 1) Y es (qs ++ [f])) := by
            rw [← hf]
            exact .stay TR.out HO.out (by rw [HD.out]; exact DL.out) NC.out
          clear hf
          obtain ⟨j0, j1, j2, j3⟩ := K11.out.jbc (i := 0) (o := d) rfl
          simp only [Nat.zero_mul, Nat.zero_add] at j0 j1 j2 j3
          have t3 := K11.out.thaw 3
          have K12 : Hid (Jk (wa.setCell ⟨bj, 3, none⟩ (.int .i64 1)) bj [f] []) := by
            have h := K11.out.set3 (i := 0) (o := d) rfl 1
            simp only [Nat.zero_mul, Nat.zero_add, List.set_cons_zero] at h
            have e9 : ({ d with left := 1 } : JbV) = f := HF.out
            rw [e9] at h
            exact h
          have B12 : Hid (Kp bj wa (wa.setCell ⟨bj, 3, none⟩ (.int .i64 1))) := Kp.set _ _ _
          go_upto_region 21 with fail
          clear j0 j1 j2 j3 t3
          generalize wa.setCell ⟨bj, 3, none⟩ (.int .i64 1) = wb at *
          have T12 : Hid (TrS Y es qs w.heap.size b1 b3 (b3 + 2) w5 u1 u2 u3 u4 u5 ev qv wb) := T11.out.box B12.out SJ.out UN.out
          have M12 : Hid (Im wb b3 (q + 1) (fun u => ((cntU (X.qs.take (q + 1)) u : Nat) : Int))) := M11.out.gb (gb_kp B12.out) (by have := SJ.out; simp; omega)
          have J12 : Hid (Jbc wb ⟨bj, 0, none⟩ f) := by have h := K12.out.jbc (i := 0) (o := f) rfl; simp only [Nat.zero_mul] at h; exact h
          obtain ⟨j0, j1, j2, j3⟩ := J12.out
          have BA : Hid (Below wb.heap.size wb (wb.alloc (Obj.cells #[.int .i64 f.player, .int .i64 f.unit, .int .i64 f.kind, .int .i64 f.left] 94))) := (Below.refl _ _).alloc (Nat.le_refl _) _
          have TA : Hid (TrS Y es qs w.heap.size b1 b3 (b3 + 2) w5 u1 u2 u3 u4 u5 ev qv (wb.alloc (Obj.cells #[.int .i64 f.player, .int .i64 f.unit, .int .i64 f.kind, .int .i64 f.left] 94))) := T12.out.below BA.out
          have JA : Hid (Jbc (wb.alloc (Obj.cells #[.int .i64 f.player, .int .i64 f.unit, .int .i64 f.kind, .int .i64 f.left] 94)) ⟨wb.heap.size, 0, none⟩ f) := Jbc.mk' (w := wb) f rfl
          have MA : Hid (Im (wb.alloc (Obj.cells #[.int .i64 f.player, .int .i64 f.unit, .int .i64 f.kind, .int .i64 f.left] 94)) b3 (q + 1) (fun u => ((cntU (X.qs.take (q + 1)) u : Nat) : Int))) := M12.out.below BA.out
          have SA : Hid (b3 + 2 ≤ (wb.alloc (Obj.cells #[.int .i64 f.player, .int .i64 f.unit, .int .i64 f.kind, .int .i64 f.left] 94)).heap.size) := by have h1 := TA.out.f.size; have h2 := TA.out.n; unfold Hid; omega
          go_wp2_with (at_builtin; refine app_jb _ rfl _ _ rfl (b3 + 2) _ qs rfl TA.out.o wb.heap.size f rfl JA.out (by have := QL.out; omega) SA.out ?_)
          intro g cap wE o8 g8 a8 l8
          have TE : Hid (TrS Y es (qs ++ [f]) w.heap.size b1 b3 (b3 + 2) w5 u1 u2 u3 u4 u5 ev (.slice (some ⟨g, 0, none⟩) (qs.length + 1) cap) wE) := TA.out.left g8 o8 rfl (by simpa using a8)
          have ME : Hid (Im wE b3 (q + 1) (fun u => ((cntU (X.qs.take (q + 1)) u : Nat) : Int))) := MA.out.gb g8 (fun h => by have := (TA.out.o.block b3 h.symm).1; omega)
          clear o8 g8 a8 l8 j0 j1 j2 j3
          have hq12 : X.qs.length ≤ 12 := QN.out
          go_wp2
          go_round
          case rel => exact ⟨q + 1, by omega, by go_num, Y, es, _, HS.out, u1, u2, u3, u4, u5, _, _, rfl, rfl, TE.out, ME.out⟩
          case measure => simp [intOf]; omega
        case inl =>
          have ZE : Hid (Z = Wd.put ks Y o.player o.kind c) := by
            unfold Hid
            obtain ⟨e1, e2, e3, -⟩ := dec1_same (X.qs.take q) o
            rw [hZ, ← HD.out, e1, e3]
          have CM : Hid (Tr ks X (q + 1) Z (es ++ [⟨6, Y.next, c⟩]) qs) := by
            unfold Hid
            rw [ZE.out]
            exact .come TR.out HO.out (by rw [HD.out]; exact DL.out) (comes_dec (l := X.qs.take q) (by rw [HD.out]; exact hc))
          obtain ⟨nu, hnu⟩ : ∃ nu, Wd.newUnit ks Y o.player o.kind c = nu := ⟨_, rfl⟩
          have ZU : Hid (Z.us = Y.us ++ [nu] ∧ nu.id = Y.next ∧ nu.at_ = c) := by
            unfold Hid
            rw [ZE.out, ← hnu]
            exact ⟨rfl, rfl, rfl⟩
          obtain ⟨m, hm⟩ : ∃ m, Y.us.length = m := ⟨_, rfl⟩
          have ZL : Hid (Z.us.length = m + 1) := by unfold Hid; rw [ZU.out.1, ← hm]; simp
          have ml : m ≤ 40 := by rw [← hm]; exact KP.out.1.ul
          have NU : Hid (Z.us[m]? = some nu) := by unfold Hid; rw [ZU.out.1, ← hm]; simp
          clear hc hZ hnu hm
          go_upto_region 17 with fail
          (try rw [hbn])
          clear hbn
          have UA : Hid (Uno (w9.alloc (Obj.cells #[.int .i64 Z.turn, .int .i64 Z.next, .int .i64 Z.wide, .int .i64 Z.high, Value.slice n1 Z.gs.length m1, Value.slice n2 Z.os.length m2, Value.slice n3 Z.gold.length m3, Value.slice n4 Z.us.length m4, Value.slice n5 Z.qs.length m5] 29)) B (Value.slice n4 Z.us.length m4) Z.us) := OZ.out.2.2.2.1.below BN.out
          generalize w9.alloc (Obj.cells #[.int .i64 Z.turn, .int .i64 Z.next, .int .i64 Z.wide, .int .i64 Z.high, Value.slice n1 Z.gs.length m1, Value.slice n2 Z.os.length m2, Value.slice n3 Z.gold.length m3, Value.slice n4 Z.us.length m4, Value.slice n5 Z.qs.length m5] 29) = wa at *
          obtain ⟨x0, x1, x2, x3, x4, x5, x6, x7, x8⟩ := XN.out.cells
          obtain ⟨g', c', e', -, -, hy⟩ := UA.out.l
          injection e' with e1 e2 e3
          subst e1 e3
          obtain ⟨xu, rfl, hxl, hy⟩ := hy (by have h9 := ZL.out; rintro hn; rw [hn] at h9; simp at h9)
          obtain ⟨y0, y1, y2, y3, y4, y5, y6, y7⟩ := hy m nu NU.out
          have mw : IntKind.i64.wrap (m : Int) = (m : Int) := by rw [IntKind.wrap_i64]; omega
          have mz : IntKind.i64.wrap ((Z.us.length : Int) - 1) = (m : Int) := by rw [IntKind.wrap_i64, ZL.out]; omega
          have ml2 : (m : Int) < (Z.us.length : Int) := by rw [ZL.out]; omega
          have ml3 : m < Z.us.length := by rw [ZL.out]; omega
          clear hy hxl e2
          go_upto_region 18 with fail
          clear x0 x1 x2 x3 x4 x5 x6 x7 x8 y0 y1 y2 y3 y4 y5 y6 y7 mw mz ml2 ml3
          have BU : Hid (Below wa.heap.size wa (wa.alloc (Obj.cells #[.int .i64 nu.id, .int .i64 nu.player, .int .i64 nu.kind, .int .i64 nu.at_, .int .i64 nu.life, .int .i64 nu.load, .int .i64 nu.task, .int .i64 nu.goal] 63))) := (Below.refl _ _).alloc (Nat.le_refl _) _
          obtain ⟨bu, hbu⟩ : ∃ b, wa.heap.size = b := ⟨_, rfl⟩
          have XU : Hid (Unc (wa.alloc (Obj.cells #[.int .i64 nu.id, .int .i64 nu.player, .int .i64 nu.kind, .int .i64 nu.at_, .int .i64 nu.life, .int .i64 nu.load, .int .i64 nu.task, .int .i64 nu.goal] 63)) ⟨bu, 0, none⟩ nu) := Unc.mk' (w := wa) nu hbu
          (try rw [hbu])
          clear hbu
          generalize wa.alloc (Obj.cells #[.int .i64 nu.id, .int .i64 nu.player, .int .i64 nu.kind, .int .i64 nu.at_, .int .i64 nu.life, .int .i64 nu.load, .int .i64 nu.task, .int .i64 nu.goal] 63) = wb at *
          have BNB : Hid (Below w9.heap.size w9 wb) := BN.out.trans (BU.out.mono BN.out.size)
          have T11 : Hid (TrS Y es qs w.heap.size b1 b3 (b3 + 2) w5 u1 u2 u3 u4 u5 ev qv wb) := T10.out.below BNB.out
          have M11 : Hid (Im wb b3 (q + 1) (fun u => ((cntU (X.qs.take (q + 1)) u : Nat) : Int))) := M10.out.below BNB.out
          have XB : Hid (Wx wb bn (.int .i64 Z.turn) (.int .i64 Z.next) (.int .i64 Z.wide) (.int .i64 Z.high) (Value.slice n1 Z.gs.length m1) (Value.slice n2 Z.os.length m2) (Value.slice n3 Z.gold.length m3) (Value.slice (some xu) Z.us.length m4) (Value.slice n5 Z.qs.length m5)) := XN.out.below BU.out XN.out.lt
          have OB : Hid (Ow wb B (Value.slice n1 Z.gs.length m1) Z.gs ∧ Ow wb B (Value.slice n2 Z.os.length m2) Z.os ∧ Ow wb B (Value.slice n3 Z.gold.length m3) Z.gold ∧ Uno wb B (Value.slice (some xu) Z.us.length m4) Z.us ∧ Jbo wb B (Value.slice n5 Z.qs.length m5) Z.qs) := ⟨OZ.out.1.below BNB.out, OZ.out.2.1.below BNB.out, OZ.out.2.2.1.below BNB.out, OZ.out.2.2.2.1.below BNB.out, OZ.out.2.2.2.2.below BNB.out⟩
          obtain ⟨y0, y1, y2, y3, y4, y5, y6, y7⟩ := XU.out
          have y0' : wb.cell? ⟨bu, 0, none⟩ = some (.int .i64 Y.next) := by rw [← ZU.out.2.1]; exact y0
          have y3' : wb.cell? ⟨bu, 3, none⟩ = some (.int .i64 c) := by rw [← ZU.out.2.2]; exact y3
          clear y0 y1 y2 y3 y4 y5 y6 y7
          have BE : Hid (Below wb.heap.size wb (wb.alloc (Obj.cells #[.int .i64 6, .int .i64 Y.next, .int .i64 c] 120))) := (Below.refl _ _).alloc (Nat.le_refl _) _
          have TE : Hid (TrS Y es qs w.heap.size b1 b3 (b3 + 2) w5 u1 u2 u3 u4 u5 ev qv (wb.alloc (Obj.cells #[.int .i64 6, .int .i64 Y.next, .int .i64 c] 120))) := T11.out.below BE.out
          have RC : Hid (Evc (wb.alloc (Obj.cells #[.int .i64 6, .int .i64 Y.next, .int .i64 c] 120)) ⟨wb.heap.size, 0, none⟩ ⟨6, Y.next, c⟩) := Evc.mk' (w := wb) ⟨6, Y.next, c⟩ rfl
          have SB : Hid (b3 + 2 ≤ (wb.alloc (Obj.cells #[.int .i64 6, .int .i64 Y.next, .int .i64 c] 120)).heap.size) := by have h1 := TE.out.f.size; have h2 := TE.out.n; unfold Hid; omega
          have ME : Hid (Im (wb.alloc (Obj.cells #[.int .i64 6, .int .i64 Y.next, .int .i64 c] 120)) b3 (q + 1) (fun u => ((cntU (X.qs.take (q + 1)) u : Nat) : Int))) := M11.out.below BE.out
          have XE : Hid (Wx (wb.alloc (Obj.cells #[.int .i64 6, .int .i64 Y.next, .int .i64 c] 120)) bn (.int .i64 Z.turn) (.int .i64 Z.next) (.int .i64 Z.wide) (.int .i64 Z.high) (Value.slice n1 Z.gs.length m1) (Value.slice n2 Z.os.length m2) (Value.slice n3 Z.gold.length m3) (Value.slice (some xu) Z.us.length m4) (Value.slice n5 Z.qs.length m5)) := XB.out.below BE.out XB.out.lt
          have OE : Hid (Ow (wb.alloc (Obj.cells #[.int .i64 6, .int .i64 Y.next, .int .i64 c] 120)) B (Value.slice n1 Z.gs.length m1) Z.gs ∧ Ow (wb.alloc (Obj.cells #[.int .i64 6, .int .i64 Y.next, .int .i64 c] 120)) B (Value.slice n2 Z.os.length m2) Z.os ∧ Ow (wb.alloc (Obj.cells #[.int .i64 6, .int .i64 Y.next, .int .i64 c] 120)) B (Value.slice n3 Z.gold.length m3) Z.gold ∧ Uno (wb.alloc (Obj.cells #[.int .i64 6, .int .i64 Y.next, .int .i64 c] 120)) B (Value.slice (some xu) Z.us.length m4) Z.us ∧ Jbo (wb.alloc (Obj.cells #[.int .i64 6, .int .i64 Y.next, .int .i64 c] 120)) B (Value.slice n5 Z.qs.length m5) Z.qs) := ⟨OB.out.1.below BE.out, OB.out.2.1.below BE.out, OB.out.2.2.1.below BE.out, OB.out.2.2.2.1.below BE.out, OB.out.2.2.2.2.below BE.out⟩
          obtain ⟨ea, ec, rfl⟩ := TE.out.e.len
          go_upto_region 19 with (at_builtin; refine app_ev _ rfl _ _ rfl (b3 + 2) _ es rfl TE.out.e wb.heap.size ⟨6, Y.next, c⟩ rfl RC.out (by have := QL.out; omega) SB.out ?_)
          intro g cap wE o8 g8 a8 l8
          have EVN : Hid (∀ k, (.slice ea es.length ec : Value).ownBlock = some k → b3 + 2 ≤ k ∧ k < B) := fun k hk => ⟨(TE.out.e.block k hk).1, UQ.out _ (by simp) k hk⟩
          have TF : Hid (TrS Y (es ++ [⟨6, Y.next, c⟩]) qs w.heap.size b1 b3 (b3 + 2) w5 u1 u2 u3 u4 u5 (.slice (some ⟨g, 0, none⟩) (es.length + 1) cap) qv wE) := TE.out.told g8 o8
          have MF : Hid (Im wE b3 (q + 1) (fun u => ((cntU (X.qs.take (q + 1)) u : Nat) : Int))) := ME.out.gb g8 (fun h => by have := (EVN.out b3 h.symm).1; omega)
          have XF : Hid (Wx wE bn (.int .i64 Z.turn) (.int .i64 Z.next) (.int .i64 Z.wide) (.int .i64 Z.high) (Value.slice n1 Z.gs.length m1) (Value.slice n2 Z.os.length m2) (Value.slice n3 Z.gold.length m3) (Value.slice (some xu) Z.us.length m4) (Value.slice n5 Z.qs.length m5)) := (Fr.gb (S := fun k => (.slice ea es.length ec : Value).ownBlock = some k) g8 (fun k hk => hk)).wx XE.out (fun h => by have := EVN.out bn h; have := NB.out; omega)
          have OF : Hid (Ow wE B (Value.slice n1 Z.gs.length m1) Z.gs ∧ Ow wE B (Value.slice n2 Z.os.length m2) Z.os ∧ Ow wE B (Value.slice n3 Z.gold.length m3) Z.gold ∧ Uno wE B (Value.slice (some xu) Z.us.length m4) Z.us ∧ Jbo wE B (Value.slice n5 Z.qs.length m5) Z.qs) := ⟨own_gb OE.out.1 g8 (fun k h1 h2 => by have := (OE.out.1.block k h1).1; have := EVN.out k h2; omega), own_gb OE.out.2.1 g8 (fun k h1 h2 => by have := (OE.out.2.1.block k h1).1; have := EVN.out k h2; omega), own_gb OE.out.2.2.1 g8 (fun k h1 h2 => by have := (OE.out.2.2.1.block k h1).1; have := EVN.out k h2; omega), own_gb OE.out.2.2.2.1 g8 (fun k h1 h2 => by have := (OE.out.2.2.2.1.block k h1).1; have := EVN.out k h2; omega), own_gb OE.out.2.2.2.2 g8 (fun k h1 h2 => by have := (OE.out.2.2.2.2.block k h1).1; have := EVN.out k h2; omega)⟩
          clear o8 g8 a8 l8 y0' y3'
          obtain ⟨x0, x1, x2, x3, x4, x5, x6, x7, x8⟩ := XF.out.cells
          obtain ⟨z0, z1, z2, z3, z4, z5, z6, z7, z8⟩ := TF.out.x.cells
          obtain ⟨t0, t1, t2, t3, t4, t5, t6, t7, t8⟩ := TF.out.x.thaws
          have KZ : Hid (Kp w.heap.size wE (((((((((wE.setCell ⟨w.heap.size, 0, none⟩ (.int .i64 Z.turn)).setCell ⟨w.heap.size, 1, none⟩ (.int .i64 Z.next)).setCell ⟨w.heap.size, 2, none⟩ (.int .i64 Z.wide)).setCell ⟨w.heap.size, 3, none⟩ (.int .i64 Z.high)).setCell ⟨w.heap.size, 4, none⟩ (Value.slice n1 Z.gs.length m1)).setCell ⟨w.heap.size, 5, none⟩ (Value.slice n2 Z.os.length m2)).setCell ⟨w.heap.size, 6, none⟩ (Value.slice n3 Z.gold.length m3)).setCell ⟨w.heap.size, 7, none⟩ (Value.slice (some xu) Z.us.length m4)).setCell ⟨w.heap.size, 8, none⟩ (Value.slice n5 Z.qs.length m5))) := put_kp _ _ _ _ _ _ _ _ _ _ _
          have XZ : Hid (Wx (((((((((wE.setCell ⟨w.heap.size, 0, none⟩ (.int .i64 Z.turn)).setCell ⟨w.heap.size, 1, none⟩ (.int .i64 Z.next)).setCell ⟨w.heap.size, 2, none⟩ (.int .i64 Z.wide)).setCell ⟨w.heap.size, 3, none⟩ (.int .i64 Z.high)).setCell ⟨w.heap.size, 4, none⟩ (Value.slice n1 Z.gs.length m1)).setCell ⟨w.heap.size, 5, none⟩ (Value.slice n2 Z.os.length m2)).setCell ⟨w.heap.size, 6, none⟩ (Value.slice n3 Z.gold.length m3)).setCell ⟨w.heap.size, 7, none⟩ (Value.slice (some xu) Z.us.length m4)).setCell ⟨w.heap.size, 8, none⟩ (Value.slice n5 Z.qs.length m5)) w.heap.size (.int .i64 Z.turn) (.int .i64 Z.next) (.int .i64 Z.wide) (.int .i64 Z.high) (Value.slice n1 Z.gs.length m1) (Value.slice n2 Z.os.length m2) (Value.slice n3 Z.gold.length m3) (Value.slice (some xu) Z.us.length m4) (Value.slice n5 Z.qs.length m5)) := TF.out.x.put (.int .i64 Z.turn) (.int .i64 Z.next) (.int .i64 Z.wide) (.int .i64 Z.high) (Value.slice n1 Z.gs.length m1) (Value.slice n2 Z.os.length m2) (Value.slice n3 Z.gold.length m3) (Value.slice (some xu) Z.us.length m4) (Value.slice n5 Z.qs.length m5)
          go_upto_region 22 with fail
          clear x0 x1 x2 x3 x4 x5 x6 x7 x8 z0 z1 z2 z3 z4 z5 z6 z7 z8 t0 t1 t2 t3 t4 t5 t6 t7 t8
          generalize (((((((((wE.setCell ⟨w.heap.size, 0, none⟩ (.int .i64 Z.turn)).setCell ⟨w.heap.size, 1, none⟩ (.int .i64 Z.next)).setCell ⟨w.heap.size, 2, none⟩ (.int .i64 Z.wide)).setCell ⟨w.heap.size, 3, none⟩ (.int .i64 Z.high)).setCell ⟨w.heap.size, 4, none⟩ (Value.slice n1 Z.gs.length m1)).setCell ⟨w.heap.size, 5, none⟩ (Value.slice n2 Z.os.length m2)).setCell ⟨w.heap.size, 6, none⟩ (Value.slice n3 Z.gold.length m3)).setCell ⟨w.heap.size, 7, none⟩ (Value.slice (some xu) Z.us.length m4)).setCell ⟨w.heap.size, 8, none⟩ (Value.slice n5 Z.qs.length m5)) = wF at *
          have TG : Hid (TrS Z (es ++ [⟨6, Y.next, c⟩]) qs w.heap.size b1 b3 (b3 + 2) w5 (Value.slice n1 Z.gs.length m1) (Value.slice n2 Z.os.length m2) (Value.slice n3 Z.gold.length m3) (Value.slice (some xu) Z.us.length m4) (Value.slice n5 Z.qs.length m5) (.slice (some ⟨g, 0, none⟩) (es.length + 1) cap) qv wF) := TF.out.puts S9.out (UQ.out qv (by simp)) KZ.out XZ.out OF.out.1 OF.out.2.1 OF.out.2.2.1 OF.out.2.2.2.1 OF.out.2.2.2.2
          have MG : Hid (Im wF b3 (q + 1) (fun u => ((cntU (X.qs.take (q + 1)) u : Nat) : Int))) := MF.out.gb (gb_kp KZ.out) (by have := N3.out; simp; omega)
          have hq12 : X.qs.length ≤ 12 := QN.out
          go_wp2
          go_round
          case rel => exact ⟨q + 1, by omega, by go_num, Z, _, _, CM.out, _, _, _, _, _, _, _, rfl, rfl, TG.out, MG.out⟩
          case measure => simp [intOf]; omega
end Go.Proofs.YtoabhfipikkkeaaGreatDoor

