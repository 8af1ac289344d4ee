/- Worlds: the reference's Check. -/
import Derived.Test.YteieikgkmfglaaaGreatDoorZWorksDo6
import Derived.Test.YteieikgkmfglaaaGreatDoorZWorksDo3
import Derived.Test.YteieikgkmfglaaaGreatDoorZWorksDo12
namespace Go.Proofs.YteieikgkmfglaaaGreatDoor
open Go.RowKit
set_option linter.unusedVariables false
theorem nb_turn {W : WV} (h : decide (0 ≤ W.turn ∧ W.turn ≤ 1000000) = false) : Wd.numsBad W = true := by unfold Wd.numsBad Wd.off; rw [h]; rfl
theorem nb_next {W : WV} (h : decide (0 ≤ W.next ∧ W.next ≤ 1000000) = false) : Wd.numsBad W = true := by
 have h1 : decide (1 ≤ W.next ∧ W.next ≤ 1000000) = false := decide_eq_false fun ⟨a, b⟩ => of_decide_eq_false h ⟨by omega, b⟩
 unfold Wd.numsBad Wd.off; rw [h1]; simp
theorem nb_zero {W : WV} (h : W.next = 0) : Wd.numsBad W = true := by
 have h1 : decide (1 ≤ W.next ∧ W.next ≤ 1000000) = false := decide_eq_false fun ⟨a, b⟩ => by omega
 unfold Wd.numsBad Wd.off; rw [h1]; simp
theorem nb_len {W : WV} (h : ¬ (1 ≤ (W.gold.length : Int) ∧ (W.gold.length : Int) ≤ 4)) : Wd.numsBad W = true := by
 unfold Wd.numsBad; rw [decide_eq_false h]; simp
theorem nb_gold {W : WV} {i : Nat} {g : Int} (hg : W.gold[i]? = some g) (h : decide (0 ≤ g ∧ g ≤ 1000000) = false) : Wd.numsBad W = true := by
 have : W.gold.any (Wd.off 0) = true := List.any_eq_true.2 ⟨g, List.mem_of_getElem? hg, by unfold Wd.off; rw [h]; rfl⟩
 unfold Wd.numsBad; rw [this]; simp
theorem nb_no {W : WV} (h1 : decide (0 ≤ W.turn ∧ W.turn ≤ 1000000) = true) (h2 : decide (0 ≤ W.next ∧ W.next ≤ 1000000) = true) (h3 : W.next ≠ 0) (h4 : 1 ≤ (W.gold.length : Int) ∧ (W.gold.length : Int) ≤ 4) (h5 : W.gold.any (Wd.off 0) = false) : Wd.numsBad W = false := by
 have := of_decide_eq_true h2
 have h6 : decide (1 ≤ W.next ∧ W.next ≤ 1000000) = true := decide_eq_true ⟨by omega, by omega⟩
 unfold Wd.numsBad; rw [h5]; unfold Wd.off; rw [h1, h6, decide_eq_true h4]; rfl
theorem wf_nums {ks : List KV} {W : WV} (h0 : Wd.ground ks W = 0) (h : Wd.numsBad W = true) : Wd.wfault ks W = 1 := by unfold Wd.wfault; rw [if_neg (by rw [h0]; simp), h]; rfl
theorem gr_kinds {ks : List KV} {W : WV} (h : Kd.kindsFault (ks.map KV.k) ≠ 0) : Wd.wfault ks W = Kd.kindsFault (ks.map KV.k) := by
 have : Wd.ground ks W = Kd.kindsFault (ks.map KV.k) := by unfold Wd.ground; rw [if_neg h]
 unfold Wd.wfault; rw [if_pos (by rw [this]; exact h), this]
theorem gr_field {ks : List KV} {W : WV} (h0 : Kd.kindsFault (ks.map KV.k) = 0) (h : Fd.fault W.wide W.high W.gs W.os ≠ 0) : Wd.wfault ks W = Fd.fault W.wide W.high W.gs W.os := by
 have : Wd.ground ks W = Fd.fault W.wide W.high W.gs W.os := by unfold Wd.ground; rw [if_pos h0]
 unfold Wd.wfault; rw [if_pos (by rw [this]; exact h), this]
theorem gany_next {l : List Int} {p : Int → Bool} {i : Nat} {g : Int} (hg : l[i]? = some g) (h : (l.take i).any p = false) (hp : p g = false) : (l.take (i + 1)).any p = false := by
 rw [List.take_add_one, hg, List.any_append, h]; simp [hp]
theorem rck_drewN {B : Nat} {a w : World} (h : Below B a w) (n : Nat) : Below B a (w.drewN n) := h.trans ⟨rfl, rfl, rfl, Nat.le_refl _, fun _ _ => rfl⟩
theorem on_fst {us : List UnV} {i : Nat} {u : UnV} {r a : Int} (hu : us[i]? = some u) (ha : u.at_ = a) (h : FstU (fun x => x.at_ == a) us r) : (∃ n : Nat, r = n ∧ n < i ∧ (us.take i).any (fun x => x.at_ == a) = true) ∨ (r = (i : Nat) ∧ (us.take i).any (fun x => x.at_ == a) = false) := by
 have hp : (u.at_ == a) = true := by simpa using ha
 rcases h with ⟨_, h1⟩ | ⟨k, x, rfl, h1, h2, h3⟩
 ·have : us.any (fun x => x.at_ == a) = true := List.any_eq_true.2 ⟨u, List.mem_of_getElem? hu, hp⟩
  rw [h1] at this; cases this
 ·rcases Nat.lt_trichotomy k i with hl | hl | hl
  ·exact .inl ⟨k, rfl, hl, List.any_eq_true.2 ⟨x, List.mem_of_getElem? (by rw [List.getElem?_take, if_pos hl]; exact h1), h2⟩⟩
  ·subst hl
   exact .inr ⟨rfl, h3⟩
  ·have : (us.take k).any (fun x => x.at_ == a) = true := List.any_eq_true.2 ⟨u, List.mem_of_getElem? (by rw [List.getElem?_take, if_pos hl]; exact hu), hp⟩
   rw [h3] at this; cases this
theorem open_of {gs : List Int} {ah : List UnV} {an : Nat} {g : Int} {fl : Bool} (hg : gs[an]? = some g) : Wd.open_ gs ah (an : Nat) fl = (decide (0 < Fd.onto g fl) && !ah.any (fun u => u.at_ == (an : Int))) := by
 unfold Wd.open_
 rw [Int.toNat_natCast, List.getD_eq_getElem?_getD, hg]
 rfl
theorem onto_nonneg (g : Int) (f : Bool) : 0 ≤ Fd.onto g f := by
 unfold Fd.onto
 split
 ·exact Int.le_refl _
 ·split
  ·split <;> decide
  ·split
   ·split <;> decide
   ·decide
set_option maxRecDepth 100000 in
set_option maxHeartbeats 16000000 in
theorem rcheck_any (vk vw : Value) (ks : List KV) (W : WV) (w : World) (hk : Kl w vk ks) (hb : ∀ k ∈ ks, k.b.size ≤ 9223372036854775807) (hw : Wl w vw W) :
  Calls Tryz.prog 6 #[vk, vw] w fun e w' => ∃ r : Int, e = .returned (.int .i64 r) ∧ r = Wd.wfault ks W ∧ Below w.heap.size w w' := by
 have K : Hid (Kl w vk ks ∧ ∀ k ∈ ks, k.b.size ≤ 9223372036854775807) := ⟨hk, hb⟩
 have H : Hid (Wl w vw W) := hw
 obtain ⟨u1, u2, u3, u4, u5, rfl, r1, r2, r3, r4, r5⟩ := hw
 obtain ⟨p1, q1, rfl, -⟩ := r1
 obtain ⟨p2, q2, rfl, -⟩ := r2
 obtain ⟨p3, q3, rfl, k31, k32, k33⟩ := r3
 obtain ⟨p4, q4, rfl, k41, k42, k43⟩ := r4
 obtain ⟨p5, q5, rfl, k51, k52, k53⟩ := r5
 obtain ⟨pk, qk, rfl, kk1, kk2, kk3⟩ := hk
 have GC : Hid (W.gold ≠ [] → ∃ x, p3 = some x ∧ x.block < w.heap.size ∧ ∀ (i : Nat) v, W.gold[i]? = some v → w.cell? (x.add i) = some (.int .i64 v)) := k33
 have UC : Hid (W.us ≠ [] → ∃ x, p4 = some x ∧ x.block < w.heap.size ∧ ∀ (i : Nat) k, W.us[i]? = some k → Unc w (x.add (i * 8)) k) := k43
 have JC : Hid (W.qs ≠ [] → ∃ x, p5 = some x ∧ x.block < w.heap.size ∧ ∀ (i : Nat) k, W.qs[i]? = some k → Jbc w (x.add (i * 4)) k) := k53
 have KK : Hid (ks ≠ [] → ∃ x, pk = some x ∧ x.block < w.heap.size ∧ ∀ (i : Nat) k, ks[i]? = some k → Kc w (x.add (i * 11)) k) := kk3
 clear hb k53 k43 k33 kk3
 go_enter Tryz.func6, Tryz.ntmps6
 go_wp2_with fail
 have B0 : Hid (Below w.heap.size w (w.alloc (Obj.cells #[.int .i64 W.turn, .int .i64 W.next, .int .i64 W.wide, .int .i64 W.high, .slice p1 W.gs.length q1, .slice p2 W.os.length q2, .slice p3 W.gold.length q3, .slice p4 W.us.length q4, .slice p5 W.qs.length q5] 29))) := (Below.refl _ _).alloc (Nat.le_refl _) _
 have X0 : Hid (Bw (w.alloc (Obj.cells #[.int .i64 W.turn, .int .i64 W.next, .int .i64 W.wide, .int .i64 W.high, .slice p1 W.gs.length q1, .slice p2 W.os.length q2, .slice p3 W.gold.length q3, .slice p4 W.us.length q4, .slice p5 W.qs.length q5] 29)) w.heap.size W (.slice p1 W.gs.length q1) (.slice p2 W.os.length q2) (.slice p3 W.gold.length q3) (.slice p4 W.us.length q4) (.slice p5 W.qs.length q5)) := Bw.mk' W _ _ _ _ _ rfl
 generalize (w.alloc (Obj.cells #[.int .i64 W.turn, .int .i64 W.next, .int .i64 W.wide, .int .i64 W.high, .slice p1 W.gs.length q1, .slice p2 W.os.length q2, .slice p3 W.gold.length q3, .slice p4 W.us.length q4, .slice p5 W.qs.length q5] 29)) = w0 at *
 refine (ref_kinds _ ks w0 (K.out.1.below B0.out) K.out.2).mono ?_
 rintro e w1 ⟨rfl, hb1⟩
 have B1 : Hid (Below w.heap.size w w1) := B0.out.trans (hb1.mono B0.out.size)
 have X1 : Hid (Bw w1 w.heap.size W (.slice p1 W.gs.length q1) (.slice p2 W.os.length q2) (.slice p3 W.gold.length q3) (.slice p4 W.us.length q4) (.slice p5 W.qs.length q5)) := X0.out.below hb1 X0.out.lt
 clear hb1 X0 B0
 obtain ⟨f1, hf1⟩ : ∃ f, Kd.kindsFault (ks.map KV.k) = f := ⟨_, rfl⟩
 have F1 : Hid (Kd.kindsFault (ks.map KV.k) = f1) := hf1
 rw [hf1]
 clear hf1
 obtain ⟨x0, x1, x2, x3, x4, x5, x6, x7, x8⟩ := X1.out
 by_cases hz : f1 = 0
 ·subst hz
  go_wp2_with fail
  refine (ref_field _ W.wide W.high W.gs W.os w1 ⟨_, _, rfl, (H.out.below B1.out).slices.1, (H.out.below B1.out).slices.2.1⟩).mono ?_
  rintro e w2 ⟨rfl, hb2⟩
  have B2 : Hid (Below w.heap.size w w2) := B1.out.trans (hb2.mono B1.out.size)
  have X2 : Hid (Bw w2 w.heap.size W (.slice p1 W.gs.length q1) (.slice p2 W.os.length q2) (.slice p3 W.gold.length q3) (.slice p4 W.us.length q4) (.slice p5 W.qs.length q5)) := X1.out.below hb2 X1.out.lt
  clear hb2 X1 B1 x0 x1 x2 x3 x4 x5 x6 x7 x8
  obtain ⟨f2, hf2⟩ : ∃ f, Fd.fault W.wide W.high W.gs W.os = f := ⟨_, rfl⟩
  have F2 : Hid (Fd.fault W.wide W.high W.gs W.os = f2) := hf2
  rw [hf2]
  clear hf2
  obtain ⟨x0, x1, x2, x3, x4, x5, x6, x7, x8⟩ := X2.out
  by_cases hz : f2 = 0
  ·subst hz
   have HZ : Hid (Wd.ground ks W = 0) := by unfold Hid Wd.ground; rw [if_pos F1.out, F2.out]
   obtain ⟨t1, ht1⟩ : ∃ b, decide (0 ≤ W.turn ∧ W.turn ≤ 1000000) = b := ⟨_, rfl⟩
   have T1 : Hid (decide (0 ≤ W.turn ∧ W.turn ≤ 1000000) = t1) := ht1
   obtain ⟨t2, ht2⟩ : ∃ b, decide (0 ≤ W.next ∧ W.next ≤ 1000000) = b := ⟨_, rfl⟩
   have T2 : Hid (decide (0 ≤ W.next ∧ W.next ≤ 1000000) = t2) := ht2
   clear ht1 ht2
   go_wp2_with fail
   refine (rnumber_q W.turn t1 w2 T1).mono ?_
   rintro e w3 ⟨rfl, hww⟩
   obtain rfl := hww.symm
   go_wp2_with fail
   refine (rnumber_q W.next t2 w2 T2).mono ?_
   rintro e w3 ⟨rfl, hww⟩
   obtain rfl := hww.symm
   cases t1 with
   | false =>
    have FF : Hid (Wd.wfault ks W = 1) := wf_nums HZ.out (nb_turn T1.out)
    go_wp2
    go_ret
    exact ⟨_, rfl, FF.out.symm, B2.out⟩
   | true =>
    cases t2 with
    | false =>
     have FF : Hid (Wd.wfault ks W = 1) := wf_nums HZ.out (nb_next T2.out)
     go_wp2
     go_ret
     exact ⟨_, rfl, FF.out.symm, B2.out⟩
    | true =>
     by_cases hn0 : W.next = 0
     ·have FF : Hid (Wd.wfault ks W = 1) := wf_nums HZ.out (nb_zero hn0)
      rw [hn0] at x1
      clear hn0
      go_wp2
      go_ret
      exact ⟨_, rfl, FF.out.symm, B2.out⟩
     ·have N0 : Hid (W.next ≠ 0) := hn0
      have hnb : (W.next == 0) = false := by simpa using hn0
      clear hn0
      by_cases hg1 : (W.gold.length : Int) < 1
      ·have FF : Hid (Wd.wfault ks W = 1) := wf_nums HZ.out (nb_len (by omega))
       go_wp2
       go_ret
       exact ⟨_, rfl, FF.out.symm, B2.out⟩
      ·by_cases hg4 : (4 : Int) < (W.gold.length : Int)
       ·have FF : Hid (Wd.wfault ks W = 1) := wf_nums HZ.out (nb_len (by omega))
        go_wp2
        go_ret
        exact ⟨_, rfl, FF.out.symm, B2.out⟩
       ·have GL : Hid (1 ≤ (W.gold.length : Int) ∧ (W.gold.length : Int) ≤ 4) := ⟨by omega, by omega⟩
        go_wp2
        clear x0 x1 x2 x3 x4 x5 x6 x7 x8 hg1 hg4 hnb
        go_loopw [8] (fun iv V => ∃ i : Nat, i ≤ W.gold.length ∧ iv = .int .i64 (i : Nat) ∧ (W.gold.take i).any (Wd.off 0) = false ∧ V = w2) (fun iv _ => W.gold.length - (intOf iv).toNat)
        case atStart => exact ⟨0, Nat.zero_le _, rfl, rfl, rfl⟩
        case round =>
         obtain ⟨i, hi, rfl, han, hVV⟩ := hrel
         obtain rfl := hVV.symm
         have AN : Hid ((W.gold.take i).any (Wd.off 0) = false) := han
         have x6 := X2.out.c6
         clear han
         by_cases hil : i = W.gold.length
         ·have HN : Hid (Wd.numsBad W = false) := nb_no T1.out T2.out N0.out GL.out (by have := AN.out; rwa [hil, List.take_length] at this)
          subst hil
          clear hi
          have x7 := X2.out.c7
          by_cases h40 : 40 < W.us.length
          ·have F4 : Hid (Wd.wfault ks W = 4) := by unfold Hid Wd.wfault; rw [if_neg (by rw [HZ.out]; simp), HN.out, if_neg (by simp), if_pos h40]
           have h40i : (40 : Int) < (W.us.length : Int) := by omega
           go_wp2
           go_ret
           exact ⟨_, rfl, F4.out.symm, B2.out⟩
          ·have h40i : ¬ (40 : Int) < (W.us.length : Int) := by omega
           have KL : Hid (ks.length ≤ 8) := kinds_len F1.out
           obtain ⟨Wn, Hn, hWn, hHn, hG⟩ := Fd.fault_zero F2.out
           have GG : Hid (W.wide = Wn ∧ W.high = Hn ∧ Fd.Good Wn Hn W.gs W.os) := ⟨hWn, hHn, hG⟩
           have US : Hid (W.us.length ≤ 40) := by unfold Hid; omega
           have WF : Hid (Wd.unitsGo ks W 0 W.us ≠ 0 → Wd.wfault ks W = Wd.unitsGo ks W 0 W.us) := fun hne => by unfold Wd.wfault; rw [if_neg (by rw [HZ.out]; simp), HN.out, if_neg (by simp), if_neg h40, if_pos hne]
           have WG : Hid (Wd.unitsGo ks W 0 W.us = 0 → Wd.wfault ks W = if 12 < W.qs.length then 4 else Wd.jobsGo ks W W.qs) := fun h0 => by unfold Wd.wfault; rw [if_neg (by rw [HZ.out]; simp), HN.out, if_neg (by simp), if_neg h40, if_neg (by rw [h0]; simp)]
           have x4 := X2.out.c4
           clear hWn hHn hG h40
           go_wp2
           clear x7 x6 x4
           go_loopw [11] (fun iv V => ∃ i : Nat, i ≤ W.us.length ∧ iv = .int .i64 (i : Nat) ∧ Wd.unitsGo ks W i (W.us.drop i) = Wd.unitsGo ks W 0 W.us ∧ Bw V w.heap.size W (.slice p1 W.gs.length q1) (.slice p2 W.os.length q2) (.slice p3 W.gold.length q3) (.slice p4 W.us.length q4) (.slice p5 W.qs.length q5) ∧ Below w.heap.size w V) (fun iv _ => W.us.length - (intOf iv).toNat)
           case atStart => exact ⟨0, Nat.zero_le _, rfl, rfl, X2.out, B2.out⟩
           case round =>
            obtain ⟨i, hi, rfl, hgo, hX, hB⟩ := hrel
            have XR : Hid (Bw wr w.heap.size W (.slice p1 W.gs.length q1) (.slice p2 W.os.length q2) (.slice p3 W.gold.length q3) (.slice p4 W.us.length q4) (.slice p5 W.qs.length q5)) := hX
            have BR : Hid (Below w.heap.size w wr) := hB
            have GO : Hid (Wd.unitsGo ks W i (W.us.drop i) = Wd.unitsGo ks W 0 W.us) := hgo
            clear hX hB hgo X2 B2
            by_cases hil : i = W.us.length
            ·as_aux_lemma =>
             have U0 : Hid (Wd.unitsGo ks W 0 W.us = 0) := by unfold Hid; rw [← GO.out, hil, List.drop_length]; rfl
             have x8 := XR.out.c8
             have x7 := XR.out.c7
             subst hil
             clear hi
             by_cases h12 : 12 < W.qs.length
             ·have F4 : Hid (Wd.wfault ks W = 4) := by unfold Hid; rw [WG.out U0.out, if_pos h12]
              have h12i : (12 : Int) < (W.qs.length : Int) := by omega
              go_wp2
              go_ret
              exact ⟨_, rfl, F4.out.symm, BR.out⟩
             ·have h12i : ¬ (12 : Int) < (W.qs.length : Int) := by omega
              have FJ : Hid (Wd.wfault ks W = Wd.jobsGo ks W W.qs) := by unfold Hid; rw [WG.out U0.out, if_neg h12]
              have ALL : Hid (∀ u ∈ W.us, 0 ≤ u.kind ∧ u.kind < (ks.length : Int)) := fun u hu => by
               obtain ⟨j, hj⟩ := units_all W.us 0 U0.out u hu
               exact fault_kind hj
              go_wp2
              clear x8 x7
              go_loopw [15] (fun iv V => ∃ i : Nat, i ≤ W.qs.length ∧ iv = .int .i64 (i : Nat) ∧ Wd.jobsGo ks W (W.qs.drop i) = Wd.jobsGo ks W W.qs ∧ Bw V w.heap.size W (.slice p1 W.gs.length q1) (.slice p2 W.os.length q2) (.slice p3 W.gold.length q3) (.slice p4 W.us.length q4) (.slice p5 W.qs.length q5) ∧ Below w.heap.size w V) (fun iv _ => W.qs.length - (intOf iv).toNat)
              case atStart => exact ⟨0, Nat.zero_le _, rfl, rfl, XR.out, BR.out⟩
              case round =>
               obtain ⟨i, hi, rfl, hgo, hX, hB⟩ := hrel
               have XR : Hid (Bw wr w.heap.size W (.slice p1 W.gs.length q1) (.slice p2 W.os.length q2) (.slice p3 W.gold.length q3) (.slice p4 W.us.length q4) (.slice p5 W.qs.length q5)) := hX
               have BR : Hid (Below w.heap.size w wr) := hB
               have GO : Hid (Wd.jobsGo ks W (W.qs.drop i) = Wd.jobsGo ks W W.qs) := hgo
               clear hX hB hgo
               by_cases hil : i = W.qs.length
               ·have J0 : Hid (Wd.wfault ks W = 0) := by unfold Hid; rw [FJ.out, ← GO.out, hil, List.drop_length]; rfl
                have x8 := XR.out.c8
                subst hil
                clear hi
                go_wp2
                go_ret
                exact ⟨_, rfl, J0.out.symm, BR.out⟩
               ·as_aux_lemma =>
                have hlt : i < W.qs.length := by omega
                have hli : (i : Int) < (W.qs.length : Int) := by omega
                obtain ⟨j, hj⟩ : ∃ j, W.qs[i]? = some j := ⟨_, List.getElem?_eq_getElem hlt⟩
                obtain ⟨x, rfl, hx, hcell⟩ := JC.out (by intro e; rw [e] at hlt; simp at hlt)
                obtain ⟨d0, d1, d2, d3⟩ := (hcell i j hj).below BR.out (by rw [add_block]; exact hx)
                have GA : Hid (Wd.jobsGo ks W W.qs = if Wd.jobFault ks W j = 0 then Wd.jobsGo ks W (W.qs.drop (i + 1)) else Wd.jobFault ks W j) := by unfold Hid; rw [← GO.out, Wd.jobsGo_at hj]
                have BAD : Hid (∀ n : Int, n ≠ 0 → Wd.jobFault ks W j = n → Wd.wfault ks W = n) := fun n hn h => by rw [FJ.out, GA.out, if_neg (by rw [h]; exact hn), h]
                have x8 := XR.out.c8
                clear hcell hx hj hil
                go_upto_region 43 with fail
                have BA : Hid (Below wr.heap.size wr (wr.alloc (Obj.cells #[.int .i64 j.player, .int .i64 j.unit, .int .i64 j.kind, .int .i64 j.left] 71))) := (Below.refl _ _).alloc (Nat.le_refl _) _
                have J1 : Hid (Jbc (wr.alloc (Obj.cells #[.int .i64 j.player, .int .i64 j.unit, .int .i64 j.kind, .int .i64 j.left] 71)) ⟨wr.heap.size, 0, none⟩ j) := Jbc.mk' j rfl
                generalize (wr.alloc (Obj.cells #[.int .i64 j.player, .int .i64 j.unit, .int .i64 j.kind, .int .i64 j.left] 71)) = w5 at *
                have B5 : Hid (Below w.heap.size w w5) := BR.out.trans (BA.out.mono BR.out.size)
                have X5 : Hid (Bw w5 w.heap.size W (.slice p1 W.gs.length q1) (.slice p2 W.os.length q2) (.slice p3 W.gold.length q3) (.slice p4 W.us.length q4) (.slice (some x) W.qs.length q5)) := XR.out.below BA.out XR.out.lt
                clear d0 d1 d2 d3 x8 XR BR BA
                obtain ⟨x0, x1, x2, x3, x4, x5, x6, x7, x8⟩ := X5.out
                obtain ⟨j0, j1, j2, j3⟩ := J1.out
                generalize wr.heap.size = zj at *
                simp only [Nat.zero_add] at j1 j2 j3
                go_wp2_with fail
                refine (rfind_any _ W j.unit w5 (H.out.below B5.out)).mono ?_
                rintro e w6 ⟨r, rfl, hf, hb6⟩
                have B6 : Hid (Below w.heap.size w w6) := B5.out.trans (hb6.mono B5.out.size)
                have X6 : Hid (Bw w6 w.heap.size W (.slice p1 W.gs.length q1) (.slice p2 W.os.length q2) (.slice p3 W.gold.length q3) (.slice p4 W.us.length q4) (.slice (some x) W.qs.length q5)) := X5.out.below hb6 X5.out.lt
                have J6 : Hid (Jbc w6 ⟨zj, 0, none⟩ j) := J1.out.below hb6 J1.out.lt
                clear hb6 x0 x1 x2 x3 x4 x5 x6 x7 x8 j0 j1 j2 j3 X5 B5 J1
                obtain ⟨x0, x1, x2, x3, x4, x5, x6, x7, x8⟩ := X6.out
                obtain ⟨j0, j1, j2, j3⟩ := J6.out
                simp only [Nat.zero_add] at j1 j2 j3
                rcases find_fst hf with ⟨rfl, hfn⟩ | ⟨n, u, rfl, hn, hfs⟩
                ·have F6 : Hid (Wd.wfault ks W = 6) := BAD.out 6 (by decide) (jf6 hfn)
                 clear hf hfn
                 go_wp2
                 go_ret
                 exact ⟨_, rfl, F6.out.symm, B6.out⟩
                ·have hnl : n < W.us.length := (List.getElem?_eq_some_iff.1 hn).1
                 have hni : (n : Int) < (W.us.length : Int) := by omega
                 have hn0 : ¬ (n : Int) < 0 := by omega
                 have HF : Hid (W.us.find? (fun u => u.id == j.unit) = some u) := hfs
                 obtain ⟨xu, rfl, hx, hcell⟩ := UC.out (by intro e; rw [e] at hnl; simp at hnl)
                 obtain ⟨d0, d1, d2, d3, d4, d5, d6, d7⟩ := (hcell n u hn).below B6.out (by rw [add_block]; exact hx)
                 have hku := ALL.out u (List.mem_of_getElem? hn)
                 obtain ⟨kn, ek⟩ : ∃ kn : Nat, u.kind = kn := ⟨u.kind.toNat, by omega⟩
                 have hkn : kn < ks.length := by omega
                 have hkni : (kn : Int) < (ks.length : Int) := by omega
                 obtain ⟨k, hkk⟩ : ∃ k, ks[kn]? = some k := ⟨_, List.getElem?_eq_getElem hkn⟩
                 have HK : Hid (ks[u.kind.toNat]? = some k) := by unfold Hid; rw [ek, Int.toNat_natCast]; exact hkk
                 obtain ⟨xk, rfl, hxk, hkc⟩ := KK.out (by intro e; rw [e] at hkn; simp at hkn)
                 obtain ⟨l0, l1, l2, l3, l4, l5, l6, l7, l8, l9, l10⟩ := (hkc kn k hkk).below B6.out (by rw [add_block]; exact hxk)
                 rw [ek] at d2
                 clear hf hfs hcell hx hn hku hkc hxk hkk ek l0 l1 l2 l3 l4 l5 l6 l7 l8 l9
                 by_cases hp : u.player = j.player
                 ·rw [hp] at d1
                  cases ht : k.t with
                  | false =>
                   have F7 : Hid (Wd.wfault ks W = 7) := BAD.out 7 (by decide) (jf7 HF.out HK.out (.inr ht))
                   rw [ht] at l10
                   clear ht
                   go_upto_region 46 with fail
                   go_quiet (fail)
                   go_wp2
                   go_ret
                   exact ⟨_, rfl, F7.out.symm, rck_drewN B6.out _⟩
                  | true =>
                   have HPT : Hid (u.player = j.player ∧ k.t = true) := ⟨hp, ht⟩
                   rw [ht] at l10
                   clear ht hp
                   go_upto_region 46 with fail
                   go_quiet (fail)
                   have B7 : Hid (Below w.heap.size w (w6.drewN nq)) := rck_drewN B6.out nq
                   have X7 : Hid (Bw (w6.drewN nq) w.heap.size W (.slice p1 W.gs.length q1) (.slice p2 W.os.length q2) (.slice p3 W.gold.length q3) (.slice (some xu) W.us.length q4) (.slice (some x) W.qs.length q5)) := X6.out.below (rck_drewN (Below.refl _ _) nq) X6.out.lt
                   have J7 : Hid (Jbc (w6.drewN nq) ⟨zj, 0, none⟩ j) := J6.out.below (rck_drewN (Below.refl _ _) nq) J6.out.lt
                   generalize w6.drewN nq = w7 at *
                   clear x0 x1 x2 x3 x4 x5 x6 x7 x8 j0 j1 j2 j3 d0 d1 d2 d3 d4 d5 d6 d7 l10 X6 J6 B6
                   obtain ⟨j0, j1, j2, j3⟩ := J7.out
                   simp only [Nat.zero_add] at j1 j2 j3
                   by_cases h1 : j.kind < 0
                   ·have F1 : Hid (Wd.wfault ks W = 1) := BAD.out 1 (by decide) (jf1 HF.out HK.out HPT.out.1 HPT.out.2 (.inl (decide_eq_false (by omega))))
                    go_wp2
                    go_ret
                    exact ⟨_, rfl, F1.out.symm, B7.out⟩
                   ·by_cases h2 : (ks.length : Int) ≤ j.kind
                    ·have F1 : Hid (Wd.wfault ks W = 1) := BAD.out 1 (by decide) (jf1 HF.out HK.out HPT.out.1 HPT.out.2 (.inl (decide_eq_false (by omega))))
                     go_wp2
                     go_ret
                     exact ⟨_, rfl, F1.out.symm, B7.out⟩
                    ·by_cases h3 : j.left < 1
                     ·have F1 : Hid (Wd.wfault ks W = 1) := BAD.out 1 (by decide) (jf1 HF.out HK.out HPT.out.1 HPT.out.2 (.inr (decide_eq_false (by omega))))
                      go_wp2
                      go_ret
                      exact ⟨_, rfl, F1.out.symm, B7.out⟩
                     ·by_cases h4 : (1000 : Int) < j.left
                      ·have F1 : Hid (Wd.wfault ks W = 1) := BAD.out 1 (by decide) (jf1 HF.out HK.out HPT.out.1 HPT.out.2 (.inr (decide_eq_false (by omega))))
                       go_wp2
                       go_ret
                       exact ⟨_, rfl, F1.out.symm, B7.out⟩
                      ·have G2 : Hid (Wd.jobsGo ks W (W.qs.drop (i + 1)) = Wd.jobsGo ks W W.qs) := by unfold Hid; rw [GA.out, if_pos (jf0 HF.out HK.out HPT.out.1 HPT.out.2 (decide_eq_true (by omega)) (decide_eq_true (by omega)))]
                       go_wp2
                       go_roundw
                       case rel => exact ⟨i + 1, by omega, rfl, G2.out, X7.out, B7.out⟩
                       case measure => simp [intOf]; omega
                 ·have F7 : Hid (Wd.wfault ks W = 7) := BAD.out 7 (by decide) (jf7 HF.out HK.out (.inl hp))
                  have hpb : (u.player == j.player) = false := by simpa using hp
                  have HP : Hid (¬ u.player = j.player) := hp
                  clear hp
                  go_upto_region 46 with fail
                  have hpn : (u.player != j.player) = true := by simpa using HP.out
                  go_quiet (fail)
                  go_wp2
                  go_ret
                  exact ⟨_, rfl, F7.out.symm, rck_drewN B6.out _⟩
            ·as_aux_lemma =>
             have hlt : i < W.us.length := by omega
             have hli : (i : Int) < (W.us.length : Int) := by omega
             obtain ⟨u, hu⟩ : ∃ u, W.us[i]? = some u := ⟨_, List.getElem?_eq_getElem hlt⟩
             have HU : Hid (W.us[i]? = some u) := hu
             have GA : Hid (Wd.unitsGo ks W 0 W.us = if Wd.unitFault ks W i u = 0 then Wd.unitsGo ks W (i + 1) (W.us.drop (i + 1)) else Wd.unitFault ks W i u) := by unfold Hid; rw [← GO.out, Wd.unitsGo_at hu]
             have BAD : Hid (∀ n : Int, n ≠ 0 → Wd.unitFault ks W i u = n → Wd.wfault ks W = n) := fun n hn h => by
              have EU : Wd.unitsGo ks W 0 W.us = n := by rw [GA.out, if_neg (by rw [h]; exact hn), h]
              rw [WF.out (by rw [EU]; exact hn), EU]
             obtain ⟨x, rfl, hx, hcell⟩ := UC.out (by intro e; rw [e] at hlt; simp at hlt)
             have UX : Hid (x.block < w.heap.size ∧ ∀ (i : Nat) k, W.us[i]? = some k → Unc w (x.add (i * 8)) k) := ⟨hx, hcell⟩
             obtain ⟨d0, d1, d2, d3, d4, d5, d6, d7⟩ := (hcell i u hu).below BR.out (by rw [add_block]; exact hx)
             have x7 := XR.out.c7
             clear hcell hx hu hil
             go_upto_region 23 with fail
             have BA : Hid (Below wr.heap.size wr (wr.alloc (Obj.cells #[.int .i64 u.id, .int .i64 u.player, .int .i64 u.kind, .int .i64 u.at_, .int .i64 u.life, .int .i64 u.load, .int .i64 u.task, .int .i64 u.goal] 44))) := (Below.refl _ _).alloc (Nat.le_refl _) _
             have U5 : Hid (Unc (wr.alloc (Obj.cells #[.int .i64 u.id, .int .i64 u.player, .int .i64 u.kind, .int .i64 u.at_, .int .i64 u.life, .int .i64 u.load, .int .i64 u.task, .int .i64 u.goal] 44)) ⟨wr.heap.size, 0, none⟩ u) := Unc.mk' u rfl
             generalize (wr.alloc (Obj.cells #[.int .i64 u.id, .int .i64 u.player, .int .i64 u.kind, .int .i64 u.at_, .int .i64 u.life, .int .i64 u.load, .int .i64 u.task, .int .i64 u.goal] 44)) = w5 at *
             have B5 : Hid (Below w.heap.size w w5) := BR.out.trans (BA.out.mono BR.out.size)
             have X5 : Hid (Bw w5 w.heap.size W (.slice p1 W.gs.length q1) (.slice p2 W.os.length q2) (.slice p3 W.gold.length q3) (.slice (some x) W.us.length q4) (.slice p5 W.qs.length q5)) := XR.out.below BA.out XR.out.lt
             clear d0 d1 d2 d3 d4 d5 d6 d7 x7 XR BR BA
             obtain ⟨x0, x1, x2, x3, x4, x5, x6, x7, x8⟩ := X5.out
             obtain ⟨y0, y1, y2, y3, y4, y5, y6, y7⟩ := U5.out
             generalize wr.heap.size = zu at *
             simp only [Nat.zero_add] at y1 y2 y3 y4 y5 y6 y7
             by_cases h1 : u.id < 1
             ·have FF : Hid (Wd.wfault ks W = 1) := BAD.out 1 (by decide) (uf1 (decide_eq_false (by omega)))
              go_wp2
              go_ret
              exact ⟨_, rfl, FF.out.symm, B5.out⟩
             ·by_cases h2 : W.next ≤ u.id
              ·have FF : Hid (Wd.wfault ks W = 1) := BAD.out 1 (by decide) (uf1 (decide_eq_false (by omega)))
               go_wp2
               go_ret
               exact ⟨_, rfl, FF.out.symm, B5.out⟩
              ·have HB1 : Hid (decide (1 ≤ u.id ∧ u.id ≤ W.next - 1) = true) := decide_eq_true (by omega)
               obtain ⟨b2, hb2⟩ : ∃ b, Wd.notAbove W.us i u = b := ⟨_, rfl⟩
               have HB2 : Hid (Wd.notAbove W.us i u = b2) := hb2
               go_upto_region 25 with fail
               go_cut [11, 115] from 80 to 230 (fun v11 v115 V => v11 = .int .i64 (i : Nat) ∧ v115 = .bool b2 ∧ Below w5.heap.size w5 V)
               case first =>
                rcases Nat.eq_zero_or_pos i with hi0 | hi0
                ·have g0 : ¬ (0 : Int) < (i : Int) := by omega
                 have hbf : b2 = false := by rw [← hb2, hi0]; rfl
                 subst hbf
                 clear hb2
                 have HI0 : Hid (i = 0) := hi0
                 have hnp : ¬ 0 < i := by omega
                 clear hi0
                 go_quiet (fail)
                 go_wp2
                 go_meet
                 case rel => exact ⟨by first | rfl | rw [HI0.out], rfl, rck_drewN (Below.refl _ _) _⟩
                ·obtain ⟨j, hj⟩ : ∃ j, i = j + 1 := ⟨i - 1, by omega⟩
                 obtain ⟨v, hv⟩ : ∃ v, W.us[j]? = some v := ⟨_, List.getElem?_eq_getElem (by omega)⟩
                 have e0 : (i : Int) - 1 = (j : Nat) := by omega
                 have g0 : (0 : Int) < (i : Int) := by omega
                 have wj : IntKind.i64.wrap ((j : Nat) : Int) = (j : Nat) := by rw [IntKind.wrap_i64]; omega
                 have jl : (j : Int) < (W.us.length : Int) := by omega
                 obtain ⟨d0, -, -, -, -, -, -, -⟩ := (UX.out.2 j v hv).below B5.out (by rw [add_block]; exact UX.out.1)
                 have hb : decide (u.id ≤ v.id) = b2 := by rw [← hb2, hj]; unfold Wd.notAbove; simp only [hv]
                 clear hj hb2 hv
                 cases b2
                 ·have hgt : ¬ u.id ≤ v.id := of_decide_eq_false hb
                  clear hb
                  go_quiet (fail)
                  go_wp2
                  go_meet
                  case rel => exact ⟨by first | rfl | rw [HI0.out], rfl, rck_drewN (Below.refl _ _) _⟩
                 ·have hle : u.id ≤ v.id := of_decide_eq_true hb
                  clear hb
                  go_quiet (fail)
                  go_wp2
                  go_meet
                  case rel => exact ⟨by first | rfl | rw [HI0.out], rfl, rck_drewN (Below.refl _ _) _⟩
               case rest =>
                as_aux_lemma =>
                obtain ⟨rfl, rfl, hbc⟩ := hcut
                have BC : Hid (Below w.heap.size w wc) := B5.out.trans (hbc.mono B5.out.size)
                have XC : Hid (Bw wc w.heap.size W (.slice p1 W.gs.length q1) (.slice p2 W.os.length q2) (.slice p3 W.gold.length q3) (.slice (some x) W.us.length q4) (.slice p5 W.qs.length q5)) := X5.out.below hbc X5.out.lt
                have VC : Hid (Unc wc ⟨zu, 0, none⟩ u) := U5.out.below hbc U5.out.lt
                clear hbc hb2 x0 x1 x2 x3 x4 x5 x6 x7 x8 y0 y1 y2 y3 y4 y5 y6 y7 X5 U5 B5 h1 h2
                obtain ⟨x0, x1, x2, x3, x4, x5, x6, x7, x8⟩ := XC.out
                obtain ⟨y0, y1, y2, y3, y4, y5, y6, y7⟩ := VC.out
                simp only [Nat.zero_add] at y1 y2 y3 y4 y5 y6 y7
                cases b2 with
                | true =>
                 have FF : Hid (Wd.wfault ks W = 5) := BAD.out 5 (by decide) (uf2 HB1.out HB2.out)
                 go_wp2
                 go_ret
                 exact ⟨_, rfl, FF.out.symm, BC.out⟩
                | false =>
                 by_cases h3 : u.player < 0
                 ·have FF : Hid (Wd.wfault ks W = 1) := BAD.out 1 (by decide) (uf3 HB1.out HB2.out (decide_eq_false (by omega)))
                  go_wp2
                  go_ret
                  exact ⟨_, rfl, FF.out.symm, BC.out⟩
                 ·by_cases h4 : (W.gold.length : Int) ≤ u.player
                  ·have FF : Hid (Wd.wfault ks W = 1) := BAD.out 1 (by decide) (uf3 HB1.out HB2.out (decide_eq_false (by omega)))
                   go_wp2
                   go_ret
                   exact ⟨_, rfl, FF.out.symm, BC.out⟩
                  ·have HB3 : Hid (Wd.has W.gold.length u.player = true) := decide_eq_true (by omega)
                   by_cases h5 : u.kind < 0
                   ·have FF : Hid (Wd.wfault ks W = 1) := BAD.out 1 (by decide) (uf4 HB1.out HB2.out HB3.out (decide_eq_false (by omega)))
                    go_wp2
                    go_ret
                    exact ⟨_, rfl, FF.out.symm, BC.out⟩
                   ·by_cases h6 : (ks.length : Int) ≤ u.kind
                    ·have FF : Hid (Wd.wfault ks W = 1) := BAD.out 1 (by decide) (uf4 HB1.out HB2.out HB3.out (decide_eq_false (by omega)))
                     go_wp2
                     go_ret
                     exact ⟨_, rfl, FF.out.symm, BC.out⟩
                    ·have HB4 : Hid (Wd.has ks.length u.kind = true) := decide_eq_true (by omega)
                     obtain ⟨kn, ek⟩ : ∃ kn : Nat, u.kind = kn := ⟨u.kind.toNat, by omega⟩
                     have hkn : kn < ks.length := by omega
                     have hkni : (kn : Int) < (ks.length : Int) := by omega
                     have hkn0 : ¬ (kn : Int) < 0 := by omega
                     obtain ⟨k, hkk⟩ : ∃ k, ks[kn]? = some k := ⟨_, List.getElem?_eq_getElem hkn⟩
                     have UF : Hid (Wd.unitFault ks W i u = Wd.kindPart W (W.us.take i) u k) := uf5 HB1.out HB2.out HB3.out HB4.out (by rw [ek, Int.toNat_natCast]; exact hkk)
                     obtain ⟨xk, rfl, hxk, hkc⟩ := KK.out (by intro e; rw [e] at hkn; simp at hkn)
                     have KC : Hid (Kc wc (xk.add (kn * 11)) k) := (hkc kn k hkk).below BC.out (by rw [add_block]; exact hxk)
                     have EK : Hid (u.kind = kn) := ek
                     rw [ek] at y2
                     obtain ⟨l0, l1, l2, l3, l4, l5, l6, l7, l8, l9, l10⟩ := KC.out
                     clear hkc hxk hkk h5 h6 ek
                     go_upto_region 29 with fail
                     by_cases a1 : u.life < 1
                     ·have FF : Hid (Wd.wfault ks W = 1) := BAD.out 1 (by decide) (by rw [UF.out, kp1 (.inl (by omega))])
                      go_quiet (fail)
                      go_wp2
                      go_ret
                      exact ⟨_, rfl, FF.out.symm, rck_drewN BC.out _⟩
                     ·skip
                      by_cases a2 : k.n0 < u.life
                      ·have FF : Hid (Wd.wfault ks W = 1) := BAD.out 1 (by decide) (by rw [UF.out, kp1 (.inl (by omega))])
                       go_quiet (fail)
                       go_wp2
                       go_ret
                       exact ⟨_, rfl, FF.out.symm, rck_drewN BC.out _⟩
                      ·skip
                       by_cases a3 : u.load < 0
                       ·have FF : Hid (Wd.wfault ks W = 1) := BAD.out 1 (by decide) (by rw [UF.out, kp1 (.inr (.inl (by omega)))])
                        go_quiet (fail)
                        go_wp2
                        go_ret
                        exact ⟨_, rfl, FF.out.symm, rck_drewN BC.out _⟩
                       ·skip
                        by_cases a4 : k.n7 < u.load
                        ·have FF : Hid (Wd.wfault ks W = 1) := BAD.out 1 (by decide) (by rw [UF.out, kp1 (.inr (.inl (by omega)))])
                         go_quiet (fail)
                         go_wp2
                         go_ret
                         exact ⟨_, rfl, FF.out.symm, rck_drewN BC.out _⟩
                        ·skip
                         by_cases a5 : u.task < 0
                         ·have FF : Hid (Wd.wfault ks W = 1) := BAD.out 1 (by decide) (by rw [UF.out, kp1 (.inr (.inr (by omega)))])
                          go_quiet (fail)
                          go_wp2
                          go_ret
                          exact ⟨_, rfl, FF.out.symm, rck_drewN BC.out _⟩
                         ·skip
                          by_cases a6 : (2 : Int) < u.task
                          ·have FF : Hid (Wd.wfault ks W = 1) := BAD.out 1 (by decide) (by rw [UF.out, kp1 (.inr (.inr (by omega)))])
                           go_quiet (fail)
                           go_wp2
                           go_ret
                           exact ⟨_, rfl, FF.out.symm, rck_drewN BC.out _⟩
                          ·skip
                           as_aux_lemma =>
                           have L1 : 1 ≤ u.life ∧ u.life ≤ k.n0 := ⟨by omega, by omega⟩
                           have L2 : 0 ≤ u.load ∧ u.load ≤ k.n7 := ⟨by omega, by omega⟩
                           have L3 : 0 ≤ u.task ∧ u.task ≤ 2 := ⟨by omega, by omega⟩
                           have HL : Hid ((1 ≤ u.life ∧ u.life ≤ k.n0) ∧ (0 ≤ u.load ∧ u.load ≤ k.n7) ∧ (0 ≤ u.task ∧ u.task ≤ 2)) := ⟨L1, L2, L3⟩
                           clear L1 L2 L3
                           go_quiet (fail)
                           have B7 : Hid (Below w.heap.size w (wc.drewN nq)) := rck_drewN BC.out nq
                           have X7 : Hid (Bw (wc.drewN nq) w.heap.size W (.slice p1 W.gs.length q1) (.slice p2 W.os.length q2) (.slice p3 W.gold.length q3) (.slice (some x) W.us.length q4) (.slice p5 W.qs.length q5)) := XC.out.below (rck_drewN (Below.refl _ _) nq) XC.out.lt
                           have U7 : Hid (Unc (wc.drewN nq) ⟨zu, 0, none⟩ u) := VC.out.below (rck_drewN (Below.refl _ _) nq) VC.out.lt
                           have K7 : Hid (Kc (wc.drewN nq) (xk.add (kn * 11)) k) := KC.out.below (rck_drewN (Below.refl _ _) nq) KC.out.lt
                           generalize wc.drewN nq = w7 at *
                           clear x0 x1 x2 x3 x4 x5 x6 x7 x8 y0 y1 y2 y3 y4 y5 y6 y7 l0 l1 l2 l3 l4 l5 l6 l7 l8 l9 l10 a1 a2 a3 a4 a5 a6 BC XC VC KC
                           obtain ⟨x0, x1, x2, x3, x4, x5, x6, x7, x8⟩ := X7.out
                           obtain ⟨y0, y1, y2, y3, y4, y5, y6, y7⟩ := U7.out
                           simp only [Nat.zero_add] at y1 y2 y3 y4 y5 y6 y7
                           by_cases c1 : u.at_ < 0
                           ·have FF : Hid (Wd.wfault ks W = 6) := BAD.out 6 (by decide) (by rw [UF.out, kp6 HL.out.1 HL.out.2.1 HL.out.2.2 (.inl (by omega))])
                            go_wp2
                            go_ret
                            exact ⟨_, rfl, FF.out.symm, B7.out⟩
                           ·skip
                            by_cases c2 : (W.gs.length : Int) ≤ u.at_
                            ·have FF : Hid (Wd.wfault ks W = 6) := BAD.out 6 (by decide) (by rw [UF.out, kp6 HL.out.1 HL.out.2.1 HL.out.2.2 (.inl (by omega))])
                             go_wp2
                             go_ret
                             exact ⟨_, rfl, FF.out.symm, B7.out⟩
                            ·skip
                             by_cases c3 : u.goal < 0
                             ·have FF : Hid (Wd.wfault ks W = 6) := BAD.out 6 (by decide) (by rw [UF.out, kp6 HL.out.1 HL.out.2.1 HL.out.2.2 (.inr (by omega))])
                              go_wp2
                              go_ret
                              exact ⟨_, rfl, FF.out.symm, B7.out⟩
                             ·skip
                              by_cases c4 : (W.gs.length : Int) ≤ u.goal
                              ·have FF : Hid (Wd.wfault ks W = 6) := BAD.out 6 (by decide) (by rw [UF.out, kp6 HL.out.1 HL.out.2.1 HL.out.2.2 (.inr (by omega))])
                               go_wp2
                               go_ret
                               exact ⟨_, rfl, FF.out.symm, B7.out⟩
                              ·skip
                               have L1 : 0 ≤ u.at_ ∧ u.at_ < (W.gs.length : Int) := ⟨by omega, by omega⟩
                               have L2 : 0 ≤ u.goal ∧ u.goal < (W.gs.length : Int) := ⟨by omega, by omega⟩
                               have HM : Hid ((0 ≤ u.at_ ∧ u.at_ < (W.gs.length : Int)) ∧ (0 ≤ u.goal ∧ u.goal < (W.gs.length : Int))) := ⟨L1, L2⟩
                               obtain ⟨an, ea⟩ : ∃ an : Nat, u.at_ = an := ⟨u.at_.toNat, by omega⟩
                               have EA : Hid (u.at_ = an) := ea
                               have hanl : an < W.gs.length := by omega
                               obtain ⟨g, hg0⟩ : ∃ g, W.gs[an]? = some g := ⟨_, List.getElem?_eq_getElem hanl⟩
                               have HGA : Hid (W.gs[an]? = some g) := hg0
                               have GR : Hid (0 ≤ g ∧ g ≤ 3 ∧ W.gs.length ≤ 144) := by
                                have hG := GG.out.2.2
                                obtain ⟨o, ho⟩ : ∃ o, W.os[an]? = some o := ⟨_, List.getElem?_eq_getElem (by rw [hG.ol, ← hG.gl]; exact hanl)⟩
                                have := hG.cell an g o hg0 ho
                                have h1 := hG.gl
                                have h2 := hG.pos
                                exact ⟨by omega, by omega, by omega⟩
                               clear ea hg0
                               as_aux_lemma =>
                               go_upto_region 33 with fail
                               clear L1 L2 c1 c2 c3 c4
                               have FC : Hid (∀ V, Below w7.heap.size w7 V → V.cell? ⟨w.heap.size, 2, none⟩ = some (.int .i64 W.wide) ∧ V.cell? ⟨w.heap.size, 3, none⟩ = some (.int .i64 W.high) ∧ V.cell? ⟨w.heap.size, 4, none⟩ = some (.slice p1 W.gs.length q1) ∧ V.cell? ⟨w.heap.size, 5, none⟩ = some (.slice p2 W.os.length q2) ∧ V.cell? ⟨zu, 3, none⟩ = some (.int .i64 (an : Nat)) ∧ V.cell? ⟨zu, 2, none⟩ = some (.int .i64 (kn : Nat)) ∧ V.cell? ⟨(xk.add (kn * 11)).block, (xk.add (kn * 11)).off + 9, none⟩ = some (.bool k.f)) := fun V hV => by
                                obtain ⟨-, -, z2, z3, z4, z5, -, -, -⟩ := X7.out.below hV X7.out.lt
                                obtain ⟨-, -, g2, g3, -, -, -, -⟩ := U7.out.below hV U7.out.lt
                                obtain ⟨-, -, -, -, -, -, -, -, -, m9, -⟩ := K7.out.below hV K7.out.lt
                                rw [EK.out] at g2
                                rw [EA.out] at g3
                                simp only [Nat.zero_add] at g2 g3
                                exact ⟨z2, z3, z4, z5, g3, g2, m9⟩
                               have ONT : Hid (∀ V, Below w7.heap.size w7 V → Calls Tryz.prog 28 #[.agg #[.int .i64 W.wide, .int .i64 W.high, .slice p1 W.gs.length q1, .slice p2 W.os.length q2], .int .i64 (an : Nat), .bool k.f] V fun e w' => e = .returned (.int .i64 (Fd.onto g k.f)) ∧ Below w7.heap.size w7 w') := fun V hV => by
                                have BV : Below w.heap.size w V := B7.out.trans (hV.mono B7.out.size)
                                obtain ⟨r1, r2, -⟩ := (H.out.below BV).slices
                                exact (ref_onto _ W.wide W.high W.gs W.os an g k.f V ⟨_, _, rfl, r1, r2⟩ GR.out.2.2 HGA.out GR.out.1 GR.out.2.1).mono fun e w' ⟨h1, h2⟩ => ⟨h1, hV.trans (h2.mono hV.size)⟩
                               have eo : ∀ args w, (callFunc 28 args).run Tryz.prog w = .ok (.enter 28 args) w := by intro args w; go_simp
                               refine wp_region_class 11 (fun V => Below w7.heap.size w7 V) (by kernel_rfl) (by kernel_rfl) (Below.refl _ _).drew ?_
                               simp only [List.take_succ_cons, List.take_zero, List.drop_succ_cons, List.drop_zero]
                               refine head_step (.pointer (some ⟨w.heap.size, 2, none⟩)) (by go_simp) (fun V hV => by go_simp) ?_
                               go_simp
                               refine head_step (.agg #[.int .i64 W.wide, .int .i64 W.high, .slice p1 W.gs.length q1, .slice p2 W.os.length q2]) (by go_simp) (fun V hV => by obtain ⟨f2, f3, f4, f5, -⟩ := FC.out V hV; go_simp) ?_
                               go_simp
                               refine head_step (.pointer (some ⟨zu, 3, none⟩)) (by go_simp) (fun V hV => by go_simp) ?_
                               go_simp
                               refine head_step (.int .i64 (an : Nat)) (by go_simp) (fun V hV => by obtain ⟨-, -, -, -, f8, -⟩ := FC.out V hV; go_simp) ?_
                               go_simp
                               refine head_step (.slice (some xk) ks.length qk) (by go_simp) (fun V hV => by go_simp) ?_
                               go_simp
                               refine head_step (.pointer (some ⟨zu, 2, none⟩)) (by go_simp) (fun V hV => by go_simp) ?_
                               go_simp
                               refine head_step (.int .i64 (kn : Nat)) (by go_simp) (fun V hV => by obtain ⟨-, -, -, -, -, f9, -⟩ := FC.out V hV; go_simp) ?_
                               go_simp
                               refine head_step (.pointer (some (xk.add (kn * 11)))) (by go_simp) (fun V hV => by go_simp) ?_
                               go_simp
                               refine head_step (.pointer (some ⟨(xk.add (kn * 11)).block, (xk.add (kn * 11)).off + 9, none⟩)) (by go_simp) (fun V hV => by go_simp) ?_
                               go_simp
                               refine head_step (.bool k.f) (by go_simp) (fun V hV => by obtain ⟨-, -, -, -, -, -, f10⟩ := FC.out V hV; go_simp) ?_
                               go_simp
                               refine head_call (.int .i64 (Fd.onto g k.f)) 28 #[.agg #[.int .i64 W.wide, .int .i64 W.high, .slice p1 W.gs.length q1, .slice p2 W.os.length q2], .int .i64 (an : Nat), .bool k.f] (by go_simp) (fun V hV => by go_simp) (fun V hV => ONT.out V hV) ?_
                               go_simp
                               intro V hV
                               have BV : Hid (Below w.heap.size w V) := B7.out.trans (hV.mono B7.out.size)
                               have XV : Hid (Bw V w.heap.size W (.slice p1 W.gs.length q1) (.slice p2 W.os.length q2) (.slice p3 W.gold.length q3) (.slice (some x) W.us.length q4) (.slice p5 W.qs.length q5)) := X7.out.below hV X7.out.lt
                               have VV : Hid (Unc V ⟨zu, 0, none⟩ u) := U7.out.below hV U7.out.lt
                               obtain ⟨sv, hsv⟩ : ∃ sv, Fd.onto g k.f = sv := ⟨_, rfl⟩
                               have SV : Hid (Fd.onto g k.f = sv ∧ 0 ≤ sv) := ⟨hsv, by rw [← hsv]; exact onto_nonneg _ _⟩
                               rw [hsv]
                               clear hV FC ONT hsv x0 x1 x2 x3 x4 x5 x6 x7 x8 y0 y1 y2 y3 y4 y5 y6 y7 X7 U7 K7 B7
                               obtain ⟨x0, x1, x2, x3, x4, x5, x6, x7, x8⟩ := XV.out
                               obtain ⟨y0, y1, y2, y3, y4, y5, y6, y7⟩ := VV.out
                               simp only [Nat.zero_add] at y1 y2 y3 y4 y5 y6 y7
                               rw [EA.out] at y3
                               go_wp2_with fail
                               refine (ron_any _ W (an : Nat) V (H.out.below BV.out)).mono ?_
                               rintro e w8 ⟨r, rfl, hf, hb8⟩
                               have B8 : Hid (Below w.heap.size w w8) := BV.out.trans (hb8.mono BV.out.size)
                               have X8 : Hid (Bw w8 w.heap.size W (.slice p1 W.gs.length q1) (.slice p2 W.os.length q2) (.slice p3 W.gold.length q3) (.slice (some x) W.us.length q4) (.slice p5 W.qs.length q5)) := XV.out.below hb8 XV.out.lt
                               have U8 : Hid (Unc w8 ⟨zu, 0, none⟩ u) := VV.out.below hb8 VV.out.lt
                               have OF := on_fst HU.out EA.out hf
                               clear hb8 hf x0 x1 x2 x3 x4 x5 x6 x7 x8 y0 y1 y2 y3 y4 y5 y6 y7 XV VV BV
                               obtain ⟨y0, y1, y2, y3, y4, y5, y6, y7⟩ := U8.out
                               simp only [Nat.zero_add] at y1 y2 y3 y4 y5 y6 y7
                               have OP : Hid (Wd.open_ W.gs (W.us.take i) u.at_ k.f = (decide (0 < sv) && !(W.us.take i).any (fun u => u.at_ == (an : Int)))) := by unfold Hid; rw [EA.out, open_of HGA.out, SV.out.1]
                               have KP7 : Hid (Wd.open_ W.gs (W.us.take i) u.at_ k.f = false ∨ (u.goal ≠ 0 ∧ u.task = 0) → Wd.wfault ks W = 7) := fun h => BAD.out 7 (by decide) (by rw [UF.out, kp7 HL.out.1 HL.out.2.1 HL.out.2.2 HM.out.1 HM.out.2 h])
                               by_cases hs0 : sv = 0
                               ·have FF : Hid (Wd.wfault ks W = 7) := KP7.out (.inl (by rw [OP.out, hs0]; rfl))
                                subst hs0
                                clear OF
                                go_wp2
                                go_ret
                                exact ⟨_, rfl, FF.out.symm, B8.out⟩
                               ·have S1 : Hid (decide (0 < sv) = true) := decide_eq_true (by have := SV.out.2; omega)
                                have hsb : (sv == 0) = false := by simpa using hs0
                                clear hs0
                                rcases OF with ⟨n, rfl, hni, hany⟩ | ⟨rfl, hany⟩
                                ·have FF : Hid (Wd.wfault ks W = 7) := KP7.out (.inl (by rw [OP.out, hany]; simp))
                                 have hnii : (n : Int) < (i : Int) := by omega
                                 clear hany
                                 go_wp2
                                 go_ret
                                 exact ⟨_, rfl, FF.out.symm, B8.out⟩
                                ·have OPT : Hid (Wd.open_ W.gs (W.us.take i) u.at_ k.f = true) := by unfold Hid; rw [OP.out, hany, S1.out]; rfl
                                 clear hany
                                 by_cases hgo : u.goal = 0
                                 ·have G2 : Hid (Wd.unitsGo ks W (i + 1) (W.us.drop (i + 1)) = Wd.unitsGo ks W 0 W.us) := by unfold Hid; rw [GA.out, if_pos (by rw [UF.out, kp0 HL.out.1 HL.out.2.1 HL.out.2.2 HM.out.1 HM.out.2 OPT.out (.inl hgo)])]
                                  rw [hgo] at y7
                                  clear hgo
                                  go_wp2
                                  go_roundw
                                  case rel => exact ⟨i + 1, by omega, rfl, G2.out, X8.out, B8.out⟩
                                  case measure => simp [intOf]; omega
                                 ·by_cases hta : u.task = 0
                                  ·have FF : Hid (Wd.wfault ks W = 7) := KP7.out (.inr ⟨hgo, hta⟩)
                                   rw [hta] at y6
                                   clear hta
                                   go_wp2
                                   go_ret
                                   exact ⟨_, rfl, FF.out.symm, B8.out⟩
                                  ·have G2 : Hid (Wd.unitsGo ks W (i + 1) (W.us.drop (i + 1)) = Wd.unitsGo ks W 0 W.us) := by unfold Hid; rw [GA.out, if_pos (by rw [UF.out, kp0 HL.out.1 HL.out.2.1 HL.out.2.2 HM.out.1 HM.out.2 OPT.out (.inr hta)])]
                                   have htb : (u.task == 0) = false := by simpa using hta
                                   clear hta
                                   go_wp2
                                   go_roundw
                                   case rel => exact ⟨i + 1, by omega, rfl, G2.out, X8.out, B8.out⟩
                                   case measure => simp [intOf]; omega
         ·have hlt : i < W.gold.length := by omega
          have hli : (i : Int) < (W.gold.length : Int) := by omega
          obtain ⟨g, hg⟩ : ∃ g, W.gold[i]? = some g := ⟨_, List.getElem?_eq_getElem hlt⟩
          obtain ⟨x, rfl, hx, hcell⟩ := GC.out (by intro e; rw [e] at hlt; simp at hlt)
          have d0 : w2.cell? (x.add i) = some (.int .i64 g) := by rw [B2.out.cell (p := x.add i) (by rw [add_block]; exact hx)]; exact hcell i g hg
          obtain ⟨t3, ht3⟩ : ∃ b, decide (0 ≤ g ∧ g ≤ 1000000) = b := ⟨_, rfl⟩
          have T3 : Hid (decide (0 ≤ g ∧ g ≤ 1000000) = t3) := ht3
          have G3 : Hid (W.gold[i]? = some g) := hg
          clear ht3 hcell hx hg hil
          go_wp2_with fail
          refine (rnumber_q g t3 w2 T3).mono ?_
          rintro e w3 ⟨rfl, hww⟩
          obtain rfl := hww.symm
          cases t3 with
          | false =>
           have FF : Hid (Wd.wfault ks W = 1) := wf_nums HZ.out (nb_gold G3.out T3.out)
           go_wp2
           go_ret
           exact ⟨_, rfl, FF.out.symm, B2.out⟩
          | true =>
           have N2 : Hid ((W.gold.take (i + 1)).any (Wd.off 0) = false) := gany_next G3.out AN.out (by unfold Wd.off; rw [T3.out]; rfl)
           go_wp2
           go_roundw
           case rel => exact ⟨i + 1, by omega, rfl, N2.out, trivial⟩
           case measure => simp [intOf]; omega
  ·have FF : Hid (Wd.wfault ks W = f2) := by unfold Hid; rw [gr_field F1.out (by rw [F2.out]; exact hz), F2.out]
   go_wp2
   go_ret
   exact ⟨_, rfl, FF.out.symm, B2.out⟩
 ·have FF : Hid (Wd.wfault ks W = f1) := by unfold Hid; rw [gr_kinds (by rw [F1.out]; exact hz), F1.out]
  go_wp2
  go_ret
  exact ⟨_, rfl, FF.out.symm, B1.out⟩
end Go.Proofs.YteieikgkmfglaaaGreatDoor
