/- Worlds: Check. · Slices of api.Unit that the call itself makes, by append. · Slices of api.Job that the call itself makes, by append. · A world's nine cells in a block that may be written; worlds that the call itself makes. · a unit that is to be put: what is wrong, and what comes of it. · Worlds with which nothing is wrong, unit by unit and job by job; a unit that is put keeps one right. Plain mathematics. · Kinds that are right: their numbers. · Texts: their lines. Plain mathematics. · api.Order: records in memory. · Orders: what is wrong with them, their text, and back. Plain mathematics. · turn.Give as mathematics: orders that are given one by one, and which are refused. · A unit that is put keeps a world right, and its cell is taken then. Plain mathematics. · A world's ids rise: each is one unit's. Plain mathematics. · Behind orders that are given a world is right. Plain mathematics. · Lines of cells: plain mathematics. · Fields: the place of a cell. · field.Step where no cell is asked for. · Fields: Near and Step. · A land: the cells beside each, and how far it is onto each. · Fields: of all cells at once, those beside, and how far it is onto each. · What every call on a path says first. · A list of integers from which the first is taken, and that is added to at its end. · A block of integers that may be written. · slices.Repeat, of a list of one. · Cells beside one another: plain mathematics. -/
import Derived.Test.YtkejdkajfnaieaaGreatDoorZTurnOrder2
import Derived.Test.YtkejdkajfnaieaaGreatDoorZTurnOrder1
import Derived.OwnWalk
import Derived.Deep.AppendLies
import Derived.Deep.DeepCutAuto
import Derived.ArgAppend
import Derived.Laws.CopyRow
namespace Go.Proofs.YtkejdkajfnaieaaGreatDoor
open Go.RowKit
set_option linter.unusedVariables false

theorem units_all {ks : List KV} {W : WV} : ∀ (l : List UnV) (i : Nat), Wd.unitsGo ks W i l = 0 → ∀ u ∈ l, ∃ j, Wd.unitFault ks W j u = 0
  | [], _, _, u, hu => by cases hu
  | x :: l, i, h, u, hu => by
    unfold Wd.unitsGo at h
    split at h
    · rename_i h0
      rcases List.mem_cons.1 hu with rfl | hu
      · exact ⟨i, h0⟩
      · exact units_all l (i + 1) h u hu
    · rename_i h0
      exact absurd h h0
theorem fault_kind {ks : List KV} {W : WV} {j : Nat} {u : UnV} (h : Wd.unitFault ks W j u = 0) : 0 ≤ u.kind ∧ u.kind < (ks.length : Int) := by
  have : Wd.has ks.length u.kind = true := by
    cases hh : Wd.has ks.length u.kind with
    | true => rfl
    | false =>
      unfold Wd.unitFault at h
      rw [hh] at h
      split at h
      · cases h
      · split at h
        · cases h
        · rw [if_pos (by simp)] at h
          cases h
  exact of_decide_eq_true this
theorem kinds_len {ks : List KV} (h : Kd.kindsFault (ks.map KV.k) = 0) : ks.length ≤ 8 := by
  unfold Kd.kindsFault at h
  split at h
  · cases h
  · rename_i h8
    rw [List.length_map] at h8
    omega
theorem nums_ok {W : WV} (h : Wd.numsBad W = false) : Wd.off 1 W.next = false ∧ W.gold.length ≤ 4 := by
  unfold Wd.numsBad at h
  simp only [Bool.or_eq_false_iff] at h
  obtain ⟨-, h1, h2, -⟩ := h
  refine ⟨h1, ?_⟩
  have : decide (1 ≤ (W.gold.length : Int) ∧ (W.gold.length : Int) ≤ 4) = true := by
    cases hh : decide (1 ≤ (W.gold.length : Int) ∧ (W.gold.length : Int) ≤ 4) with
    | true => rfl
    | false => rw [hh] at h2; cases h2
  have := of_decide_eq_true this
  omega
set_option maxRecDepth 100000 in
set_option maxHeartbeats 16000000 in
theorem wcheck_any (vk vw : Value) (ks : List KV) (W : WV) (w : World) (hk : Kl w vk ks) (hb : ∀ k ∈ ks, k.b.size ≤ 9223372036854775807) (hw : Wl w vw W) :
    Calls Tryz.prog 47 #[vk, vw] w fun e w' => ∃ r, e = .returned r ∧ Er r (Wd.wfault ks W) ∧ Below w.heap.size w w' := by
  have K : Hid (Kl w vk ks ∧ ∀ k ∈ ks, k.b.size ≤ 9223372036854775807) := ⟨hk, hb⟩
  have H : Hid (Wl w vw W) := hw
  obtain ⟨u1, u2, u3, u4, u5, rfl, r1, r2, r3, r4, r5⟩ := hw
  obtain ⟨p1, q1, rfl, -⟩ := r1
  obtain ⟨p2, q2, rfl, -⟩ := r2
  obtain ⟨p3, q3, rfl, -⟩ := r3
  obtain ⟨p4, q4, rfl, -⟩ := r4
  obtain ⟨p5, q5, rfl, k51, k52, k53⟩ := r5
  have JC : Hid (W.qs ≠ [] → ∃ x, p5 = some x ∧ x.block < w.heap.size ∧ ∀ (i : Nat) k, W.qs[i]? = some k → Jbc w (x.add (i * 4)) k) := k53
  clear hk hb k53
  go_enter Tryz.func47, Tryz.ntmps47
  go_wp2_with fail
  have B0 : Hid (Below w.heap.size w (w.alloc (Obj.cells #[.int .i64 W.turn, .int .i64 W.next, .int .i64 W.wide, .int .i64 W.high, .slice p1 W.gs.length q1, .slice p2 W.os.length q2, .slice p3 W.gold.length q3, .slice p4 W.us.length q4, .slice p5 W.qs.length q5] 29))) := (Below.refl _ _).alloc (Nat.le_refl _) _
  have X0 : Hid (Bw (w.alloc (Obj.cells #[.int .i64 W.turn, .int .i64 W.next, .int .i64 W.wide, .int .i64 W.high, .slice p1 W.gs.length q1, .slice p2 W.os.length q2, .slice p3 W.gold.length q3, .slice p4 W.us.length q4, .slice p5 W.qs.length q5] 29)) w.heap.size W (.slice p1 W.gs.length q1) (.slice p2 W.os.length q2) (.slice p3 W.gold.length q3) (.slice p4 W.us.length q4) (.slice p5 W.qs.length q5)) := Bw.mk' W _ _ _ _ _ rfl
  generalize (w.alloc (Obj.cells #[.int .i64 W.turn, .int .i64 W.next, .int .i64 W.wide, .int .i64 W.high, .slice p1 W.gs.length q1, .slice p2 W.os.length q2, .slice p3 W.gold.length q3, .slice p4 W.us.length q4, .slice p5 W.qs.length q5] 29)) = w0 at *
  refine (ground_any _ _ ks W w0 (K.out.1.below B0.out) K.out.2 ⟨_, _, rfl, (H.out.below B0.out).slices.1, (H.out.below B0.out).slices.2.1⟩).mono ?_
  rintro e w1 ⟨r, rfl, hr, hb1⟩
  have B1 : Hid (Below w.heap.size w w1) := B0.out.trans (hb1.mono B0.out.size)
  have X1 : Hid (Bw w1 w.heap.size W (.slice p1 W.gs.length q1) (.slice p2 W.os.length q2) (.slice p3 W.gold.length q3) (.slice p4 W.us.length q4) (.slice p5 W.qs.length q5)) := X0.out.below hb1 X0.out.lt
  clear hb1 X0 B0
  rcases hr with ⟨hz, rfl⟩ | ⟨hz, rfl⟩
  · have HZ : Hid (Wd.ground ks W = 0) := hz
    obtain ⟨x0, x1, x2, x3, x4, x5, x6, x7, x8⟩ := X1.out
    clear hz
    go_wp2_with fail
    refine (numbad_any _ W w1 (H.out.below B1.out)).mono ?_
    rintro e w2 ⟨r, rfl, hr, hb2⟩
    have B2 : Hid (Below w.heap.size w w2) := B1.out.trans (hb2.mono B1.out.size)
    have X2 : Hid (Bw w2 w.heap.size W (.slice p1 W.gs.length q1) (.slice p2 W.os.length q2) (.slice p3 W.gold.length q3) (.slice p4 W.us.length q4) (.slice p5 W.qs.length q5)) := X1.out.below hb2 X1.out.lt
    clear hb2 X1 B1 x0 x1 x2 x3 x4 x5 x6 x7 x8
    rcases hr with ⟨hn, rfl⟩ | ⟨hn, rfl⟩
    · have HN : Hid (Wd.numsBad W = false) := by
        unfold Hid
        unfold numsF at hn
        cases h : Wd.numsBad W with
        | false => rfl
        | true => rw [h] at hn; cases hn
      clear hn
      have x7 := X2.out.c7
      by_cases h40 : 40 < W.us.length
      · have F4 : Hid (Wd.wfault ks W = 4) := by unfold Hid Wd.wfault; rw [if_neg (by rw [HZ.out]; simp), HN.out, if_neg (by simp), if_pos h40]
        have h40i : (40 : Int) < (W.us.length : Int) := by omega
        go_wp2
        go_ret
        exact ⟨_, rfl, by rw [F4.out]; exact Er.no (by decide), B2.out⟩
      · have h40i : ¬ (40 : Int) < (W.us.length : Int) := by omega
        have KL : Hid (ks.length ≤ 8) := by
          have := HZ.out
          unfold Wd.ground at this
          split at this
          · rename_i h0
            exact kinds_len h0
          · rename_i h0
            exact absurd this h0
        have GD : Hid (∃ Wn Hn : Nat, W.wide = Wn ∧ W.high = Hn ∧ Fd.Good Wn Hn W.gs W.os) := by
          have := HZ.out
          unfold Wd.ground at this
          split at this
          · exact Fd.fault_zero this
          · rename_i h0
            exact absurd this h0
        obtain ⟨Wn, Hn, hWn, hHn, hG⟩ := GD.out
        have GG : Hid (W.wide = Wn ∧ W.high = Hn ∧ Fd.Good Wn Hn W.gs W.os) := ⟨hWn, hHn, hG⟩
        have US : Hid (W.us.length ≤ 40) := by unfold Hid; omega
        have WF : Hid (Wd.unitsGo ks W 0 W.us ≠ 0 → Wd.wfault ks W = Wd.unitsGo ks W 0 W.us) := fun hne => by unfold Wd.wfault; rw [if_neg (by rw [HZ.out]; simp), HN.out, if_neg (by simp), if_neg h40, if_pos hne]
        have WG : Hid (Wd.unitsGo ks W 0 W.us = 0 → Wd.wfault ks W = if 12 < W.qs.length then 4 else Wd.jobsGo ks W W.qs) := fun h0 => by unfold Wd.wfault; rw [if_neg (by rw [HZ.out]; simp), HN.out, if_neg (by simp), if_neg h40, if_neg (by rw [h0]; simp)]
        clear hWn hHn hG h40
        go_wp2
        clear x7
        go_loopw [32] (fun iv V => ∃ i : Nat, i ≤ W.us.length ∧ iv = .int .i64 (i : Nat) ∧ Wd.unitsGo ks W i (W.us.drop i) = Wd.unitsGo ks W 0 W.us ∧ Bw V w.heap.size W (.slice p1 W.gs.length q1) (.slice p2 W.os.length q2) (.slice p3 W.gold.length q3) (.slice p4 W.us.length q4) (.slice p5 W.qs.length q5) ∧ Below w.heap.size w V) (fun iv _ => W.us.length - (intOf iv).toNat)
        case atStart => exact ⟨0, Nat.zero_le _, rfl, rfl, X2.out, B2.out⟩
        case round =>
          obtain ⟨i, hi, rfl, hgo, hX, hB⟩ := hrel
          have XR : Hid (Bw wr w.heap.size W (.slice p1 W.gs.length q1) (.slice p2 W.os.length q2) (.slice p3 W.gold.length q3) (.slice p4 W.us.length q4) (.slice p5 W.qs.length q5)) := hX
          have BR : Hid (Below w.heap.size w wr) := hB
          have GO : Hid (Wd.unitsGo ks W i (W.us.drop i) = Wd.unitsGo ks W 0 W.us) := hgo
          clear hX hB hgo X2 B2
          by_cases hil : i = W.us.length
          · have U0 : Hid (Wd.unitsGo ks W 0 W.us = 0) := by unfold Hid; rw [← GO.out, hil, List.drop_length]; rfl
            have x8 := XR.out.c8
            subst hil
            clear hi
            by_cases h12 : 12 < W.qs.length
            · have F4 : Hid (Wd.wfault ks W = 4) := by unfold Hid; rw [WG.out U0.out, if_pos h12]
              have h12i : (12 : Int) < (W.qs.length : Int) := by omega
              go_wp2
              go_ret
              exact ⟨_, rfl, by rw [F4.out]; exact Er.no (by decide), BR.out⟩
            · have h12i : ¬ (12 : Int) < (W.qs.length : Int) := by omega
              have FJ : Hid (Wd.wfault ks W = Wd.jobsGo ks W W.qs) := by unfold Hid; rw [WG.out U0.out, if_neg h12]
              have ALL : Hid (∀ u ∈ W.us, 0 ≤ u.kind ∧ u.kind < (ks.length : Int)) := fun u hu => by
                obtain ⟨j, hj⟩ := units_all W.us 0 U0.out u hu
                exact fault_kind hj
              go_wp2
              clear x8
              go_loopw [51] (fun iv V => ∃ i : Nat, i ≤ W.qs.length ∧ iv = .int .i64 (i : Nat) ∧ Wd.jobsGo ks W (W.qs.drop i) = Wd.jobsGo ks W W.qs ∧ Bw V w.heap.size W (.slice p1 W.gs.length q1) (.slice p2 W.os.length q2) (.slice p3 W.gold.length q3) (.slice p4 W.us.length q4) (.slice p5 W.qs.length q5) ∧ Below w.heap.size w V) (fun iv _ => W.qs.length - (intOf iv).toNat)
              case atStart => exact ⟨0, Nat.zero_le _, rfl, rfl, XR.out, BR.out⟩
              case round =>
                obtain ⟨i, hi, rfl, hgo, hX, hB⟩ := hrel
                have XR : Hid (Bw wr w.heap.size W (.slice p1 W.gs.length q1) (.slice p2 W.os.length q2) (.slice p3 W.gold.length q3) (.slice p4 W.us.length q4) (.slice p5 W.qs.length q5)) := hX
                have BR : Hid (Below w.heap.size w wr) := hB
                have GO : Hid (Wd.jobsGo ks W (W.qs.drop i) = Wd.jobsGo ks W W.qs) := hgo
                clear hX hB hgo
                by_cases hil : i = W.qs.length
                · have J0 : Hid (Wd.wfault ks W = 0) := by unfold Hid; rw [FJ.out, ← GO.out, hil, List.drop_length]; rfl
                  subst hil
                  clear hi
                  go_wp2
                  go_ret
                  exact ⟨_, rfl, by rw [J0.out]; exact Er.nil, BR.out⟩
                · have hlt : i < W.qs.length := by omega
                  have hli : (i : Int) < (W.qs.length : Int) := by omega
                  obtain ⟨j, hj⟩ : ∃ j, W.qs[i]? = some j := ⟨_, List.getElem?_eq_getElem hlt⟩
                  obtain ⟨x, rfl, hx, hcell⟩ := JC.out (by intro e; rw [e] at hlt; simp at hlt)
                  obtain ⟨d0, d1, d2, d3⟩ := (hcell i j hj).below BR.out (by rw [add_block]; exact hx)
                  have GA : Hid (Wd.jobsGo ks W W.qs = if Wd.jobFault ks W j = 0 then Wd.jobsGo ks W (W.qs.drop (i + 1)) else Wd.jobFault ks W j) := by unfold Hid; rw [← GO.out, Wd.jobsGo_at hj]
                  obtain ⟨x0, x1, x2, x3, x4, x5, x6, x7, x8⟩ := XR.out
                  clear hcell hx hj hil
                  go_upto_region 21 with fail
                  have BA : Hid (Below wr.heap.size wr (wr.alloc (Obj.cells #[.int .i64 j.player, .int .i64 j.unit, .int .i64 j.kind, .int .i64 j.left] 104))) := (Below.refl _ _).alloc (Nat.le_refl _) _
                  have J1 : Hid (Jbc (wr.alloc (Obj.cells #[.int .i64 j.player, .int .i64 j.unit, .int .i64 j.kind, .int .i64 j.left] 104)) ⟨wr.heap.size, 0, none⟩ j) := Jbc.mk' j rfl
                  generalize (wr.alloc (Obj.cells #[.int .i64 j.player, .int .i64 j.unit, .int .i64 j.kind, .int .i64 j.left] 104)) = w5 at *
                  have B5 : Hid (Below w.heap.size w w5) := BR.out.trans (BA.out.mono BR.out.size)
                  have X5 : Hid (Bw w5 w.heap.size W (.slice p1 W.gs.length q1) (.slice p2 W.os.length q2) (.slice p3 W.gold.length q3) (.slice p4 W.us.length q4) (.slice (some x) W.qs.length q5)) := XR.out.below BA.out XR.out.lt
                  clear d0 d1 d2 d3 x0 x1 x2 x3 x4 x5 x6 x7 x8 XR BR BA
                  obtain ⟨x0, x1, x2, x3, x4, x5, x6, x7, x8⟩ := X5.out
                  obtain ⟨j0, j1, j2, j3⟩ := J1.out
                  generalize wr.heap.size = zj at *
                  simp only [Nat.zero_add] at j1 j2 j3
                  go_wp2_with fail
                  refine (job_any _ _ ks W j w5 (K.out.1.below B5.out) (H.out.below B5.out) US.out KL.out ALL.out).mono ?_
                  rintro e w6 ⟨r, rfl, hr, hb6⟩
                  have B6 : Hid (Below w.heap.size w w6) := B5.out.trans (hb6.mono B5.out.size)
                  have X6 : Hid (Bw w6 w.heap.size W (.slice p1 W.gs.length q1) (.slice p2 W.os.length q2) (.slice p3 W.gold.length q3) (.slice p4 W.us.length q4) (.slice (some x) W.qs.length q5)) := X5.out.below hb6 X5.out.lt
                  clear hb6 x0 x1 x2 x3 x4 x5 x6 x7 x8 j0 j1 j2 j3 X5 B5 J1
                  rcases hr with ⟨h0, rfl⟩ | ⟨h0, rfl⟩
                  · have G2 : Hid (Wd.jobsGo ks W (W.qs.drop (i + 1)) = Wd.jobsGo ks W W.qs) := by unfold Hid; rw [GA.out, if_pos h0]
                    clear h0
                    go_wp2
                    go_roundw
                    case rel => exact ⟨i + 1, by omega, rfl, G2.out, X6.out, B6.out⟩
                    case measure => simp [intOf]; omega
                  · have FB : Hid (Wd.wfault ks W = Wd.jobFault ks W j) := by unfold Hid; rw [FJ.out, GA.out, if_neg h0]
                    have H0 : Hid (Wd.jobFault ks W j ≠ 0) := h0
                    clear h0
                    go_wp2
                    go_ret
                    exact ⟨_, rfl, by rw [FB.out]; exact Er.no H0.out, B6.out⟩
          · have hlt : i < W.us.length := by omega
            have hli : (i : Int) < (W.us.length : Int) := by omega
            obtain ⟨u, hu⟩ : ∃ u, W.us[i]? = some u := ⟨_, List.getElem?_eq_getElem hlt⟩
            have HU : Hid (W.us[i]? = some u) := hu
            have GA : Hid (Wd.unitsGo ks W 0 W.us = if Wd.unitFault ks W i u = 0 then Wd.unitsGo ks W (i + 1) (W.us.drop (i + 1)) else Wd.unitFault ks W i u) := by unfold Hid; rw [← GO.out, Wd.unitsGo_at hu]
            obtain ⟨x0, x1, x2, x3, x4, x5, x6, x7, x8⟩ := XR.out
            clear hu hil
            go_wp2_with fail
            refine (unit_any _ _ ks W Wn Hn i u wr (K.out.1.below BR.out) (H.out.below BR.out) GG.out.1 GG.out.2.1 GG.out.2.2 HU.out (nums_ok HN.out).1 US.out KL.out (nums_ok HN.out).2).mono ?_
            rintro e w6 ⟨r, rfl, hr, hb6⟩
            have B6 : Hid (Below w.heap.size w w6) := BR.out.trans (hb6.mono BR.out.size)
            have X6 : Hid (Bw w6 w.heap.size W (.slice p1 W.gs.length q1) (.slice p2 W.os.length q2) (.slice p3 W.gold.length q3) (.slice p4 W.us.length q4) (.slice p5 W.qs.length q5)) := XR.out.below hb6 XR.out.lt
            clear hb6 x0 x1 x2 x3 x4 x5 x6 x7 x8 XR BR
            rcases hr with ⟨h0, rfl⟩ | ⟨h0, rfl⟩
            · have G2 : Hid (Wd.unitsGo ks W (i + 1) (W.us.drop (i + 1)) = Wd.unitsGo ks W 0 W.us) := by unfold Hid; rw [GA.out, if_pos h0]
              clear h0
              go_wp2
              go_roundw
              case rel => exact ⟨i + 1, by omega, rfl, G2.out, X6.out, B6.out⟩
              case measure => simp [intOf]; omega
            · have EU : Wd.unitsGo ks W 0 W.us = Wd.unitFault ks W i u := by rw [GA.out, if_neg h0]
              have FB : Hid (Wd.wfault ks W = Wd.unitFault ks W i u) := by unfold Hid; rw [WF.out (by rw [EU]; exact h0), EU]
              have H0 : Hid (Wd.unitFault ks W i u ≠ 0) := h0
              clear h0 EU
              go_wp2
              go_ret
              exact ⟨_, rfl, by rw [FB.out]; exact Er.no H0.out, B6.out⟩
    · have F1 : Hid (Wd.wfault ks W = numsF W) := by
        unfold Hid Wd.wfault
        unfold numsF at hn ⊢
        have hbad : Wd.numsBad W = true := by
          cases h : Wd.numsBad W with
          | true => rfl
          | false => rw [h] at hn; exact absurd rfl hn
        rw [if_neg (by rw [HZ.out]; simp), hbad]
        rfl
      have H0 : Hid (numsF W ≠ 0) := hn
      clear hn
      go_wp2
      go_ret
      exact ⟨_, rfl, by rw [F1.out]; exact Er.no H0.out, B2.out⟩
  · have F1 : Hid (Wd.wfault ks W = Wd.ground ks W) := by unfold Hid Wd.wfault; rw [if_pos hz]
    have H0 : Hid (Wd.ground ks W ≠ 0) := hz
    clear hz
    go_wp2
    go_ret
    exact ⟨_, rfl, by rw [F1.out]; exact Er.no H0.out, B1.out⟩
end Go.Proofs.YtkejdkajfnaieaaGreatDoor

namespace Go.Proofs.YtkejdkajfnaieaaGreatDoor
open Go.RowKit
set_option linter.unusedVariables false

theorem info_un : (Tryz.prog.info? 42).map (fun i => (i.zero, i.size, i.bytes)) = some (some (.agg #[.int .i64 0, .int .i64 0, .int .i64 0, .int .i64 0, .int .i64 0, .int .i64 0, .int .i64 0, .int .i64 0]), 8, 64) := by kernel_rfl
def UnV.cs (k : UnV) : List Value := [.int .i64 k.id, .int .i64 k.player, .int .i64 k.kind, .int .i64 k.at_, .int .i64 k.life, .int .i64 k.load, .int .i64 k.task, .int .i64 k.goal]
theorem flat_un : ∀ (ks : List UnV) (i j : Nat) (k : UnV), ks[i]? = some k → j < 8 → (ks.flatMap UnV.cs)[i * 8 + j]? = k.cs[j]?
  | [], i, j, k, h, _ => by simp at h
  | x :: ks, 0, j, k, h, hj => by
    simp at h
    subst h
    rw [List.flatMap_cons, List.getElem?_append_left (by simp [UnV.cs]; omega)]
    simp
  | x :: ks, i + 1, j, k, h, hj => by
    rw [List.flatMap_cons, List.getElem?_append_right (by simp [UnV.cs]; omega)]
    have : (i + 1) * 8 + j - (UnV.cs x).length = i * 8 + j := by simp [UnV.cs]; omega
    rw [this]
    exact flat_un ks i j k (by simpa using h) hj
/-- v is a slice of them, in a block of its own from base on. -/
def Uno (w : World) (base : Nat) (v : Value) (ks : List UnV) : Prop := w.ownsRow base 42 8 v ks.length (ks.flatMap UnV.cs)
theorem Uno.nil (w : World) (base : Nat) : Uno w base (.slice none 0 0) [] := World.ownsRow_nil _ _ _ _
theorem Uno.below {w w' : World} {base : Nat} {v : Value} {ks : List UnV} (h : Uno w base v ks) (hb : Below w.heap.size w w') : Uno w' base v ks :=
  World.ownsRow.kept h (row := none) ⟨hb.os, hb.tape, hb.output, hb.size, fun k hk _ => hb.block k hk⟩ (by cases v.ownBlock <;> simp)
theorem Uno.kept {w w' : World} {base : Nat} {v : Value} {ks : List UnV} {row : Option Nat} (h : Uno w base v ks) (hg : w.grownBy w' row) (hne : v.ownBlock = none ∨ v.ownBlock ≠ row) : Uno w' base v ks := World.ownsRow.kept h hg hne
theorem Uno.alloc {w : World} {base : Nat} {v : Value} {ks : List UnV} (h : Uno w base v ks) (o : Obj) : Uno (w.alloc o) base v ks := World.ownsRow.alloc h o
theorem Uno.block {w : World} {base : Nat} {v : Value} {ks : List UnV} (h : Uno w base v ks) : ∀ k, v.ownBlock = some k → base ≤ k ∧ k < w.heap.size := World.ownsRow.lt h
theorem Uno.mono {w : World} {base base' : Nat} {v : Value} {ks : List UnV} (h : Uno w base v ks) (hb : base' ≤ base) : Uno w base' v ks := by
  refine ⟨h.1, ?_⟩
  rcases h.2 with h1 | ⟨g, cap, cur, h1, h2, h3⟩
  · exact .inl h1
  · exact .inr ⟨g, cap, cur, h1, Nat.le_trans hb h2, h3⟩
theorem Uno.l {w : World} {base : Nat} {v : Value} {ks : List UnV} (h : Uno w base v ks) : Unl w v ks := by
  rcases h.2 with ⟨hv, h0⟩ | ⟨g, cap, cur, hv, hb, hg, h1, h2, h3, h4⟩
  · exact ⟨none, 0, by rw [hv, h0], by omega, by omega, fun hn => absurd (List.length_eq_zero_iff.1 h0) hn⟩
  · refine ⟨_, cap, hv, h1, by unfold maxLen at h2; omega, fun _ => ⟨_, rfl, lt_of_block hg, fun i k hi => ?_⟩⟩
    have hil : i < ks.length := (List.getElem?_eq_some_iff.1 hi).1
    have h5 : w.ownsRow base 42 8 (.slice (some ⟨g, 0, none⟩) ks.length cap) ks.length (ks.flatMap UnV.cs) := by rw [← hv]; exact h
    have hc : ∀ j u, j < 8 → k.cs[j]? = some u → w.cell? ⟨g, i * 8 + j, none⟩ = some u := fun j u hj hu => by
      rw [h5.cellAt (i * 8 + j) (by omega), flat_un ks i j k hi hj, hu]
    rw [Addr.add_lit, Nat.zero_add]
    exact ⟨hc 0 _ (by decide) rfl, hc 1 _ (by decide) rfl, hc 2 _ (by decide) rfl, hc 3 _ (by decide) rfl, hc 4 _ (by decide) rfl, hc 5 _ (by decide) rfl, hc 6 _ (by decide) rfl, hc 7 _ (by decide) rfl⟩
theorem Uno.len {w : World} {base : Nat} {v : Value} {ks : List UnV} (h : Uno w base v ks) : ∃ a c, v = .slice a ks.length c := by
  obtain ⟨a, c, h1, -⟩ := h.l
  exact ⟨a, c, h1⟩

/-- one more. -/
theorem app_un {ops : Array Oper} {rest : List Oper} {o : Oper} {a : Act} {Q : Exit → Act → World → Prop} (w : World) (hgd : o.guard = none) (s x : Operand)
    (ho : o.op = .call { callee := .builtin .append, args := #[s, x], argTypes := #[26, 26] }) (base : Nat) (v : Value) (ks : List UnV) (hs : a.eval s = v) (hown : Uno w base v ks)
    (b : Nat) (d : UnV) (hx : a.eval x = .slice (some ⟨b, 0, none⟩) 1 1) (hd : Unc w ⟨b, 0, none⟩ d) (hl : ks.length ≤ 1000000000) (hbase : base ≤ w.heap.size)
    (h : ∀ g cap w', Uno w' base (.slice (some ⟨g, 0, none⟩) (ks.length + 1) cap) (ks ++ [d]) → w.grownBy w' v.ownBlock → (v.ownBlock = some g ∨ g = w.heap.size) → g < w'.heap.size → wpList Tryz.prog ops Q rest (a.put o.dst (.slice (some ⟨g, 0, none⟩) (ks.length + 1) cap)) w') :
    wpList Tryz.prog ops Q (o :: rest) a w := by
  obtain ⟨i0, hi, hz0, hz1, hz2⟩ := info_parts info_un
  refine wpList_append_lies w hgd s x 26 ho base 42 i0 (.agg #[.int .i64 0, .int .i64 0, .int .i64 0, .int .i64 0, .int .i64 0, .int .i64 0, .int .i64 0, .int .i64 0]) 8 64 Tryz.underlying26 hi hz0 hz1 hz2 rfl (by decide) v ks.length _ hs hown ⟨b, 0, none⟩ 1 1 d.cs hx rfl ?_ ?_ (by decide) (by unfold maxLen; omega) (by omega) hbase _ rfl ?_
  · intro j u hj
    have hjn : j < 8 := (List.getElem?_eq_some_iff.1 hj).1
    rw [Addr.add_lit, Nat.zero_add]
    match j, hjn, hj with
    | 0, _, hj => simp [UnV.cs] at hj; subst hj; exact hd.c0
    | 1, _, hj => simp [UnV.cs] at hj; subst hj; exact hd.c1
    | 2, _, hj => simp [UnV.cs] at hj; subst hj; exact hd.c2
    | 3, _, hj => simp [UnV.cs] at hj; subst hj; exact hd.c3
    | 4, _, hj => simp [UnV.cs] at hj; subst hj; exact hd.c4
    | 5, _, hj => simp [UnV.cs] at hj; subst hj; exact hd.c5
    | 6, _, hj => simp [UnV.cs] at hj; subst hj; exact hd.c6
    | 7, _, hj => simp [UnV.cs] at hj; subst hj; exact hd.c7
  · intro u hu
    simp [UnV.cs] at hu
    rcases hu with rfl | rfl | rfl | rfl | rfl | rfl | rfl | rfl <;> rfl
  · intro g cap w' h1 h2 h3 h4
    refine h g cap w' ?_ h2 h3 h4
    unfold Uno
    rw [List.length_append, List.flatMap_append]
    simpa using h1
end Go.Proofs.YtkejdkajfnaieaaGreatDoor

namespace Go.Proofs.YtkejdkajfnaieaaGreatDoor
open Go.RowKit
set_option linter.unusedVariables false

theorem info_jb : (Tryz.prog.info? 104).map (fun i => (i.zero, i.size, i.bytes)) = some (some (.agg #[.int .i64 0, .int .i64 0, .int .i64 0, .int .i64 0]), 4, 32) := by kernel_rfl
def JbV.cs (k : JbV) : List Value := [.int .i64 k.player, .int .i64 k.unit, .int .i64 k.kind, .int .i64 k.left]
theorem flat_jb : ∀ (ks : List JbV) (i j : Nat) (k : JbV), ks[i]? = some k → j < 4 → (ks.flatMap JbV.cs)[i * 4 + j]? = k.cs[j]?
  | [], i, j, k, h, _ => by simp at h
  | x :: ks, 0, j, k, h, hj => by
    simp at h
    subst h
    rw [List.flatMap_cons, List.getElem?_append_left (by simp [JbV.cs]; omega)]
    simp
  | x :: ks, i + 1, j, k, h, hj => by
    rw [List.flatMap_cons, List.getElem?_append_right (by simp [JbV.cs]; omega)]
    have : (i + 1) * 4 + j - (JbV.cs x).length = i * 4 + j := by simp [JbV.cs]; omega
    rw [this]
    exact flat_jb ks i j k (by simpa using h) hj
/-- v is a slice of them, in a block of its own from base on. -/
def Jbo (w : World) (base : Nat) (v : Value) (ks : List JbV) : Prop := w.ownsRow base 104 4 v ks.length (ks.flatMap JbV.cs)
theorem Jbo.nil (w : World) (base : Nat) : Jbo w base (.slice none 0 0) [] := World.ownsRow_nil _ _ _ _
theorem Jbo.below {w w' : World} {base : Nat} {v : Value} {ks : List JbV} (h : Jbo w base v ks) (hb : Below w.heap.size w w') : Jbo w' base v ks :=
  World.ownsRow.kept h (row := none) ⟨hb.os, hb.tape, hb.output, hb.size, fun k hk _ => hb.block k hk⟩ (by cases v.ownBlock <;> simp)
theorem Jbo.kept {w w' : World} {base : Nat} {v : Value} {ks : List JbV} {row : Option Nat} (h : Jbo w base v ks) (hg : w.grownBy w' row) (hne : v.ownBlock = none ∨ v.ownBlock ≠ row) : Jbo w' base v ks := World.ownsRow.kept h hg hne
theorem Jbo.alloc {w : World} {base : Nat} {v : Value} {ks : List JbV} (h : Jbo w base v ks) (o : Obj) : Jbo (w.alloc o) base v ks := World.ownsRow.alloc h o
theorem Jbo.block {w : World} {base : Nat} {v : Value} {ks : List JbV} (h : Jbo w base v ks) : ∀ k, v.ownBlock = some k → base ≤ k ∧ k < w.heap.size := World.ownsRow.lt h
theorem Jbo.mono {w : World} {base base' : Nat} {v : Value} {ks : List JbV} (h : Jbo w base v ks) (hb : base' ≤ base) : Jbo w base' v ks := by
  refine ⟨h.1, ?_⟩
  rcases h.2 with h1 | ⟨g, cap, cur, h1, h2, h3⟩
  · exact .inl h1
  · exact .inr ⟨g, cap, cur, h1, Nat.le_trans hb h2, h3⟩
theorem Jbo.l {w : World} {base : Nat} {v : Value} {ks : List JbV} (h : Jbo w base v ks) : Jbl w v ks := by
  rcases h.2 with ⟨hv, h0⟩ | ⟨g, cap, cur, hv, hb, hg, h1, h2, h3, h4⟩
  · exact ⟨none, 0, by rw [hv, h0], by omega, by omega, fun hn => absurd (List.length_eq_zero_iff.1 h0) hn⟩
  · refine ⟨_, cap, hv, h1, by unfold maxLen at h2; omega, fun _ => ⟨_, rfl, lt_of_block hg, fun i k hi => ?_⟩⟩
    have hil : i < ks.length := (List.getElem?_eq_some_iff.1 hi).1
    have h5 : w.ownsRow base 104 4 (.slice (some ⟨g, 0, none⟩) ks.length cap) ks.length (ks.flatMap JbV.cs) := by rw [← hv]; exact h
    have hc : ∀ j u, j < 4 → k.cs[j]? = some u → w.cell? ⟨g, i * 4 + j, none⟩ = some u := fun j u hj hu => by
      rw [h5.cellAt (i * 4 + j) (by omega), flat_jb ks i j k hi hj, hu]
    rw [Addr.add_lit, Nat.zero_add]
    exact ⟨hc 0 _ (by decide) rfl, hc 1 _ (by decide) rfl, hc 2 _ (by decide) rfl, hc 3 _ (by decide) rfl⟩
theorem Jbo.len {w : World} {base : Nat} {v : Value} {ks : List JbV} (h : Jbo w base v ks) : ∃ a c, v = .slice a ks.length c := by
  obtain ⟨a, c, h1, -⟩ := h.l
  exact ⟨a, c, h1⟩

/-- one more. -/
theorem app_jb {ops : Array Oper} {rest : List Oper} {o : Oper} {a : Act} {Q : Exit → Act → World → Prop} (w : World) (hgd : o.guard = none) (s x : Operand)
    (ho : o.op = .call { callee := .builtin .append, args := #[s, x], argTypes := #[27, 27] }) (base : Nat) (v : Value) (ks : List JbV) (hs : a.eval s = v) (hown : Jbo w base v ks)
    (b : Nat) (d : JbV) (hx : a.eval x = .slice (some ⟨b, 0, none⟩) 1 1) (hd : Jbc w ⟨b, 0, none⟩ d) (hl : ks.length ≤ 1000000000) (hbase : base ≤ w.heap.size)
    (h : ∀ g cap w', Jbo w' base (.slice (some ⟨g, 0, none⟩) (ks.length + 1) cap) (ks ++ [d]) → w.grownBy w' v.ownBlock → (v.ownBlock = some g ∨ g = w.heap.size) → g < w'.heap.size → wpList Tryz.prog ops Q rest (a.put o.dst (.slice (some ⟨g, 0, none⟩) (ks.length + 1) cap)) w') :
    wpList Tryz.prog ops Q (o :: rest) a w := by
  obtain ⟨i0, hi, hz0, hz1, hz2⟩ := info_parts info_jb
  refine wpList_append_lies w hgd s x 27 ho base 104 i0 (.agg #[.int .i64 0, .int .i64 0, .int .i64 0, .int .i64 0]) 4 32 Tryz.underlying27 hi hz0 hz1 hz2 rfl (by decide) v ks.length _ hs hown ⟨b, 0, none⟩ 1 1 d.cs hx rfl ?_ ?_ (by decide) (by unfold maxLen; omega) (by omega) hbase _ rfl ?_
  · intro j u hj
    have hjn : j < 4 := (List.getElem?_eq_some_iff.1 hj).1
    rw [Addr.add_lit, Nat.zero_add]
    match j, hjn, hj with
    | 0, _, hj => simp [JbV.cs] at hj; subst hj; exact hd.c0
    | 1, _, hj => simp [JbV.cs] at hj; subst hj; exact hd.c1
    | 2, _, hj => simp [JbV.cs] at hj; subst hj; exact hd.c2
    | 3, _, hj => simp [JbV.cs] at hj; subst hj; exact hd.c3
  · intro u hu
    simp [JbV.cs] at hu
    rcases hu with rfl | rfl | rfl | rfl <;> rfl
  · intro g cap w' h1 h2 h3 h4
    refine h g cap w' ?_ h2 h3 h4
    unfold Jbo
    rw [List.length_append, List.flatMap_append]
    simpa using h1
end Go.Proofs.YtkejdkajfnaieaaGreatDoor

namespace Go.Proofs.YtkejdkajfnaieaaGreatDoor
open Go.RowKit
set_option linter.unusedVariables false

/-- v is a world whose lists are owned from base on. -/
def Wo (w : World) (base : Nat) (v : Value) (W : WV) : Prop := ∃ u1 u2 u3 u4 u5, v = .agg #[.int .i64 W.turn, .int .i64 W.next, .int .i64 W.wide, .int .i64 W.high, u1, u2, u3, u4, u5] ∧ Ow w base u1 W.gs ∧ Ow w base u2 W.os ∧ Ow w base u3 W.gold ∧ Uno w base u4 W.us ∧ Jbo w base u5 W.qs
theorem Wo.l {w : World} {base : Nat} {v : Value} {W : WV} (h : Wo w base v W) : Wl w v W := by
  obtain ⟨u1, u2, u3, u4, u5, h1, h2, h3, h4, h5, h6⟩ := h
  exact ⟨u1, u2, u3, u4, u5, h1, h2.ro, h3.ro, h4.ro, h5.l, h6.l⟩
theorem Wo.below {w w' : World} {base : Nat} {v : Value} {W : WV} (h : Wo w base v W) (hb : Below w.heap.size w w') : Wo w' base v W := by
  obtain ⟨u1, u2, u3, u4, u5, h1, h2, h3, h4, h5, h6⟩ := h
  exact ⟨u1, u2, u3, u4, u5, h1, h2.below hb, h3.below hb, h4.below hb, h5.below hb, h6.below hb⟩
theorem Wo.mono {w : World} {base base' : Nat} {v : Value} {W : WV} (h : Wo w base v W) (hb : base' ≤ base) : Wo w base' v W := by
  obtain ⟨u1, u2, u3, u4, u5, h1, h2, h3, h4, h5, h6⟩ := h
  exact ⟨u1, u2, u3, u4, u5, h1, h2.mono hb, h3.mono hb, h4.mono hb, h5.mono hb, h6.mono hb⟩
theorem owns_kp {z : Nat} {w w' : World} {base : Nat} {T : TypeId} {size : Nat} {u : Value} {n : Nat} {cs : List Value} (h : w.ownsRow base T size u n cs) (k : Kp z w w') (hz : z < base) : w'.ownsRow base T size u n cs := by
  refine ⟨h.1, ?_⟩
  rcases h.2 with h1 | ⟨g, cap, cur, h1, h2, h3, h4⟩
  · exact .inl h1
  · exact .inr ⟨g, cap, cur, h1, h2, (k.block g (lt_of_block h3) (by omega)).trans h3, h4⟩
theorem Ow.kp {z : Nat} {w w' : World} {base : Nat} {u : Value} {xs : List Int} (h : Ow w base u xs) (k : Kp z w w') (hz : z < base) : Ow w' base u xs := owns_kp h k hz
theorem Uno.kp {z : Nat} {w w' : World} {base : Nat} {u : Value} {xs : List UnV} (h : Uno w base u xs) (k : Kp z w w') (hz : z < base) : Uno w' base u xs := owns_kp h k hz
theorem Jbo.kp {z : Nat} {w w' : World} {base : Nat} {u : Value} {xs : List JbV} (h : Jbo w base u xs) (k : Kp z w w') (hz : z < base) : Jbo w' base u xs := owns_kp h k hz
theorem Wo.kp {z : Nat} {w w' : World} {base : Nat} {v : Value} {W : WV} (h : Wo w base v W) (k : Kp z w w') (hz : z < base) : Wo w' base v W := by
  obtain ⟨u1, u2, u3, u4, u5, h1, h2, h3, h4, h5, h6⟩ := h
  exact ⟨u1, u2, u3, u4, u5, h1, h2.kp k hz, h3.kp k hz, h4.kp k hz, h5.kp k hz, h6.kp k hz⟩
/-- they lie in blocks of their own. -/
def Dif (u v : Value) : Prop := ∀ k, u.ownBlock = some k → v.ownBlock ≠ some k
theorem Dif.symm {u v : Value} (h : Dif u v) : Dif v u := fun k h1 h2 => h k h2 h1
theorem Dif.ne {u v : Value} (h : Dif u v) : u.ownBlock = none ∨ u.ownBlock ≠ v.ownBlock := by
  cases e : u.ownBlock with
  | none => exact .inl rfl
  | some k => exact .inr (fun h2 => h k e h2.symm)
theorem Dif.of {u v : Value} {n : Nat} (hu : ∀ k, u.ownBlock = some k → k < n) (hv : ∀ k, v.ownBlock = some k → n ≤ k) : Dif u v := fun k h1 h2 => by have := hu k h1; have := hv k h2; omega
/-- v is a world whose lists are owned from base on, each in a block of its own. -/
def Wi (w : World) (base : Nat) (v : Value) (W : WV) : Prop := ∃ u1 u2 u3 u4 u5, v = .agg #[.int .i64 W.turn, .int .i64 W.next, .int .i64 W.wide, .int .i64 W.high, u1, u2, u3, u4, u5] ∧ (Ow w base u1 W.gs ∧ Ow w base u2 W.os ∧ Ow w base u3 W.gold ∧ Uno w base u4 W.us ∧ Jbo w base u5 W.qs) ∧ Dif u1 u2 ∧ Dif u1 u3 ∧ Dif u1 u4 ∧ Dif u1 u5 ∧ Dif u2 u3 ∧ Dif u2 u4 ∧ Dif u2 u5 ∧ Dif u3 u4 ∧ Dif u3 u5 ∧ Dif u4 u5
theorem Wi.wo {w : World} {base : Nat} {v : Value} {W : WV} (h : Wi w base v W) : Wo w base v W := by
  obtain ⟨u1, u2, u3, u4, u5, h1, ⟨h2, h3, h4, h5, h6⟩, -⟩ := h
  exact ⟨u1, u2, u3, u4, u5, h1, h2, h3, h4, h5, h6⟩
theorem Wi.mono {w : World} {base base' : Nat} {v : Value} {W : WV} (h : Wi w base v W) (hb : base' ≤ base) : Wi w base' v W := by
  obtain ⟨u1, u2, u3, u4, u5, h1, ⟨h2, h3, h4, h5, h6⟩, hd⟩ := h
  exact ⟨u1, u2, u3, u4, u5, h1, ⟨h2.mono hb, h3.mono hb, h4.mono hb, h5.mono hb, h6.mono hb⟩, hd⟩
theorem Wl.kp {z : Nat} {w a w' : World} {v : Value} {W : WV} (h : Wl a v W) (hb : Below a.heap.size a w) (k : Kp z w w') (hz : a.heap.size ≤ z) : Wl w' v W := h.below (k.below hb hb.size hz)

/-- a world's nine cells, in a block of their own. -/
def Wx (w : World) (z : Nat) (c0 c1 c2 c3 c4 c5 c6 c7 c8 : Value) : Prop := w.heap[z]? = some (.cells #[c0, c1, c2, c3, c4, c5, c6, c7, c8] 29 (0, 0))
theorem Wx.lt {w : World} {z : Nat} {c0 c1 c2 c3 c4 c5 c6 c7 c8 : Value} (h : Wx w z c0 c1 c2 c3 c4 c5 c6 c7 c8) : z < w.heap.size := lt_of_block h
theorem Wx.cells {w : World} {z : Nat} {c0 c1 c2 c3 c4 c5 c6 c7 c8 : Value} (h : Wx w z c0 c1 c2 c3 c4 c5 c6 c7 c8) : w.cell? ⟨z, 0, none⟩ = some c0 ∧ w.cell? ⟨z, 1, none⟩ = some c1 ∧ w.cell? ⟨z, 2, none⟩ = some c2 ∧ w.cell? ⟨z, 3, none⟩ = some c3 ∧ w.cell? ⟨z, 4, none⟩ = some c4 ∧ w.cell? ⟨z, 5, none⟩ = some c5 ∧ w.cell? ⟨z, 6, none⟩ = some c6 ∧ w.cell? ⟨z, 7, none⟩ = some c7 ∧ w.cell? ⟨z, 8, none⟩ = some c8 := by
  unfold Wx at h
  refine ⟨?_, ?_, ?_, ?_, ?_, ?_, ?_, ?_, ?_⟩ <;> simp [World.cell?, h]
theorem Wx.thaw {w : World} {z : Nat} {c0 c1 c2 c3 c4 c5 c6 c7 c8 : Value} (h : Wx w z c0 c1 c2 c3 c4 c5 c6 c7 c8) (i : Nat) : w.frozen? ⟨z, i, none⟩ = false := by
  unfold Wx at h
  simp [World.frozen?, h]
theorem Wx.thaws {w : World} {z : Nat} {c0 c1 c2 c3 c4 c5 c6 c7 c8 : Value} (h : Wx w z c0 c1 c2 c3 c4 c5 c6 c7 c8) : w.frozen? ⟨z, 0, none⟩ = false ∧ w.frozen? ⟨z, 1, none⟩ = false ∧ w.frozen? ⟨z, 2, none⟩ = false ∧ w.frozen? ⟨z, 3, none⟩ = false ∧ w.frozen? ⟨z, 4, none⟩ = false ∧ w.frozen? ⟨z, 5, none⟩ = false ∧ w.frozen? ⟨z, 6, none⟩ = false ∧ w.frozen? ⟨z, 7, none⟩ = false ∧ w.frozen? ⟨z, 8, none⟩ = false := ⟨h.thaw 0, h.thaw 1, h.thaw 2, h.thaw 3, h.thaw 4, h.thaw 5, h.thaw 6, h.thaw 7, h.thaw 8⟩
theorem Wx.new {w : World} {z : Nat} (c0 c1 c2 c3 c4 c5 c6 c7 c8 : Value) (hz : w.heap.size = z) : Wx (w.alloc (.cells #[c0, c1, c2, c3, c4, c5, c6, c7, c8] 29)) z c0 c1 c2 c3 c4 c5 c6 c7 c8 := by
  subst hz
  exact heap_alloc_new _ _
theorem Wx.below {w w' : World} {z n : Nat} {c0 c1 c2 c3 c4 c5 c6 c7 c8 : Value} (h : Wx w z c0 c1 c2 c3 c4 c5 c6 c7 c8) (hb : Below n w w') (hn : z < n) : Wx w' z c0 c1 c2 c3 c4 c5 c6 c7 c8 := (hb.block z hn).trans h
theorem Wx.kp {w w' : World} {z y : Nat} {c0 c1 c2 c3 c4 c5 c6 c7 c8 : Value} (h : Wx w z c0 c1 c2 c3 c4 c5 c6 c7 c8) (k : Kp y w w') (hn : z ≠ y) : Wx w' z c0 c1 c2 c3 c4 c5 c6 c7 c8 := (k.block z h.lt hn).trans h
theorem Wx.drew {w : World} {z : Nat} {c0 c1 c2 c3 c4 c5 c6 c7 c8 : Value} (h : Wx w z c0 c1 c2 c3 c4 c5 c6 c7 c8) : Wx w.drew z c0 c1 c2 c3 c4 c5 c6 c7 c8 := h
theorem Wx.set0 {w : World} {z : Nat} {c0 c1 c2 c3 c4 c5 c6 c7 c8 : Value} (h : Wx w z c0 c1 c2 c3 c4 c5 c6 c7 c8) (u : Value) : Wx (w.setCell ⟨z, 0, none⟩ u) z u c1 c2 c3 c4 c5 c6 c7 c8 := by
  exact heap_setCell_same w z 0 _ _ u h
theorem Wx.set1 {w : World} {z : Nat} {c0 c1 c2 c3 c4 c5 c6 c7 c8 : Value} (h : Wx w z c0 c1 c2 c3 c4 c5 c6 c7 c8) (u : Value) : Wx (w.setCell ⟨z, 1, none⟩ u) z c0 u c2 c3 c4 c5 c6 c7 c8 := by
  exact heap_setCell_same w z 1 _ _ u h
theorem Wx.set2 {w : World} {z : Nat} {c0 c1 c2 c3 c4 c5 c6 c7 c8 : Value} (h : Wx w z c0 c1 c2 c3 c4 c5 c6 c7 c8) (u : Value) : Wx (w.setCell ⟨z, 2, none⟩ u) z c0 c1 u c3 c4 c5 c6 c7 c8 := by
  exact heap_setCell_same w z 2 _ _ u h
theorem Wx.set3 {w : World} {z : Nat} {c0 c1 c2 c3 c4 c5 c6 c7 c8 : Value} (h : Wx w z c0 c1 c2 c3 c4 c5 c6 c7 c8) (u : Value) : Wx (w.setCell ⟨z, 3, none⟩ u) z c0 c1 c2 u c4 c5 c6 c7 c8 := by
  exact heap_setCell_same w z 3 _ _ u h
theorem Wx.set4 {w : World} {z : Nat} {c0 c1 c2 c3 c4 c5 c6 c7 c8 : Value} (h : Wx w z c0 c1 c2 c3 c4 c5 c6 c7 c8) (u : Value) : Wx (w.setCell ⟨z, 4, none⟩ u) z c0 c1 c2 c3 u c5 c6 c7 c8 := by
  exact heap_setCell_same w z 4 _ _ u h
theorem Wx.set5 {w : World} {z : Nat} {c0 c1 c2 c3 c4 c5 c6 c7 c8 : Value} (h : Wx w z c0 c1 c2 c3 c4 c5 c6 c7 c8) (u : Value) : Wx (w.setCell ⟨z, 5, none⟩ u) z c0 c1 c2 c3 c4 u c6 c7 c8 := by
  exact heap_setCell_same w z 5 _ _ u h
theorem Wx.set6 {w : World} {z : Nat} {c0 c1 c2 c3 c4 c5 c6 c7 c8 : Value} (h : Wx w z c0 c1 c2 c3 c4 c5 c6 c7 c8) (u : Value) : Wx (w.setCell ⟨z, 6, none⟩ u) z c0 c1 c2 c3 c4 c5 u c7 c8 := by
  exact heap_setCell_same w z 6 _ _ u h
theorem Wx.set7 {w : World} {z : Nat} {c0 c1 c2 c3 c4 c5 c6 c7 c8 : Value} (h : Wx w z c0 c1 c2 c3 c4 c5 c6 c7 c8) (u : Value) : Wx (w.setCell ⟨z, 7, none⟩ u) z c0 c1 c2 c3 c4 c5 c6 u c8 := by
  exact heap_setCell_same w z 7 _ _ u h
theorem Wx.set8 {w : World} {z : Nat} {c0 c1 c2 c3 c4 c5 c6 c7 c8 : Value} (h : Wx w z c0 c1 c2 c3 c4 c5 c6 c7 c8) (u : Value) : Wx (w.setCell ⟨z, 8, none⟩ u) z c0 c1 c2 c3 c4 c5 c6 c7 u := by
  exact heap_setCell_same w z 8 _ _ u h
theorem Wx.put {w : World} {z : Nat} {c0 c1 c2 c3 c4 c5 c6 c7 c8 : Value} (h : Wx w z c0 c1 c2 c3 c4 c5 c6 c7 c8) (e0 e1 e2 e3 e4 e5 e6 e7 e8 : Value) : Wx (((((((((w.setCell ⟨z, 0, none⟩ e0).setCell ⟨z, 1, none⟩ e1).setCell ⟨z, 2, none⟩ e2).setCell ⟨z, 3, none⟩ e3).setCell ⟨z, 4, none⟩ e4).setCell ⟨z, 5, none⟩ e5).setCell ⟨z, 6, none⟩ e6).setCell ⟨z, 7, none⟩ e7).setCell ⟨z, 8, none⟩ e8) z e0 e1 e2 e3 e4 e5 e6 e7 e8 := (((((((((h.set0 e0).set1 e1).set2 e2).set3 e3).set4 e4).set5 e5).set6 e6).set7 e7).set8 e8)
theorem put_kp (w : World) (z : Nat) (e0 e1 e2 e3 e4 e5 e6 e7 e8 : Value) : Kp z w (((((((((w.setCell ⟨z, 0, none⟩ e0).setCell ⟨z, 1, none⟩ e1).setCell ⟨z, 2, none⟩ e2).setCell ⟨z, 3, none⟩ e3).setCell ⟨z, 4, none⟩ e4).setCell ⟨z, 5, none⟩ e5).setCell ⟨z, 6, none⟩ e6).setCell ⟨z, 7, none⟩ e7).setCell ⟨z, 8, none⟩ e8) :=
  ((((((((Kp.set w 0 e0).trans (Kp.set _ 1 e1)).trans (Kp.set _ 2 e2)).trans (Kp.set _ 3 e3)).trans (Kp.set _ 4 e4)).trans (Kp.set _ 5 e5)).trans (Kp.set _ 6 e6)).trans (Kp.set _ 7 e7)).trans (Kp.set _ 8 e8)
/-- lists that may be copied. -/
structure WLen (W : WV) : Prop where
  g : W.gs.length ≤ 100000000
  o : W.os.length ≤ 100000000
  p : W.gold.length ≤ 100000000
  u : W.us.length ≤ 100000000
  q : W.qs.length ≤ 100000000
end Go.Proofs.YtkejdkajfnaieaaGreatDoor

namespace Go.Proofs.YtkejdkajfnaieaaGreatDoor
open Go.RowKit
set_option linter.unusedVariables false

namespace Wd
/-- what is wrong with a unit that is to be put. -/
def placeFault (ks : List KV) (W : WV) (pl kd at_ : Int) : Int :=
  if 40 ≤ (W.us.length : Int) ∨ 1000000 ≤ W.next then 4
  else if ¬ (0 ≤ pl ∧ pl < (W.gold.length : Int)) ∨ ¬ (0 ≤ kd ∧ kd < (ks.length : Int)) then 1
  else if ¬ (0 ≤ at_ ∧ at_ < (W.gs.length : Int)) then 6
  else match ks[kd.toNat]? with
    | some k => if open_ W.gs W.us at_ k.f = false then 7 else 0
    | none => 1
theorem pf4 {ks : List KV} {W : WV} {pl kd at_ : Int} (h : 40 ≤ (W.us.length : Int) ∨ 1000000 ≤ W.next) : placeFault ks W pl kd at_ = 4 := by unfold placeFault; rw [if_pos h]
theorem pf1 {ks : List KV} {W : WV} {pl kd at_ : Int} (h : ¬ (40 ≤ (W.us.length : Int) ∨ 1000000 ≤ W.next)) (h1 : ¬ (0 ≤ pl ∧ pl < (W.gold.length : Int)) ∨ ¬ (0 ≤ kd ∧ kd < (ks.length : Int))) : placeFault ks W pl kd at_ = 1 := by unfold placeFault; rw [if_neg h, if_pos h1]
theorem pf6 {ks : List KV} {W : WV} {pl kd at_ : Int} (h : ¬ (40 ≤ (W.us.length : Int) ∨ 1000000 ≤ W.next)) (h1 : 0 ≤ pl ∧ pl < (W.gold.length : Int)) (h2 : 0 ≤ kd ∧ kd < (ks.length : Int)) (h3 : ¬ (0 ≤ at_ ∧ at_ < (W.gs.length : Int))) : placeFault ks W pl kd at_ = 6 := by unfold placeFault; rw [if_neg h, if_neg (by omega), if_pos h3]
theorem pfk {ks : List KV} {W : WV} {pl kd at_ : Int} {k : KV} (h : ¬ (40 ≤ (W.us.length : Int) ∨ 1000000 ≤ W.next)) (h1 : 0 ≤ pl ∧ pl < (W.gold.length : Int)) (h2 : 0 ≤ kd ∧ kd < (ks.length : Int)) (h3 : 0 ≤ at_ ∧ at_ < (W.gs.length : Int)) (hk : ks[kd.toNat]? = some k) : placeFault ks W pl kd at_ = if open_ W.gs W.us at_ k.f = false then 7 else 0 := by unfold placeFault; rw [if_neg h, if_neg (by omega), if_neg (by omega), hk]
end Wd
structure WRight (ks : List KV) (W : WV) : Prop where
  kinds : Kd.kindsFault (ks.map KV.k) = 0
  good : ∃ Wn Hn : Nat, W.wide = Wn ∧ W.high = Hn ∧ Fd.Good Wn Hn W.gs W.os
  nums : Wd.numsBad W = false
  ul : W.us.length ≤ 40
  units : Wd.unitsGo ks W 0 W.us = 0
  ql : W.qs.length ≤ 12
  jobs : Wd.jobsGo ks W W.qs = 0
theorem wright_of {ks : List KV} {W : WV} (h : Wd.wfault ks W = 0) : WRight ks W := by
  unfold Wd.wfault at h
  by_cases h0 : Wd.ground ks W = 0
  · rw [if_neg (by rw [h0]; simp)] at h
    cases h1 : Wd.numsBad W with
    | true => rw [h1, if_pos rfl] at h; cases h
    | false =>
      rw [h1, if_neg (by simp)] at h
      by_cases h2 : 40 < W.us.length
      · rw [if_pos h2] at h; cases h
      · rw [if_neg h2] at h
        by_cases h3 : Wd.unitsGo ks W 0 W.us = 0
        · rw [if_neg (by rw [h3]; simp)] at h
          by_cases h4 : 12 < W.qs.length
          · rw [if_pos h4] at h; cases h
          · rw [if_neg h4] at h
            unfold Wd.ground at h0
            by_cases h5 : Kd.kindsFault (ks.map KV.k) = 0
            · rw [if_pos h5] at h0
              exact ⟨h5, Fd.fault_zero h0, h1, by omega, h3, by omega, h⟩
            · rw [if_neg h5] at h0; exact absurd h0 h5
        · rw [if_pos h3] at h; exact absurd h h3
  · rw [if_pos h0] at h; exact absurd h h0
theorem WRight.len {ks : List KV} {W : WV} (h : WRight ks W) : WLen W := by
  obtain ⟨Wn, Hn, -, -, G⟩ := h.good
  have h1 := G.pos
  have h2 := G.gl
  have h3 := G.ol
  have h4 := (nums_ok h.nums).2
  have h5 := h.ul
  have h6 := h.ql
  exact ⟨by omega, by omega, by omega, by omega, by omega⟩
namespace Wd
/-- what is told where a unit is put. -/
def putFault (ks : List KV) (W : WV) (pl kd at_ : Int) : Int := if wfault ks W = 0 then placeFault ks W pl kd at_ else wfault ks W
def newUnit (ks : List KV) (W : WV) (pl kd at_ : Int) : UnV := ⟨W.next, pl, kd, at_, (match ks[kd.toNat]? with | some k => k.n0 | none => 0), 0, 0, 0⟩
/-- the world behind it. -/
def put (ks : List KV) (W : WV) (pl kd at_ : Int) : WV := { W with next := W.next + 1, us := W.us ++ [newUnit ks W pl kd at_] }
def placed (ks : List KV) (W : WV) (pl kd at_ : Int) : WV := if putFault ks W pl kd at_ = 0 then put ks W pl kd at_ else WV.zero
end Wd
theorem placed_bad {ks : List KV} {W : WV} {pl kd at_ : Int} (h : Wd.putFault ks W pl kd at_ ≠ 0) : Wd.placed ks W pl kd at_ = WV.zero := by unfold Wd.placed; rw [if_neg h]
theorem placed_ok {ks : List KV} {W : WV} {pl kd at_ : Int} (h : Wd.putFault ks W pl kd at_ = 0) : Wd.placed ks W pl kd at_ = Wd.put ks W pl kd at_ := by unfold Wd.placed; rw [if_pos h]
theorem zero_wo (w : World) (base : Nat) : Wo w base (.agg #[.int .i64 0, .int .i64 0, .int .i64 0, .int .i64 0, .slice none 0 0, .slice none 0 0, .slice none 0 0, .slice none 0 0, .slice none 0 0]) WV.zero := ⟨_, _, _, _, _, rfl, Ow.nil _ _, Ow.nil _ _, Ow.nil _ _, Uno.nil _ _, Jbo.nil _ _⟩
theorem pf_zero {ks : List KV} {W : WV} {pl kd at_ : Int} (h : Wd.placeFault ks W pl kd at_ = 0) : ¬ (40 ≤ (W.us.length : Int) ∨ 1000000 ≤ W.next) ∧ (0 ≤ pl ∧ pl < (W.gold.length : Int)) ∧ (0 ≤ at_ ∧ at_ < (W.gs.length : Int)) ∧ ∃ kn k, kd = ((kn : Nat) : Int) ∧ kn < ks.length ∧ ks[kn]? = some k ∧ Wd.open_ W.gs W.us at_ k.f = true := by
  unfold Wd.placeFault at h
  split at h
  · cases h
  · rename_i h1
    split at h
    · cases h
    · rename_i h2
      split at h
      · cases h
      · rename_i h3
        split at h
        · rename_i k hk
          split at h
          · cases h
          · rename_i h4
            have hl := (List.getElem?_eq_some_iff.1 hk).1
            exact ⟨h1, by omega, by omega, kd.toNat, k, by omega, hl, hk, by simpa using h4⟩
        · cases h
end Go.Proofs.YtkejdkajfnaieaaGreatDoor

namespace Go.Proofs.YtkejdkajfnaieaaGreatDoor
set_option linter.unusedVariables false
namespace Wd

theorem unitsGo_zero {ks : List KV} {W : WV} : ∀ (l : List UnV) (i : Nat), unitsGo ks W i l = 0 ↔ ∀ (j : Nat) (u : UnV), l[j]? = some u → unitFault ks W (i + j) u = 0
  | [], i => by
    constructor
    · intro _ j u h; simp at h
    · intro _; rfl
  | x :: l, i => by
    unfold unitsGo
    constructor
    · intro h
      split at h
      · rename_i h0
        intro j u hj
        cases j with
        | zero => simp at hj; subst hj; exact h0
        | succ j =>
          have := (unitsGo_zero l (i + 1)).1 h j u (by simpa using hj)
          rwa [show i + 1 + j = i + (j + 1) by omega] at this
      · rename_i h0; exact absurd h h0
    · intro h
      rw [if_pos (show unitFault ks W i x = 0 from h 0 x rfl)]
      refine (unitsGo_zero l (i + 1)).2 fun j u hj => ?_
      have := h (j + 1) u (by simpa using hj)
      rwa [show i + (j + 1) = i + 1 + j by omega] at this
theorem jobsGo_zero {ks : List KV} {W : WV} : ∀ (l : List JbV), jobsGo ks W l = 0 ↔ ∀ j ∈ l, jobFault ks W j = 0
  | [] => by
    constructor
    · intro _ j h; cases h
    · intro _; rfl
  | x :: l => by
    unfold jobsGo
    constructor
    · intro h
      split at h
      · rename_i h0
        intro j hj
        rcases List.mem_cons.1 hj with rfl | hj
        · exact h0
        · exact (jobsGo_zero l).1 h j hj
      · rename_i h0; exact absurd h h0
    · intro h
      rw [if_pos (h x (List.mem_cons_self ..))]
      exact (jobsGo_zero l).2 fun j hj => h j (List.mem_cons_of_mem _ hj)
theorem nor1 {a : Bool} (h : ¬ (!a) = true) : a = true := by cases a <;> simp_all
theorem nor2 {a b : Bool} (h : ¬ (!a || !b) = true) : a = true ∧ b = true := by cases a <;> cases b <;> simp_all
theorem nor3 {a b c : Bool} (h : ¬ (!a || (!b || !c)) = true) : a = true ∧ b = true ∧ c = true := by cases a <;> cases b <;> cases c <;> simp_all
theorem nor6 {a b : Bool} (h : ¬ (!a || b) = true) : a = true ∧ b = false := by cases a <;> cases b <;> simp_all
/-- nothing is wrong with a unit. -/
structure UFine (ks : List KV) (W : WV) (i : Nat) (u : UnV) (k : KV) : Prop where
  id1 : 1 ≤ u.id
  id2 : u.id ≤ W.next - 1
  up : notAbove W.us i u = false
  p : 0 ≤ u.player ∧ u.player < (W.gold.length : Int)
  k0 : 0 ≤ u.kind ∧ u.kind < (ks.length : Int)
  kk : ks[u.kind.toNat]? = some k
  life : 1 ≤ u.life ∧ u.life ≤ k.n0
  load : 0 ≤ u.load ∧ u.load ≤ k.n7
  task : 0 ≤ u.task ∧ u.task ≤ 2
  at_ : 0 ≤ u.at_ ∧ u.at_ < (W.gs.length : Int)
  goal : 0 ≤ u.goal ∧ u.goal < (W.gs.length : Int)
  opn : open_ W.gs (W.us.take i) u.at_ k.f = true
  rest : u.goal = 0 ∨ u.task ≠ 0
theorem unit_fine {ks : List KV} {W : WV} {i : Nat} {u : UnV} : unitFault ks W i u = 0 ↔ ∃ k, UFine ks W i u k := by
  constructor
  · intro h
    unfold unitFault at h
    split at h
    · cases h
    rename_i h1
    split at h
    · cases h
    rename_i h2
    split at h
    · cases h
    rename_i h3
    split at h
    · cases h
    rename_i k hk
    unfold kindPart at h
    split at h
    · cases h
    rename_i h4
    split at h
    · cases h
    rename_i h5
    split at h
    · cases h
    rename_i h6
    have g1 := of_decide_eq_true (nor1 h1)
    have g3 := nor2 h3
    have g4 := nor3 h4
    have g5 := nor2 h5
    have g6 := nor6 h6
    refine ⟨k, ⟨g1.1, g1.2, by simpa using h2, of_decide_eq_true g3.1, of_decide_eq_true g3.2, hk, of_decide_eq_true g4.1, of_decide_eq_true g4.2.1, of_decide_eq_true g4.2.2, of_decide_eq_true g5.1, of_decide_eq_true g5.2, g6.1, ?_⟩⟩
    have g7 := g6.2
    simp only [Bool.and_eq_false_iff, bne_eq_false_iff_eq, beq_eq_false_iff_ne] at g7
    exact g7
  · rintro ⟨k, h⟩
    unfold unitFault
    rw [if_neg (by simp [h.id1, h.id2]), if_neg (by simp [h.up]), if_neg (by simp [has, h.p.1, h.p.2, h.k0.1, h.k0.2]), h.kk]
    show kindPart W (W.us.take i) u k = 0
    unfold kindPart
    rw [if_neg (by simp [h.life.1, h.life.2, h.load.1, h.load.2, h.task.1, h.task.2]), if_neg (by simp [has, h.at_.1, h.at_.2, h.goal.1, h.goal.2]), if_neg]
    simp only [h.opn, Bool.not_true, Bool.false_or, Bool.and_eq_true, bne_iff_ne, beq_iff_eq, ne_eq, not_and]
    intro hg ht
    rcases h.rest with h1 | h1
    · exact hg h1
    · exact h1 ht
/-- a world with which nothing is wrong. -/
theorem wfault_zero {ks : List KV} {W : WV} (hk : Kd.kindsFault (ks.map KV.k) = 0) (hf : Fd.fault W.wide W.high W.gs W.os = 0) (hn : numsBad W = false) (hu : W.us.length ≤ 40) (hus : ∀ (i : Nat) (u : UnV), W.us[i]? = some u → ∃ k, UFine ks W i u k) (hq : W.qs.length ≤ 12) (hqs : ∀ j ∈ W.qs, jobFault ks W j = 0) : wfault ks W = 0 := by
  have h1 : ground ks W = 0 := by unfold ground; rw [if_pos hk, hf]
  have h2 : unitsGo ks W 0 W.us = 0 := (unitsGo_zero W.us 0).2 fun j u hj => by rw [Nat.zero_add]; exact unit_fine.2 (hus j u hj)
  unfold wfault
  rw [if_neg (by rw [h1]; simp), hn, if_neg (by simp), if_neg (by omega), if_neg (by rw [h2]; simp), if_neg (by omega)]
  exact (jobsGo_zero W.qs).2 hqs
end Wd
theorem WRight.fine {ks : List KV} {W : WV} (h : WRight ks W) {i : Nat} {u : UnV} (hu : W.us[i]? = some u) : ∃ k, Wd.UFine ks W i u k := by
  have := (Wd.unitsGo_zero W.us 0).1 h.units i u hu
  rw [Nat.zero_add] at this
  exact Wd.unit_fine.1 this
theorem WRight.job {ks : List KV} {W : WV} (h : WRight ks W) {j : JbV} (hj : j ∈ W.qs) : Wd.jobFault ks W j = 0 := (Wd.jobsGo_zero W.qs).1 h.jobs j hj
theorem WRight.zero {ks : List KV} {W : WV} (h : WRight ks W) : Wd.wfault ks W = 0 := by
  obtain ⟨Wn, Hn, e1, e2, G⟩ := h.good
  exact Wd.wfault_zero h.kinds (by rw [e1, e2]; exact Fd.fault_good G) h.nums h.ul (fun i u hu => h.fine hu) h.ql (fun j hj => h.job hj)
end Go.Proofs.YtkejdkajfnaieaaGreatDoor

namespace Go.Proofs.YtkejdkajfnaieaaGreatDoor
open Go.RowKit
set_option linter.unusedVariables false

theorem kgo_nums : ∀ {l acc : List Kd.K}, Kd.kindsGo acc l = 0 → ∀ k ∈ l, Kd.numsFault k.nums = 0
  | [], _, _, k, hk => by simp at hk
  | x :: l, acc, h, k, hk => by
    unfold Kd.kindsGo at h
    split at h
    · rename_i h0
      rcases List.mem_cons.1 hk with rfl | hk
      · unfold Kd.kindFault at h0
        split at h0
        · split at h0
          · omega
          · exact h0
        · omega
      · exact kgo_nums h k hk
    · rename_i h0
      exact absurd h h0
/-- kinds that are right. -/
theorem kinds_right {ks : List KV} (h : Kd.kindsFault (ks.map KV.k) = 0) : ks.length ≤ 8 ∧ ∀ k ∈ ks, 0 ≤ k.n5 ∧ k.n5 ≤ 1000 ∧ 0 < k.n0 ∧ k.n0 ≤ 1000 := by
  unfold Kd.kindsFault at h
  split at h
  · omega
  · rename_i h8
    refine ⟨by simpa using h8, fun k hk => ?_⟩
    have := kgo_nums h k.k (List.mem_map.2 ⟨k, hk, rfl⟩)
    unfold Kd.numsFault at this
    split at this
    · omega
    · rename_i h1
      rw [Bool.not_eq_true, List.any_eq_false] at h1
      have a := h1 k.n0 (by simp [KV.k])
      have b := h1 k.n5 (by simp [KV.k])
      simp only [decide_eq_true_eq] at a b
      split at this
      · omega
      · rename_i h2
        have : (k.k.nums).getD 0 0 = k.n0 := rfl
        omega

end Go.Proofs.YtkejdkajfnaieaaGreatDoor

namespace Go.Proofs.YtkejdkajfnaieaaGreatDoor.Tx

/-- the lines of a text, each with its end, if it has one. -/
def lines : List UInt8 → List (List UInt8)
  | [] => []
  | b :: r => if b = 10 then [10] :: lines r else match lines r with
    | [] => [[b]]
    | w :: ws => (b :: w) :: ws

theorem lines_app : ∀ {w : List UInt8}, (10 : UInt8) ∉ w → ∀ r, lines (w ++ 10 :: r) = (w ++ [10]) :: lines r
  | [], _, r => by simp [lines]
  | b :: w, h, r => by
    rw [List.mem_cons, not_or] at h
    rw [List.cons_append, lines, if_neg (fun e => h.1 e.symm), lines_app h.2 r]
    rfl
theorem lines_word : ∀ {w : List UInt8}, (10 : UInt8) ∉ w → w ≠ [] → lines w = [w]
  | [], _, h => absurd rfl h
  | [b], h, _ => by
    rw [List.mem_cons, not_or] at h
    rw [lines, if_neg (fun e => h.1 e.symm)]
    rfl
  | b :: c :: w, h, _ => by
    rw [List.mem_cons, not_or] at h
    rw [lines, if_neg (fun e => h.1 e.symm), lines_word h.2 (by simp)]
/-- a text has no end of a line, or a first one. -/
theorem first10 : ∀ s : List UInt8, (10 : UInt8) ∉ s ∨ ∃ w r, (10 : UInt8) ∉ w ∧ s = w ++ 10 :: r
  | [] => .inl (by simp)
  | b :: s => by
    by_cases h : b = 10
    · subst h
      exact .inr ⟨[], s, by simp, rfl⟩
    · rcases first10 s with h1 | ⟨w, r, h1, rfl⟩
      · left
        rw [List.mem_cons, not_or]
        exact ⟨fun e => h e.symm, h1⟩
      · right
        refine ⟨b :: w, r, ?_, rfl⟩
        rw [List.mem_cons, not_or]
        exact ⟨fun e => h e.symm, h1⟩
/-- what lines say, by their ends alone: what is read of a text at each end of a line is what is read of its lines. -/
theorem lines_ind {p : List UInt8 → Prop} (h0 : p []) (h1 : ∀ w, (10 : UInt8) ∉ w → w ≠ [] → p w) (h2 : ∀ w r, (10 : UInt8) ∉ w → p r → p (w ++ 10 :: r)) : ∀ s, p s := by
  intro s
  obtain ⟨n, hn⟩ : ∃ n, s.length = n := ⟨_, rfl⟩
  induction n using Nat.strongRecOn generalizing s with
  | ind n ih =>
    rcases first10 s with h | ⟨w, r, h, rfl⟩
    · by_cases e : s = []
      · subst e; exact h0
      · exact h1 s h e
    · refine h2 w r h (ih r.length ?_ r rfl)
      rw [← hn, List.length_append, List.length_cons]
      omega
theorem lines_sum (s : List UInt8) : (lines s).flatten = s := by
  refine lines_ind (p := fun s => (lines s).flatten = s) rfl (fun w h e => ?_) (fun w r h ih => ?_) s
  · rw [lines_word h e]; simp
  · rw [lines_app h, List.flatten_cons, ih]; simp
theorem lines_len {s x : List UInt8} (h : x ∈ lines s) : x.length ≤ s.length := by
  have h1 := lines_sum s
  obtain ⟨a, b, e⟩ := List.append_of_mem h
  rw [e] at h1
  rw [← h1]
  simp
  omega
theorem lines_ne {s x : List UInt8} : x ∈ lines s → x ≠ [] := by
  refine lines_ind (p := fun s => x ∈ lines s → x ≠ []) (fun h => by simp [lines] at h) (fun w h e hx => ?_) (fun w r h ih hx => ?_) s
  · rw [lines_word h e] at hx
    simp at hx
    subst hx
    exact e
  · rw [lines_app h] at hx
    rcases List.mem_cons.1 hx with rfl | hx
    · simp
    · exact ih hx
end Go.Proofs.YtkejdkajfnaieaaGreatDoor.Tx

namespace Go.Proofs.YtkejdkajfnaieaaGreatDoor
open Go.RowKit
set_option linter.unusedVariables false

structure OrV where
  player : Int
  unit : Int
  what : Int
  arg : Int
def OrV.val (k : OrV) : Value := .agg #[.int .i64 k.player, .int .i64 k.unit, .int .i64 k.what, .int .i64 k.arg]
/-- its cells, from an address on. -/
structure Orc (w : World) (y : Addr) (k : OrV) : Prop where
  c0 : w.cell? y = some (.int .i64 k.player)
  c1 : w.cell? ⟨y.block, y.off + 1, none⟩ = some (.int .i64 k.unit)
  c2 : w.cell? ⟨y.block, y.off + 2, none⟩ = some (.int .i64 k.what)
  c3 : w.cell? ⟨y.block, y.off + 3, none⟩ = some (.int .i64 k.arg)
theorem Orc.lt {w : World} {y : Addr} {k : OrV} (h : Orc w y k) : y.block < w.heap.size := cell_lt h.c0
theorem Orc.below {w w' : World} {y : Addr} {k : OrV} {B : Nat} (h : Orc w y k) (hb : Below B w w') (hy : y.block < B) : Orc w' y k :=
  ⟨by rw [hb.cell (p := y) hy]; exact h.c0, by rw [hb.cell (p := ⟨y.block, y.off + 1, none⟩) hy]; exact h.c1, by rw [hb.cell (p := ⟨y.block, y.off + 2, none⟩) hy]; exact h.c2, by rw [hb.cell (p := ⟨y.block, y.off + 3, none⟩) hy]; exact h.c3⟩
/-- v is a slice of them. -/
def Orl (w : World) (v : Value) (ks : List OrV) : Prop := ∃ a c, v = .slice a ks.length c ∧ ks.length ≤ c ∧ c ≤ 9223372036854775807 ∧ (ks ≠ [] → ∃ x, a = some x ∧ x.block < w.heap.size ∧ ∀ (i : Nat) k, ks[i]? = some k → Orc w (x.add (i * 4)) k)
theorem Orl.below {w w' : World} {v : Value} {ks : List OrV} (h : Orl w v ks) (hb : Below w.heap.size w w') : Orl w' v ks := by
  obtain ⟨a, c, h1, h2, h3, h4⟩ := h
  refine ⟨a, c, h1, h2, h3, fun hn => ?_⟩
  obtain ⟨x, e, hx, hk⟩ := h4 hn
  exact ⟨x, e, Nat.lt_of_lt_of_le hx hb.size, fun i k hi => (hk i k hi).below hb (by rw [add_block]; exact hx)⟩
theorem Orc.mk' {w : World} {z : Nat} (k : OrV) (hz : w.heap.size = z) : Orc (w.alloc (.cells #[.int .i64 k.player, .int .i64 k.unit, .int .i64 k.what, .int .i64 k.arg] 40)) ⟨z, 0, none⟩ k := by
  subst hz
  constructor <;> simp
end Go.Proofs.YtkejdkajfnaieaaGreatDoor

namespace Go.Proofs.YtkejdkajfnaieaaGreatDoor.Od
open Tx
set_option linter.unusedVariables false

def bad (o : OrV) : Prop := o.player < 0 ∨ 3 < o.player ∨ o.unit < 0 ∨ 1000000 < o.unit ∨ o.arg < 0 ∨ 1000000 < o.arg ∨ o.what < 0 ∨ 3 < o.what ∨ (o.what = 0 ∧ o.arg ≠ 0)
instance (o : OrV) : Decidable (bad o) := by unfold bad; infer_instance
/-- what is wrong with one. -/
def fault (o : OrV) : Int := if bad o then 1 else 0
theorem fault_bad {o : OrV} (h : bad o) : fault o = 1 := if_pos h
theorem fault_ok {o : OrV} (h : ¬ bad o) : fault o = 0 := if_neg h
/-- what is wrong with some. -/
def faults (l : List OrV) : Int := if 60 < l.length then 4 else if l.any (fun o => decide (bad o)) then 1 else 0

def nStop : List UInt8 := [115, 116, 111, 112]
def nMarch : List UInt8 := [109, 97, 114, 99, 104]
def nGather : List UInt8 := [103, 97, 116, 104, 101, 114]
def nTrain : List UInt8 := [116, 114, 97, 105, 110]
/-- the word for What. -/
def name (n : Int) : List UInt8 := if n = 0 then nStop else if n = 1 then nMarch else if n = 2 then nGather else nTrain
def unname (l : List UInt8) : Option Int := if l = nStop then some 0 else if l = nMarch then some 1 else if l = nGather then some 2 else if l = nTrain then some 3 else none
def words (o : OrV) : List (List UInt8) := dig o.player.toNat :: dig o.unit.toNat :: name o.what :: (if o.what = 0 then [] else [dig o.arg.toNat])
def oline (o : OrV) : List UInt8 := join 32 (words o)
def prt (l : List OrV) : List UInt8 := l.flatMap fun o => oline o ++ [10]

/-- the order of a line's words. -/
def ofWords : List (List UInt8) → Option OrV
  | [a, b, c] => match unname c, whole 7 a, whole 7 b with
    | some n, some x, some y => if n = 0 then some ⟨x, y, 0, 0⟩ else none
    | _, _, _ => none
  | [a, b, c, d] => match unname c, whole 7 a, whole 7 b, whole 7 d with
    | some n, some x, some y, some z => if n = 0 then none else some ⟨x, y, n, z⟩
    | _, _, _, _ => none
  | _ => none
/-- the order of a line: it ends, and has these words. -/
def ofLine (l : List UInt8) : Option OrV := if l.getLast? = some 10 then ofWords (cut 32 l.dropLast) else none
/-- the orders of some lines; else the line, and the fault. -/
def go (acc : List OrV) : List (List UInt8) → (Nat × Int) ⊕ List OrV
  | [] => .inr acc
  | l :: r => match ofLine l with
    | none => .inl (acc.length, 2)
    | some o => if acc.length = 60 then .inl (acc.length, 4) else if fault o = 0 then go (acc ++ [o]) r else .inl (acc.length, fault o)
def parse (s : List UInt8) : (Nat × Int) ⊕ List OrV := go [] (lines s)

theorem unname_name {n : Int} (h0 : 0 ≤ n) (h3 : n ≤ 3) : unname (name n) = some n := by
  rcases (by omega : n = 0 ∨ n = 1 ∨ n = 2 ∨ n = 3) with rfl | rfl | rfl | rfl <;> rfl
theorem name_unname {l : List UInt8} {n : Int} (h : unname l = some n) : name n = l ∧ 0 ≤ n ∧ n ≤ 3 := by
  unfold unname at h
  split at h
  · rename_i e; injection h with h; subst h; exact ⟨e.symm, by decide, by decide⟩
  · split at h
    · rename_i e; injection h with h; subst h; exact ⟨e.symm, by decide, by decide⟩
    · split at h
      · rename_i e; injection h with h; subst h; exact ⟨e.symm, by decide, by decide⟩
      · split at h
        · rename_i e; injection h with h; subst h; exact ⟨e.symm, by decide, by decide⟩
        · cases h
theorem ok_of {o : OrV} (h : ¬ bad o) : 0 ≤ o.player ∧ o.player ≤ 3 ∧ 0 ≤ o.unit ∧ o.unit ≤ 1000000 ∧ 0 ≤ o.arg ∧ o.arg ≤ 1000000 ∧ 0 ≤ o.what ∧ o.what ≤ 3 ∧ (o.what = 0 → o.arg = 0) := by
  unfold bad at h
  omega
theorem name_free (n : Int) (c : UInt8) (h : c.toNat < 97) : c ∉ name n := by
  unfold name
  have : ∀ l : List UInt8, (l.all fun b => decide (97 ≤ b.toNat)) = true → c ∉ l := fun l hl hm => by
    have := List.all_eq_true.1 hl c hm
    simp at this
    omega
  split
  · exact this _ (by decide)
  · split
    · exact this _ (by decide)
    · split
      · exact this _ (by decide)
      · exact this _ (by decide)
theorem words_free (o : OrV) (c : UInt8) (hc : c.toNat < 48) : ∀ w ∈ words o, c ∉ w := by
  intro w hw
  unfold words at hw
  simp only [List.mem_cons] at hw
  rcases hw with rfl | rfl | rfl | hw
  · exact dig_free _ c hc
  · exact dig_free _ c hc
  · exact name_free _ c (by omega)
  · split at hw
    · simp at hw
    · simp at hw
      subst hw
      exact dig_free _ c hc
theorem mem_join {c d : UInt8} : ∀ {ws : List (List UInt8)}, d ∈ join c ws → d = c ∨ ∃ w ∈ ws, d ∈ w
  | [], h => by simp [join] at h
  | [w], h => .inr ⟨w, List.mem_cons_self .., h⟩
  | w :: v :: ws, h => by
    rw [join_cons (by simp), List.mem_append, List.mem_cons] at h
    rcases h with h | h | h
    · exact .inr ⟨w, List.mem_cons_self .., h⟩
    · exact .inl h
    · rcases mem_join h with h | ⟨x, hx, hd⟩
      · exact .inl h
      · exact .inr ⟨x, List.mem_cons_of_mem _ hx, hd⟩
theorem oline_free (o : OrV) : (10 : UInt8) ∉ oline o := by
  intro h
  rcases mem_join h with h | ⟨w, hw, hd⟩
  · revert h; decide
  · exact words_free o 10 (by decide) w hw hd
theorem whole7 {n : Int} (h0 : 0 ≤ n) (h : n ≤ 1000000) : whole 7 (dig n.toNat) = some n.toNat := whole_dig (by decide) (by show n.toNat < 10000000; omega)
theorem ofWords_words {o : OrV} (h : ¬ bad o) : ofWords (words o) = some o := by
  obtain ⟨p, u, n, a⟩ := o
  obtain ⟨h1, h2, h3, h4, h5, h6, h7, h8, h9⟩ := ok_of h
  simp only at *
  have e1 := whole7 h1 (by omega)
  have e2 := whole7 h3 h4
  have e3 := whole7 h5 h6
  have e4 := unname_name h7 h8
  by_cases hn : n = 0
  · subst hn
    have ha := h9 rfl
    subst ha
    show ofWords [dig p.toNat, dig u.toNat, name 0] = _
    simp only [ofWords, e4, e1, e2]
    simp
    omega
  · have : words ⟨p, u, n, a⟩ = [dig p.toNat, dig u.toNat, name n, dig a.toNat] := by
      unfold words
      simp [hn]
    rw [this]
    simp only [ofWords, e4, e1, e2, e3]
    simp [hn]
    omega
theorem words_ofWords {ws : List (List UInt8)} {o : OrV} (h : ofWords ws = some o) : words o = ws := by
  match ws, h with
  | [], h => simp [ofWords] at h
  | [a], h => simp [ofWords] at h
  | [a, b], h => simp [ofWords] at h
  | [a, b, c], h =>
    simp only [ofWords] at h
    cases h1 : unname c with
    | none => rw [h1] at h; simp at h
    | some n =>
      cases h2 : whole 7 a with
      | none => rw [h2] at h; simp at h
      | some x =>
        cases h3 : whole 7 b with
        | none => rw [h3] at h; simp at h
        | some y =>
          rw [h1, h2, h3] at h
          by_cases hn : n = 0
          · subst hn
            simp at h
            subst h
            have e := (name_unname h1).1
            show [dig (x : Int).toNat, dig (y : Int).toNat, name 0] = [a, b, c]
            rw [Int.toNat_natCast, Int.toNat_natCast, dig_whole h2, dig_whole h3, e]
          · simp [hn] at h
  | [a, b, c, d], h =>
    simp only [ofWords] at h
    cases h1 : unname c with
    | none => rw [h1] at h; simp at h
    | some n =>
      cases h2 : whole 7 a with
      | none => rw [h2] at h; simp at h
      | some x =>
        cases h3 : whole 7 b with
        | none => rw [h3] at h; simp at h
        | some y =>
          cases h4 : whole 7 d with
          | none => rw [h4] at h; simp at h
          | some z =>
            rw [h1, h2, h3, h4] at h
            simp only at h
            split at h
            · cases h
            · rename_i hn
              injection h with h
              subst h
              have e := (name_unname h1).1
              unfold words
              simp only [if_neg hn]
              rw [Int.toNat_natCast, Int.toNat_natCast, Int.toNat_natCast, dig_whole h2, dig_whole h3, dig_whole h4, e]
  | a :: b :: c :: d :: e :: r, h => simp [ofWords] at h
theorem ofLine_end (l : List UInt8) : ofLine (l ++ [10]) = ofWords (cut 32 l) := by
  unfold ofLine
  simp
theorem ofLine_open {l : List UInt8} (h : (10 : UInt8) ∉ l) : ofLine l = none := by
  unfold ofLine
  rw [if_neg]
  intro e
  exact h (List.mem_of_getLast? e)
theorem lines_prt : ∀ l : List OrV, lines (prt l) = l.map fun o => oline o ++ [10]
  | [] => rfl
  | o :: l => by
    show lines ((oline o ++ [10]) ++ prt l) = _
    rw [List.append_assoc]
    show lines (oline o ++ 10 :: prt l) = _
    rw [lines_app (oline_free o), lines_prt l]
    rfl
theorem go_lines : ∀ {l acc : List OrV}, (∀ o ∈ l, ¬ bad o) → acc.length + l.length ≤ 60 → go acc (l.map fun o => oline o ++ [10]) = .inr (acc ++ l)
  | [], acc, _, _ => by simp [go]
  | o :: l, acc, h, hn => by
    have ho := h o (List.mem_cons_self ..)
    have e : cut 32 (oline o) = words o := cut_join (by simp [words]) (words_free o 32 (by decide))
    simp only [List.length_cons] at hn
    rw [List.map_cons, go, ofLine_end, e, ofWords_words ho]
    simp only
    rw [if_neg (by omega), if_pos (fault_ok ho), go_lines (fun x hx => h x (List.mem_cons_of_mem _ hx)) (by simp; omega)]
    simp
theorem faults_ok {l : List OrV} (h : faults l = 0) : l.length ≤ 60 ∧ ∀ o ∈ l, ¬ bad o := by
  unfold faults at h
  split at h
  · omega
  · split at h
    · omega
    · rename_i h1 h2
      rw [Bool.not_eq_true, List.any_eq_false] at h2
      exact ⟨by omega, fun o ho => by simpa using h2 o ho⟩
theorem faults_of {l : List OrV} (h : l.length ≤ 60) (hb : ∀ o ∈ l, ¬ bad o) : faults l = 0 := by
  unfold faults
  rw [if_neg (by omega), if_neg]
  rw [Bool.not_eq_true, List.any_eq_false]
  intro o ho
  simpa using hb o ho
/-- what is printed is read as it was. -/
theorem parse_prt {l : List OrV} (h : faults l = 0) : parse (prt l) = .inr l := by
  obtain ⟨h1, h2⟩ := faults_ok h
  unfold parse
  rw [lines_prt, go_lines h2 (by simpa using h1)]
  rfl
theorem go_back : ∀ {ls : List (List UInt8)} {acc l : List OrV}, go acc ls = .inr l → acc.length ≤ 60 → ∃ l', l = acc ++ l' ∧ prt l' = ls.flatten ∧ l.length ≤ 60 ∧ ∀ o ∈ l', ¬ bad o
  | [], acc, l, h, ha => by
    unfold go at h
    injection h with h
    subst h
    exact ⟨[], by simp, rfl, ha, by simp⟩
  | x :: r, acc, l, h, ha => by
    unfold go at h
    split at h
    · cases h
    · rename_i o ho
      split at h
      · cases h
      · rename_i h60
        split at h
        · rename_i h0
          obtain ⟨l', e1, e2, e3, e4⟩ := go_back h (by simp; omega)
          refine ⟨o :: l', by rw [e1]; simp, ?_, e3, ?_⟩
          · show (oline o ++ [10]) ++ prt l' = _
            unfold ofLine at ho
            split at ho
            · rename_i hx
              have hw := words_ofWords ho
              have : oline o = x.dropLast := by unfold oline; rw [hw, join_cut]
              obtain ⟨ys, hy⟩ := List.getLast?_eq_some_iff.1 hx
              rw [List.flatten_cons, e2, this, hy]
              simp
            · cases ho
          · intro y hy
            rcases List.mem_cons.1 hy with rfl | hy
            · intro hb
              rw [fault_bad hb] at h0
              omega
            · exact e4 y hy
        · cases h
/-- what any text is read as is printed as that text. -/
theorem prt_parse {s : List UInt8} {l : List OrV} (h : parse s = .inr l) : prt l = s ∧ faults l = 0 := by
  unfold parse at h
  obtain ⟨l', e1, e2, e3, e4⟩ := go_back h (by simp)
  rw [List.nil_append] at e1
  subst e1
  exact ⟨by rw [e2, lines_sum], faults_of e3 e4⟩

/-- the same, at each end of a line: what the document's way gives. -/
def goCut (acc : List OrV) : List (List UInt8) → (Nat × Int) ⊕ List OrV
  | [] => .inr acc
  | [w] => if w = [] then .inr acc else .inl (acc.length, 2)
  | w :: v :: r => match ofWords (cut 32 w) with
    | none => .inl (acc.length, 2)
    | some o => if acc.length = 60 then .inl (acc.length, 4) else if fault o = 0 then goCut (acc ++ [o]) (v :: r) else .inl (acc.length, fault o)
theorem goCut_go (s : List UInt8) : ∀ acc, goCut acc (cut 10 s) = go acc (lines s) := by
  refine lines_ind (p := fun s => ∀ acc, goCut acc (cut 10 s) = go acc (lines s)) (fun acc => rfl) (fun w h e acc => ?_) (fun w r h ih acc => ?_) s
  · rw [cut_word h, lines_word h e]
    unfold goCut go
    rw [if_neg e, ofLine_open h]
  · rw [cut_app h, lines_app h]
    cases hc : cut 10 r with
    | nil => exact absurd hc (cut_ne 10 r)
    | cons v vs =>
      unfold goCut go
      rw [ofLine_end]
      cases ofWords (cut 32 w) with
      | none => rfl
      | some o =>
        simp only
        rw [← ih, hc]
end Go.Proofs.YtkejdkajfnaieaaGreatDoor.Od

namespace Go.Proofs.YtkejdkajfnaieaaGreatDoor
set_option linter.unusedVariables false

/-- the unit that is asked. -/
def askU (o : OrV) (u : UnV) : Bool := decide (u.id = o.unit ∧ u.player = o.player)
def priceOf (ks : List KV) (a : Int) : Int := match ks[a.toNat]? with | some k => k.n5 | none => 0
def turnsOf (ks : List KV) (a : Int) : Int := match ks[a.toNat]? with | some k => k.n6 | none => 0
/-- can it be? -/
def mayB (ks : List KV) (Y : WV) (k : KV) (o : OrV) : Bool :=
  if o.what = 1 then decide (o.arg < (Y.gs.length : Int) ∧ 0 < Fd.onto (Y.gs.getD o.arg.toNat 0) k.f)
  else if o.what = 2 then decide (o.arg < (Y.os.length : Int) ∧ 0 < Y.os.getD o.arg.toNat 0 ∧ 0 < k.n7)
  else if o.what = 3 then decide (k.t = true ∧ o.arg < (ks.length : Int) ∧ priceOf ks o.arg ≤ Y.gold.getD o.player.toNat 0 ∧ Y.qs.length < 12)
  else true
def sentU (o : OrV) (u : UnV) : UnV := { u with task := o.what, goal := o.arg }
def hired (ks : List KV) (Y : WV) (o : OrV) : WV := { Y with gold := Y.gold.set o.player.toNat (Y.gold.getD o.player.toNat 0 - priceOf ks o.arg), qs := Y.qs ++ [⟨o.player, o.unit, o.arg, max (turnsOf ks o.arg) 1⟩] }
def sentW (Y : WV) (i : Nat) (u : UnV) (o : OrV) : WV := { Y with us := Y.us.set i (sentU o u) }
/-- an order that is given; none: it is refused. -/
def given1 (ks : List KV) (Y : WV) (o : OrV) : Option WV :=
  match Y.us.findIdx? (askU o) with
  | none => none
  | some i => match Y.us[i]? with
    | none => none
    | some u => match ks[u.kind.toNat]? with
      | none => none
      | some k => if mayB ks Y k o = true then some (if o.what = 3 then hired ks Y o else sentW Y i u o) else none
/-- the first q of them, given one by one. -/
def gv (ks : List KV) (Y : WV) (out : List OrV) : Nat → WV × List Int
  | 0 => (Y, [])
  | q + 1 => match out[q]? with
    | none => gv ks Y out q
    | some o => match given1 ks (gv ks Y out q).1 o with
      | some Z => (Z, (gv ks Y out q).2)
      | none => ((gv ks Y out q).1, (gv ks Y out q).2 ++ [(q : Int)])
theorem gv_yes {ks : List KV} {Y Z : WV} {out : List OrV} {q : Nat} {o : OrV} (ho : out[q]? = some o) (h : given1 ks (gv ks Y out q).1 o = some Z) : gv ks Y out (q + 1) = (Z, (gv ks Y out q).2) := by
  rw [gv]; simp only [ho, h]
theorem gv_no {ks : List KV} {Y : WV} {out : List OrV} {q : Nat} {o : OrV} (ho : out[q]? = some o) (h : given1 ks (gv ks Y out q).1 o = none) : gv ks Y out (q + 1) = ((gv ks Y out q).1, (gv ks Y out q).2 ++ [(q : Int)]) := by
  rw [gv]; simp only [ho, h]
theorem ask_none {us : List UnV} {o : OrV} (h : us.any (askU o) = false) : us.findIdx? (askU o) = none := by
  rw [List.findIdx?_eq_none_iff]
  intro x hx
  rw [List.any_eq_false] at h
  have := h x hx
  simpa using this
theorem ask_some {us : List UnV} {o : OrV} {i : Nat} {u : UnV} (hu : us[i]? = some u) (hp : askU o u = true) (hn : (us.take i).any (askU o) = false) : us.findIdx? (askU o) = some i := by
  rw [List.findIdx?_eq_some_iff_getElem]
  obtain ⟨hi, e⟩ := List.getElem?_eq_some_iff.1 hu
  refine ⟨hi, by rw [e]; exact hp, fun j hj => ?_⟩
  rw [List.any_eq_false] at hn
  have hjl : j < us.length := by omega
  have : us[j] ∈ us.take i := by
    rw [List.mem_take_iff_getElem]
    exact ⟨j, by omega, rfl⟩
  have := hn _ this
  simpa using this
/-- what must hold for orders to be given. -/
structure GFit (ks : List KV) (Y : WV) : Prop where
  good : ∃ Wn Hn : Nat, Y.wide = Wn ∧ Y.high = Hn ∧ Fd.Good Wn Hn Y.gs Y.os
  units : ∀ u ∈ Y.us, (∃ kn : Nat, ∃ k, u.kind = kn ∧ ks[kn]? = some k) ∧ ∃ pn : Nat, u.player = pn ∧ pn < Y.gold.length
  gold : ∀ g ∈ Y.gold, 0 ≤ g ∧ g ≤ 1000000
  kinds : ks.length ≤ 8 ∧ ∀ k ∈ ks, 0 ≤ k.n5 ∧ k.n5 ≤ 1000 ∧ 0 ≤ k.n6 ∧ k.n6 ≤ 1000
  ul : Y.us.length ≤ 40
  ql : Y.qs.length ≤ 12
  gl : Y.gold.length ≤ 4
theorem kinds_turns {ks : List KV} (h : Kd.kindsFault (ks.map KV.k) = 0) : ∀ k ∈ ks, 0 ≤ k.n6 ∧ k.n6 ≤ 1000 := by
  intro k hk
  unfold Kd.kindsFault at h
  split at h
  · omega
  · have h2 := kgo_nums h k.k (List.mem_map.2 ⟨k, hk, rfl⟩)
    unfold Kd.numsFault at h2
    split at h2
    · omega
    · rename_i h3
      rw [Bool.not_eq_true, List.any_eq_false] at h3
      have := h3 k.n6 (by simp [KV.k])
      simp only [decide_eq_true_eq] at this
      omega
theorem gold_in {Y : WV} (h : Wd.numsBad Y = false) : (∀ g ∈ Y.gold, 0 ≤ g ∧ g ≤ 1000000) ∧ Y.gold.length ≤ 4 := by
  unfold Wd.numsBad at h
  simp only [Bool.or_eq_false_iff] at h
  obtain ⟨-, -, h3, h4⟩ := h
  refine ⟨fun g hg => ?_, ?_⟩
  · rw [List.any_eq_false] at h4
    have := h4 g hg
    unfold Wd.off at this
    simp at this
    exact this
  · simp at h3
    omega
theorem WRight.gfit {ks : List KV} {Y : WV} (h : WRight ks Y) : GFit ks Y := by
  have kr := kinds_right h.kinds
  have kt := kinds_turns h.kinds
  have gi := gold_in h.nums
  refine ⟨h.good, fun u hu => ?_, gi.1, ⟨kr.1, fun k hk => ⟨(kr.2 k hk).1, (kr.2 k hk).2.1, (kt k hk).1, (kt k hk).2⟩⟩, h.ul, h.ql, gi.2⟩
  obtain ⟨i, hi⟩ := List.mem_iff_getElem?.1 hu
  obtain ⟨k, F⟩ := h.fine hi
  exact ⟨⟨u.kind.toNat, k, by have := F.k0; omega, F.kk⟩, ⟨u.player.toNat, by have := F.p; omega, by have := F.p; omega⟩⟩
theorem GFit.sent {ks : List KV} {Y : WV} (h : GFit ks Y) {i : Nat} {u : UnV} (hu : Y.us[i]? = some u) (o : OrV) : GFit ks (sentW Y i u o) := by
  refine ⟨h.good, fun x hx => ?_, h.gold, h.kinds, by simpa [sentW] using h.ul, h.ql, h.gl⟩
  rcases List.mem_or_eq_of_mem_set hx with hx | rfl
  · exact h.units x hx
  · exact h.units u (List.mem_of_getElem? hu)
theorem GFit.hire {ks : List KV} {Y : WV} (h : GFit ks Y) {o : OrV} (hp : priceOf ks o.arg ≤ Y.gold.getD o.player.toNat 0) (hpl : o.player.toNat < Y.gold.length) (hq : Y.qs.length < 12) : GFit ks (hired ks Y o) := by
  have pr : 0 ≤ priceOf ks o.arg := by
    unfold priceOf
    split
    · rename_i k hk
      exact (h.kinds.2 k (List.mem_of_getElem? hk)).1
    · omega
  refine ⟨h.good, fun x hx => ?_, fun g hg => ?_, h.kinds, h.ul, by simp [hired]; omega, by simpa [hired] using h.gl⟩
  · obtain ⟨a, pn, b, c⟩ := h.units x hx
    exact ⟨a, pn, b, by simpa [hired] using c⟩
  · rcases List.mem_or_eq_of_mem_set hg with hg | rfl
    · exact h.gold g hg
    · have : Y.gold.getD o.player.toNat 0 ∈ Y.gold := by
        rw [List.getD_eq_getElem?_getD, List.getElem?_eq_getElem hpl]
        exact List.getElem_mem hpl
      have := h.gold _ this
      omega
end Go.Proofs.YtkejdkajfnaieaaGreatDoor

namespace Go.Proofs.YtkejdkajfnaieaaGreatDoor
set_option linter.unusedVariables false

theorem kind_nums {ks : List KV} (h : Kd.kindsFault (ks.map KV.k) = 0) {k : KV} (hk : k ∈ ks) : 1 ≤ k.n0 ∧ 0 ≤ k.n7 ∧ 0 ≤ k.n4 ∧ k.n4 ≤ 4 ∧ 0 ≤ k.n1 ∧ k.n1 ≤ 1000 ∧ 0 ≤ k.n2 ∧ k.n2 ≤ 12 ∧ 0 ≤ k.n3 ∧ k.n3 ≤ 12 ∧ k.n0 ≤ 1000 ∧ k.n7 ≤ 1000 := by
  unfold Kd.kindsFault at h
  split at h
  · omega
  · have := kgo_nums h k.k (List.mem_map.2 ⟨k, hk, rfl⟩)
    unfold Kd.numsFault at this
    split at this
    · omega
    · rename_i h1
      rw [Bool.not_eq_true, List.any_eq_false] at h1
      have a := h1 k.n0 (by simp [KV.k])
      have b := h1 k.n7 (by simp [KV.k])
      have c := h1 k.n4 (by simp [KV.k])
      have d := h1 k.n1 (by simp [KV.k])
      have e := h1 k.n2 (by simp [KV.k])
      have f := h1 k.n3 (by simp [KV.k])
      simp only [decide_eq_true_eq] at a b c d e f
      split at this
      · omega
      · rename_i h2
        have e0 : (k.k.nums).getD 0 0 = k.n0 := rfl
        have e4 : (k.k.nums).getD 4 0 = k.n4 := rfl
        have e2 : (k.k.nums).getD 2 0 = k.n2 := rfl
        have e3 : (k.k.nums).getD 3 0 = k.n3 := rfl
        omega
theorem find_more {us : List UnV} {n : UnV} {p : UnV → Bool} {u : UnV} (h : us.find? p = some u) : (us ++ [n]).find? p = some u := by
  rw [List.find?_append, h]; rfl
theorem put_right {ks : List KV} {W : WV} {pl kd at_ : Int} (h : WRight ks W) (hp : Wd.placeFault ks W pl kd at_ = 0) : Wd.wfault ks (Wd.put ks W pl kd at_) = 0 := by
  obtain ⟨h40, hpl, hat, kn, k, rfl, hkl, hkk, hop⟩ := pf_zero hp
  have hnu : Wd.newUnit ks W pl (kn : Nat) at_ = ⟨W.next, pl, (kn : Nat), at_, k.n0, 0, 0, 0⟩ := by unfold Wd.newUnit; rw [Int.toNat_natCast, hkk]
  have hn1 : 1 ≤ W.next := by
    have := (nums_ok h.nums).1
    unfold Wd.off at this
    simp at this
    omega
  have hk := kind_nums h.kinds (List.mem_of_getElem? hkk)
  obtain ⟨Wn, Hn, e1, e2, G⟩ := h.good
  unfold Wd.put
  rw [hnu]
  refine Wd.wfault_zero h.kinds (by show Fd.fault W.wide W.high W.gs W.os = 0; rw [e1, e2]; exact Fd.fault_good G) ?_ ?_ ?_ h.ql ?_
  · have hn := h.nums
    unfold Wd.numsBad at hn ⊢
    simp only [Bool.or_eq_false_iff] at hn ⊢
    refine ⟨hn.1, ?_, hn.2.2⟩
    unfold Wd.off
    simp
    omega
  · show (W.us ++ [_]).length ≤ 40
    rw [List.length_append]
    have := h40
    simp only [List.length_cons, List.length_nil]
    omega
  · intro i u hu
    have hu' : (W.us ++ [(⟨W.next, pl, (kn : Nat), at_, k.n0, 0, 0, 0⟩ : UnV)])[i]? = some u := hu
    rcases Nat.lt_or_ge i W.us.length with hi | hi
    · rw [List.getElem?_append_left hi] at hu'
      obtain ⟨k0, f⟩ := h.fine hu'
      refine ⟨k0, ⟨f.id1, ?_, ?_, f.p, f.k0, f.kk, f.life, f.load, f.task, f.at_, f.goal, ?_, f.rest⟩⟩
      · have := f.id2
        show u.id ≤ W.next + 1 - 1
        omega
      · have := f.up
        show Wd.notAbove (W.us ++ [_]) i u = false
        unfold Wd.notAbove at this ⊢
        cases i with
        | zero => rfl
        | succ j =>
          simp only at this ⊢
          rw [List.getElem?_append_left (by omega)]
          exact this
      · show Wd.open_ W.gs ((W.us ++ [_]).take i) u.at_ k0.f = true
        rw [List.take_append_of_le_length (by omega)]
        exact f.opn
    · rw [List.getElem?_append_right hi] at hu'
      have hil : i = W.us.length := by
        rcases Nat.eq_zero_or_pos (i - W.us.length) with h0 | h0
        · omega
        · rw [List.getElem?_eq_none (by simp; omega)] at hu'; cases hu'
      subst hil
      rw [Nat.sub_self] at hu'
      injection hu' with hu'
      subst hu'
      refine ⟨k, ⟨hn1, ?_, ?_, hpl, ⟨by simp, by simp; omega⟩, by simpa using hkk, ⟨hk.1, Int.le_refl _⟩, ⟨Int.le_refl _, hk.2.1⟩, ⟨by simp, by simp⟩, hat, ⟨by simp, Int.lt_of_le_of_lt hat.1 hat.2⟩, ?_, .inl rfl⟩⟩
      · show W.next ≤ W.next + 1 - 1
        omega
      · show Wd.notAbove (W.us ++ [_]) W.us.length _ = false
        unfold Wd.notAbove
        cases hl : W.us.length with
        | zero => rfl
        | succ j =>
          simp only
          rw [List.getElem?_append_left (by omega)]
          cases hx : W.us[j]? with
          | none => rfl
          | some x =>
            obtain ⟨k0, f⟩ := h.fine hx
            have := f.id2
            simp
            omega
      · show Wd.open_ W.gs ((W.us ++ [_]).take W.us.length) at_ k.f = true
        rw [List.take_left]
        exact hop
  · intro j hj
    have := h.job hj
    unfold Wd.jobFault at this ⊢
    cases hx : W.us.find? (fun u => u.id == j.unit) with
    | none => rw [hx] at this; cases this
    | some u =>
      rw [hx] at this
      have hm := find_more (n := (⟨W.next, pl, (kn : Nat), at_, k.n0, 0, 0, 0⟩ : UnV)) hx
      simp only [hm]
      exact this
/-- whoever comes next finds the cell taken. -/
theorem put_taken {ks : List KV} {W : WV} {pl kd at_ : Int} (h : WRight ks W) (hp : Wd.placeFault ks W pl kd at_ = 0) : Wd.putFault ks (Wd.put ks W pl kd at_) pl kd at_ ≠ 0 := by
  unfold Wd.putFault
  rw [if_pos (put_right h hp)]
  intro h0
  obtain ⟨-, -, -, kn, k, hkd, -, -, hop⟩ := pf_zero h0
  unfold Wd.open_ at hop
  have : (Wd.put ks W pl kd at_).us.any (fun u => u.at_ == at_) = true := by
    refine List.any_eq_true.2 ⟨Wd.newUnit ks W pl kd at_, ?_, by simp [Wd.newUnit]⟩
    show _ ∈ W.us ++ [_]
    simp
  rw [this] at hop
  simp at hop
end Go.Proofs.YtkejdkajfnaieaaGreatDoor

namespace Go.Proofs.YtkejdkajfnaieaaGreatDoor
set_option linter.unusedVariables false

theorem ids_next {ks : List KV} {X : WV} (h : WRight ks X) {i : Nat} {a b : UnV} (ha : X.us[i]? = some a) (hb : X.us[i + 1]? = some b) : a.id < b.id := by
  obtain ⟨k, f⟩ := h.fine hb
  have := f.up
  simp only [Wd.notAbove, ha, decide_eq_false_iff_not] at this
  omega
theorem ids_rise {ks : List KV} {X : WV} (h : WRight ks X) : ∀ (d i : Nat) (a b : UnV), X.us[i]? = some a → X.us[i + d + 1]? = some b → a.id < b.id
  | 0, i, a, b, ha, hb => ids_next h ha hb
  | d + 1, i, a, b, ha, hb => by
    have hl : i + d + 1 < X.us.length := by have := (List.getElem?_eq_some_iff.1 hb).1; omega
    have h1 := ids_rise h d i a _ ha (List.getElem?_eq_getElem hl)
    have h2 := ids_next h (List.getElem?_eq_getElem hl) (show X.us[i + d + 1 + 1]? = some b from hb)
    omega
theorem id_one {ks : List KV} {X : WV} (h : WRight ks X) {i j : Nat} {a b : UnV} (ha : X.us[i]? = some a) (hb : X.us[j]? = some b) (e : a.id = b.id) : i = j := by
  rcases Nat.lt_trichotomy i j with hl | hl | hl
  · have := ids_rise h (j - i - 1) i a b ha (by rw [show i + (j - i - 1) + 1 = j by omega]; exact hb)
    omega
  · exact hl
  · have := ids_rise h (i - j - 1) j b a hb (by rw [show j + (i - j - 1) + 1 = i by omega]; exact ha)
    omega
theorem fst_is {ks : List KV} {X : WV} (h : WRight ks X) {n : Nat} {u : UnV} {id r : Int} (hu : X.us[n]? = some u) (hi : u.id = id) (hr : FstU (fun o => o.id == id) X.us r) : r = n := by
  rcases hr with ⟨-, hr⟩ | ⟨k, y, rfl, hk, hy, -⟩
  · have := List.any_eq_false.1 hr u (List.mem_of_getElem? hu)
    simp [hi] at this
  · have hyi : y.id = id := by simpa using hy
    rw [id_one h hk hu (by rw [hyi, hi])]
end Go.Proofs.YtkejdkajfnaieaaGreatDoor

namespace Go.Proofs.YtkejdkajfnaieaaGreatDoor
set_option linter.unusedVariables false

def er3 (u : UnV) : UnV := { u with load := 0, task := 0, goal := 0 }
theorem er3_set {l : List UnV} {i : Nat} {u v : UnV} (h : l[i]? = some u) (e : er3 v = er3 u) : (l.set i v).map er3 = l.map er3 := by
  apply List.ext_getElem?
  intro j
  rw [List.getElem?_map, List.getElem?_map, List.getElem?_set]
  split
  · rename_i ej
    subst ej
    split
    · rw [h]; simp [e]
    · rename_i h2
      rw [List.getElem?_eq_none (by omega)]
  · rfl
theorem er3_at {l m : List UnV} (h : l.map er3 = m.map er3) {i : Nat} {u : UnV} (hu : l[i]? = some u) : ∃ v, m[i]? = some v ∧ er3 u = er3 v := by
  have : (l.map er3)[i]? = some (er3 u) := by rw [List.getElem?_map, hu]; rfl
  rw [h, List.getElem?_map] at this
  cases hv : m[i]? with
  | none => rw [hv] at this; cases this
  | some v =>
    rw [hv] at this
    injection this with this
    exact ⟨v, rfl, this.symm⟩
theorem er3_eq {u v : UnV} (h : er3 u = er3 v) : u.id = v.id ∧ u.player = v.player ∧ u.kind = v.kind ∧ u.at_ = v.at_ ∧ u.life = v.life := by
  unfold er3 at h
  injection h with h1 h2 h3 h4 h5
  exact ⟨h1, h2, h3, h4, h5⟩
theorem er3_take {l m : List UnV} (h : l.map er3 = m.map er3) (i : Nat) : (l.take i).map er3 = (m.take i).map er3 := by rw [List.map_take, List.map_take, h]
theorem er3_find {l m : List UnV} (h : l.map er3 = m.map er3) (n : Int) : (l.find? (fun u => u.id == n)).map er3 = (m.find? (fun u => u.id == n)).map er3 := by
  induction l generalizing m with
  | nil =>
    cases m with
    | nil => rfl
    | cons _ _ => simp at h
  | cons u l ih =>
    cases m with
    | nil => simp at h
    | cons v m =>
      rw [List.map_cons, List.map_cons] at h
      injection h with h1 h2
      have e := (er3_eq h1).1
      rw [List.find?_cons, List.find?_cons, e]
      cases hh : (v.id == n) with
      | true => simp [h1]
      | false => exact ih h2
theorem er3_job {ks : List KV} {X Z : WV} (e : Z.us.map er3 = X.us.map er3) (j : JbV) : Wd.jobFault ks Z j = Wd.jobFault ks X j := by
  unfold Wd.jobFault
  have h2 := er3_find e j.unit
  cases hz : Z.us.find? (fun u => u.id == j.unit) with
  | none =>
    rw [hz] at h2
    cases hx : X.us.find? (fun u => u.id == j.unit) with
    | none => rfl
    | some v => rw [hx] at h2; cases h2
  | some u =>
    rw [hz] at h2
    cases hx : X.us.find? (fun u => u.id == j.unit) with
    | none => rw [hx] at h2; cases h2
    | some v =>
      rw [hx] at h2
      injection h2 with h2
      obtain ⟨-, q2, q3, -⟩ := er3_eq h2
      simp only [q2, q3]
/-- units that differ in their Load, Task and Goal alone, and rightly. -/
theorem right_er3 {ks : List KV} {X Z : WV} (h : WRight ks X) (k2 : Z.next = X.next) (k3 : Z.wide = X.wide) (k4 : Z.high = X.high) (k5 : Z.gs = X.gs) (k8 : Z.os = X.os) (k7 : Z.gold.length = X.gold.length) (hn : Wd.numsBad Z = false) (e : Z.us.map er3 = X.us.map er3)
    (hu : ∀ u ∈ Z.us, (∀ k, ks[u.kind.toNat]? = some k → 0 ≤ u.load ∧ u.load ≤ k.n7) ∧ (0 ≤ u.task ∧ u.task ≤ 2) ∧ (0 ≤ u.goal ∧ u.goal < (X.gs.length : Int)) ∧ (u.goal = 0 ∨ u.task ≠ 0)) (hq : Z.qs.length ≤ 12) (hj : ∀ j ∈ Z.qs, Wd.jobFault ks X j = 0) : Wd.wfault ks Z = 0 := by
  have hl : Z.us.length = X.us.length := by have := congrArg List.length e; simpa using this
  refine Wd.wfault_zero h.kinds ?_ hn (by rw [hl]; exact h.ul) ?_ hq ?_
  · obtain ⟨Wn, Hn, e1, e2, G⟩ := h.good
    rw [k3, k4, k5, k8, e1, e2]
    exact Fd.fault_good G
  · intro i u hu'
    obtain ⟨v, hv, ev⟩ := er3_at e hu'
    obtain ⟨q1, q2, q3, q4, q5⟩ := er3_eq ev
    obtain ⟨k, F⟩ := h.fine hv
    obtain ⟨l1, l2, l3, l4⟩ := hu u (List.mem_of_getElem? hu')
    refine ⟨k, by rw [q1]; exact F.id1, by rw [q1, k2]; exact F.id2, ?_, by rw [q2, k7]; exact F.p, by rw [q3]; exact F.k0, by rw [q3]; exact F.kk, by rw [q5]; exact F.life, l1 k (by rw [q3]; exact F.kk), l2, by rw [q4, k5]; exact F.at_, by rw [k5]; exact l3, ?_, l4⟩
    · have hup := F.up
      cases i with
      | zero => rfl
      | succ i =>
        have hil : i < Z.us.length := by have := (List.getElem?_eq_some_iff.1 hu').1; omega
        obtain ⟨p, hp⟩ : ∃ p, Z.us[i]? = some p := ⟨_, List.getElem?_eq_getElem hil⟩
        obtain ⟨p', hp', ep⟩ := er3_at e hp
        simp only [Wd.notAbove, hp', decide_eq_false_iff_not] at hup
        simp only [Wd.notAbove, hp, decide_eq_false_iff_not]
        rw [q1, (er3_eq ep).1]
        exact hup
    · have ho := F.opn
      unfold Wd.open_ at ho ⊢
      rw [Bool.and_eq_true] at ho ⊢
      refine ⟨by rw [q4, k5]; exact ho.1, ?_⟩
      have h1 := ho.2
      rw [Bool.not_eq_true', List.any_eq_false] at h1 ⊢
      intro p hp
      obtain ⟨i', hi'⟩ := List.mem_iff_getElem?.1 hp
      obtain ⟨p', hp', ep⟩ := er3_at (er3_take e i) hi'
      rw [(er3_eq ep).2.2.2.1, q4]
      exact h1 p' (List.mem_of_getElem? hp')
  · intro j hj'
    rw [er3_job e]
    exact hj j hj'
theorem unit_now {ks : List KV} {X : WV} (h : WRight ks X) {u : UnV} (hu : u ∈ X.us) : (∀ k, ks[u.kind.toNat]? = some k → 0 ≤ u.load ∧ u.load ≤ k.n7) ∧ (0 ≤ u.task ∧ u.task ≤ 2) ∧ (0 ≤ u.goal ∧ u.goal < (X.gs.length : Int)) ∧ (u.goal = 0 ∨ u.task ≠ 0) := by
  obtain ⟨i, hi⟩ := List.mem_iff_getElem?.1 hu
  obtain ⟨k, F⟩ := h.fine hi
  exact ⟨fun k' hk' => by have := F.kk; rw [this] at hk'; injection hk' with e; subst e; exact F.load, F.task, F.goal, F.rest⟩
theorem find_id {ks : List KV} {X : WV} (h : WRight ks X) {i : Nat} {u : UnV} (hu : X.us[i]? = some u) : X.us.find? (fun v => v.id == u.id) = some u := by
  obtain ⟨hi, e⟩ := List.getElem?_eq_some_iff.1 hu
  rw [List.find?_eq_some_iff_getElem]
  refine ⟨by simp, i, hi, e, fun j hj => ?_⟩
  have hjl : j < X.us.length := by omega
  simp only [Bool.not_eq_true', beq_eq_false_iff_ne]
  intro ee
  have := id_one h (List.getElem?_eq_getElem hjl) hu ee
  omega
/-- an order that is given keeps a world right. -/
theorem given_right {ks : List KV} {Y Z : WV} (h : WRight ks Y) {o : OrV} (ho : ¬ Od.bad o) (hg : given1 ks Y o = some Z) : Wd.wfault ks Z = 0 := by
  unfold given1 at hg
  cases hi : Y.us.findIdx? (askU o) with
  | none => rw [hi] at hg; cases hg
  | some i =>
    rw [hi] at hg
    simp only at hg
    cases hu : Y.us[i]? with
    | none => rw [hu] at hg; cases hg
    | some u =>
      rw [hu] at hg
      simp only at hg
      cases hk : ks[u.kind.toNat]? with
      | none => rw [hk] at hg; cases hg
      | some k =>
        rw [hk] at hg
        simp only at hg
        have hask : askU o u = true := by
          have h1 := List.findIdx?_eq_some_iff_getElem.1 hi
          obtain ⟨h2, h3, -⟩ := h1
          rw [(List.getElem?_eq_some_iff.1 hu).2] at h3
          exact h3
        unfold askU at hask
        have hask' := of_decide_eq_true hask
        unfold Od.bad at ho
        split at hg
        · rename_i hm
          injection hg with hg
          subst hg
          unfold mayB at hm
          by_cases h3 : o.what = 3
          · rw [if_neg (by omega), if_neg (by omega), if_pos h3] at hm
            obtain ⟨m1, m2, m3, m4⟩ := of_decide_eq_true hm
            rw [if_pos h3]
            obtain ⟨ka, hka⟩ : ∃ ka, ks[o.arg.toNat]? = some ka := ⟨_, List.getElem?_eq_getElem (by omega)⟩
            have kr := (kinds_right h.kinds).2 ka (List.mem_of_getElem? hka)
            have kt := kinds_turns h.kinds ka (List.mem_of_getElem? hka)
            have pr : priceOf ks o.arg = ka.n5 := by unfold priceOf; rw [hka]
            have tr : turnsOf ks o.arg = ka.n6 := by unfold turnsOf; rw [hka]
            have gi := gold_in h.nums
            refine right_er3 h rfl rfl rfl rfl rfl (by simp [hired]) ?_ rfl (fun v hv => unit_now h hv) (by simp only [hired, List.length_append, List.length_cons, List.length_nil]; omega) (fun j hj => ?_)
            · have hn := h.nums
              unfold Wd.numsBad at hn ⊢
              simp only [hired, List.length_set]
              simp only [Bool.or_eq_false_iff] at hn ⊢
              refine ⟨hn.1, hn.2.1, hn.2.2.1, ?_⟩
              rw [List.any_eq_false]
              intro g hg
              have hb : 0 ≤ g ∧ g ≤ 1000000 := by
                rcases List.mem_or_eq_of_mem_set hg with hg | hg
                · exact gi.1 g hg
                · rw [hg, pr]
                  rw [pr] at m3
                  have : Y.gold.getD o.player.toNat 0 ≤ 1000000 := by
                    rw [List.getD_eq_getElem?_getD]
                    cases hh : Y.gold[o.player.toNat]? with
                    | none => simp
                    | some x => exact (gi.1 x (List.mem_of_getElem? hh)).2
                  omega
              unfold Wd.off
              simp
              omega
            · simp only [hired, List.mem_append, List.mem_singleton] at hj
              rcases hj with hj | rfl
              · exact h.job hj
              · unfold Wd.jobFault
                simp only
                rw [← hask'.1, find_id h hu]
                simp only [hk]
                rw [if_neg (by simp [hask'.2, m1]), if_neg]
                unfold Wd.has
                simp only [tr, Bool.or_eq_true, Bool.not_eq_true', decide_eq_false_iff_not, not_or, Classical.not_not]
                exact ⟨⟨by omega, by omega⟩, by omega, by omega⟩
          · rw [if_neg h3]
            refine right_er3 h rfl rfl rfl rfl rfl rfl h.nums (er3_set hu rfl) (fun v hv => ?_) h.ql (fun j hj => h.job hj)
            rcases List.mem_or_eq_of_mem_set hv with hv | rfl
            · exact unit_now h hv
            · obtain ⟨l1, -⟩ := unit_now h (List.mem_of_getElem? hu)
              have hl : 0 < Y.gs.length := by
                obtain ⟨Wn, Hn, -, -, G⟩ := h.good
                rw [G.gl]
                exact Nat.mul_pos G.w1 G.h1
              have hol : Y.os.length = Y.gs.length := by
                obtain ⟨Wn, Hn, -, -, G⟩ := h.good
                rw [G.gl, G.ol]
              refine ⟨l1, ⟨by show 0 ≤ o.what; omega, by show o.what ≤ 2; omega⟩, ⟨by show 0 ≤ o.arg; omega, ?_⟩, ?_⟩
              · show o.arg < (Y.gs.length : Int)
                by_cases h1 : o.what = 1
                · rw [if_pos h1] at hm
                  exact (of_decide_eq_true hm).1
                · by_cases h2 : o.what = 2
                  · rw [if_neg h1, if_pos h2] at hm
                    have := (of_decide_eq_true hm).1
                    omega
                  · have : o.what = 0 := by omega
                    have : o.arg = 0 := by omega
                    omega
              · show o.arg = 0 ∨ o.what ≠ 0
                omega
        · cases hg
/-- behind orders a world is right. -/
theorem gv_right {ks : List KV} {Y : WV} (h : WRight ks Y) {out : List OrV} (ho : ∀ o ∈ out, ¬ Od.bad o) : ∀ q, WRight ks (gv ks Y out q).1
  | 0 => h
  | q + 1 => by
    have ih := gv_right h ho q
    cases hq : out[q]? with
    | none => rw [gv]; simp only [hq]; exact ih
    | some o =>
      cases hg : given1 ks (gv ks Y out q).1 o with
      | some Z => rw [gv_yes hq hg]; exact wright_of (given_right ih (ho o (List.mem_of_getElem? hq)) hg)
      | none => rw [gv_no hq hg]; exact ih
end Go.Proofs.YtkejdkajfnaieaaGreatDoor

namespace Go.Proofs.YtkejdkajfnaieaaGreatDoor.Fd

/-- a column, or row, of a line. -/
def along (n f t k : Int) : Int := (2 * f * n + 2 * k * (t - f) + n) / (2 * n)

theorem along_num (n f t k : Int) : 2 * f * n + 2 * k * (t - f) + n = (f * (n - k) + t * k) * 2 + n := by
  rw [Int.mul_sub, Int.mul_sub, Int.add_mul, Int.sub_mul, Int.mul_assoc 2 f n, Int.mul_assoc 2 k t, Int.mul_assoc 2 k f, Int.mul_comm k t, Int.mul_comm k f]
  omega
theorem mix_le (lo f t x y : Int) (hx : 0 ≤ x) (hy : 0 ≤ y) (hf : lo ≤ f) (ht : lo ≤ t) : lo * (x + y) ≤ f * x + t * y := by
  rw [Int.mul_add]
  have := Int.mul_le_mul_of_nonneg_right hf hx
  have := Int.mul_le_mul_of_nonneg_right ht hy
  omega
theorem mix_ge (hi f t x y : Int) (hx : 0 ≤ x) (hy : 0 ≤ y) (hf : f ≤ hi) (ht : t ≤ hi) : f * x + t * y ≤ hi * (x + y) := by
  rw [Int.mul_add]
  have := Int.mul_le_mul_of_nonneg_right hf hx
  have := Int.mul_le_mul_of_nonneg_right ht hy
  omega
theorem along_ge (lo n f t k : Int) (h0 : 0 ≤ k) (h1 : k ≤ n) (hn : 0 < n) (hf : lo ≤ f) (ht : lo ≤ t) : lo ≤ along n f t k := by
  unfold along
  rw [along_num, Int.le_ediv_iff_mul_le (by omega)]
  have h := mix_le lo f t (n - k) k (by omega) h0 hf ht
  rw [show n - k + k = n by omega] at h
  have e : lo * (2 * n) = lo * n * 2 := by rw [← Int.mul_assoc, Int.mul_comm lo 2, Int.mul_assoc, Int.mul_comm]
  omega
theorem along_le (hi n f t k : Int) (h0 : 0 ≤ k) (h1 : k ≤ n) (hn : 0 < n) (hf : f ≤ hi) (ht : t ≤ hi) : along n f t k ≤ hi := by
  unfold along
  rw [along_num]
  have h := mix_ge hi f t (n - k) k (by omega) h0 hf ht
  rw [show n - k + k = n by omega] at h
  have e : (hi + 1) * (2 * n) = hi * n * 2 + 2 * n := by rw [Int.add_mul, ← Int.mul_assoc, Int.mul_comm hi 2, Int.mul_assoc, Int.mul_comm 2 (hi * n)]; omega
  have : ((f * (n - k) + t * k) * 2 + n) / (2 * n) < hi + 1 := by
    rw [Int.ediv_lt_iff_lt_mul (by omega)]
    omega
  omega
theorem along_zero (n f t : Int) (hn : 0 < n) : along n f t 0 = f := by
  unfold along
  rw [show 2 * f * n + 2 * 0 * (t - f) + n = n + f * (2 * n) by rw [← Int.mul_assoc, Int.mul_comm f 2]; omega, Int.add_mul_ediv_right _ _ (by omega), Int.ediv_eq_zero_of_lt (by omega) (by omega)]
  omega
theorem along_end (n f t : Int) (hn : 0 < n) : along n f t n = t := by
  unfold along
  rw [along_num, show n - n = 0 by omega, Int.mul_zero, show (0 + t * n) * 2 + n = n + t * (2 * n) by rw [← Int.mul_assoc, Int.mul_comm t 2, Int.mul_assoc]; omega, Int.add_mul_ediv_right _ _ (by omega), Int.ediv_eq_zero_of_lt (by omega) (by omega)]
  omega
theorem along_up (n f k : Int) (hn : 0 < n) : along n f (f + n) k = f + k := by
  unfold along
  rw [show f + n - f = n by omega, show 2 * f * n + 2 * k * n + n = n + (f + k) * (2 * n) by rw [Int.add_mul, ← Int.mul_assoc f, ← Int.mul_assoc k, Int.mul_comm f 2, Int.mul_comm k 2]; omega, Int.add_mul_ediv_right _ _ (by omega), Int.ediv_eq_zero_of_lt (by omega) (by omega)]
  omega
theorem along_down (n f k : Int) (hn : 0 < n) : along n f (f - n) k = f - k := by
  unfold along
  rw [show f - n - f = -n by omega, show 2 * f * n + 2 * k * (-n) + n = n + (f - k) * (2 * n) by rw [Int.sub_mul, ← Int.mul_assoc f, ← Int.mul_assoc k, Int.mul_comm f 2, Int.mul_comm k 2, Int.mul_neg]; omega, Int.add_mul_ediv_right _ _ (by omega), Int.ediv_eq_zero_of_lt (by omega) (by omega)]
  omega
theorem div_step (x d m : Int) (hm : 0 < m) (h1 : -m ≤ d) (h2 : d ≤ m) : -1 ≤ (x + d) / m - x / m ∧ (x + d) / m - x / m ≤ 1 := by
  have e1 : (x + m) / m = x / m + 1 := Int.add_ediv_of_dvd_right (Int.dvd_refl m) |>.trans (by rw [Int.ediv_self (by omega)])
  have e2 : (x + -m) / m = x / m + -1 := (Int.add_ediv_of_dvd_right (Int.dvd_neg.2 (Int.dvd_refl m))).trans (by rw [Int.neg_ediv_of_dvd (Int.dvd_refl m), Int.ediv_self (by omega)])
  have l1 : (x + d) / m ≤ (x + m) / m := Int.ediv_le_ediv hm (by omega)
  have l2 : (x + -m) / m ≤ (x + d) / m := Int.ediv_le_ediv hm (by omega)
  omega
theorem along_step (n f t k : Int) (hn : 0 < n) (h1 : -n ≤ t - f) (h2 : t - f ≤ n) : -1 ≤ along n f t (k + 1) - along n f t k ∧ along n f t (k + 1) - along n f t k ≤ 1 := by
  unfold along
  have e : 2 * f * n + 2 * (k + 1) * (t - f) + n = 2 * f * n + 2 * k * (t - f) + n + 2 * (t - f) := by
    rw [Int.mul_add 2 k 1, Int.add_mul]; omega
  rw [e]
  exact div_step _ _ _ (by omega) (by omega) (by omega)

/-- the greater of both distances. -/
def span (W a b : Nat) : Nat := max (max (a % W - b % W) (b % W - a % W)) (max (a / W - b / W) (b / W - a / W))
/-- the k-th cell of a line. -/
def spot (W a b : Nat) (k : Nat) : Int := along (span W a b) (a / W : Nat) (b / W : Nat) k * W + along (span W a b) (a % W : Nat) (b % W : Nat) k
def line (W a b : Nat) : List Int := if span W a b = 0 then [(a : Int)] else (List.range (span W a b + 1)).map (spot W a b)

theorem span_zero {W a b : Nat} (h : span W a b = 0) : a = b := by
  unfold span at h
  have h1 : a % W = b % W := by omega
  have h2 : a / W = b / W := by omega
  rw [← Nat.div_add_mod a W, ← Nat.div_add_mod b W, h1, h2]
theorem span_le {W H a b : Nat} (hW : 0 < W) (w2 : W ≤ 12) (h2 : H ≤ 12) (ha : a < W * H) (hb : b < W * H) : span W a b ≤ 11 := by
  have h3 : a / W < H := Nat.div_lt_of_lt_mul ha
  have h4 : b / W < H := Nat.div_lt_of_lt_mul hb
  have h5 := Nat.mod_lt a hW
  have h6 := Nat.mod_lt b hW
  unfold span
  generalize a / W = x at *
  generalize b / W = y at *
  generalize a % W = u at *
  generalize b % W = v at *
  omega

/-- where a cell of a line lies. -/
theorem spot_in {W H a b k : Nat} (hW : 0 < W) (ha : a < W * H) (hb : b < W * H) (hn : 0 < span W a b) (hk : k ≤ span W a b) :
    ∃ r c : Nat, along (span W a b) (a / W : Nat) (b / W : Nat) k = r ∧ along (span W a b) (a % W : Nat) (b % W : Nat) k = c ∧ r < H ∧ c < W ∧ spot W a b k = ((r * W + c : Nat) : Int) ∧ r * W + c < W * H ∧ (r * W + c) % W = c ∧ (r * W + c) / W = r := by
  have h3 : a / W < H := Nat.div_lt_of_lt_mul ha
  have h4 : b / W < H := Nat.div_lt_of_lt_mul hb
  have h5 := Nat.mod_lt a hW
  have h6 := Nat.mod_lt b hW
  have n1 : (0 : Int) ≤ (a / W : Nat) := Int.natCast_nonneg _
  have n2 : (0 : Int) ≤ (b / W : Nat) := Int.natCast_nonneg _
  have r1 := along_ge 0 (span W a b) (a / W : Nat) (b / W : Nat) k (by omega) (by omega) (by omega) (by omega) (by omega)
  have r2 := along_le (H - 1) (span W a b) (a / W : Nat) (b / W : Nat) k (by omega) (by omega) (by omega) (by omega) (by omega)
  have c1 := along_ge 0 (span W a b) (a % W : Nat) (b % W : Nat) k (by omega) (by omega) (by omega) (by omega) (by omega)
  have c2 := along_le (W - 1) (span W a b) (a % W : Nat) (b % W : Nat) k (by omega) (by omega) (by omega) (by omega) (by omega)
  refine ⟨(along (span W a b) (a / W : Nat) (b / W : Nat) k).toNat, (along (span W a b) (a % W : Nat) (b % W : Nat) k).toNat, by omega, by omega, by omega, by omega, ?_, ?_, ?_, ?_⟩
  · unfold spot
    rw [Int.natCast_add, Int.natCast_mul, Int.toNat_of_nonneg r1, Int.toNat_of_nonneg c1]
  · have h := Nat.mul_le_mul_right W (show (along (span W a b) (a / W : Nat) (b / W : Nat) k).toNat + 1 ≤ H by omega)
    rw [Nat.add_mul, Nat.mul_comm H W] at h
    omega
  · rw [Nat.add_comm, Nat.add_mul_mod_self_right, Nat.mod_eq_of_lt (by omega)]
  · rw [Nat.add_comm, Nat.add_mul_div_right _ _ hW, Nat.div_eq_of_lt (by omega)]
    omega
theorem spot_zero {W a b : Nat} (hn : 0 < span W a b) : spot W a b 0 = a := by
  unfold spot
  have e := along_zero (span W a b) (a / W : Nat) (b / W : Nat) (by omega)
  have e' := along_zero (span W a b) (a % W : Nat) (b % W : Nat) (by omega)
  rw [show (((0 : Nat) : Nat) : Int) = 0 from rfl, e, e', ← Int.natCast_mul, ← Int.natCast_add, Nat.mul_comm, Nat.div_add_mod]
theorem spot_end {W a b : Nat} (hn : 0 < span W a b) : spot W a b (span W a b) = b := by
  unfold spot
  have e := along_end (span W a b) (a / W : Nat) (b / W : Nat) (by omega)
  have e' := along_end (span W a b) (a % W : Nat) (b % W : Nat) (by omega)
  rw [e, e', ← Int.natCast_mul, ← Int.natCast_add, Nat.mul_comm, Nat.div_add_mod]

/-- on the way that is the longer one a line goes one by one. -/
theorem along_major (W a b : Nat) (hn : 0 < span W a b) :
    (∀ k : Int, along (span W a b) (a % W : Nat) (b % W : Nat) k = (a % W : Nat) + k) ∨ (∀ k : Int, along (span W a b) (a % W : Nat) (b % W : Nat) k = (a % W : Nat) - k) ∨
    (∀ k : Int, along (span W a b) (a / W : Nat) (b / W : Nat) k = (a / W : Nat) + k) ∨ (∀ k : Int, along (span W a b) (a / W : Nat) (b / W : Nat) k = (a / W : Nat) - k) := by
  have h : ((b % W : Nat) : Int) = (a % W : Nat) + (span W a b : Nat) ∨ ((b % W : Nat) : Int) = (a % W : Nat) - (span W a b : Nat) ∨ ((b / W : Nat) : Int) = (a / W : Nat) + (span W a b : Nat) ∨ ((b / W : Nat) : Int) = (a / W : Nat) - (span W a b : Nat) := by
    unfold span
    omega
  rcases h with h | h | h | h
  · left; intro k; rw [h]; exact along_up _ _ k (by omega)
  · right; left; intro k; rw [h]; exact along_down _ _ k (by omega)
  · right; right; left; intro k; rw [h]; exact along_up _ _ k (by omega)
  · right; right; right; intro k; rw [h]; exact along_down _ _ k (by omega)

/-- a line goes by steps. -/
theorem spot_step {W H a b k : Nat} (hW : 0 < W) (ha : a < W * H) (hb : b < W * H) (hn : 0 < span W a b) (hk : k + 1 ≤ span W a b) :
    ∃ p q : Nat, spot W a b k = p ∧ spot W a b (k + 1) = q ∧ p < W * H ∧ q < W * H ∧ -1 ≤ ((q % W : Nat) : Int) - (p % W : Nat) ∧ ((q % W : Nat) : Int) - (p % W : Nat) ≤ 1 ∧ -1 ≤ ((q / W : Nat) : Int) - (p / W : Nat) ∧ ((q / W : Nat) : Int) - (p / W : Nat) ≤ 1 ∧
      ¬ (((q % W : Nat) : Int) - (p % W : Nat) = 0 ∧ ((q / W : Nat) : Int) - (p / W : Nat) = 0) := by
  obtain ⟨r, c, er, ec, hr, hc, es, hl, hm, hd⟩ := spot_in hW ha hb hn (show k ≤ span W a b by omega)
  obtain ⟨r', c', er', ec', hr', hc', es', hl', hm', hd'⟩ := spot_in hW ha hb hn hk
  refine ⟨r * W + c, r' * W + c', es, es', hl, hl', ?_⟩
  rw [hm, hm', hd, hd']
  have s1 := along_step (span W a b) (a / W : Nat) (b / W : Nat) k (by omega) (by unfold span; omega) (by unfold span; omega)
  have s2 := along_step (span W a b) (a % W : Nat) (b % W : Nat) k (by omega) (by unfold span; omega) (by unfold span; omega)
  have ek : ((k + 1 : Nat) : Int) = (k : Int) + 1 := by omega
  rw [ek] at er' ec'
  rw [er', er] at s1
  rw [ec', ec] at s2
  refine ⟨s2.1, s2.2, s1.1, s1.2, ?_⟩
  rcases along_major W a b hn with m | m | m | m
  · have := m k; have := m (k + 1); omega
  · have := m k; have := m (k + 1); omega
  · have := m k; have := m (k + 1); omega
  · have := m k; have := m (k + 1); omega
/-- what is between is neither end. -/
theorem spot_inner {W H a b k : Nat} (hW : 0 < W) (ha : a < W * H) (hb : b < W * H) (hn : 0 < span W a b) (h0 : 0 < k) (hk : k < span W a b) : spot W a b k ≠ a ∧ spot W a b k ≠ b := by
  obtain ⟨r, c, er, ec, hr, hc, es, hl, hm, hd⟩ := spot_in hW ha hb hn (show k ≤ span W a b by omega)
  have e0 : ∀ k : Int, ((k = 0 ∨ k = span W a b) → ∃ p : Nat, (k = 0 → p = a) ∧ (k = span W a b → p = b) ∧ along (span W a b) (a / W : Nat) (b / W : Nat) k = (p / W : Nat) ∧ along (span W a b) (a % W : Nat) (b % W : Nat) k = (p % W : Nat)) := by
    rintro k (rfl | rfl)
    · exact ⟨a, fun _ => rfl, fun h => by omega, along_zero _ _ _ (by omega), along_zero _ _ _ (by omega)⟩
    · exact ⟨b, fun h => by omega, fun _ => rfl, along_end _ _ _ (by omega), along_end _ _ _ (by omega)⟩
  rw [es]
  have hA := along_zero (span W a b) (a / W : Nat) (b / W : Nat) (by omega)
  have hA' := along_zero (span W a b) (a % W : Nat) (b % W : Nat) (by omega)
  have hB := along_end (span W a b) (a / W : Nat) (b / W : Nat) (by omega)
  have hB' := along_end (span W a b) (a % W : Nat) (b % W : Nat) (by omega)
  constructor
  · intro e
    have e : r * W + c = a := by omega
    rw [e] at hm hd
    rcases along_major W a b hn with m | m | m | m
    all_goals have := m k; have := m 0; omega
  · intro e
    have e : r * W + c = b := by omega
    rw [e] at hm hd
    rcases along_major W a b hn with m | m | m | m
    all_goals have := m k; have := m (span W a b); omega
theorem line_len (W a b : Nat) : (line W a b).length = span W a b + 1 := by
  unfold line
  split
  · rename_i h; rw [h]; rfl
  · simp
theorem line_get {W a b k : Nat} (hk : k ≤ span W a b) : (line W a b)[k]? = some (if span W a b = 0 then (a : Int) else spot W a b k) := by
  unfold line
  split
  · have : k = 0 := by omega
    subst this
    rfl
  · simp only [List.getElem?_map]
    rw [List.getElem?_range (by omega)]
    rfl
end Go.Proofs.YtkejdkajfnaieaaGreatDoor.Fd

namespace Go.Proofs.YtkejdkajfnaieaaGreatDoor
open Go.RowKit
set_option linter.unusedVariables false

set_option maxHeartbeats 400000 in
theorem fplace_any (W a c r : Nat) (w : World) (h1 : 0 < W) (h2 : W ≤ 12) (h3 : a ≤ 144) (hc : a % W = c) (hr : a / W = r) :
    Calls Tryz.prog 230 #[.int .i64 (W : Nat), .int .i64 (a : Nat)] w fun e w' => e = .returned (.tuple #[.int .i64 (c : Nat), .int .i64 (r : Nat)]) ∧ ∃ n, w' = w.drewN n := by
  have hw : ¬ (W : Int) = 0 := by omega
  have e1 : (a : Int) % (W : Int) = (c : Nat) := by rw [← hc]; rfl
  have e2 : (a : Int) / (W : Int) = (r : Nat) := by rw [← hr]; rfl
  have l1 : r ≤ 144 := by rw [← hr]; exact Nat.le_trans (Nat.div_le_self _ _) h3
  clear hc hr
  go_enter Tryz.func230, Tryz.ntmps230
  go_wp2
  go_quiet (fail)
  go_wp2
  go_ret2
  exact ⟨by show Ending.returned (.tuple #[.int .i64 ((a : Int) % W), .int .i64 r]) = _; rw [e1], _, rfl⟩
end Go.Proofs.YtkejdkajfnaieaaGreatDoor

namespace Go.Proofs.YtkejdkajfnaieaaGreatDoor
open Go.RowKit
set_option linter.unusedVariables false

set_option maxHeartbeats 1000000 in
theorem Step_bad (v : Value) (W H : Int) (gs os : List Int) (a F : Int) (fl : Bool) (w : World) (h : Fl w v W H gs os) (hF : Fd.askFault (Fd.fault W H gs os) gs.length [a] = F) (h0 : F ≠ 0) :
    Calls Tryz.prog 159 #[v, .int .i64 a, .bool fl] w fun e w' => e = .returned (.tuple #[.int .i64 0, .iface 97 (.int .i64 F)]) ∧ Below w.heap.size w w' := by
  have F0 : Hid (Fl w v W H gs os) := h
  have HF : Hid (Fd.askFault (Fd.fault W H gs os) gs.length [a] = F) := hF
  have H0 : Hid (F ≠ 0) := h0
  obtain ⟨u1, u2, rfl, ⟨a1, c, rfl, c1, c2, ca⟩, ⟨b1, d, rfl, d1, d2, cb⟩⟩ := h
  clear hF h0 ca cb
  go_enter Tryz.func159, Tryz.ntmps159
  go_wp2_with fail
  refine (ask_any _ _ W H gs os [a] _ (F0.out.below (((Below.refl _ _).alloc (Nat.le_refl _) _).alloc (by simp) _)) (Ro.lit1 (w := w.alloc _) a (by simp))).mono ?_
  rintro e w1 ⟨v1, rfl, hv, hb⟩
  have B1 : Hid (Below w.heap.size w w1) := (((Below.refl _ _).alloc (Nat.le_refl _) _).alloc (by simp) _).trans (hb.mono (by simp; omega))
  rw [HF.out] at hv
  clear hb
  rcases hv with ⟨hz, rfl⟩ | ⟨hz, rfl⟩
  · exact absurd hz H0.out
  · clear hz
    go_wp2
    go_ret2
    exact ⟨rfl, B1⟩

end Go.Proofs.YtkejdkajfnaieaaGreatDoor

namespace Go.Proofs.YtkejdkajfnaieaaGreatDoor
open Go.RowKit
set_option linter.unusedVariables false

/-- the package variable of the four sides. -/
structure Sd (w : World) : Prop where
  c0 : w.cell? ⟨1, 0, none⟩ = some (.int .i64 0)
  c1 : w.cell? ⟨1, 1, none⟩ = some (.int .i64 (-1))
  c2 : w.cell? ⟨1, 2, none⟩ = some (.int .i64 (-1))
  c3 : w.cell? ⟨1, 3, none⟩ = some (.int .i64 0)
  c4 : w.cell? ⟨1, 4, none⟩ = some (.int .i64 1)
  c5 : w.cell? ⟨1, 5, none⟩ = some (.int .i64 0)
  c6 : w.cell? ⟨1, 6, none⟩ = some (.int .i64 0)
  c7 : w.cell? ⟨1, 7, none⟩ = some (.int .i64 1)
theorem Sd.lt {w : World} (h : Sd w) : 1 < w.heap.size := cell_lt h.c0
theorem Sd.below {w w' : World} (h : Sd w) (hb : Below w.heap.size w w') : Sd w' := by
  have l := h.lt
  refine ⟨?_, ?_, ?_, ?_, ?_, ?_, ?_, ?_⟩
  · rw [hb.cell (p := ⟨1, 0, none⟩) l]; exact h.c0
  · rw [hb.cell (p := ⟨1, 1, none⟩) l]; exact h.c1
  · rw [hb.cell (p := ⟨1, 2, none⟩) l]; exact h.c2
  · rw [hb.cell (p := ⟨1, 3, none⟩) l]; exact h.c3
  · rw [hb.cell (p := ⟨1, 4, none⟩) l]; exact h.c4
  · rw [hb.cell (p := ⟨1, 5, none⟩) l]; exact h.c5
  · rw [hb.cell (p := ⟨1, 6, none⟩) l]; exact h.c6
  · rw [hb.cell (p := ⟨1, 7, none⟩) l]; exact h.c7

namespace Fd
/-- how many columns, and rows, further the k-th cell beside one is. -/
def sc (k : Nat) : Int := if k = 1 then -1 else if k = 2 then 1 else 0
def sr (k : Nat) : Int := if k = 0 then -1 else if k = 3 then 1 else 0
/-- the first k cells beside one, as far as they are. -/
def nb (W H p r : Nat) : Nat → List Int
  | 0 => []
  | k + 1 => nb W H p r k ++ (if (0 ≤ (p : Int) + sc k ∧ (p : Int) + sc k ≤ (W : Int) - 1) ∧ (0 ≤ (r : Int) + sr k ∧ (r : Int) + sr k ≤ (H : Int) - 1) then [((r : Int) + sr k) * W + (p + sc k)] else [])
theorem nb_len (W H p r k : Nat) : (nb W H p r k).length ≤ k := by
  induction k with
  | zero => exact Nat.le_refl _
  | succ k ih =>
    simp only [nb, List.length_append]
    split
    · simp; omega
    · simp; omega
theorem nb_near {W H a p r : Nat} (hp : p < W) (hr : r < H) (e : W * r + p = a) : nb W H p r 4 = (if 0 < r then [(a : Int) - W] else []) ++ ((if 0 < p then [(a : Int) - 1] else []) ++ ((if p + 1 < W then [(a : Int) + 1] else []) ++ (if r + 1 < H then [(a : Int) + W] else []))) := by
  have e1 : (a : Int) = W * r + p := by rw [← e]; simp
  have e2 : ((r : Int) + -1) * W = W * r - W := by rw [Int.add_mul, Int.mul_comm (r : Int) W]; omega
  have e3 : ((r : Int) + 1) * W = W * r + W := by rw [Int.add_mul, Int.mul_comm (r : Int) W]; omega
  have e4 : ((r : Int) + 0) * W = W * r := by rw [Int.add_zero, Int.mul_comm (r : Int) W]
  simp only [nb, List.nil_append, List.append_assoc]
  rw [show sc 0 = 0 from rfl, show sc 1 = -1 from rfl, show sc 2 = 1 from rfl, show sc 3 = 0 from rfl, show sr 0 = -1 from rfl, show sr 1 = 0 from rfl, show sr 2 = 0 from rfl, show sr 3 = 1 from rfl, e2, e3, e4]
  congr 1
  · by_cases h : 0 < r
    · rw [if_pos (by omega), if_pos h]; congr 1; omega
    · rw [if_neg (by omega), if_neg h]
  · congr 1
    · by_cases h : 0 < p
      · rw [if_pos (by omega), if_pos h]; congr 1; omega
      · rw [if_neg (by omega), if_neg h]
    · congr 1
      · by_cases h : p + 1 < W
        · rw [if_pos (by omega), if_pos h]; congr 1; omega
        · rw [if_neg (by omega), if_neg h]
      · by_cases h : r + 1 < H
        · rw [if_pos (by omega), if_pos h]; congr 1; omega
        · rw [if_neg (by omega), if_neg h]
end Fd

theorem side0 (w : World) : (Instr.index 288 (.agg #[.int .i64 0, .int .i64 (-1), .int .i64 (-1), .int .i64 0, .int .i64 1, .int .i64 0, .int .i64 0, .int .i64 1]) (.int .i64 0)).run Tryz.prog w = .ok (.agg #[.int .i64 0, .int .i64 (-1)]) w := by kernel_rfl
theorem side1 (w : World) : (Instr.index 288 (.agg #[.int .i64 0, .int .i64 (-1), .int .i64 (-1), .int .i64 0, .int .i64 1, .int .i64 0, .int .i64 0, .int .i64 1]) (.int .i64 1)).run Tryz.prog w = .ok (.agg #[.int .i64 (-1), .int .i64 0]) w := by kernel_rfl
theorem side2 (w : World) : (Instr.index 288 (.agg #[.int .i64 0, .int .i64 (-1), .int .i64 (-1), .int .i64 0, .int .i64 1, .int .i64 0, .int .i64 0, .int .i64 1]) (.int .i64 2)).run Tryz.prog w = .ok (.agg #[.int .i64 1, .int .i64 0]) w := by kernel_rfl
theorem side3 (w : World) : (Instr.index 288 (.agg #[.int .i64 0, .int .i64 (-1), .int .i64 (-1), .int .i64 0, .int .i64 1, .int .i64 0, .int .i64 0, .int .i64 1]) (.int .i64 3)).run Tryz.prog w = .ok (.agg #[.int .i64 0, .int .i64 1]) w := by kernel_rfl
theorem side_at (k : Nat) (hk : k < 4) (w : World) : (Instr.index 288 (.agg #[.int .i64 0, .int .i64 (-1), .int .i64 (-1), .int .i64 0, .int .i64 1, .int .i64 0, .int .i64 0, .int .i64 1]) (.int .i64 (k : Nat))).run Tryz.prog w = .ok (.agg #[.int .i64 (Fd.sc k), .int .i64 (Fd.sr k)]) w := by
  have h : k = 0 ∨ k = 1 ∨ k = 2 ∨ k = 3 := by omega
  rcases h with rfl | rfl | rfl | rfl
  · exact side0 w
  · exact side1 w
  · exact side2 w
  · exact side3 w

set_option maxHeartbeats 2000000 in
theorem near_own (v : Value) (W H : Nat) (gs os : List Int) (a : Nat) (w : World) (h : Fl w v W H gs os) (G : Fd.Good W H gs os) (ha : a < W * H) (hs : Sd w) :
    Calls Tryz.prog 209 #[v, .int .i64 (a : Nat)] w fun e w' => ∃ u, e = .returned u ∧ Ow w' w.heap.size u (Fd.near W H a) ∧ Below w.heap.size w w' := by
  have F0 : Hid (Fl w v W H gs os) := h
  have S0 : Hid (Sd w) := hs
  obtain ⟨u1, u2, rfl, ⟨a1, c, rfl, c1, c2, ca⟩, ⟨b1, d, rfl, d1, d2, cb⟩⟩ := h
  have gp := G.pos.2
  have W1 : 0 < W := G.w1
  have W2 : W ≤ 12 := G.w2
  have H1 : 0 < H := G.h1
  have H2 : H ≤ 12 := G.h2
  have A1 : a ≤ 144 := by omega
  have r1 : a / W < H := Nat.div_lt_of_lt_mul ha
  have p1 := Nat.mod_lt a W1
  have Ea : Hid (W * (a / W) + a % W = a) := Nat.div_add_mod a W
  have En : Hid (Fd.near W H a = (if 0 < a / W then [(a : Int) - W] else []) ++ ((if 0 < a % W then [(a : Int) - 1] else []) ++ ((if a % W + 1 < W then [(a : Int) + 1] else []) ++ (if a / W + 1 < H then [(a : Int) + W] else [])))) := rfl
  obtain ⟨p, hp⟩ : ∃ c, a % W = c := ⟨_, rfl⟩
  obtain ⟨r, hr⟩ : ∃ c, a / W = c := ⟨_, rfl⟩
  rw [hp, hr] at En Ea
  rw [hp] at p1
  rw [hr] at r1
  have Pa : Hid (a % W = p ∧ a / W = r) := ⟨hp, hr⟩
  clear hp hr hs ca cb G ha gp
  go_enter Tryz.func209, Tryz.ntmps209
  go_wp2_with fail
  refine (fplace_any W a p r _ W1 W2 A1 Pa.out.1 Pa.out.2).mono ?_
  rintro e w3 ⟨rfl, q3, hq3⟩
  have B3 : Hid (Below w.heap.size w w3) := by rw [hq3]; exact _root_.Go.below_drewN ((Below.refl _ _).alloc (Nat.le_refl _) _) _
  have X3 : Hid (Bf w3 w.heap.size W H (Value.slice a1 gs.length c) (Value.slice b1 os.length d)) := by
    rw [hq3]
    have h0 := Bf.mk' (w := w) W H (Value.slice a1 gs.length c) (Value.slice b1 os.length d) rfl
    exact h0.below (_root_.Go.below_drewN (Below.refl _ _) _) h0.lt
  have S3 : Hid (Sd w3) := S0.out.below B3.out
  clear hq3
  obtain ⟨x0, x1, x2, x3⟩ := X3.out
  obtain ⟨s0, s1, s2, s3, s4, s5, s6, s7⟩ := S3.out
  go_wp2_with fail
  have Z3 : Hid (w.heap.size < w3.heap.size) := X3.out.lt
  clear s0 s1 s2 s3 s4 s5 s6 s7 S3 S0 x0 x1 x2 x3
  go_loopw [5, 20] (fun v i W' => ∃ k : Nat, k ≤ 4 ∧ i = .int .i64 (k : Nat) ∧ Ow W' (w.heap.size + 1) v (Fd.nb W H p r k) ∧ Bf W' w.heap.size W H (Value.slice a1 gs.length c) (Value.slice b1 os.length d) ∧ Below w.heap.size w W') (fun _ i _ => 4 - (intOf i).toNat)
  case atStart => exact ⟨0, Nat.zero_le _, rfl, Ow.nil _ _, X3, B3⟩
  case round =>
    obtain ⟨k, hk, rfl, ho, hx, hb⟩ := hrel
    clear X3 B3 Z3
    have O : Hid (Ow wr (w.heap.size + 1) u5 (Fd.nb W H p r k)) := ho
    have X : Hid (Bf wr w.heap.size W H (Value.slice a1 gs.length c) (Value.slice b1 os.length d)) := hx
    have B : Hid (Below w.heap.size w wr) := hb
    clear ho hx hb
    by_cases h0 : k = 4
    · subst h0
      have En' : Hid (Fd.near W H a = Fd.nb W H p r 4) := by unfold Hid; rw [En.out, Fd.nb_near p1 r1 Ea.out]
      go_wp2
      go_ret
      exact ⟨_, rfl, by rw [En'.out]; exact O.out.mono (Nat.le_succ _), B⟩
    · have hk4 : k < 4 := by omega
      have hi := side_at k hk4
      have l1 : -1 ≤ Fd.sc k ∧ Fd.sc k ≤ 1 := by unfold Fd.sc; split <;> (try split) <;> omega
      have l2 : -1 ≤ Fd.sr k ∧ Fd.sr k ≤ 1 := by unfold Fd.sr; split <;> (try split) <;> omega
      have Ek : Hid (Fd.nb W H p r (k + 1) = Fd.nb W H p r k ++ (if (0 ≤ (p : Int) + Fd.sc k ∧ (p : Int) + Fd.sc k ≤ (W : Int) - 1) ∧ (0 ≤ (r : Int) + Fd.sr k ∧ (r : Int) + Fd.sr k ≤ (H : Int) - 1) then [((r : Int) + Fd.sr k) * W + (p + Fd.sc k)] else [])) := rfl
      have Ll : Hid ((Fd.nb W H p r k).length ≤ k) := Fd.nb_len W H p r k
      generalize Fd.sc k = sc at *
      generalize Fd.sr k = sr at *
      generalize Fd.nb W H p r k = xs at *
      obtain ⟨l11, l12⟩ := l1
      obtain ⟨l21, l22⟩ := l2
      go_wp2
      go_quiet (fail)
      clear hi
      have k5 : Below wr.heap.size wr ((wr.alloc (Obj.cells #[.int .i64 sc, .int .i64 sr] 287)).drewN nq) := _root_.Go.below_drewN ((Below.refl _ _).alloc (Nat.le_refl _) _) _
      generalize (wr.alloc (Obj.cells #[.int .i64 sc, .int .i64 sr] 287)).drewN nq = w5 at *
      have O5 : Hid (Ow w5 (w.heap.size + 1) u5 xs) := O.out.below k5
      have X5 : Hid (Bf w5 w.heap.size W H (Value.slice a1 gs.length c) (Value.slice b1 os.length d)) := X.out.below k5 X.out.lt
      have B5 : Hid (Below w.heap.size w w5) := B.out.trans (k5.mono B.out.size)
      clear k5 O X B
      obtain ⟨x0, x1, x2, x3⟩ := X5.out
      by_cases hc : 0 ≤ (p : Int) + sc ∧ (p : Int) + sc ≤ (W : Int) - 1
      · by_cases hd : 0 ≤ (r : Int) + sr ∧ (r : Int) + sr ≤ (H : Int) - 1
        · have Ek' : Hid (Fd.nb W H p r (k + 1) = xs ++ [((r : Int) + sr) * W + (p + sc)]) := by
            have := Ek.out
            rw [if_pos ⟨hc, hd⟩] at this
            exact this
          clear Ek
          obtain ⟨C, hC⟩ : ∃ C : Int, (p : Int) + sc = C := ⟨_, rfl⟩
          obtain ⟨R, hR⟩ : ∃ R : Int, (r : Int) + sr = R := ⟨_, rfl⟩
          rw [hC] at hc Ek' ⊢
          rw [hR] at hd Ek' ⊢
          obtain ⟨hc1, hc2⟩ := hc
          obtain ⟨hd1, hd2⟩ := hd
          have R2 : R ≤ 11 := by omega
          have C2 : C ≤ 11 := by omega
          clear hC hR l11 l12 l21 l22
          have m1 : 0 ≤ R * (W : Int) := Int.mul_nonneg hd1 (by omega)
          have m2 : R * (W : Int) ≤ 11 * 12 := Int.mul_le_mul R2 (by omega) (by omega) (by omega)
          go_wp2_with fail
          refine (fin_yes _ _ _ _ hc1 hc2).mono ?_
          rintro e w' ⟨rfl, rfl⟩
          go_wp2_with fail
          refine (fin_yes _ _ _ _ hd1 hd2).mono ?_
          rintro e w' ⟨rfl, rfl⟩
          go_wp2_with (at_builtin; refine app_int _ rfl _ _ rfl (w.heap.size + 1) _ xs rfl (O5.out.alloc _) ⟨w'.heap.size, 0, none⟩ (R * W + C) rfl (by simp) (by have := Ll.out; omega) (by have := X5.out.lt; simp; omega) ?_)
          intro g cap w6 o6 g6 a6 l6
          have O6 : Hid (Ow w6 (w.heap.size + 1) (.slice (some ⟨g, 0, none⟩) (xs.length + 1) cap) (xs ++ [R * W + C])) := o6
          have hob : ∀ k, u5.ownBlock = some k → w.heap.size + 1 ≤ k := fun k hk => (O5.out.block k hk).1
          have b6 : Below (w.heap.size + 1) w' w6 := ((Below.refl _ _).alloc (by have := X5.out.lt; omega) _).grown g6 (by have := X5.out.lt; simp; omega) hob
          have X6 : Hid (Bf w6 w.heap.size W H (Value.slice a1 gs.length c) (Value.slice b1 os.length d)) := X5.out.below b6 (Nat.lt_succ_self _)
          have B6 : Hid (Below w.heap.size w w6) := B5.out.trans (b6.mono (Nat.le_succ _))
          clear o6 g6 a6 l6 hob b6 x0 x1 x2 x3 m1 m2
          go_wp2
          go_round
          case rel => exact ⟨k + 1, by omega, by go_num, by rw [Ek'.out]; exact O6, X6, B6⟩
          case measure => simp [intOf]; omega
        · have Ek' : Hid (Fd.nb W H p r (k + 1) = xs) := by
            have := Ek.out
            rw [if_neg (fun h => hd h.2), List.append_nil] at this
            exact this
          clear Ek
          obtain ⟨hc1, hc2⟩ := hc
          have hd' : (r : Int) + sr < 0 ∨ (H : Int) - 1 < (r : Int) + sr := by omega
          clear hd
          go_wp2_with fail
          refine (fin_yes _ _ _ _ hc1 hc2).mono ?_
          rintro e w' ⟨rfl, rfl⟩
          go_wp2_with fail
          refine (fin_no _ _ _ _ hd').mono ?_
          rintro e w' ⟨rfl, rfl⟩
          go_wp2
          go_round
          case rel => exact ⟨k + 1, by omega, by go_num, by rw [Ek'.out]; exact O5, X5, B5⟩
          case measure => simp [intOf]; omega
      · have Ek' : Hid (Fd.nb W H p r (k + 1) = xs) := by
          have := Ek.out
          rw [if_neg (fun h => hc h.1), List.append_nil] at this
          exact this
        clear Ek
        have hc' : (p : Int) + sc < 0 ∨ (W : Int) - 1 < (p : Int) + sc := by omega
        clear hc
        go_wp2_with fail
        refine (fin_no _ _ _ _ hc').mono ?_
        rintro e w' ⟨rfl, rfl⟩
        go_wp2
        go_round
        case rel => exact ⟨k + 1, by omega, by go_num, by rw [Ek'.out]; exact O5, X5, B5⟩
        case measure => simp [intOf]; omega

end Go.Proofs.YtkejdkajfnaieaaGreatDoor

namespace Go.Proofs.YtkejdkajfnaieaaGreatDoor
open Go.RowKit
set_option linter.unusedVariables false

/-- v is a slice of n lists: the i-th is nb i. -/
def Bs (w : World) (v : Value) (n : Nat) (nb : Nat → List Int) : Prop := ∃ x c, v = .slice (some x) n c ∧ n ≤ c ∧ c ≤ 9223372036854775807 ∧ ∀ i, i < n → ∃ u, w.cell? (x.add i) = some u ∧ Ro w u (nb i)
theorem Bs.below {w w' : World} {v : Value} {n : Nat} {nb : Nat → List Int} (h : Bs w v n nb) (hb : Below w.heap.size w w') : Bs w' v n nb := by
  obtain ⟨x, c, h1, h2, h3, h4⟩ := h
  refine ⟨x, c, h1, h2, h3, fun i hi => ?_⟩
  obtain ⟨u, hu, hr⟩ := h4 i hi
  have := cell_lt hu
  exact ⟨u, by rw [hb.cell (p := x.add i) this]; exact hu, hr.below hb⟩
/-- v is a land. -/
def Ld (w : World) (v : Value) (n : Nat) (nb : Nat → List Int) (ss : List Int) : Prop := ∃ u1 u2, v = .agg #[u1, u2] ∧ Bs w u1 n nb ∧ Ro w u2 ss ∧ ss.length = n
theorem Ld.below {w w' : World} {v : Value} {n : Nat} {nb : Nat → List Int} {ss : List Int} (h : Ld w v n nb ss) (hb : Below w.heap.size w w') : Ld w' v n nb ss := by
  obtain ⟨u1, u2, h1, h2, h3, h4⟩ := h
  exact ⟨u1, u2, h1, h2.below hb, h3.below hb, h4⟩

/-- a land in a box. -/
structure Bl (w : World) (z : Nat) (u1 u2 : Value) : Prop where
  c0 : w.cell? ⟨z, 0, none⟩ = some u1
  c1 : w.cell? ⟨z, 1, none⟩ = some u2
theorem Bl.lt {w : World} {z : Nat} {u1 u2 : Value} (h : Bl w z u1 u2) : z < w.heap.size := cell_lt h.c0
theorem Bl.mk' {w : World} {z : Nat} (u1 u2 : Value) (hz : w.heap.size = z) : Bl (w.alloc (.cells #[u1, u2] 232)) z u1 u2 := by
  subst hz
  exact ⟨by simp, by simp⟩
theorem Bl.below {w w' : World} {z B : Nat} {u1 u2 : Value} (h : Bl w z u1 u2) (hb : Below B w w') (hz : z < B) : Bl w' z u1 u2 :=
  ⟨by rw [hb.cell (p := ⟨z, 0, none⟩) hz]; exact h.c0, by rw [hb.cell (p := ⟨z, 1, none⟩) hz]; exact h.c1⟩
theorem Bl.kp {w w' : World} {z b : Nat} {u1 u2 : Value} (h : Bl w z u1 u2) (hk : Kp b w w') (hz : z ≠ b) : Bl w' z u1 u2 := by
  have e := hk.block z h.lt hz
  exact ⟨by rw [World.cell?_of_block (w := w) (a := ⟨z, 0, none⟩) e]; exact h.c0, by rw [World.cell?_of_block (w := w) (a := ⟨z, 1, none⟩) e]; exact h.c1⟩
end Go.Proofs.YtkejdkajfnaieaaGreatDoor

namespace Go.Proofs.YtkejdkajfnaieaaGreatDoor
open Go.RowKit
set_option linter.unusedVariables false

theorem info_ints : (Tryz.prog.info? 23).map (fun i => (i.zero, i.size, i.bytes)) = some (some (.slice none 0 0), 1, 24) := by kernel_rfl

/-- one more list. -/
theorem app_list {ops : Array Oper} {rest : List Oper} {o : Oper} {a : Act} {Q : Exit → Act → World → Prop} (w : World) (hgd : o.guard = none) (s x : Operand)
    (ho : o.op = .call { callee := .builtin .append, args := #[s, x], argTypes := #[179, 179] }) (base : Nat) (v : Value) (us : List Value) (hs : a.eval s = v) (hown : w.ownsRow base 23 1 v us.length us)
    (ad : Addr) (u : Value) (hx : a.eval x = .slice (some ad) 1 1) (hd : w.cell? ad = some u) (hu : u.oneCell' = true) (hl : us.length ≤ 1000000) (hbase : base ≤ w.heap.size)
    (h : ∀ g cap w', w'.ownsRow base 23 1 (.slice (some ⟨g, 0, none⟩) (us.length + 1) cap) (us.length + 1) (us ++ [u]) → w.grownBy w' v.ownBlock → (v.ownBlock = some g ∨ g = w.heap.size) → g < w'.heap.size → wpList Tryz.prog ops Q rest (a.put o.dst (.slice (some ⟨g, 0, none⟩) (us.length + 1) cap)) w') :
    wpList Tryz.prog ops Q (o :: rest) a w := by
  obtain ⟨i0, hi, hz0, hz1, hz2⟩ := info_parts info_ints
  refine wpList_append_lies w hgd s x 179 ho base 23 i0 (.slice none 0 0) 1 24 Tryz.underlying179 hi hz0 hz1 hz2 rfl (by decide) v us.length _ hs hown ad 1 1 [u] hx rfl ?_ ?_ (by decide) (by unfold maxLen; omega) (by omega) hbase _ rfl ?_
  · intro j e hj
    match j, hj with
    | 0, hj => simp at hj; subst hj; exact hd
  · intro e he
    simp at he
    subst he
    exact hu
  · intro g cap w' h1 h2 h3 h4
    exact h g cap w' h1 h2 h3 h4

/-- u lies elsewhere than v. -/
def Apart (u v : Value) : Prop := u.ownBlock = none ∨ u.ownBlock ≠ v.ownBlock
theorem Apart.app {u v : Value} {z g n cap : Nat} (h : Apart u v) (hu : ∀ k, u.ownBlock = some k → k < z) (hg : v.ownBlock = some g ∨ g = z) : Apart u (.slice (some ⟨g, 0, none⟩) n cap) := by
  rcases h with h | h
  · exact .inl h
  · cases hb : u.ownBlock with
    | none => exact .inl hb
    | some k =>
      refine .inr ?_
      intro e
      rw [hb] at e
      simp only [Value.ownBlock, Option.some.injEq] at e
      rcases hg with hg | hg
      · exact h (by rw [hg, hb, e])
      · have := hu k hb
        omega
/-- what is new lies elsewhere. -/
theorem Apart.fresh {w' : World} {u v : Value} {xs : List Int} {z : Nat} (hu : Ow w' z u xs) (hv : ∀ k, v.ownBlock = some k → k < z) : Apart u v := by
  cases hb : u.ownBlock with
  | none => exact .inl hb
  | some k =>
    refine .inr fun e => ?_
    have h1 := (hu.block k hb).1
    rw [hb] at e
    have h2 := hv k e.symm
    omega

/-- of the first k cells. -/
structure Wds (w : World) (base : Nat) (v4 v5 : Value) (us : List Value) (nb : Nat → List Int) (ss : List Int) : Prop where
  o4 : w.ownsRow base 23 1 v4 us.length us
  o5 : Ow w base v5 ss
  e45 : Apart v5 v4
  e54 : Apart v4 v5
  each : ∀ i u, us[i]? = some u → Ow w base u (nb i) ∧ Apart u v4 ∧ Apart u v5

theorem Wds.below {w w' : World} {base : Nat} {v4 v5 : Value} {us : List Value} {nb : Nat → List Int} {ss : List Int} (h : Wds w base v4 v5 us nb ss) (hb : Below w.heap.size w w') : Wds w' base v4 v5 us nb ss :=
  ⟨World.ownsRow.kept h.o4 (row := none) ⟨hb.os, hb.tape, hb.output, hb.size, fun k hk _ => hb.block k hk⟩ (by cases v4.ownBlock <;> simp), h.o5.below hb, h.e45, h.e54, fun i u hu => ⟨(h.each i u hu).1.below hb, (h.each i u hu).2⟩⟩
theorem Wds.kp {w w' : World} {base z : Nat} {v4 v5 : Value} {us : List Value} {nb : Nat → List Int} {ss : List Int} (h : Wds w base v4 v5 us nb ss) (hk : Kp z w w') (hz : z < base) : Wds w' base v4 v5 us nb ss := by
  have hg : w.grownBy w' (some z) := ⟨hk.os, hk.tape, hk.output, hk.size, fun k h1 h2 => hk.block k h1 (fun e => h2 (by rw [e]))⟩
  have ne : ∀ {u : Value} {xs : List Int}, Ow w base u xs → u.ownBlock = none ∨ u.ownBlock ≠ some z := fun {u} {xs} ho => by
    cases hb : u.ownBlock with
    | none => exact .inl rfl
    | some k =>
      have := (ho.block k hb).1
      exact .inr (by simp; omega)
  have ne4 : v4.ownBlock = none ∨ v4.ownBlock ≠ some z := by
    cases hb : v4.ownBlock with
    | none => exact .inl rfl
    | some k =>
      have := (World.ownsRow.lt h.o4 k hb).1
      exact .inr (by simp; omega)
  exact ⟨World.ownsRow.kept h.o4 hg ne4, h.o5.kept hg (ne h.o5), h.e45, h.e54, fun i u hu => ⟨(h.each i u hu).1.kept hg (ne (h.each i u hu).1), (h.each i u hu).2⟩⟩
theorem Wds.start (w : World) (base : Nat) (nb : Nat → List Int) : Wds w base (.slice none 0 0) (.slice none 0 0) [] nb [] :=
  ⟨World.ownsRow_nil _ _ _ _, Ow.nil _ _, .inl rfl, .inl rfl, fun i u hu => by simp at hu⟩
theorem Wds.bs {w : World} {base n : Nat} {v4 v5 : Value} {us : List Value} {nb : Nat → List Int} {ss : List Int} (h : Wds w base v4 v5 us nb ss) (hl : us.length = n) (h0 : 0 < n) : Bs w v4 n nb := by
  rcases h.o4.2 with ⟨_, e⟩ | ⟨g, cap, cur, hv, hb, hg, h1, h2, h3, h4⟩
  · omega
  · refine ⟨⟨g, 0, none⟩, cap, by rw [hv, hl], by omega, by unfold maxLen at h2; omega, fun i hi => ?_⟩
    obtain ⟨u, hu⟩ : ∃ u, us[i]? = some u := ⟨us[i]'(by omega), List.getElem?_eq_getElem _⟩
    refine ⟨u, ?_, (h.each i u hu).1.ro⟩
    rw [Addr.add_lit, Nat.zero_add]
    simp only [World.cell?, hg]
    rw [← h4, List.getElem?_take, if_pos (by omega)] at hu
    rw [← Array.getElem?_toList]
    simpa using hu
/-- one list more. -/
theorem Wds.list {w w' : World} {base g cap : Nat} {v4 v5 u : Value} {us : List Value} {nb : Nat → List Int} {ss : List Int} (h : Wds w base v4 v5 us nb ss) (hu : Ow w base u (nb us.length)) (a4 : Apart u v4) (a5 : Apart u v5)
    (ho : w'.ownsRow base 23 1 (.slice (some ⟨g, 0, none⟩) (us.length + 1) cap) (us.length + 1) (us ++ [u])) (hg : w.grownBy w' v4.ownBlock) (hat : v4.ownBlock = some g ∨ g = w.heap.size) :
    Wds w' base (.slice (some ⟨g, 0, none⟩) (us.length + 1) cap) v5 (us ++ [u]) nb ss := by
  have lt : ∀ {u : Value} {xs : List Int}, Ow w base u xs → ∀ k, u.ownBlock = some k → k < w.heap.size := fun h k hk => (h.block k hk).2
  refine ⟨by rw [List.length_append]; exact ho, h.o5.kept hg h.e45, h.e45.app (lt h.o5) hat, ?_, fun i e he => ?_⟩
  · rcases hat with hat | hat
    · rcases h.e54 with h1 | h1
      · rw [hat] at h1; cases h1
      · exact .inr (by rw [hat] at h1; exact h1)
    · refine .inr fun e => ?_
      have := (h.o5.block g (by rw [← e]; rfl)).2
      omega
  · rw [List.getElem?_append] at he
    split at he
    · have k := h.each i e he
      exact ⟨k.1.kept hg k.2.1, k.2.1.app (lt k.1) hat, k.2.2⟩
    · rename_i hi
      have hi0 : i = us.length := by
        have := (List.getElem?_eq_some_iff.1 he).1
        simp at this
        omega
      subst hi0
      simp at he
      subst he
      exact ⟨hu.kept hg a4, a4.app (lt hu) hat, a5⟩
/-- one number more. -/
theorem Wds.num {w w' : World} {base g cap : Nat} {v4 v5 : Value} {us : List Value} {nb : Nat → List Int} {ss : List Int} {d : Int} (h : Wds w base v4 v5 us nb ss)
    (ho : Ow w' base (.slice (some ⟨g, 0, none⟩) (ss.length + 1) cap) (ss ++ [d])) (hg : w.grownBy w' v5.ownBlock) (hat : v5.ownBlock = some g ∨ g = w.heap.size) :
    Wds w' base v4 (.slice (some ⟨g, 0, none⟩) (ss.length + 1) cap) us nb (ss ++ [d]) := by
  have lt : ∀ {u : Value} {xs : List Int}, Ow w base u xs → ∀ k, u.ownBlock = some k → k < w.heap.size := fun h k hk => (h.block k hk).2
  have lt4 : ∀ k, v4.ownBlock = some k → k < w.heap.size := fun k hk => (World.ownsRow.lt h.o4 k hk).2
  refine ⟨World.ownsRow.kept h.o4 hg h.e54, ho, ?_, h.e54.app lt4 hat, fun i e he => ?_⟩
  · rcases hat with hat | hat
    · rcases h.e45 with h1 | h1
      · rw [hat] at h1; cases h1
      · exact .inr (by rw [hat] at h1; exact h1)
    · refine .inr fun e => ?_
      have := lt4 g (by rw [← e]; rfl)
      omega
  · have k := h.each i e he
    exact ⟨k.1.kept hg k.2.2, k.2.1, k.2.2.app (lt k.1) hat⟩

set_option maxHeartbeats 1000000 in
theorem Ways_bad (v : Value) (W H : Int) (gs os : List Int) (F : Int) (fl : Bool) (w : World) (h : Fl w v W H gs os) (hF : Fd.fault W H gs os = F) (h0 : F ≠ 0) :
    Calls Tryz.prog 211 #[v, .bool fl] w fun e w' => e = .returned (.tuple #[.slice none 0 0, .slice none 0 0, .iface 97 (.int .i64 F)]) ∧ Below w.heap.size w w' := by
  have F0 : Hid (Fl w v W H gs os) := h
  have HF : Hid (Fd.fault W H gs os = F) := hF
  have H0 : Hid (F ≠ 0) := h0
  obtain ⟨u1, u2, rfl, ⟨a1, c, rfl, c1, c2, ca⟩, ⟨b1, d, rfl, d1, d2, cb⟩⟩ := h
  clear hF h0 ca cb
  go_enter Tryz.func211, Tryz.ntmps211
  go_wp2_with fail
  refine (check_any _ W H gs os _ (F0.out.below ((Below.refl _ _).alloc (Nat.le_refl _) _))).mono ?_
  rintro e w1 ⟨v1, rfl, hv, hb⟩
  have B1 : Hid (Below w.heap.size w w1) := ((Below.refl _ _).alloc (Nat.le_refl _) _).trans (hb.mono (by simp))
  rw [HF.out] at hv
  clear hb
  rcases hv with ⟨hz, rfl⟩ | ⟨hz, rfl⟩
  · exact absurd hz H0.out
  · clear hz
    go_wp2
    go_ret3
    exact ⟨rfl, B1⟩

set_option maxHeartbeats 2000000 in
theorem Ways_ok (v : Value) (W H : Nat) (gs os : List Int) (fl : Bool) (w : World) (h : Fl w v W H gs os) (G : Fd.Good W H gs os) (hs : Sd w) :
    Calls Tryz.prog 211 #[v, .bool fl] w fun e w' => ∃ u1 u2 us, e = .returned (.tuple #[u1, u2, .nilIface]) ∧ us.length = W * H ∧ Wds w' (w.heap.size + 1) u1 u2 us (Fd.near W H) (gs.map fun g => Fd.onto g fl) ∧ Below w.heap.size w w' := by
  have F0 : Hid (Fl w v W H gs os) := h
  have S0 : Hid (Sd w) := hs
  have G0 : Hid (Fd.Good W H gs os) := G
  obtain ⟨u1, u2, rfl, ⟨a1, c, rfl, c1, c2, ca⟩, ⟨b1, d, rfl, d1, d2, cb⟩⟩ := h
  have gl := G.gl
  have gp := G.pos
  obtain ⟨x, rfl, xl, hx⟩ := ca (by intro e; rw [e] at gl; simp at gl; omega)
  have Hx : Hid ((∀ (i : Nat) d, gs[i]? = some d → w.cell? (x.add i) = some (.int .i64 d)) ∧ x.block < w.heap.size) := ⟨hx, xl⟩
  have gl2 : gs.length ≤ 144 := by omega
  have Gl : Hid (gs.length = W * H) := gl
  clear cb ca hs hx xl G gl gp
  go_enter Tryz.func211, Tryz.ntmps211
  go_wp2_with fail
  refine (check_any _ W H gs os _ (F0.out.below ((Below.refl _ _).alloc (Nat.le_refl _) _))).mono ?_
  rintro e w1 ⟨v1, rfl, hv, hb⟩
  have B1 : Hid (Below w.heap.size w w1) := ((Below.refl _ _).alloc (Nat.le_refl _) _).trans (hb.mono (by simp))
  have X1 : Hid (Bf w1 w.heap.size W H (Value.slice (some x) gs.length c) (Value.slice b1 os.length d)) := (Bf.mk' (w := w) W H (Value.slice (some x) gs.length c) (Value.slice b1 os.length d) rfl).below hb (by simp)
  rw [Fd.fault_good G0.out] at hv
  clear hb
  rcases hv with ⟨hz, rfl⟩ | ⟨hz, rfl⟩
  · clear hz
    obtain ⟨x0, x1, x2, x3⟩ := X1.out
    go_wp2_with fail
    clear x0 x1 x2 x3
    go_loopw [4, 5, 18] (fun v4 v5 i W' => ∃ (k : Nat) (us : List Value), k ≤ gs.length ∧ i = .int .i64 (k : Nat) ∧ us.length = k ∧ Wds W' (w.heap.size + 1) v4 v5 us (Fd.near W H) ((gs.take k).map fun g => Fd.onto g fl) ∧ Bf W' w.heap.size W H (Value.slice (some x) gs.length c) (Value.slice b1 os.length d) ∧ Below w.heap.size w W') (fun _ _ i _ => gs.length - (intOf i).toNat)
    case atStart => exact ⟨0, [], Nat.zero_le _, rfl, rfl, Wds.start _ _ _, X1, B1⟩
    case round =>
      obtain ⟨k, us, hk, rfl, hl, hw, hX, hB⟩ := hrel
      clear X1 B1
      have D : Hid (Wds wr (w.heap.size + 1) u4 u5 us (Fd.near W H) ((gs.take k).map fun g => Fd.onto g fl)) := hw
      have X : Hid (Bf wr w.heap.size W H (Value.slice (some x) gs.length c) (Value.slice b1 os.length d)) := hX
      have B : Hid (Below w.heap.size w wr) := hB
      have Hl : Hid (us.length = k) := hl
      clear hw hX hB hl
      by_cases h0 : k = gs.length
      · subst h0
        go_wp2
        go_ret3
        refine ⟨_, _, us, rfl, by rw [Hl.out, Gl.out], ?_, B⟩
        have := D.out
        rw [List.take_of_length_le (Nat.le_refl _)] at this
        exact this
      · have hkl : k < gs.length := by omega
        obtain ⟨g, hg⟩ : ∃ g, gs[k]? = some g := ⟨_, List.getElem?_eq_getElem hkl⟩
        have cg : wr.cell? (x.add k) = some (.int .i64 g) := by rw [B.out.cell (p := x.add k) (by rw [add_block]; exact Hx.out.2)]; exact Hx.out.1 k g hg
        have Hg : Hid ((gs.take (k + 1)).map (fun g => Fd.onto g fl) = (gs.take k).map (fun g => Fd.onto g fl) ++ [Fd.onto g fl]) := by
          unfold Hid
          rw [List.take_succ_eq_append_getElem hkl, List.map_append]
          rw [List.getElem?_eq_getElem hkl] at hg
          injection hg with hg
          rw [hg]
          rfl
        have Lk : Hid (((gs.take k).map fun g => Fd.onto g fl).length ≤ 144) := by unfold Hid; simp; omega
        have zs : Hid (w.heap.size < wr.heap.size) := X.out.lt
        obtain ⟨x0, x1, x2, x3⟩ := X.out
        clear hg
        go_wp2_with fail
        refine (near_own _ W H gs os k _ (F0.out.below B.out) G0.out (by rw [← Gl.out]; exact hkl) (S0.out.below B.out)).mono ?_
        rintro e w2 ⟨u, rfl, hu, hb2⟩
        obtain ⟨ua, uc, hue⟩ := hu.len
        have a4 : Apart u u4 := Apart.fresh hu (fun k hk => (World.ownsRow.lt D.out.o4 k hk).2)
        have a5 : Apart u u5 := Apart.fresh hu (fun k hk => (D.out.o5.block k hk).2)
        have A45 : Hid (Apart u u4 ∧ Apart u u5) := ⟨a4, a5⟩
        have ba : Below w2.heap.size w2 (w2.alloc (Obj.cells #[u] 23)) := (Below.refl _ _).alloc (Nat.le_refl _) _
        have U3 : Hid (Ow (w2.alloc (Obj.cells #[u] 23)) (w.heap.size + 1) u (Fd.near W H k)) := (hu.mono zs.out).below ba
        have D3 : Hid (Wds (w2.alloc (Obj.cells #[u] 23)) (w.heap.size + 1) u4 u5 us (Fd.near W H) ((gs.take k).map fun g => Fd.onto g fl)) := (D.out.below hb2).below ba
        have X3 : Hid (Bf (w2.alloc (Obj.cells #[u] 23)) w.heap.size W H (Value.slice (some x) gs.length c) (Value.slice b1 os.length d)) := (X.out.below hb2 X.out.lt).below ba (Nat.lt_of_lt_of_le X.out.lt hb2.size)
        have B3 : Hid (Below w.heap.size w (w2.alloc (Obj.cells #[u] 23))) := (B.out.trans (hb2.mono B.out.size)).trans (ba.mono (Nat.le_trans B.out.size hb2.size))
        have Cd : Hid ((w2.alloc (Obj.cells #[u] 23)).cell? ⟨w2.heap.size, 0, none⟩ = some u) := by unfold Hid; simp
        have S3 : Hid (w.heap.size + 1 ≤ (w2.alloc (Obj.cells #[u] 23)).heap.size) := X3.out.lt
        clear a4 a5 ba hu hb2 D X B zs x0 x1 x2 x3 cg
        subst hue
        go_wp2_with (at_builtin; refine app_list _ rfl _ _ rfl (w.heap.size + 1) _ us rfl D3.out.o4 ⟨w2.heap.size, 0, none⟩ _ rfl Cd.out rfl (by rw [Hl.out]; omega) S3.out ?_)
        intro g4 cap4 w4 o4 gr4 at4 lt4
        have D4 : Hid (Wds w4 (w.heap.size + 1) (.slice (some ⟨g4, 0, none⟩) (us.length + 1) cap4) u5 (us ++ [.slice ua (Fd.near W H k).length uc]) (Fd.near W H) ((gs.take k).map fun g => Fd.onto g fl)) := D3.out.list (by rw [Hl.out]; exact U3.out) A45.out.1 A45.out.2 o4 gr4 (by simpa using at4)
        have b4 : Below (w.heap.size + 1) (w2.alloc (Obj.cells #[.slice ua (Fd.near W H k).length uc] 23)) w4 := (Below.refl _ _).grown gr4 S3.out (fun k hk => (World.ownsRow.lt D3.out.o4 k hk).1)
        have X4 : Hid (Bf w4 w.heap.size W H (Value.slice (some x) gs.length c) (Value.slice b1 os.length d)) := X3.out.below b4 (Nat.lt_succ_self _)
        have B4 : Hid (Below w.heap.size w w4) := B3.out.trans (b4.mono (Nat.le_succ _))
        clear o4 gr4 at4 lt4 b4 D3 X3 B3 S3 Cd U3 A45
        go_wp2_with fail
        refine (step_any g fl _).mono ?_
        rintro e w5 ⟨rfl, rfl⟩
        obtain ⟨s, hs⟩ : ∃ s, Fd.onto g fl = s := ⟨_, rfl⟩
        rw [hs] at Hg ⊢
        have ba : Below w5.heap.size w5 (w5.alloc (Obj.cells #[.int .i64 s] 3)) := (Below.refl _ _).alloc (Nat.le_refl _) _
        have D5 : Hid (Wds (w5.alloc (Obj.cells #[.int .i64 s] 3)) (w.heap.size + 1) (.slice (some ⟨g4, 0, none⟩) (us.length + 1) cap4) u5 (us ++ [.slice ua (Fd.near W H k).length uc]) (Fd.near W H) ((gs.take k).map fun g => Fd.onto g fl)) := D4.out.below ba
        have X5 : Hid (Bf (w5.alloc (Obj.cells #[.int .i64 s] 3)) w.heap.size W H (Value.slice (some x) gs.length c) (Value.slice b1 os.length d)) := X4.out.below ba X4.out.lt
        have B5 : Hid (Below w.heap.size w (w5.alloc (Obj.cells #[.int .i64 s] 3))) := B4.out.trans (ba.mono B4.out.size)
        have Cd : Hid ((w5.alloc (Obj.cells #[.int .i64 s] 3)).cell? ⟨w5.heap.size, 0, none⟩ = some (.int .i64 s)) := by unfold Hid; simp
        have S5 : Hid (w.heap.size + 1 ≤ (w5.alloc (Obj.cells #[.int .i64 s] 3)).heap.size) := X5.out.lt
        clear ba D4 X4 B4 hs
        generalize (gs.take k).map (fun g => Fd.onto g fl) = ss at *
        go_wp2_with (at_builtin; refine app_int _ rfl _ _ rfl (w.heap.size + 1) _ ss rfl D5.out.o5 ⟨w5.heap.size, 0, none⟩ s rfl Cd.out (Nat.le_trans Lk.out (by omega)) S5.out ?_)
        intro g6 cap6 w6 o6 gr6 at6 lt6
        have D6 : Hid (Wds w6 (w.heap.size + 1) (.slice (some ⟨g4, 0, none⟩) (us.length + 1) cap4) (.slice (some ⟨g6, 0, none⟩) (ss.length + 1) cap6) (us ++ [.slice ua (Fd.near W H k).length uc]) (Fd.near W H) (ss ++ [s])) := D5.out.num o6 gr6 (by simpa using at6)
        have b6 : Below (w.heap.size + 1) (w5.alloc (Obj.cells #[.int .i64 s] 3)) w6 := (Below.refl _ _).grown gr6 S5.out (fun k hk => (D5.out.o5.block k hk).1)
        have X6 : Hid (Bf w6 w.heap.size W H (Value.slice (some x) gs.length c) (Value.slice b1 os.length d)) := X5.out.below b6 (Nat.lt_succ_self _)
        have B6 : Hid (Below w.heap.size w w6) := B5.out.trans (b6.mono (Nat.le_succ _))
        clear o6 gr6 at6 lt6 b6 D5 X5 B5 S5 Cd
        go_wp2
        go_round
        case rel => exact ⟨k + 1, us ++ [.slice ua (Fd.near W H k).length uc], by omega, by go_num, by simp [Hl.out], by rw [Hg.out]; exact D6, X6, B6⟩
        case measure => simp [intOf]; omega
  · exact absurd rfl hz
end Go.Proofs.YtkejdkajfnaieaaGreatDoor

namespace Go.Proofs.YtkejdkajfnaieaaGreatDoor
open Go.RowKit
set_option linter.unusedVariables false

theorem enter_none : ∀ args w, (callFunc 212 args).run Tryz.prog w = .ok (.enter 212 args) w := by
  intro args w
  go_simp

set_option maxHeartbeats 1000000 in
theorem nocell_any (x : Int) (b n c : Nat) (a : Option Addr) (w : World) (hb : w.cell? ⟨b, 0, none⟩ = some (.slice a n c)) (hn : n ≤ 144) :
    Calls Tryz.prog 212 #[.int .i64 x, .pointer (some ⟨b, 0, none⟩)] w fun e w' => e = .returned (.bool (!decide (0 ≤ x ∧ x < n))) ∧ w' = w := by
  by_cases h1 : x < 0
  · go_enter Tryz.func212, Tryz.ntmps212
    go_wp2
    go_ret
    exact ⟨by rw [decide_eq_false (by omega)]; rfl, rfl⟩
  · by_cases h2 : (n : Int) ≤ x
    · go_enter Tryz.func212, Tryz.ntmps212
      go_wp2
      go_ret
      exact ⟨by rw [decide_eq_false (by omega)]; rfl, rfl⟩
    · go_enter Tryz.func212, Tryz.ntmps212
      go_wp2
      go_ret
      exact ⟨rfl, rfl⟩

/-- a box for a land, that may be written. -/
structure Lw (w : World) (z : Nat) (a b : Value) : Prop where
  c0 : w.cell? ⟨z, 0, none⟩ = some a
  c1 : w.cell? ⟨z, 1, none⟩ = some b
  f0 : w.frozen? ⟨z, 0, none⟩ = false
  f1 : w.frozen? ⟨z, 1, none⟩ = false
theorem Lw.mk' {w : World} {z : Nat} {a b : Value} (h : w.heap[z]? = some (.cells #[a, b] 232 (0, 0))) : Lw w z a b :=
  ⟨by simp [World.cell?, h], by simp [World.cell?, h], by simp [World.frozen?, h], by simp [World.frozen?, h]⟩

set_option maxHeartbeats 1000000 in
theorem look_bad (v u : Value) (W H : Int) (gs os : List Int) (F : Int) (fl : Bool) (w : World) (h : Fl w v W H gs os) (hF : Fd.fault W H gs os = F) (h0 : F ≠ 0) :
    Calls Tryz.prog 177 #[v, .bool fl, u] w fun e w' => e = .returned (.tuple #[.agg #[.slice none 0 0, .slice none 0 0], .iface 97 (.int .i64 F)]) ∧ Below w.heap.size w w' := by
  have F0 : Hid (Fl w v W H gs os) := h
  have HF : Hid (Fd.fault W H gs os = F) := hF
  have H0 : Hid (F ≠ 0) := h0
  obtain ⟨u1, u2, rfl, ⟨a1, c, rfl, c1, c2, ca⟩, ⟨b1, d, rfl, d1, d2, cb⟩⟩ := h
  clear hF h0 ca cb
  go_enter Tryz.func177, Tryz.ntmps177
  go_wp2_with fail
  refine (Ways_bad _ W H gs os F fl _ (F0.out.below (((Below.refl _ _).alloc (Nat.le_refl _) _).alloc (by simp) _)) HF.out H0.out).mono ?_
  rintro e w1 ⟨rfl, hb⟩
  have B1 : Hid (Below w.heap.size w w1) := (((Below.refl _ _).alloc (Nat.le_refl _) _).alloc (by simp) _).trans (hb.mono (by simp; omega))
  have blk : Hid (w1.heap[w.heap.size + 1]? = some (.cells #[.slice none 0 0, .slice none 0 0] 232 (0, 0))) := by
    unfold Hid
    rw [hb.block (w.heap.size + 1) (by simp)]
    have := heap_alloc_new (w.alloc (Obj.cells #[.int .i64 W, .int .i64 H, .slice a1 gs.length c, .slice b1 os.length d] 25)) (Obj.cells #[.slice none 0 0, .slice none 0 0] 232)
    simpa using this
  clear hb
  have blk2 : (w1.alloc (Obj.cells #[.slice none 0 0] 23)).heap[w.heap.size + 1]? = some (.cells #[.slice none 0 0, .slice none 0 0] 232 (0, 0)) := by
    rw [heap_alloc_old w1 _ (lt_of_block blk.out)]
    exact blk.out
  have B2 : Hid (Below w.heap.size w (w1.alloc (Obj.cells #[.slice none 0 0] 23))) := B1.out.alloc B1.out.size _
  go_upto_region 2 with fail
  generalize w1.alloc (Obj.cells #[.slice none 0 0] 23) = w2 at *
  obtain ⟨c0, c1, f0, f1⟩ := Lw.mk' blk2
  clear blk blk2 B1
  go_wp2
  refine bodyPost_ret (v := .tuple #[.agg #[.slice none 0 0, .slice none 0 0], .iface 97 (.int .i64 F)]) (by simp [results, Tryz.results177, go_sem, c0, c1]) rfl ?_
  exact ⟨rfl, (B2.out.setCell (Nat.le_succ _) _).setCell (Nat.le_succ _) _⟩

set_option maxHeartbeats 2000000 in
theorem look_none (v u : Value) (W H : Nat) (gs os xs : List Int) (fl : Bool) (w : World) (h : Fl w v W H gs os) (G : Fd.Good W H gs os) (hs : Sd w) (hu : Ro w u xs) (hx : xs.any (fun x => !decide (0 ≤ x ∧ x < ((W * H : Nat) : Int))) = true) :
    Calls Tryz.prog 177 #[v, .bool fl, u] w fun e w' => e = .returned (.tuple #[.agg #[.slice none 0 0, .slice none 0 0], .iface 97 (.int .i64 6)]) ∧ Below w.heap.size w w' := by
  have F0 : Hid (Fl w v W H gs os) := h
  have S0 : Hid (Sd w) := hs
  have G0 : Hid (Fd.Good W H gs os) := G
  have U0 : Hid (Ro w u xs) := hu
  have Hx : Hid (xs.any (fun x => !decide (0 ≤ x ∧ x < ((W * H : Nat) : Int))) = true) := hx
  obtain ⟨u1, u2, rfl, ⟨a1, c, rfl, c1, c2, ca⟩, ⟨b1, d, rfl, d1, d2, cb⟩⟩ := h
  clear hs hu hx ca cb
  have Gp : Hid (W * H ≤ 144) := G.pos.2
  have Gq : Hid (0 < W * H) := by have := G.pos.1; unfold Hid; omega
  have Gl : Hid (gs.length = W * H) := G.gl
  clear G
  go_enter Tryz.func177, Tryz.ntmps177
  go_wp2_with fail
  have b0 : Below w.heap.size w ((w.alloc (Obj.cells #[.int .i64 W, .int .i64 H, .slice a1 gs.length c, .slice b1 os.length d] 25)).alloc (Obj.cells #[.slice none 0 0, .slice none 0 0] 232)) := ((Below.refl _ _).alloc (Nat.le_refl _) _).alloc (by simp) _
  refine (Ways_ok _ W H gs os fl _ (F0.out.below b0) G0.out (S0.out.below b0)).mono ?_
  rintro e w1 ⟨p1, p2, us, rfl, hus, hD, hb⟩
  obtain ⟨ss, hss⟩ : ∃ ss, (gs.map fun g => Fd.onto g fl) = ss := ⟨_, rfl⟩
  have Sl : Hid (ss.length = W * H) := by unfold Hid; rw [← hss, List.length_map]; exact Gl.out
  have Hss : Hid ((gs.map fun g => Fd.onto g fl) = ss) := hss
  rw [hss] at hD
  clear hss
  have B1 : Hid (Below w.heap.size w w1) := b0.trans (hb.mono (by simp; omega))
  have blk : Hid (w1.heap[w.heap.size + 1]? = some (.cells #[.slice none 0 0, .slice none 0 0] 232 (0, 0))) := by
    unfold Hid
    rw [hb.block (w.heap.size + 1) (by simp)]
    have := heap_alloc_new (w.alloc (Obj.cells #[.int .i64 W, .int .i64 H, .slice a1 gs.length c, .slice b1 os.length d] 25)) (Obj.cells #[.slice none 0 0, .slice none 0 0] 232)
    simpa using this
  have ba : Below w1.heap.size w1 (w1.alloc (Obj.cells #[p2] 23)) := (Below.refl _ _).alloc (Nat.le_refl _) _
  have Hus : Hid (us.length = W * H) := hus
  have L2 : Hid (Wds (w1.alloc (Obj.cells #[p2] 23)) (w.heap.size + 1 + 1 + 1) p1 p2 us (Fd.near W H) ss) := by
    have := hD.below ba
    unfold Hid
    simpa using this
  have hp1 := hD.bs hus (by have := Gq.out; omega)
  have hp2 := hD.o5.ro
  clear hD hus
  have B2 : Hid (Below w.heap.size w (w1.alloc (Obj.cells #[p2] 23))) := B1.out.trans (ba.mono B1.out.size)
  have K2 : Hid ((w1.alloc (Obj.cells #[p2] 23)).heap[w.heap.size + 1]? = some (.cells #[.slice none 0 0, .slice none 0 0] 232 (0, 0))) := by
    unfold Hid
    rw [heap_alloc_old w1 _ (lt_of_block blk.out)]
    exact blk.out
  have C2 : Hid ((w1.alloc (Obj.cells #[p2] 23)).cell? ⟨w1.heap.size, 0, none⟩ = some p2) := by unfold Hid; simp
  obtain ⟨x1, e1, hp1e, -⟩ := hp1
  obtain ⟨x2, e2, hp2e, -⟩ := hp2
  subst hp1e
  subst hp2e
  clear hb ba b0 blk B1
  go_upto_region 2 with fail
  generalize w1.alloc (Obj.cells #[.slice x2 ss.length e2] 23) = w2 at *
  have U2 : Hid (Ro w2 u xs) := U0.out.below B2.out
  have c9 := C2.out
  have hc : ∀ m, ∀ x ∈ xs, Calls Tryz.prog 212 (#[.int .i64 x] ++ #[.pointer (some ⟨w1.heap.size, 0, none⟩)]) (w2.drewN m) fun e w' => e = .returned (.bool (!decide (0 ≤ x ∧ x < ((W * H : Nat) : Int)))) ∧ ∃ q, w' = w2.drewN q := by
    intro m x _
    rw [show (#[Value.int .i64 x] ++ #[Value.pointer (some ⟨w1.heap.size, 0, none⟩)] : Array Value) = #[.int .i64 x, .pointer (some ⟨w1.heap.size, 0, none⟩)] from rfl]
    refine (nocell_any x w1.heap.size (W * H) e2 x2 (w2.drewN m) ?_ Gp.out).mono ?_
    · have := C2.out
      rw [Sl.out] at this
      exact this
    · rintro e w' ⟨h1, h2⟩
      exact ⟨h1, m, h2⟩
  have hh := hasf_any 212 enter_none u #[.pointer (some ⟨w1.heap.size, 0, none⟩)] xs (fun x => !decide (0 ≤ x ∧ x < ((W * H : Nat) : Int))) w2 U2.out hc
  rw [Hx.out] at hh
  have H3 : Hid (Calls Tryz.prog 153 #[u, .func (Fn.func 212) #[] #[.pointer (some ⟨w1.heap.size, 0, none⟩)]] w2 fun e w' => e = .returned (.bool true) ∧ ∃ q, w' = w2.drewN q) := hh
  clear hh hc
  go_wp2_with fail
  refine Calls.mono H3.out ?_
  rintro e w3 ⟨rfl, q, rfl⟩
  clear H3
  obtain ⟨c0, c1, f0, f1⟩ := Lw.mk' (w := w2.drewN q) K2.out
  have L3 : Hid (Wds (w2.drewN q) (w.heap.size + 1 + 1 + 1) (.slice (some x1) (W * H) e1) (.slice x2 ss.length e2) us (Fd.near W H) ss) := L2.out.below (_root_.Go.below_drewN (Below.refl _ _) _)
  have B3 : Hid (Below w.heap.size w (w2.drewN q)) := _root_.Go.below_drewN B2.out _
  have c9 : (w2.drewN q).cell? ⟨w1.heap.size, 0, none⟩ = some (.slice x2 ss.length e2) := C2.out
  generalize w2.drewN q = w3 at *
  clear B2 L2 K2 C2
  go_wp2
  refine bodyPost_ret (v := .tuple #[.agg #[.slice none 0 0, .slice none 0 0], .iface 97 (.int .i64 6)]) (by simp [results, Tryz.results177, go_sem, c0, c1]) rfl ?_
  exact ⟨rfl, (B3.out.setCell (Nat.le_succ _) _).setCell (Nat.le_succ _) _⟩

set_option maxHeartbeats 2000000 in
theorem look_ok (v u : Value) (W H : Nat) (gs os xs : List Int) (fl : Bool) (w : World) (h : Fl w v W H gs os) (G : Fd.Good W H gs os) (hs : Sd w) (hu : Ro w u xs) (hx : xs.any (fun x => !decide (0 ≤ x ∧ x < ((W * H : Nat) : Int))) = false) :
    Calls Tryz.prog 177 #[v, .bool fl, u] w fun e w' => (∃ v', e = .returned (.tuple #[v', .nilIface]) ∧ Ld w' v' (W * H) (Fd.near W H) (gs.map fun g => Fd.onto g fl)) ∧ Below w.heap.size w w' := by
  have F0 : Hid (Fl w v W H gs os) := h
  have S0 : Hid (Sd w) := hs
  have G0 : Hid (Fd.Good W H gs os) := G
  have U0 : Hid (Ro w u xs) := hu
  have Hx : Hid (xs.any (fun x => !decide (0 ≤ x ∧ x < ((W * H : Nat) : Int))) = false) := hx
  obtain ⟨u1, u2, rfl, ⟨a1, c, rfl, c1, c2, ca⟩, ⟨b1, d, rfl, d1, d2, cb⟩⟩ := h
  clear hs hu hx ca cb
  have Gp : Hid (W * H ≤ 144) := G.pos.2
  have Gq : Hid (0 < W * H) := by have := G.pos.1; unfold Hid; omega
  have Gl : Hid (gs.length = W * H) := G.gl
  clear G
  go_enter Tryz.func177, Tryz.ntmps177
  go_wp2_with fail
  have b0 : Below w.heap.size w ((w.alloc (Obj.cells #[.int .i64 W, .int .i64 H, .slice a1 gs.length c, .slice b1 os.length d] 25)).alloc (Obj.cells #[.slice none 0 0, .slice none 0 0] 232)) := ((Below.refl _ _).alloc (Nat.le_refl _) _).alloc (by simp) _
  refine (Ways_ok _ W H gs os fl _ (F0.out.below b0) G0.out (S0.out.below b0)).mono ?_
  rintro e w1 ⟨p1, p2, us, rfl, hus, hD, hb⟩
  obtain ⟨ss, hss⟩ : ∃ ss, (gs.map fun g => Fd.onto g fl) = ss := ⟨_, rfl⟩
  have Sl : Hid (ss.length = W * H) := by unfold Hid; rw [← hss, List.length_map]; exact Gl.out
  have Hss : Hid ((gs.map fun g => Fd.onto g fl) = ss) := hss
  rw [hss] at hD
  clear hss
  have B1 : Hid (Below w.heap.size w w1) := b0.trans (hb.mono (by simp; omega))
  have blk : Hid (w1.heap[w.heap.size + 1]? = some (.cells #[.slice none 0 0, .slice none 0 0] 232 (0, 0))) := by
    unfold Hid
    rw [hb.block (w.heap.size + 1) (by simp)]
    have := heap_alloc_new (w.alloc (Obj.cells #[.int .i64 W, .int .i64 H, .slice a1 gs.length c, .slice b1 os.length d] 25)) (Obj.cells #[.slice none 0 0, .slice none 0 0] 232)
    simpa using this
  have ba : Below w1.heap.size w1 (w1.alloc (Obj.cells #[p2] 23)) := (Below.refl _ _).alloc (Nat.le_refl _) _
  have Hus : Hid (us.length = W * H) := hus
  have L2 : Hid (Wds (w1.alloc (Obj.cells #[p2] 23)) (w.heap.size + 1 + 1 + 1) p1 p2 us (Fd.near W H) ss) := by
    have := hD.below ba
    unfold Hid
    simpa using this
  have hp1 := hD.bs hus (by have := Gq.out; omega)
  have hp2 := hD.o5.ro
  clear hD hus
  have B2 : Hid (Below w.heap.size w (w1.alloc (Obj.cells #[p2] 23))) := B1.out.trans (ba.mono B1.out.size)
  have K2 : Hid ((w1.alloc (Obj.cells #[p2] 23)).heap[w.heap.size + 1]? = some (.cells #[.slice none 0 0, .slice none 0 0] 232 (0, 0))) := by
    unfold Hid
    rw [heap_alloc_old w1 _ (lt_of_block blk.out)]
    exact blk.out
  have C2 : Hid ((w1.alloc (Obj.cells #[p2] 23)).cell? ⟨w1.heap.size, 0, none⟩ = some p2) := by unfold Hid; simp
  obtain ⟨x1, e1, hp1e, -⟩ := hp1
  obtain ⟨x2, e2, hp2e, -⟩ := hp2
  subst hp1e
  subst hp2e
  clear hb ba b0 blk B1
  go_upto_region 2 with fail
  generalize w1.alloc (Obj.cells #[.slice x2 ss.length e2] 23) = w2 at *
  have U2 : Hid (Ro w2 u xs) := U0.out.below B2.out
  have c9 := C2.out
  have hc : ∀ m, ∀ x ∈ xs, Calls Tryz.prog 212 (#[.int .i64 x] ++ #[.pointer (some ⟨w1.heap.size, 0, none⟩)]) (w2.drewN m) fun e w' => e = .returned (.bool (!decide (0 ≤ x ∧ x < ((W * H : Nat) : Int)))) ∧ ∃ q, w' = w2.drewN q := by
    intro m x _
    rw [show (#[Value.int .i64 x] ++ #[Value.pointer (some ⟨w1.heap.size, 0, none⟩)] : Array Value) = #[.int .i64 x, .pointer (some ⟨w1.heap.size, 0, none⟩)] from rfl]
    refine (nocell_any x w1.heap.size (W * H) e2 x2 (w2.drewN m) ?_ Gp.out).mono ?_
    · have := C2.out
      rw [Sl.out] at this
      exact this
    · rintro e w' ⟨h1, h2⟩
      exact ⟨h1, m, h2⟩
  have hh := hasf_any 212 enter_none u #[.pointer (some ⟨w1.heap.size, 0, none⟩)] xs (fun x => !decide (0 ≤ x ∧ x < ((W * H : Nat) : Int))) w2 U2.out hc
  rw [Hx.out] at hh
  have H3 : Hid (Calls Tryz.prog 153 #[u, .func (Fn.func 212) #[] #[.pointer (some ⟨w1.heap.size, 0, none⟩)]] w2 fun e w' => e = .returned (.bool false) ∧ ∃ q, w' = w2.drewN q) := hh
  clear hh hc
  go_wp2_with fail
  refine Calls.mono H3.out ?_
  rintro e w3 ⟨rfl, q, rfl⟩
  clear H3
  obtain ⟨c0, c1, f0, f1⟩ := Lw.mk' (w := w2.drewN q) K2.out
  have L3 : Hid (Wds (w2.drewN q) (w.heap.size + 1 + 1 + 1) (.slice (some x1) (W * H) e1) (.slice x2 ss.length e2) us (Fd.near W H) ss) := L2.out.below (_root_.Go.below_drewN (Below.refl _ _) _)
  have B3 : Hid (Below w.heap.size w (w2.drewN q)) := _root_.Go.below_drewN B2.out _
  have c9 : (w2.drewN q).cell? ⟨w1.heap.size, 0, none⟩ = some (.slice x2 ss.length e2) := C2.out
  generalize w2.drewN q = w3 at *
  clear B2 L2 K2 C2
  go_wp2
  refine bodyPost_ret (v := .tuple #[.agg #[.slice (some x1) (W * H) e1, .slice x2 ss.length e2], .nilIface]) (by simp [results, Tryz.results177, go_sem, c0, c1]) rfl ?_
  have kk : Kp (w.heap.size + 1) w3 ((w3.setCell ⟨w.heap.size + 1, 0, none⟩ (.slice (some x1) (W * H) e1)).setCell ⟨w.heap.size + 1, 1, none⟩ (.slice x2 ss.length e2)) := (Kp.set _ _ _).trans (Kp.set _ _ _)
  refine ⟨⟨_, rfl, ?_⟩, (B3.out.setCell (Nat.le_succ _) _).setCell (Nat.le_succ _) _⟩
  rw [Hss.out]
  have D5 := L3.out.kp kk (by omega)
  exact ⟨_, _, rfl, D5.bs Hus.out Gq.out, D5.o5.ro, Sl.out⟩
end Go.Proofs.YtkejdkajfnaieaaGreatDoor

namespace Go.Proofs.YtkejdkajfnaieaaGreatDoor
open Go.RowKit
set_option linter.unusedVariables false

/-- v is a slice of the integers xs, somewhere in a block from base on. -/
def Qu (w : World) (base : Nat) (v : Value) (xs : List Int) : Prop := ∃ g off cap cur, v = .slice (some ⟨g, off, none⟩) xs.length cap ∧ base ≤ g ∧ w.heap[g]? = some (.cells cur 3 (0, 0)) ∧ xs.length ≤ cap ∧ cap ≤ maxLen ∧ off + cap ≤ cur.size ∧ ∀ (j : Nat) d, xs[j]? = some d → cur[off + j]? = some (.int .i64 d)

theorem Qu.kept {w w' : World} {base : Nat} {v : Value} {xs : List Int} (h : Qu w base v xs) (hk : ∀ k, base ≤ k → k < w.heap.size → w'.heap[k]? = w.heap[k]?) : Qu w' base v xs := by
  obtain ⟨g, off, cap, cur, h1, h2, h3, h4⟩ := h
  exact ⟨g, off, cap, cur, h1, h2, by rw [hk g h2 (lt_of_block h3)]; exact h3, h4⟩
theorem Qu.below {w w' : World} {base : Nat} {v : Value} {xs : List Int} (h : Qu w base v xs) (hb : Below w.heap.size w w') : Qu w' base v xs := h.kept fun k _ hk => hb.block k hk
theorem Qu.kp {w w' : World} {base b : Nat} {v : Value} {xs : List Int} (h : Qu w base v xs) (hk : Kp b w w') (hb : b < base) : Qu w' base v xs := h.kept fun k h1 h2 => hk.block k h2 (by omega)
theorem Qu.drewN {w : World} {base : Nat} {v : Value} {xs : List Int} (h : Qu w base v xs) (n : Nat) : Qu (w.drewN n) base v xs := h
theorem Qu.one {w : World} {base z : Nat} (d : Int) (hb : base ≤ w.heap.size) (hz : w.heap.size = z) : Qu (w.alloc (.cells #[.int .i64 d] 3)) base (.slice (some ⟨z, 0, none⟩) 1 1) [d] := by
  subst hz
  refine ⟨_, 0, 1, _, rfl, hb, heap_alloc_new w _, Nat.le_refl _, by unfold maxLen; decide, Nat.le_refl _, fun j e he => ?_⟩
  match j, he with
  | 0, he => simp at he; subst he; rfl
/-- the first one. -/
theorem Qu.first {w : World} {base : Nat} {v : Value} {x : Int} {xs : List Int} (h : Qu w base v (x :: xs)) : ∃ g off cap, v = .slice (some ⟨g, off, none⟩) (xs.length + 1) cap ∧ xs.length + 1 ≤ cap ∧ cap ≤ 9223372036854775807 ∧ w.cell? ⟨g, off, none⟩ = some (.int .i64 x) := by
  obtain ⟨g, off, cap, cur, h1, h2, h3, h4, h5, h6, h7⟩ := h
  refine ⟨g, off, cap, h1, h4, by unfold maxLen at h5; omega, ?_⟩
  have := h7 0 x rfl
  simp only [World.cell?, h3]
  exact this

theorem info_int2 : (Tryz.prog.info? 3).map (·.size) = some 1 := by kernel_rfl
/-- without the first one. -/
theorem Qu.rest {w : World} {base : Nat} {v : Value} {x : Int} {xs : List Int} (h : Qu w base v (x :: xs)) : ∃ v', Qu w base v' xs ∧ ∀ W, (Instr.slice 23 v (some (.int .i64 1)) none none).run Tryz.prog W = .ok v' W := by
  obtain ⟨g, off, cap, cur, h1, h2, h3, h4, h5, h6, h7⟩ := h
  subst h1
  obtain ⟨i0, hi, hz0, hz1, hz2⟩ := info_parts info_int
  have hu : Tryz.prog.underlying 23 = some (.slice 3) := Tryz.underlying23
  have he : Tryz.prog.elem 23 = 3 := by simp [Program.elem, hu]
  simp only [List.length_cons] at h4 h6
  have h5' : cap ≤ 9223372036854775807 := by unfold maxLen at h5; omega
  by_cases hc : cap = 1
  · subst hc
    have hx : xs = [] := List.length_eq_zero_iff.1 (by omega)
    subst hx
    refine ⟨.slice (some ⟨g, off, none⟩) 0 0, ⟨g, off, 0, cur, rfl, h2, h3, Nat.le_refl _, by omega, by omega, fun j d hd => by simp at hd⟩, fun W => ?_⟩
    refine (run_slice_l (P := Tryz.prog) W 23 (some ⟨g, off, none⟩) 1 1 (by rw [he]; exact hu) .i64 1 (by decide) (by decide)).trans ?_
    rw [he]
    simp [sizeOf, typeInfo, hi, hz1, sliced]
  · refine ⟨.slice (some ⟨g, off + 1, none⟩) xs.length (cap - 1), ⟨g, off + 1, cap - 1, cur, rfl, h2, h3, by omega, by omega, by omega, fun j d hd => ?_⟩, fun W => ?_⟩
    · have := h7 (j + 1) d (by simpa using hd)
      rwa [show off + (j + 1) = off + 1 + j by omega] at this
    · refine (run_slice_l (P := Tryz.prog) W 23 (some ⟨g, off, none⟩) (xs.length + 1) cap (by rw [he]; exact hu) .i64 1 (by decide) (by omega)).trans ?_
      rw [he]
      simp [sizeOf, typeInfo, hi, hz1, sliced, hc, Addr.add_lit]

/-- one more. -/
theorem app_q {ops : Array Oper} {rest : List Oper} {o : Oper} {a : Act} {Q : Exit → Act → World → Prop} (w : World) (hgd : o.guard = none) (s x : Operand)
    (ho : o.op = .call { callee := .builtin .append, args := #[s, x], argTypes := #[23, 23] }) (base : Nat) (v : Value) (xs : List Int) (hs : a.eval s = v) (hq : Qu w base v xs)
    (ad : Addr) (d : Int) (hx : a.eval x = .slice (some ad) 1 1) (hd : w.cell? ad = some (.int .i64 d)) (hl : xs.length ≤ 1000000) (hbase : base ≤ w.heap.size)
    (h : ∀ v' w', Qu w' base v' (xs ++ [d]) → Below base w w' → wpList Tryz.prog ops Q rest (a.put o.dst v') w') :
    wpList Tryz.prog ops Q (o :: rest) a w := by
  obtain ⟨i0, hi, hz0, hz1, hz2⟩ := info_parts info_int
  obtain ⟨g, off, cap, cur, h1, h2, h3, h4, h5, h6, h7⟩ := hq
  subst h1
  have hcell : ∀ k, k < cur.size → w.cell? ⟨g, k, none⟩ = cur[k]? := fun k hk => by simp [World.cell?, h3]
  refine wpList_append_arg w hgd s x 23 ho 3 i0 (.int .i64 0) 1 8 Tryz.underlying23 hi hz0 hz1 hz2 rfl (by decide) g off xs.length cap (xs.map (Value.int .i64)) hs (by simp) ?_ ad 1 1 [.int .i64 d] hx rfl ?_ ?_ ?_ (by unfold maxLen; omega) (by omega) ?_ ?_
  · intro j u hj
    rw [List.getElem?_map] at hj
    cases hxj : xs[j]? with
    | none => rw [hxj] at hj; cases hj
    | some y =>
      rw [hxj] at hj
      simp only [Option.map_some, Option.some.injEq] at hj
      have hlt : j < xs.length := (List.getElem?_eq_some_iff.1 hxj).1
      rw [hcell _ (by omega), h7 j y hxj, hj]
  · intro j u hj
    match j, hj with
    | 0, hj => simp at hj; subst hj; exact hd
  · intro u hu
    simp at hu
    subst hu
    rfl
  · intro hr j hj
    have hj0 : j = 0 := by
      have : [Value.int .i64 d].length = 1 := rfl
      omega
    subst hj0
    rw [hcell _ (by omega)]
    refine ⟨?_, by simp [World.frozen?, h3]⟩
    rw [Array.getElem?_eq_getElem (by omega)]
    rfl
  · intro hr
    refine h _ _ ?_ ?_
    · refine ⟨g, off, cap, cur.setIfInBounds (off + xs.length) (.int .i64 d), by simp, h2, ?_, by simpa using hr, h5, by simpa using h6, fun j e he => ?_⟩
      · have := heap_setCell_same w g (off + xs.length) _ _ (.int .i64 d) h3
        simpa [World.setCells] using this
      · rw [List.getElem?_append] at he
        by_cases hj : j < xs.length
        · rw [if_pos hj] at he
          rw [Array.getElem?_setIfInBounds_ne (by omega)]
          exact h7 j e he
        · rw [if_neg hj] at he
          have hj0 : j - xs.length = 0 := by
            rcases Nat.eq_zero_or_pos (j - xs.length) with h | h
            · exact h
            · rw [List.getElem?_eq_none (by simp; omega)] at he; cases he
          rw [hj0] at he
          simp at he
          subst he
          rw [show off + j = off + xs.length by omega, Array.getElem?_setIfInBounds_self_of_lt (by omega)]
    · simp only [World.setCells, Nat.mul_one]
      exact ⟨rfl, rfl, rfl, by simp [World.setCell], fun k hk => Below.heap_setCell _ _ _ _ (by show k ≠ g; omega)⟩
  · intro hg v' w' ho' hgr
    refine h _ _ ?_ ((Below.refl _ _).grown hgr hbase (fun k hk => by cases hk))
    rcases ho'.2 with ⟨_, h0⟩ | ⟨g', cap', cur', e1, e2, e3, e4, e5, e6, e7⟩
    · omega
    · refine ⟨g', 0, cap', cur', by rw [e1]; simp, by omega, e3, by simpa using e4, e5, by omega, fun j e he => ?_⟩
      rw [Nat.zero_add, ← Array.getElem?_toList]
      have hj : j < xs.length + 1 := by
        have := (List.getElem?_eq_some_iff.1 he).1
        simpa using this
      have : (cur'.toList.take ((xs.length + 1) * 1))[j]? = some (.int .i64 e) := by
        rw [e7, show xs.map (Value.int .i64) ++ [Value.int .i64 d] = (xs ++ [d]).map (Value.int .i64) by simp, List.getElem?_map, he]
        rfl
      rw [List.getElem?_take, if_pos (by omega)] at this
      exact this
end Go.Proofs.YtkejdkajfnaieaaGreatDoor

namespace Go.Proofs.YtkejdkajfnaieaaGreatDoor
open Go.RowKit

def intCells (ds : List Int) : List Value := ds.map fun d => .int .i64 d

/-- block b holds the integers ds, and some cells behind. -/
def Bk (w : World) (b : Nat) (ds : List Int) (r : Array Value) : Prop := w.heap[b]? = some (.cells ((intCells ds).toArray ++ r) 3 (0, 0))

theorem Bk.cell {w : World} {b : Nat} {ds : List Int} {r : Array Value} (h : Bk w b ds r) {i : Nat} {d : Int} (hd : ds[i]? = some d) : w.cell? ⟨b, i, none⟩ = some (.int .i64 d) := by
  have hi : i < ds.length := (List.getElem?_eq_some_iff.1 hd).1
  unfold Bk at h
  simp only [World.cell?, h]
  simp [intCells, Array.getElem?_append, hi]
  exact (List.getElem?_eq_some_iff.1 hd).2
theorem Bk.thaw {w : World} {b : Nat} {ds : List Int} {r : Array Value} (h : Bk w b ds r) (i : Nat) : w.frozen? ⟨b, i, none⟩ = false := by
  unfold Bk at h
  simp [World.frozen?, h]
theorem Bk.set {w : World} {b : Nat} {ds : List Int} {r : Array Value} (h : Bk w b ds r) (i : Nat) (d : Int) (hi : i < ds.length) : Bk (w.setCell ⟨b, i, none⟩ (.int .i64 d)) b (ds.set i d) r := by
  unfold Bk at *
  rw [heap_setCell_same w b i _ _ _ h]
  have e : (intCells (ds.set i d)).toArray = (intCells ds).toArray.setIfInBounds i (.int .i64 d) := by
    simp [intCells, List.map_set]
  rw [e]
  have hl : i < (intCells ds).toArray.size := by simpa [intCells] using hi
  rw [Array.setIfInBounds_append_left hl]
theorem Bk.drewN {w : World} {b : Nat} {ds : List Int} {r : Array Value} (h : Bk w b ds r) (n : Nat) : Bk (w.drewN n) b ds r := h
theorem Bk.kp {w w' : World} {b z : Nat} {ds : List Int} {r : Array Value} (h : Bk w b ds r) (hk : Kp z w w') (hne : b ≠ z) : Bk w' b ds r := by
  unfold Bk at *
  rw [hk.block b (lt_of_block h) hne]; exact h
theorem Bk.below {w w' : World} {b : Nat} {ds : List Int} {r : Array Value} (h : Bk w b ds r) (hb : Below w.heap.size w w') : Bk w' b ds r := by
  unfold Bk at *
  rw [hb.block b (lt_of_block h)]; exact h
theorem Bk.lt {w : World} {b : Nat} {ds : List Int} {r : Array Value} (h : Bk w b ds r) : b < w.heap.size := lt_of_block h
theorem Bk.ro {w : World} {b c : Nat} {ds : List Int} {r : Array Value} (h : Bk w b ds r) (h1 : ds.length ≤ c) (h2 : c ≤ 9223372036854775807) : Ro w (.slice (some ⟨b, 0, none⟩) ds.length c) ds :=
  ⟨_, c, rfl, h1, h2, fun _ => ⟨_, rfl, h.lt, fun i d hd => by rw [Addr.add_lit, Nat.zero_add]; exact h.cell hd⟩⟩
/-- another cell, another block. -/
theorem Bk.other {w : World} {b : Nat} {ds : List Int} {r : Array Value} (h : Bk w b ds r) {g : Nat} (hne : b ≠ g) (i : Nat) (u : Value) : Bk (w.setCell ⟨g, i, none⟩ u) b ds r := by
  unfold Bk at *
  rw [Below.heap_setCell _ _ _ _ hne]; exact h
theorem Bk.low {w w' : World} {b B : Nat} {ds : List Int} {r : Array Value} (h : Bk w b ds r) (hb : Below B w w') (hB : b < B) : Bk w' b ds r := by
  unfold Bk at *
  rw [hb.block b hB]; exact h
end Go.Proofs.YtkejdkajfnaieaaGreatDoor

namespace Go.Proofs.YtkejdkajfnaieaaGreatDoor
open Go.RowKit
set_option linter.unusedVariables false

theorem and_low (n : Nat) (h : n ≤ 144) : n &&& 4294967295 = n := by
  have := Nat.and_two_pow_sub_one_eq_mod n 32
  rw [show 2 ^ 32 - 1 = 4294967295 from rfl] at this
  rw [this]
  exact Nat.mod_eq_of_lt (by omega)

set_option maxHeartbeats 1000000 in
theorem mul64_one (n : Nat) (w : World) (h : n ≤ 144) :
    Calls Tryz.prog 185 #[.int .u64 1, .int .u64 (n : Nat)] w fun e w' => e = .returned (.tuple #[.int .u64 0, .int .u64 (n : Nat)]) ∧ w' = w := by
  have e1 : bits BinOp.and IntKind.u64 1 4294967295 = 1 := bits_and_u64_nat 1 4294967295 (by omega) (by omega)
  have e2 : bits BinOp.and IntKind.u64 (n : Int) 4294967295 = (n : Int) := by
    have := bits_and_u64_nat n 4294967295 (by omega) (by omega)
    rw [and_low n h] at this
    exact this
  have e3 : (n : Int) / 4294967296 = 0 := by omega
  have e4 : bits BinOp.and IntKind.u64 0 4294967295 = 0 := bits_and_u64_nat 0 4294967295 (by omega) (by omega)
  go_enter Tryz.func185, Tryz.ntmps185
  go_wp2
  go_ret2
  exact ⟨rfl, rfl⟩

set_option maxHeartbeats 1000000 in
theorem mul_one (n : Nat) (w : World) (h : n ≤ 144) :
    Calls Tryz.prog 148 #[.int .u64 1, .int .u64 (n : Nat)] w fun e w' => e = .returned (.tuple #[.int .u64 0, .int .u64 (n : Nat)]) ∧ w' = w := by
  go_enter Tryz.func148, Tryz.ntmps148
  go_wp2_with (go_at_call 185; refine (mul64_one _ _ h).mono ?_; rintro e w' ⟨rfl, rfl⟩)
  go_ret2
  exact ⟨rfl, rfl⟩

theorem wpList_copy_is {P : Program} (w : World) {ops : Array Oper} {rest : List Oper} {o : Oper} {a : Act} {Q : Exit → Act → World → Prop} (hgd : o.guard = none) (s x : Operand) (t tx : TypeId)
    (ho : o.op = .call { callee := .builtin .copy, args := #[s, x], argTypes := #[t, tx] }) (v xv v' : Value) (w' : World) (hv : a.eval s = v) (hx : a.eval x = xv)
    (hrun : (Builtin.copy_ #[t, tx] o.type #[v, xv]).run P w = .ok v' w') (h : wpList P ops Q rest (a.put o.dst v') w') : wpList P ops Q (o :: rest) a w :=
  wpList_plain hgd fun K hK => by
    unfold Oper.wp
    simp [execOp, ho, resolve, invoke, builtin, hv, hx, hrun, Result.andThen]
    exact hK _ _ h

/-- the first m are vv, of n. -/
def rpCells (vv : Int) (n m : Nat) : Array Value := (List.replicate m (Value.int .i64 vv) ++ List.replicate (n - m) (Value.int .i64 0)).toArray
def Rp (vv : Int) (w : World) (b n m : Nat) : Prop := w.heap[b]? = some (.cells (rpCells vv n m) 3 (0, 0))
theorem Rp.bk {vv : Int} {w : World} {b n : Nat} (h : Rp vv w b n n) : Bk w b (List.replicate n vv) #[] := by
  unfold Rp at h
  unfold Bk
  rw [h]
  simp [intCells, rpCells]
theorem Rp.cell {vv : Int} {w : World} {b n m : Nat} (h : Rp vv w b n m) {i : Nat} (hi : i < m) : w.cell? ⟨b, i, none⟩ = some (.int .i64 vv) := by
  unfold Rp at h
  simp only [World.cell?, h]
  simp [rpCells, List.getElem?_append, hi]
theorem Rp.lt {vv : Int} {w : World} {b n m : Nat} (h : Rp vv w b n m) : b < w.heap.size := lt_of_block h
theorem Rp.drewN {vv : Int} {w : World} {b n m : Nat} (h : Rp vv w b n m) (k : Nat) : Rp vv (w.drewN k) b n m := h

theorem info_int1 : (Tryz.prog.info? 3).map (·.size) = some 1 := by kernel_rfl

theorem rep_more (a z : Value) (n m k : Nat) (h : m + k ≤ n) : (List.replicate m a ++ List.replicate (n - m) z).take m ++ List.replicate k a ++ (List.replicate m a ++ List.replicate (n - m) z).drop (m + k) = List.replicate (m + k) a ++ List.replicate (n - (m + k)) z := by
  rw [List.take_left' (by simp), List.drop_append, List.length_replicate, List.drop_eq_nil_of_le (by simp), List.nil_append, List.drop_replicate, List.replicate_append_replicate]
  congr 2
  omega

/-- k more of them. -/
theorem rp_copy (vv : Int) (w : World) (b n m k : Nat) (dLen dCap sLen sCap : Nat) (x : Addr) (h : Rp vv w b n m) (hn : k = Nat.min sLen dLen) (hk : m + k ≤ n) (hs : ∀ j, j < k → w.cell? (x.add j) = some (.int .i64 vv)) :
    (Builtin.copy_ #[23, 23] 3 #[.slice (some ⟨b, m, none⟩) dLen dCap, .slice (some x) sLen sCap]).run Tryz.prog w = .ok (.int .i64 (k : Nat)) (w.setRow b (rpCells vv n (m + k))) ∧ Rp vv (w.setRow b (rpCells vv n (m + k))) b n (m + k) ∧ Kp b w (w.setRow b (rpCells vv n (m + k))) := by
  unfold Rp at h
  have r := run_copy_row (P := Tryz.prog) w 23 23 3 3 b m dLen dCap x sLen sCap _ 3 (List.replicate k (.int .i64 vv)) Tryz.underlying23 info_int1 h (by simp [hn]) (fun j v hv => by
    rw [List.getElem?_replicate] at hv
    split at hv
    · injection hv with hv
      rw [← hv]
      exact hs j (by assumption)
    · cases hv) (by simp [rpCells]; omega) (fun v hv => by rw [List.eq_of_mem_replicate hv]; rfl)
  rw [List.length_replicate, show (rpCells vv n m).toList = List.replicate m (Value.int .i64 vv) ++ List.replicate (n - m) (Value.int .i64 0) from rfl, rep_more _ _ n m k hk] at r
  exact ⟨r, setRow_heap w b _ _ _ _ h, ⟨rfl, rfl, rfl, by simp, fun i _ hi => setRow_other w b i _ hi⟩⟩

set_option maxRecDepth 100000 in
set_option maxHeartbeats 2000000 in
theorem repeat_ok (vv : Int) (u : Value) (n : Nat) (w : World) (hu : Ro w u [vv]) (n0 : 0 < n) (n1 : n ≤ 144) :
    Calls Tryz.prog 105 #[u, .int .i64 (n : Nat)] w fun e w' => ∃ b, e = .returned (.slice (some ⟨b, 0, none⟩) n n) ∧ w.heap.size ≤ b ∧ Bk w' b (List.replicate n vv) #[] ∧ Below w.heap.size w w' := by
  obtain ⟨a, c, rfl, c1, c2, ca⟩ := hu
  obtain ⟨x, rfl, xl, hx⟩ := ca (by simp)
  have cx : Hid (w.cell? (x.add 0) = some (.int .i64 vv) ∧ x.block < w.heap.size) := ⟨hx 0 _ rfl, xl⟩
  clear ca hx xl
  simp only [List.length_cons, List.length_nil, Nat.zero_add] at c1 ⊢
  go_enter Tryz.func105, Tryz.ntmps105
  go_wp2_with fail
  refine (mul_one _ _ n1).mono ?_
  rintro e w' ⟨rfl, rfl⟩
  have h9 : ¬ (9223372036854775807 : Int) < (n : Int) := by omega
  go_wp2_with (at_make; obtain ⟨i0, hi, hz0, hz1, hz2⟩ := info_parts info_int; refine wpList_make_full _ rfl _ _ 23 rfl w'.heap.size 3 i0 (.int .i64 0) 1 Tryz.underlying23 hi hz0 hz1 _ _ _ _ n rfl rfl rfl rfl (by rw [hz2]; omega) (by unfold maxLen; omega) (Nat.le_refl _) ?_)
  intro w1 o1 g1
  clear hi hz0 hz1 hz2 h9
  have P1 : Hid (Rp vv w1 w'.heap.size n 0) := by
    rcases o1.2 with ⟨h, _⟩ | ⟨g, cap, cur, hv, hb, hg, h1, h2, h3, h4⟩
    · cases h
    · cases hv
      unfold Hid Rp rpCells
      rw [hg]
      congr 1
      have e : cur.toList = List.replicate n (Value.int .i64 0) := by
        have := toList_madeCells_one (.int .i64 0) n
        rw [List.take_of_length_le (by simp; omega)] at h4
        rw [h4]
        exact this
      simp only [List.replicate_zero, List.nil_append, Nat.sub_zero]
      rw [← e]
  have B1 : Hid (Below w'.heap.size w' w1) := (Below.refl _ _).grown g1 (Nat.le_refl _) (fun k hk => by cases hk)
  clear o1 g1
  obtain ⟨r2, p2, k2⟩ := rp_copy vv w1 w'.heap.size n 0 1 n n 1 c x P1.out (by show 1 = min 1 n; omega) (by omega) (fun j hj => by
    rw [show j = 0 by omega, B1.out.cell (p := x.add 0) (by rw [add_block]; exact cx.out.2)]
    exact cx.out.1)
  simp only [Nat.zero_add] at r2 p2 k2
  generalize w1.setRow w'.heap.size (rpCells vv n 1) = w2 at *
  have P2 : Hid (Rp vv w2 w'.heap.size n 1) := p2
  have B2 : Hid (Below w'.heap.size w' w2) := k2.below B1.out B1.out.size (Nat.le_refl _)
  clear p2 k2 P1 B1
  go_wp2
  clear r2
  obtain ⟨z, hz⟩ : ∃ z, w'.heap.size = z := ⟨_, rfl⟩
  rw [hz] at P2 B2
  simp only [hz]
  have Hz : Hid (w'.heap.size = z) := hz
  clear hz
  go_loopw [8] (fun i W' => ∃ m : Nat, 1 ≤ m ∧ m ≤ n ∧ i = .int .i64 (m : Nat) ∧ Rp vv W' z n m ∧ Below z w' W') (fun i _ => n - (intOf i).toNat)
  case atStart => exact ⟨1, Nat.le_refl _, n0, rfl, P2, B2⟩
  case round =>
    obtain ⟨m, m1, m2, rfl, hp, hb⟩ := hrel
    have P : Hid (Rp vv wr z n m) := hp
    have B : Hid (Below z w' wr) := hb
    clear hp hb P2 B2
    by_cases h0 : m = n
    · subst h0
      go_wp2
      go_ret
      exact ⟨z, rfl, by rw [Hz.out]; exact Nat.le_refl _, P.out.bk, by rw [Hz.out]; exact B⟩
    · have hm : m < n := by omega
      obtain ⟨k, hk⟩ : ∃ k, k = Nat.min m (n - m) := ⟨_, rfl⟩
      have hk' : k ≤ m ∧ k ≤ n - m ∧ 0 < k := by
        have : k = min m (n - m) := hk
        omega
      have rr : (Builtin.copy_ #[23, 23] 3 #[.slice (some ⟨z, m, none⟩) (n - m) (n - m), .slice (some ⟨z, 0, none⟩) m n]).run Tryz.prog wr.drew = .ok (.int .i64 (k : Nat)) (wr.drew.setRow z (rpCells vv n (m + k))) ∧ _ :=
        rp_copy vv wr.drew z n m k (n - m) (n - m) m n ⟨z, 0, none⟩ P.out hk (by omega) (fun j hj => by
          rw [Addr.add_lit, Nat.zero_add]
          exact Rp.cell (w := wr) P.out (by omega))
      obtain ⟨r1, p1, q1⟩ := rr
      have P1 : Hid (Rp vv (wr.drew.setRow z (rpCells vv n (m + k))) z n (m + k)) := p1
      have B1 : Hid (Below z w' (wr.drew.setRow z (rpCells vv n (m + k)))) := q1.below B.out.drew (by have := P.out.lt; show z ≤ wr.heap.size; omega) (Nat.le_refl _)
      obtain ⟨k1, k2, k3⟩ := hk'
      clear hk p1 q1
      generalize wr.drew.setRow z (rpCells vv n (m + k)) = w3 at *
      go_wp2
      go_region
      clear r1
      go_wp2
      go_round
      case rel => exact ⟨m + k, by omega, by omega, by go_num, P1, B1⟩
      case measure => simp [intOf]; omega
end Go.Proofs.YtkejdkajfnaieaaGreatDoor

namespace Go.Proofs.YtkejdkajfnaieaaGreatDoor.Fd

theorem near_mem {W H a : Nat} {x : Int} : x ∈ near W H a ↔ (0 < a / W ∧ x = (a : Int) - W) ∨ (0 < a % W ∧ x = (a : Int) - 1) ∨ (a % W + 1 < W ∧ x = (a : Int) + 1) ∨ (a / W + 1 < H ∧ x = (a : Int) + W) := by
  unfold near
  simp only [List.mem_append]
  constructor
  · rintro (h | h | h | h)
    · split at h
      · simp at h; left; exact ⟨by assumption, h⟩
      · simp at h
    · split at h
      · simp at h; right; left; exact ⟨by assumption, h⟩
      · simp at h
    · split at h
      · simp at h; right; right; left; exact ⟨by assumption, h⟩
      · simp at h
    · split at h
      · simp at h; right; right; right; exact ⟨by assumption, h⟩
      · simp at h
  · rintro (⟨h, e⟩ | ⟨h, e⟩ | ⟨h, e⟩ | ⟨h, e⟩)
    · left; rw [if_pos h, e]; simp
    · right; left; rw [if_pos h, e]; simp
    · right; right; left; rw [if_pos h, e]; simp
    · right; right; right; rw [if_pos h, e]; simp
theorem near_len (W H a : Nat) : (near W H a).length ≤ 4 := by
  unfold near
  simp only [List.length_append]
  have h : ∀ (c : Prop) [Decidable c] (x : Int), (if c then [x] else []).length ≤ 1 := by
    intro c _ x
    split <;> simp
  have h1 := h (0 < a / W) ((a : Int) - W)
  have h2 := h (0 < a % W) ((a : Int) - 1)
  have h3 := h (a % W + 1 < W) ((a : Int) + 1)
  have h4 := h (a / W + 1 < H) ((a : Int) + W)
  omega

/-- where a cell beside one lies; and that it has that one beside. -/
theorem near_cell {W H a : Nat} {x : Int} (hW : 0 < W) (ha : a < W * H) (h : x ∈ near W H a) : ∃ t : Nat, x = t ∧ t < W * H ∧ (a : Int) ∈ near W H t := by
  have e := Nat.div_add_mod a W
  have hr : a / W < H := Nat.div_lt_of_lt_mul ha
  have hc := Nat.mod_lt a hW
  have key : ∀ r c : Nat, c < W → (W * r + c) / W = r ∧ (W * r + c) % W = c := by
    intro r c h
    constructor
    · rw [Nat.mul_add_div hW, Nat.div_eq_of_lt h]; omega
    · rw [Nat.mul_add_mod, Nat.mod_eq_of_lt h]
  have bd : ∀ r c : Nat, r < H → c < W → W * r + c < W * H := by
    intro r c h1 h2
    have := Nat.mul_le_mul_left W (show r + 1 ≤ H by omega)
    rw [Nat.mul_add, Nat.mul_one] at this
    omega
  generalize a / W = r at *
  generalize a % W = c at *
  have ei : (a : Int) = (W : Int) * r + c := by rw [← e]; simp
  have hh := near_mem.1 h
  have e1 := (key r c hc).1
  have e2 := (key r c hc).2
  rw [e] at e1 e2
  rw [e1, e2] at hh
  rcases hh with ⟨h1, hx⟩ | ⟨h1, hx⟩ | ⟨h1, hx⟩ | ⟨h1, hx⟩
  · obtain ⟨r', rfl⟩ : ∃ r', r = r' + 1 := ⟨r - 1, by omega⟩
    have k := key r' c hc
    refine ⟨W * r' + c, ?_, bd r' c (by omega) hc, near_mem.2 ?_⟩
    · rw [hx, ei]; simp [Int.mul_add]; omega
    · rw [k.1, k.2]
      right; right; right
      refine ⟨hr, ?_⟩
      rw [ei]; simp [Int.mul_add]; omega
  · obtain ⟨c', rfl⟩ : ∃ c', c = c' + 1 := ⟨c - 1, by omega⟩
    have k := key r c' (by omega)
    refine ⟨W * r + c', ?_, bd r c' hr (by omega), near_mem.2 ?_⟩
    · rw [hx, ei]; simp; omega
    · rw [k.1, k.2]
      right; right; left
      refine ⟨hc, ?_⟩
      rw [ei]; simp; omega
  · have k := key r (c + 1) h1
    refine ⟨W * r + (c + 1), ?_, bd r (c + 1) hr h1, near_mem.2 ?_⟩
    · rw [hx, ei]; simp; omega
    · rw [k.1, k.2]
      right; left
      refine ⟨by omega, ?_⟩
      rw [ei]; simp; omega
  · have k := key (r + 1) c hc
    refine ⟨W * (r + 1) + c, ?_, bd (r + 1) c h1 hc, near_mem.2 ?_⟩
    · rw [hx, ei]; simp [Int.mul_add]; omega
    · rw [k.1, k.2]
      left
      refine ⟨by omega, ?_⟩
      rw [ei]; simp [Int.mul_add]; omega

theorem pair_app {l m : List Int} (h1 : l.Pairwise (· < ·)) (h2 : m.Pairwise (· < ·)) (h3 : ∀ x ∈ l, ∀ y ∈ m, x < y) : (l ++ m).Pairwise (· < ·) := List.pairwise_append.2 ⟨h1, h2, h3⟩
theorem pair_if (c : Prop) [Decidable c] (x : Int) : (if c then [x] else []).Pairwise (· < ·) := by
  split <;> simp
theorem mem_if {c : Prop} [Decidable c] {x y : Int} (h : y ∈ (if c then [x] else [])) : c ∧ y = x := by
  split at h
  · simp at h; exact ⟨by assumption, h⟩
  · simp at h
/-- the cells beside one rise (a field is 2 wide at least where there are two beside one another in a row). -/
theorem near_rise (W H a : Nat) (hW : 0 < W) : (near W H a).Pairwise (· ≠ ·) := by
  unfold near
  by_cases h1 : W = 1
  · subst h1
    rw [if_neg (show ¬ 0 < a % 1 by omega), if_neg (show ¬ a % 1 + 1 < 1 by omega), List.nil_append, List.nil_append]
    refine (pair_app (pair_if _ _) (pair_if _ _) ?_).imp (fun h => by omega)
    intro x hx y hy
    have := mem_if hx
    have := mem_if hy
    omega
  · refine (pair_app (pair_if _ _) (pair_app (pair_if _ _) (pair_app (pair_if _ _) (pair_if _ _) ?_) ?_) ?_).imp (fun h => by omega)
    · intro x hx y hy
      have := mem_if hx
      have := mem_if hy
      omega
    · intro x hx y hy
      have := mem_if hx
      rcases List.mem_append.1 hy with hy | hy
      · have := mem_if hy; omega
      · have := mem_if hy; omega
    · intro x hx y hy
      have := mem_if hx
      rcases List.mem_append.1 hy with hy | hy
      · have := mem_if hy; omega
      · rcases List.mem_append.1 hy with hy | hy
        · have := mem_if hy; omega
        · have := mem_if hy; omega
end Go.Proofs.YtkejdkajfnaieaaGreatDoor.Fd

