/- TopQuiet: the walk. · The package variable of the four sides, as it is laid. -/
import Derived.Test.YthcndngdngjalaaGreatDoorZTopQuiet12
import Derived.Test.YthcndngdngjalaaGreatDoorZTopQuiet13
import Derived.BigQuiet
import Derived.Test.YthcndngdngjalaaGreatDoorZTopQuiet4
import Derived.ProofKit
import Derived.OpenShut
import Derived.ChangeSame
import Derived.FnData
import Derived.LaidLaws
namespace Go.Proofs.YthcndngdngjalaaGreatDoor.topQuiet
open Go.RowKit Go.Proofs.YthcndngdngjalaaGreatDoor.So
set_option linter.unusedVariables false

theorem points_turn (ks : List KV) (X : WV) (T : Int) : Sc.points ks { X with turn := T } = Sc.points ks X := rfl
set_option maxRecDepth 100000 in
set_option maxHeartbeats 64000000 in
theorem walk (vk : Value) (ks : List KV) (vw : Value) (X : WV) (m : Int) (w : World)
    (h0 : Kl w vk ks ∧ ∀ k ∈ ks, k.b.size ≤ maxLen) (h1 : Wl w vw X ∧ ∀ n ∈ Wd.nums X, Wd.In64 n) (hsd : Sd w) :
    Calls Tryz.prog 7 #[vk, vw, .int .i64 m] w fun e w' => e = .returned (.bool true) ∧ Below w.heap.size w w' := by
  have K : Hid (Kl w vk ks ∧ ∀ k ∈ ks, k.b.size ≤ 9223372036854775807) := ⟨h0.1, fun k hk => by have := h0.2 k hk; unfold maxLen at this; omega⟩
  have H : Hid (Wl w vw X) := h1.1
  have SDH : Hid (Sd w) := hsd
  obtain ⟨p1, q1, p2, q2, p3, q3, p4, q4, p5, q5, rfl⟩ := wl_shape9 h1.1
  obtain ⟨pk, qk, rfl, kc1, kc2, -⟩ := h0.1
  have US : Hid (Unl w (.slice p4 X.us.length q4) X.us) := H.out.slices.2.2.2.1
  obtain ⟨ua9, uc9, uce, uc1, uc2, -⟩ := US.out
  injection uce with ue1 ue2 ue3
  subst ue1 ue3
  clear h0 h1 hsd ue2
  go_enter Tryz.func7, Tryz.ntmps7
  go_upto_region 1 with fail
  have B0 : Hid (Below w.heap.size w (w.alloc (Obj.cells #[.int .i64 X.turn, .int .i64 X.next, .int .i64 X.wide, .int .i64 X.high, .slice p1 X.gs.length q1, .slice p2 X.os.length q2, .slice p3 X.gold.length q3, .slice p4 X.us.length q4, .slice p5 X.qs.length q5] 29))) := (Below.refl _ _).alloc (Nat.le_refl _) _
  have X0 : Hid (Bw (w.alloc (Obj.cells #[.int .i64 X.turn, .int .i64 X.next, .int .i64 X.wide, .int .i64 X.high, .slice p1 X.gs.length q1, .slice p2 X.os.length q2, .slice p3 X.gold.length q3, .slice p4 X.us.length q4, .slice p5 X.qs.length q5] 29)) w.heap.size X (.slice p1 X.gs.length q1) (.slice p2 X.os.length q2) (.slice p3 X.gold.length q3) (.slice p4 X.us.length q4) (.slice p5 X.qs.length q5)) := Bw.mk' X _ _ _ _ _ rfl
  generalize w.alloc (Obj.cells #[.int .i64 X.turn, .int .i64 X.next, .int .i64 X.wide, .int .i64 X.high, .slice p1 X.gs.length q1, .slice p2 X.os.length q2, .slice p3 X.gold.length q3, .slice p4 X.us.length q4, .slice p5 X.qs.length q5] 29) = w0 at *
  go_wp2_with fail
  refine (one_any w0 (SDH.out.below B0.out)).mono ?_
  rintro e w1 ⟨rfl, hb⟩
  have B1 : Hid (Below w.heap.size w w1) := B0.out.trans (hb.mono B0.out.size)
  have X1 : Hid (Bw w1 w.heap.size X (.slice p1 X.gs.length q1) (.slice p2 X.os.length q2) (.slice p3 X.gold.length q3) (.slice p4 X.us.length q4) (.slice p5 X.qs.length q5)) := X0.out.below hb X0.out.lt
  clear hb X0 B0
  obtain ⟨x0, x1, x2, x3, x4, x5, x6, x7, x8⟩ := X1.out
  go_wp2_with fail
  refine (wcheck_any _ _ ks X w1 (K.out.1.below B1.out) K.out.2 (H.out.below B1.out)).mono ?_
  rintro e w2 ⟨r, rfl, hr, hb⟩
  have B2 : Hid (Below w.heap.size w w2) := B1.out.trans (hb.mono B1.out.size)
  have X2 : Hid (Bw w2 w.heap.size X (.slice p1 X.gs.length q1) (.slice p2 X.os.length q2) (.slice p3 X.gold.length q3) (.slice p4 X.us.length q4) (.slice p5 X.qs.length q5)) := X1.out.below hb X1.out.lt
  clear hb x0 x1 x2 x3 x4 x5 x6 x7 x8 X1 B1
  obtain ⟨f, hf⟩ : ∃ f, Wd.wfault ks X = f := ⟨_, rfl⟩
  rw [hf] at hr
  rcases hr with ⟨rfl, rfl⟩ | ⟨hn, rfl⟩
  case inr =>
    clear hf hn
    go_wp2
    go_ret
    exact ⟨rfl, B2.out⟩
  have WF : Hid (Wd.wfault ks X = 0) := hf
  clear hf
  by_cases hm0 : m < 0
  case pos =>
    go_wp2
    go_ret
    exact ⟨rfl, B2.out⟩
  by_cases hm1 : 10 < m
  case pos =>
    go_wp2
    go_ret
    exact ⟨rfl, B2.out⟩
  obtain ⟨x0, x1, x2, x3, x4, x5, x6, x7, x8⟩ := X2.out
  by_cases ht : 900000 < X.turn
  case pos =>
    go_wp2
    go_ret
    exact ⟨rfl, B2.out⟩
  by_cases hq : 0 < X.qs.length
  case pos =>
    have hq' : (0 : Int) < (X.qs.length : Int) := by omega
    go_wp2
    go_ret
    exact ⟨rfl, B2.out⟩
  have hq' : ¬ (0 : Int) < (X.qs.length : Int) := by omega
  obtain ⟨mn, rfl⟩ : ∃ n : Nat, m = (n : Nat) := ⟨m.toNat, by omega⟩
  have hq0 : X.qs.length = 0 := by omega
  have QN : Hid (X.qs = []) := List.length_eq_zero_iff.1 hq0
  have TT : Hid (X.turn ≤ 900000 ∧ mn ≤ 10) := ⟨by omega, by omega⟩
  have tb : Hid (0 ≤ X.turn) := by
    have hn := (wright_of WF.out).nums
    unfold Wd.numsBad at hn
    simp only [Bool.or_eq_false_iff] at hn
    have h9 := hn.1
    unfold Wd.off at h9
    simp at h9
    unfold Hid
    omega
  clear hq hq0
  go_wp2_with fail
  clear x0 x1 x2 x3 x4 x5 x6 x7 x8
  go_loopw [9] (fun j W => ∃ n : Nat, n ≤ X.us.length ∧ j = .int .i64 (n : Nat) ∧ (∀ x ∈ X.us.take n, x.task = 0 ∧ x.load = 0 ∧ ∀ k, ks[x.kind.toNat]? = some k → k.n1 = 0) ∧ W = w2) (fun j _ => X.us.length - (intOf j).toNat)
  case atStart => exact ⟨0, Nat.zero_le _, rfl, by simp, rfl⟩
  case round =>
  obtain ⟨n, hn, rfl, hall, rfl⟩ := hrel
  have AL : Hid (∀ x ∈ X.us.take n, x.task = 0 ∧ x.load = 0 ∧ ∀ k, ks[x.kind.toNat]? = some k → k.n1 = 0) := hall
  clear hall
  obtain ⟨x0, x1, x2, x3, x4, x5, x6, x7, x8⟩ := X2.out
  by_cases hne : n = X.us.length
  case neg =>
    have hnl : n < X.us.length := by omega
    have hnl' : (n : Int) < (X.us.length : Int) := by omega
    obtain ⟨u, hu⟩ : ∃ u, X.us[n]? = some u := ⟨_, List.getElem?_eq_getElem hnl⟩
    obtain ⟨k, F⟩ := (wright_of WF.out).fine hu
    have TK : Hid (X.us.take (n + 1) = X.us.take n ++ [u]) := by unfold Hid; rw [List.take_add_one, hu]; rfl
    obtain ⟨ua, uq, ue, -, -, ucell⟩ := US.out.below B2.out
    injection ue with ue1 ue2 ue3
    subst ue1 ue3
    obtain ⟨yu, rfl, -, ucell⟩ := ucell (by rintro h; rw [h] at hu; simp at hu)
    obtain ⟨c0, c1, c2, c3, c4, c5, c6, c7⟩ := ucell n u hu
    obtain ⟨kn, hkn⟩ : ∃ kn : Nat, u.kind = (kn : Nat) := ⟨u.kind.toNat, by have := F.k0; omega⟩
    have kkn : ks[kn]? = some k := by have := F.kk; rw [hkn, Int.toNat_natCast] at this; exact this
    have knl : (kn : Int) < (ks.length : Int) := by have := F.k0; omega
    have HK : Hid (ks[u.kind.toNat]? = some k) := F.kk
    have ld := F.load.1
    obtain ⟨ka, kq, ke, -, -, kcell⟩ := K.out.1.below B2.out
    injection ke with ke1 ke2 ke3
    subst ke1 ke3
    obtain ⟨yk, rfl, -, kcell⟩ := kcell (by rintro h; rw [h] at kkn; simp at kkn)
    obtain ⟨e0, e1, e2, e3, e4, e5, e6, e7, e8, e9, e10⟩ := kcell kn k kkn
    rw [hkn] at c2
    have kf : Hid (0 ≤ k.n1) := by
      have h9 := (wright_of WF.out).kinds
      unfold Kd.kindsFault at h9
      split at h9
      · omega
      · have h2 := kgo_nums h9 k.k (List.mem_map.2 ⟨k, List.mem_of_getElem? kkn, rfl⟩)
        unfold Kd.numsFault at h2
        split at h2
        · omega
        · rename_i h3
          rw [Bool.not_eq_true, List.any_eq_false] at h3
          have := h3 k.n1 (by simp [KV.k])
          simp only [decide_eq_true_eq] at this
          unfold Hid
          omega
    clear F ucell kcell hu kkn ue2 ke2
    by_cases h1 : u.task = 0
    case neg =>
      have h1b : (u.task == 0) = false := beq_eq_false_iff_ne.2 h1
      go_wp2
      go_ret
      exact ⟨rfl, B2.out⟩
    have h1b : (u.task == 0) = true := beq_iff_eq.2 h1
    by_cases h2 : 0 < u.load
    case pos =>
      go_wp2
      go_ret
      exact ⟨rfl, B2.out⟩
    by_cases h3 : 0 < k.n1
    case pos =>
      go_wp2
      go_ret
      exact ⟨rfl, B2.out⟩
    have AN : Hid (∀ x ∈ X.us.take (n + 1), x.task = 0 ∧ x.load = 0 ∧ ∀ k, ks[x.kind.toNat]? = some k → k.n1 = 0) := by
      intro x hx
      rw [TK.out] at hx
      rcases List.mem_append.1 hx with hx | hx
      · exact AL.out x hx
      · simp at hx
        subst hx
        refine ⟨h1, by omega, fun k' hk' => ?_⟩
        rw [HK.out] at hk'
        injection hk' with hk'
        subst hk'
        have := kf.out
        omega
    go_wp2
    go_roundw
    case rel => exact ⟨n + 1, by omega, by go_num, AN.out, by first | rfl | trivial⟩
    case measure => simp [intOf]; omega
  have QU : Hid (Quiet ks X) := ⟨WF.out, QN.out, fun x hx => AL.out x (by rw [hne, List.take_length]; exact hx)⟩
  have hnn : ¬ (n : Int) < (X.us.length : Int) := by omega
  clear AL
  obtain ⟨w3, hmk, hol, hbl⟩ := makeOs mn wr (by have := TT.out; omega)
  have B3 : Hid (Below w.heap.size w w3) := B2.out.trans (hbl.mono B2.out.size)
  have X3 : Hid (Bw w3 w.heap.size X (.slice p1 X.gs.length q1) (.slice p2 X.os.length q2) (.slice p3 X.gold.length q3) (.slice p4 X.us.length q4) (.slice p5 X.qs.length q5)) := X2.out.below hbl X2.out.lt
  have OL : Hid (Oll w3 (.slice (some ⟨wr.heap.size, 0, none⟩) mn mn) (List.replicate mn [])) := hol
  clear hol hbl
  go_upto_region 13 with fail
  clear hmk x0 x1 x2 x3 x4 x5 x6 x7 x8
  obtain ⟨x0, x1, x2, x3, x4, x5, x6, x7, x8⟩ := X3.out
  go_wp2_with fail
  refine (Play_any _ _ _ ks X (List.replicate mn []) w3 (K.out.1.below B3.out) K.out.2 (H.out.below B3.out) OL.out (SDH.out.below B3.out)).mono ?_
  rintro e w5 ⟨v, r, F, rfl, hr, hs, hb⟩
  obtain ⟨rfl, hwo, hwf⟩ := quiet_says QU.out TT.out.2 TT.out.1 hs hr
  have B5 : Hid (Below w.heap.size w w5) := B3.out.trans (hb.mono B3.out.size)
  have X5 : Hid (Bw w5 w.heap.size X (.slice p1 X.gs.length q1) (.slice p2 X.os.length q2) (.slice p3 X.gold.length q3) (.slice p4 X.us.length q4) (.slice p5 X.qs.length q5)) := X3.out.below hb X3.out.lt
  clear hr hs hb x0 x1 x2 x3 x4 x5 x6 x7 x8 X3 B3 OL X2 B2
  obtain ⟨T, hT⟩ : ∃ T, X.turn + (mn : Int) = T := ⟨_, rfl⟩
  rw [hT] at hwo hwf
  have WT : Hid (Wd.wfault ks { X with turn := T } = 0) := hwf
  have LT0 := hwo.l
  obtain ⟨s1, l1, s2, l2, s3, l3, s4, l4, s5, l5, hv⟩ := wl_shape9 hwo.l
  subst hv
  have LT : Hid (Wl w5 (.agg #[.int .i64 T, .int .i64 X.next, .int .i64 X.wide, .int .i64 X.high, .slice s1 X.gs.length l1, .slice s2 X.os.length l2, .slice s3 X.gold.length l3, .slice s4 X.us.length l4, .slice s5 X.qs.length l5]) { X with turn := T }) := LT0
  clear hwo hwf LT0 hT
  go_upto_region 14 with fail
  obtain ⟨zt, hzt⟩ : ∃ z, w5.heap.size = z := ⟨_, rfl⟩
  have BA : Hid (Below w5.heap.size w5 (w5.alloc (Obj.cells #[.int .i64 T, .int .i64 X.next, .int .i64 X.wide, .int .i64 X.high, .slice s1 X.gs.length l1, .slice s2 X.os.length l2, .slice s3 X.gold.length l3, .slice s4 X.us.length l4, .slice s5 X.qs.length l5] 29))) := (Below.refl _ _).alloc (Nat.le_refl _) _
  have YX : Hid (Wx (w5.alloc (Obj.cells #[.int .i64 T, .int .i64 X.next, .int .i64 X.wide, .int .i64 X.high, .slice s1 X.gs.length l1, .slice s2 X.os.length l2, .slice s3 X.gold.length l3, .slice s4 X.us.length l4, .slice s5 X.qs.length l5] 29)) zt (.int .i64 T) (.int .i64 X.next) (.int .i64 X.wide) (.int .i64 X.high) (.slice s1 X.gs.length l1) (.slice s2 X.os.length l2) (.slice s3 X.gold.length l3) (.slice s4 X.us.length l4) (.slice s5 X.qs.length l5)) := Wx.new _ _ _ _ _ _ _ _ _ hzt
  have B6 : Hid (Below w.heap.size w (w5.alloc (Obj.cells #[.int .i64 T, .int .i64 X.next, .int .i64 X.wide, .int .i64 X.high, .slice s1 X.gs.length l1, .slice s2 X.os.length l2, .slice s3 X.gold.length l3, .slice s4 X.us.length l4, .slice s5 X.qs.length l5] 29))) := B5.out.trans (BA.out.mono B5.out.size)
  have X6 : Hid (Bw (w5.alloc (Obj.cells #[.int .i64 T, .int .i64 X.next, .int .i64 X.wide, .int .i64 X.high, .slice s1 X.gs.length l1, .slice s2 X.os.length l2, .slice s3 X.gold.length l3, .slice s4 X.us.length l4, .slice s5 X.qs.length l5] 29)) w.heap.size X (.slice p1 X.gs.length q1) (.slice p2 X.os.length q2) (.slice p3 X.gold.length q3) (.slice p4 X.us.length q4) (.slice p5 X.qs.length q5)) := X5.out.below BA.out X5.out.lt
  have ZL : Hid (w5.heap.size = zt ∧ w.heap.size < zt) := ⟨hzt, by rw [← hzt]; exact X5.out.lt⟩
  rw [hzt]
  generalize w5.alloc (Obj.cells #[.int .i64 T, .int .i64 X.next, .int .i64 X.wide, .int .i64 X.high, .slice s1 X.gs.length l1, .slice s2 X.os.length l2, .slice s3 X.gold.length l3, .slice s4 X.us.length l4, .slice s5 X.qs.length l5] 29) = w6 at *
  clear hzt X5 B5
  obtain ⟨x0, x1, x2, x3, x4, x5, x6, x7, x8⟩ := X6.out
  go_wp2_with fail
  refine (points_any _ _ ks X w6 (K.out.1.below B6.out) K.out.2 (H.out.below B6.out)).mono ?_
  rintro e w7 ⟨ra, ua, rfl, hb, hs⟩
  obtain ⟨hro, hu⟩ : Ro w7 ra (Sc.points ks X) ∧ Er ua 0 := by
    rcases hs with ⟨h, -⟩ | ⟨-, h⟩
    · exact absurd WF.out h
    · exact h
  obtain rfl := One.ez hu
  have PA : Hid (Ro w7 ra (Sc.points ks X)) := hro
  have B7 : Hid (Below w.heap.size w w7) := B6.out.trans (hb.mono B6.out.size)
  have X7 : Hid (Bw w7 w.heap.size X (.slice p1 X.gs.length q1) (.slice p2 X.os.length q2) (.slice p3 X.gold.length q3) (.slice p4 X.us.length q4) (.slice p5 X.qs.length q5)) := X6.out.below hb X6.out.lt
  have YX7 : Hid (Wx w7 zt (.int .i64 T) (.int .i64 X.next) (.int .i64 X.wide) (.int .i64 X.high) (.slice s1 X.gs.length l1) (.slice s2 X.os.length l2) (.slice s3 X.gold.length l3) (.slice s4 X.us.length l4) (.slice s5 X.qs.length l5)) := YX.out.below hb YX.out.lt
  have D7 : Hid (Below w5.heap.size w5 w7) := BA.out.trans (hb.mono BA.out.size)
  clear hs hu hro hb x0 x1 x2 x3 x4 x5 x6 x7 x8 X6 B6 YX BA
  obtain ⟨x0, x1, x2, x3, x4, x5, x6, x7, x8⟩ := YX7.out.cells
  go_wp2_with fail
  refine (points_any _ _ ks { X with turn := T } w7 (K.out.1.below B7.out) K.out.2 (LT.out.below D7.out)).mono ?_
  rintro e w8 ⟨rb, ub, rfl, hb, hs⟩
  obtain ⟨hro, hu⟩ : Ro w8 rb (Sc.points ks X) ∧ Er ub 0 := by
    rcases hs with ⟨h, -⟩ | ⟨-, h⟩
    · exact absurd WT.out h
    · exact h
  obtain rfl := One.ez hu
  have PB : Hid (Ro w8 ra (Sc.points ks X) ∧ Ro w8 rb (Sc.points ks X)) := ⟨PA.out.below hb, hro⟩
  have B8 : Hid (Below w.heap.size w w8) := B7.out.trans (hb.mono B7.out.size)
  have X8 : Hid (Bw w8 w.heap.size X (.slice p1 X.gs.length q1) (.slice p2 X.os.length q2) (.slice p3 X.gold.length q3) (.slice p4 X.us.length q4) (.slice p5 X.qs.length q5)) := X7.out.below hb X7.out.lt
  have YX8 : Hid (Wx w8 zt (.int .i64 T) (.int .i64 X.next) (.int .i64 X.wide) (.int .i64 X.high) (.slice s1 X.gs.length l1) (.slice s2 X.os.length l2) (.slice s3 X.gold.length l3) (.slice s4 X.us.length l4) (.slice s5 X.qs.length l5)) := YX7.out.below hb YX7.out.lt
  have D8 : Hid (Below w5.heap.size w5 w8) := D7.out.trans (hb.mono D7.out.size)
  clear hs hu hro hb x0 x1 x2 x3 x4 x5 x6 x7 x8 X7 B7 YX7 D7 PA
  go_wp2_with fail
  refine (ints_any _ _ _ _ w8 PB.out.1 PB.out.2).mono ?_
  rintro e w9 ⟨rfl, qn, hq9⟩
  have hb : Below w8.heap.size w8 w9 := by rw [hq9]; exact ⟨rfl, rfl, rfl, Nat.le_refl _, fun _ _ => rfl⟩
  have B9 : Hid (Below w.heap.size w w9) := B8.out.trans (hb.mono B8.out.size)
  have X9 : Hid (Bw w9 w.heap.size X (.slice p1 X.gs.length q1) (.slice p2 X.os.length q2) (.slice p3 X.gold.length q3) (.slice p4 X.us.length q4) (.slice p5 X.qs.length q5)) := X8.out.below hb X8.out.lt
  have YX9 : Hid (Wx w9 zt (.int .i64 T) (.int .i64 X.next) (.int .i64 X.wide) (.int .i64 X.high) (.slice s1 X.gs.length l1) (.slice s2 X.os.length l2) (.slice s3 X.gold.length l3) (.slice s4 X.us.length l4) (.slice s5 X.qs.length l5)) := YX8.out.below hb YX8.out.lt
  have D9 : Hid (Below w5.heap.size w5 w9) := D8.out.trans (hb.mono D8.out.size)
  have dt : decide (Sc.points ks X = Sc.points ks X) = true := decide_eq_true rfl
  rw [dt]
  clear hb hq9 X8 B8 YX8 D8 PB dt
  obtain ⟨x0, x1, x2, x3, x4, x5, x6, x7, x8⟩ := X9.out
  obtain ⟨y0, y1, y2, y3, y4, y5, y6, y7, y8⟩ := YX9.out.cells
  obtain ⟨t0, t1, t2, t3, t4, t5, t6, t7, t8⟩ := YX9.out.thaws
  have KW : Hid (Kp zt w9 (w9.setCell ⟨zt, 0, none⟩ (.int .i64 X.turn))) := Kp.set _ _ _
  have YS : Hid (Wx (w9.setCell ⟨zt, 0, none⟩ (.int .i64 X.turn)) zt (.int .i64 X.turn) (.int .i64 X.next) (.int .i64 X.wide) (.int .i64 X.high) (.slice s1 X.gs.length l1) (.slice s2 X.os.length l2) (.slice s3 X.gold.length l3) (.slice s4 X.us.length l4) (.slice s5 X.qs.length l5)) := YX9.out.set0 _
  have XS9 : Hid (Bw (w9.setCell ⟨zt, 0, none⟩ (.int .i64 X.turn)) w.heap.size X (.slice p1 X.gs.length q1) (.slice p2 X.os.length q2) (.slice p3 X.gold.length q3) (.slice p4 X.us.length q4) (.slice p5 X.qs.length q5)) := X9.out.kp9 KW.out (by have := ZL.out; omega)
  have BS : Hid (Below w.heap.size w (w9.setCell ⟨zt, 0, none⟩ (.int .i64 X.turn))) := KW.out.below B9.out B9.out.size (by have := ZL.out; omega)
  have DS : Hid (Below w5.heap.size w5 (w9.setCell ⟨zt, 0, none⟩ (.int .i64 X.turn))) := KW.out.below D9.out D9.out.size (by have := ZL.out; omega)
  go_upto_region 18 with fail
  clear x0 x1 x2 x3 x4 x5 x6 x7 x8 y0 y1 y2 y3 y4 y5 y6 y7 y8 t0 t1 t2 t3 t4 t5 t6 t7 t8 X9 B9 YX9 D9 KW
  generalize w9.setCell ⟨zt, 0, none⟩ (.int .i64 X.turn) = w10 at *
  have LX : Hid (Wl w10 (.agg #[.int .i64 X.turn, .int .i64 X.next, .int .i64 X.wide, .int .i64 X.high, .slice s1 X.gs.length l1, .slice s2 X.os.length l2, .slice s3 X.gold.length l3, .slice s4 X.us.length l4, .slice s5 X.qs.length l5]) X) := by
    obtain ⟨a1, a2, a3, a4, a5, e, r1, r2, r3, r4, r5⟩ := LT.out.below DS.out
    injection e with e
    simp at e
    obtain ⟨rfl, rfl, rfl, rfl, rfl⟩ := e
    exact ⟨_, _, _, _, _, rfl, r1, r2, r3, r4, r5⟩
  obtain ⟨x0, x1, x2, x3, x4, x5, x6, x7, x8⟩ := XS9.out
  obtain ⟨y0, y1, y2, y3, y4, y5, y6, y7, y8⟩ := YS.out.cells
  go_wp2_with fail
  refine (worlds_like _ _ X w10 LX.out (H.out.below BS.out)).mono ?_
  rintro e w11 ⟨rfl, hb⟩
  have B11 : Hid (Below w.heap.size w w11) := BS.out.trans (hb.mono BS.out.size)
  clear hb x0 x1 x2 x3 x4 x5 x6 x7 x8 y0 y1 y2 y3 y4 y5 y6 y7 y8
  go_wp2
  go_ret
  exact ⟨rfl, B11.out⟩
end Go.Proofs.YthcndngdngjalaaGreatDoor.topQuiet

namespace Go.Proofs.YthcndngdngjalaaGreatDoor
open Go.ChangeShapes Go.WideShapes Go.ChangeAt Go.RowKit
set_option linter.unusedVariables false

theorem sides_g : Tryz.prog.globalNamed "marchland/field.sides" = some 1 := by kernel_rfl
theorem sides_t : (Tryz.prog.globals[1]?).map (·.type) = some 226 := by kernel_rfl
theorem side_cs : Tryz.prog.cellsOf 225 = 2 := by kernel_rfl
theorem int_cs : Tryz.prog.cellsOf 3 = 1 := by kernel_rfl

theorem len2 {α : Type} {l : List α} (h : l.length = 2) : ∃ a b, l = [a, b] := by
  match l, h with
  | [a, b], _ => exact ⟨a, b, rfl⟩
theorem len4 {α : Type} {l : List α} (h : l.length = 4) : ∃ a b c d, l = [a, b, c, d] := by
  match l, h with
  | [a, b, c, d], _ => exact ⟨a, b, c, d, rfl⟩

set_option maxRecDepth 100000 in
theorem side_cells {w : World} {fuel : Nat} {cs : List Value} {a b : Int} {y : DataW Unit × List MemPlace} (h : DataW.trod (fun _ => ()) Tryz.prog w 0 (fun _ => true) false fuel 225 cs = some y) (hy : y.1 = .agg [.lit (.int .i64 a), .lit (.int .i64 b)]) : cs = [.int .i64 a, .int .i64 b] := by
  obtain ⟨y0, y1, n, hx, hl, h0, h1⟩ := trod_struct2 Tryz.underlying225 h
  obtain ⟨p, e0, f0, -⟩ := DataW.trod_int Tryz.underlying3 h0
  obtain ⟨q, e1, f1, -⟩ := DataW.trod_int Tryz.underlying3 h1
  rw [hx, f0, f1] at hy
  simp only [DataW.agg.injEq, List.cons.injEq, DataW.lit.injEq, Lit.int.injEq, true_and, and_true] at hy
  obtain ⟨rfl, rfl⟩ := hy
  dsimp only at e0 e1
  rw [int_cs] at e0 e1
  rw [side_cs] at hl
  obtain ⟨c0, c1, rfl⟩ := len2 hl
  simp at e0 e1
  rw [e0, e1]

set_option maxRecDepth 100000 in
theorem sd_of_laid {w : World} (h : laidMet Tryz.prog [("marchland/field.sides", Rows.laid_marchland_field_sides)] w) : Sd w := by
  obtain ⟨ps, ⟨g, t, cs, fuel, p, q, h1, h2, h3, h4, -, -⟩, -, -⟩ := h
  obtain rfl := Option.some.inj (sides_g.symm.trans h1)
  obtain rfl := Option.some.inj (sides_t.symm.trans h2)
  obtain ⟨xs, m, -, hx, hl, hn, hi⟩ := DataW.trod_array Tryz.underlying226 h4
  have hd : xs.map (·.1) = [.agg [.lit (.int .i64 0), .lit (.int .i64 (-1))], .agg [.lit (.int .i64 (-1)), .lit (.int .i64 0)], .agg [.lit (.int .i64 1), .lit (.int .i64 0)], .agg [.lit (.int .i64 0), .lit (.int .i64 1)]] := by
    have e : Rows.laid_marchland_field_sides = DataW.agg (xs.map (·.1)) := congrArg Prod.fst hx
    unfold Rows.laid_marchland_field_sides at e
    injection e with e
    exact e.symm
  obtain ⟨x0, x1, x2, x3, rfl⟩ := len4 hn
  simp only [List.map_cons, List.map_nil, List.cons.injEq, and_true] at hd
  obtain ⟨d0, d1, d2, d3⟩ := hd
  have i0 := side_cells (hi 0 (by decide)) d0
  have i1 := side_cells (hi 1 (by decide)) d1
  have i2 := side_cells (hi 2 (by decide)) d2
  have i3 := side_cells (hi 3 (by decide)) d3
  rw [side_cs] at i0 i1 i2 i3
  have ec : ∀ k : Nat, w.cell? ⟨1, k, none⟩ = cs.toList[k]? := fun k => by
    have e := World.var?_cell sides_g h3 k
    rw [e, Array.getElem?_toList]
  have g0 : ∀ k a b, (cs.toList.drop (k * 2)).take 2 = [.int .i64 a, .int .i64 b] → cs.toList[k * 2]? = some (.int .i64 a) ∧ cs.toList[k * 2 + 1]? = some (.int .i64 b) := by
    intro k a b e
    constructor
    · have := congrArg (fun l => l[0]?) e
      simpa [List.getElem?_take, List.getElem?_drop] using this
    · have := congrArg (fun l => l[1]?) e
      simpa [List.getElem?_take, List.getElem?_drop] using this
  have j0 := g0 0 _ _ i0
  have j1 := g0 1 _ _ i1
  have j2 := g0 2 _ _ i2
  have j3 := g0 3 _ _ i3
  exact ⟨(ec 0).trans j0.1, (ec 1).trans j0.2, (ec 2).trans j1.1, (ec 3).trans j1.2, (ec 4).trans j2.1, (ec 5).trans j2.2, (ec 6).trans j3.1, (ec 7).trans j3.2⟩
end Go.Proofs.YthcndngdngjalaaGreatDoor

