/- OrdersCount: the walk. -/
import Derived.Test.YtelbdcljdfadbaaDoorZOrdersCount2
import Derived.Test.YtelbdcljdfadbaaDoorZOrdersCount3
import Derived.Test.YtelbdcljdfadbaaDoorZOrdersCount4
import Derived.Test.YtelbdcljdfadbaaDoorZOrdersCount5
import Derived.ProofKit
import Derived.OpenShut
import Derived.IntWalk
namespace Go.Proofs.YtelbdcljdfadbaaDoor.ordersCount
open Go.RowKit Go.Proofs.YtelbdcljdfadbaaDoor.So
set_option linter.unusedVariables false

set_option maxRecDepth 100000 in
set_option maxHeartbeats 16000000 in
theorem walk (v0 : Value) (ks0 : List OrV) (v1 : Value) (ks1 : List OrV) (w : World) (h0 : Orl w v0 ks0 ∧ ks0.length ≤ 1048576) (h1 : Orl w v1 ks1 ∧ ks1.length ≤ 1048576) (he : Et w) (hp : Pw w) (hn : Nm w) :
    Calls Tryd.prog 6 #[v0, v1] w fun e w' => e = .returned (.bool true) ∧ Below w.heap.size w w' := by
  have G0 : Hid (Et w ∧ Pw w ∧ Nm w) := ⟨he, hp, hn⟩
  have K0 : Hid (Orl w v0 ks0 ∧ ks0.length ≤ 1048576) := h0
  have K1 : Hid (Orl w v1 ks1 ∧ ks1.length ≤ 1048576) := h1
  have l0 := h0.2
  have l1 := h1.2
  obtain ⟨pa, pc, rfl, -, -, -⟩ := h0.1
  obtain ⟨pb, pd, rfl, -, -, -⟩ := h1.1
  obtain ⟨s, hs⟩ : ∃ s, ks0.length + ks1.length = s := ⟨_, rfl⟩
  have hs1 : (ks0 ++ ks1).length = s := by rw [List.length_append]; exact hs
  clear he hp hn h0 h1
  go_enter Tryd.func6, Tryd.ntmps6
  go_wp2_with fail
  refine (ref_orders _ ks0 w K0.out.1).mono ?_
  rintro e w1 ⟨rfl, b1⟩
  have B1 : Hid (Below w.heap.size w w1) := b1
  clear b1
  go_wp2_with fail
  refine (ocheck_any _ ks0 w1 (K0.out.1.below B1.out)).mono ?_
  rintro e w2 ⟨u2, rfl, hu2, b2⟩
  have B2 : Hid (Below w.heap.size w w2) := B1.out.trans (b2.mono B1.out.size)
  have E2 : Hid (Er u2 (Od.faults ks0)) := hu2
  clear b2 hu2
  go_wp2_with fail
  refine (er_same u2 _ w2 E2.out (G0.out.1.below B2.out)).mono ?_
  rintro e w3 ⟨rfl, b3⟩
  have B3 : Hid (Below w.heap.size w w3) := B2.out.trans (b3.mono B2.out.size)
  clear b3
  by_cases hz : Od.faults ks0 = 0
  · have HZ : Hid (Od.faults ks0 = 0) := hz
    rw [hz]
    clear hz
    go_wp2_with fail
    refine (ref_oprint _ ks0 w3 (K0.out.1.below B3.out) HZ.out).mono ?_
    rintro e w4 ⟨rfl, b4⟩
    have B4 : Hid (Below w.heap.size w w4) := B3.out.trans (b4.mono B3.out.size)
    clear b4
    go_wp2_with fail
    refine (ref_last _ ks0 w4 (K0.out.1.below B4.out) (Od.faults_ok HZ.out).1).mono ?_
    rintro e w5 ⟨u5, out5, rfl, hls5, ho5, b5⟩
    have B5 : Hid (Below w.heap.size w w5) := B4.out.trans (b5.mono B4.out.size)
    have L5 : Hid (LastSays ks0 out5 ∧ Orl w5 u5 out5) := ⟨hls5, ho5.l⟩
    clear hls5 ho5 b5
    go_wp2_with fail
    refine (oprint_any _ ks0 w5 (K0.out.1.below B5.out) (G0.out.2.2.below B5.out (Nat.le_refl _)) (G0.out.2.1.below B5.out)).mono ?_
    rintro e w6 ⟨s6, u6, rfl, b6, hu6, hp6⟩
    have B6 : Hid (Below w.heap.size w w6) := B5.out.trans (b6.mono B5.out.size)
    have L6 : Hid (Orl w6 u5 out5) := L5.out.2.below b6
    obtain rfl : s6 = bytesOf (Od.prt ks0) := by
      rcases hp6 with ⟨h, -⟩ | ⟨-, h⟩
      · exact absurd HZ.out h
      · exact h
    rw [HZ.out] at hu6
    have E6 : Hid (Er u6 0) := hu6
    clear hp6 hu6 b6
    generalize bytesOf (Od.prt ks0) = txt at *
    go_wp2_with fail
    refine (er_same u6 0 w6 E6.out (G0.out.1.below B6.out)).mono ?_
    rintro e w7 ⟨rfl, b7⟩
    have B7 : Hid (Below w.heap.size w w7) := B6.out.trans (b7.mono B6.out.size)
    have L7 : Hid (Orl w7 u5 out5) := L6.out.below b7
    clear b7
    go_wp2_with fail
    refine Calls.mono (last_any _ ks0 w7 (K0.out.1.below B7.out)) ?_
    rintro e w8 ⟨u8, r8, rfl, hr8, hu8, b8⟩
    rw [HZ.out] at hr8
    have B8 : Hid (Below w.heap.size w w8) := B7.out.trans (b8.mono B7.out.size)
    obtain ⟨outp, hlp, hop⟩ : ∃ out, LastSays ks0 out ∧ Oro w8 w7.heap.size u8 out := by
      rcases hu8 with ⟨h, -⟩ | ⟨-, h⟩
      · exact absurd HZ.out h
      · exact h
    obtain rfl := hlp.one L5.out.1
    have L8 : Hid (Orl w8 u8 outp ∧ Orl w8 u5 outp) := ⟨hop.l, L7.out.below b8⟩
    have E8 : Hid (Er r8 0) := hr8
    clear hr8 hu8 b8 hlp hop
    go_wp2_with fail
    refine (er_same r8 0 w8 E8.out (G0.out.1.below B8.out)).mono ?_
    rintro e wa ⟨rfl, ba⟩
    have BA : Hid (Below w.heap.size w wa) := B8.out.trans (ba.mono B8.out.size)
    have LA : Hid (Orl wa u8 outp ∧ Orl wa u5 outp) := ⟨L8.out.1.below ba, L8.out.2.below ba⟩
    clear ba
    go_wp2_with fail
    refine (orders_like u8 u5 outp wa LA.out.1 LA.out.2).mono ?_
    rintro e w9 ⟨rfl, b9⟩
    have B9 : Hid (Below w.heap.size w w9) := BA.out.trans (b9.mono BA.out.size)
    clear b9
    go_wp2_with (at_builtin; refine app_ors _ rfl _ _ rfl w9.heap.size _ [] rfl (Oro.nil _ _) _ ks0 rfl (K0.out.1.below B9.out) (by simp; omega) (Nat.le_refl _) ?_)
    intro v15 wc oc gc ec
    have BC : Hid (Below w.heap.size w wc) := B9.out.grown gc B9.out.size (fun k hk => by cases hk)
    have OC : Hid (Oro wc w9.heap.size v15 ks0) := by unfold Hid; simpa using oc
    have SC : Hid (w9.heap.size ≤ wc.heap.size) := ((Below.refl w9.heap.size w9).grown gc (Nat.le_refl _) (fun k hk => by cases hk)).size
    obtain ⟨a15, c15, rfl⟩ := OC.out.len
    clear oc gc ec
    go_wp2_with (at_builtin; refine app_ors _ rfl _ _ rfl w9.heap.size _ ks0 rfl OC.out _ ks1 rfl (K1.out.1.below BC.out) (by omega) SC.out ?_)
    intro v16 wd od gd ed
    have BD : Hid (Below w.heap.size w wd) := BC.out.grown gd BC.out.size (fun k hk => by have h1 := (OC.out.block k hk).1; have h2 := B9.out.size; omega)
    have OD : Hid (Oro wd w9.heap.size v16 (ks0 ++ ks1)) := od
    obtain ⟨a16, c16, e16⟩ := od.len
    rw [hs1] at e16
    subst e16
    have OL : Hid (Orl wd (.slice a16 s c16) (ks0 ++ ks1)) := od.l
    clear od gd ed
    go_wp2_with fail
    refine (ref_orders _ (ks0 ++ ks1) wd OL.out).mono ?_
    rintro e we ⟨rfl, be⟩
    have BE : Hid (Below w.heap.size w we) := BD.out.trans (be.mono BD.out.size)
    have OE : Hid (Orl we (.slice a16 s c16) (ks0 ++ ks1)) := OL.out.below be
    clear be
    have MG : Hid (∀ W, Below w.heap.size w W → Calls Tryd.prog 30 #[.slice (some ⟨W.heap.size, 0, none⟩) 2 2] (W.alloc (Obj.cells #[.slice pa ks0.length pc, .slice pb ks1.length pd] 57)) (LastTells (ks0 ++ ks1) (W.alloc (Obj.cells #[.slice pa ks0.length pc, .slice pb ks1.length pd] 57)))) := fun W hW => by
      have ba := hW.alloc (o := Obj.cells #[.slice pa ks0.length pc, .slice pb ks1.length pd] 57) hW.size
      exact merge_any W.heap.size _ _ ks0 ks1 _ (K0.out.1.below ba) (K1.out.1.below ba) K0.out.2 K1.out.2 (by simp) (by simp)
    by_cases hz1 : Od.faults (ks0 ++ ks1) = 0
    · have HZ1 : Hid (Od.faults (ks0 ++ ks1) = 0) := hz1
      rw [hz1]
      clear hz1
      go_wp2_with fail
      refine (ref_last _ (ks0 ++ ks1) we OE.out (Od.faults_ok HZ1.out).1).mono ?_
      rintro e wf ⟨u8, out8, rfl, hls8, ho8, bf⟩
      have BF : Hid (Below w.heap.size w wf) := BE.out.trans (bf.mono BE.out.size)
      have L8 : Hid (LastSays (ks0 ++ ks1) out8 ∧ Orl wf u8 out8) := ⟨hls8, ho8.l⟩
      clear hls8 ho8 bf
      go_wp2_with fail
      refine Calls.mono (MG.out wf BF.out) ?_
      rintro e wg ⟨um, rm, rfl, hrm, hum, bg⟩
      have BG1 : Hid (Below wf.heap.size wf wg) := ((Below.refl wf.heap.size wf).alloc (Nat.le_refl _) _).trans (bg.mono (by simp))
      have BG : Hid (Below w.heap.size w wg) := BF.out.trans (BG1.out.mono BF.out.size)
      have EG : Hid (Er rm 0) := by have h := hrm; rw [HZ1.out] at h; exact h
      obtain ⟨outm, hlm, hom⟩ : ∃ out, LastSays (ks0 ++ ks1) out ∧ Oro wg _ um out := by
        rcases hum with ⟨h, -⟩ | ⟨-, h⟩
        · exact absurd HZ1.out h
        · exact h
      obtain rfl := hlm.one L8.out.1
      have LM : Hid (Orl wg um outm) := hom.l
      have L9 : Hid (Orl wg u8 outm) := L8.out.2.below BG1.out
      clear hrm hum bg hlm hom
      go_wp2_with fail
      refine (er_same rm 0 wg EG.out (G0.out.1.below BG.out)).mono ?_
      rintro e wh ⟨rfl, bh⟩
      have BH : Hid (Below w.heap.size w wh) := BG.out.trans (bh.mono BG.out.size)
      have LM2 : Hid (Orl wh um outm ∧ Orl wh u8 outm) := ⟨LM.out.below bh, L9.out.below bh⟩
      clear bh
      go_wp2_with fail
      refine (orders_like um u8 outm wh LM2.out.1 LM2.out.2).mono ?_
      rintro e wi ⟨rfl, bi⟩
      have BI : Hid (Below w.heap.size w wi) := BH.out.trans (bi.mono BH.out.size)
      clear bi
      go_wp2
      go_ret
      exact ⟨by simp, BI.out⟩
    · have hzb : (Od.faults (ks0 ++ ks1) == 0) = false := beq_eq_false_iff_ne.2 hz1
      have HZ1 : Hid (Od.faults (ks0 ++ ks1) ≠ 0) := hz1
      obtain ⟨f, hf⟩ : ∃ f, Od.faults (ks0 ++ ks1) = f := ⟨_, rfl⟩
      have HF : Hid (Od.faults (ks0 ++ ks1) = f) := hf
      rw [hf] at hzb ⊢
      clear hz1 hf
      go_wp2_with fail
      refine Calls.mono (MG.out we BE.out) ?_
      rintro e wg ⟨um, rm, rfl, hrm, hum, bg⟩
      have BG : Hid (Below w.heap.size w wg) := BE.out.trans ((((Below.refl we.heap.size we).alloc (Nat.le_refl _) _).trans (bg.mono (by simp))).mono BE.out.size)
      have EG : Hid (Er rm f) := by have h := hrm; rw [HF.out] at h; exact h
      obtain rfl : um = .slice none 0 0 := by
        rcases hum with ⟨-, h⟩ | ⟨h, -⟩
        · exact h
        · exact absurd h HZ1.out
      clear hrm hum bg
      go_wp2_with fail
      refine (er_same rm f wg EG.out (G0.out.1.below BG.out)).mono ?_
      rintro e wh ⟨rfl, bh⟩
      have BH : Hid (Below w.heap.size w wh) := BG.out.trans (bh.mono BG.out.size)
      clear bh
      go_wp2_with fail
      refine (orders_like (.slice none 0 0) (.slice none 0 0) [] wh ⟨none, 0, rfl, by simp, by omega, fun h => absurd rfl h⟩ ⟨none, 0, rfl, by simp, by omega, fun h => absurd rfl h⟩).mono ?_
      rintro e wi ⟨rfl, bi⟩
      have BI : Hid (Below w.heap.size w wi) := BH.out.trans (bi.mono BH.out.size)
      clear bi
      go_wp2
      go_ret
      exact ⟨by simp, BI.out⟩
  · have hzb0 : (Od.faults ks0 == 0) = false := beq_eq_false_iff_ne.2 hz
    have HZ : Hid (Od.faults ks0 ≠ 0) := hz
    obtain ⟨f0, hf0⟩ : ∃ f, Od.faults ks0 = f := ⟨_, rfl⟩
    have HF0 : Hid (Od.faults ks0 = f0) := hf0
    rw [hf0] at hzb0 ⊢
    clear hz hf0
    go_wp2_with fail
    refine (oprint_any _ ks0 w3 (K0.out.1.below B3.out) (G0.out.2.2.below B3.out (Nat.le_refl _)) (G0.out.2.1.below B3.out)).mono ?_
    rintro e w6 ⟨s6, u6, rfl, b6, hu6, hp6⟩
    have B6 : Hid (Below w.heap.size w w6) := B3.out.trans (b6.mono B3.out.size)
    obtain rfl : s6 = ⟨#[]⟩ := by
      rcases hp6 with ⟨-, h⟩ | ⟨h, -⟩
      · exact h
      · exact absurd h HZ.out
    rw [HF0.out] at hu6
    have E6 : Hid (Er u6 f0) := hu6
    clear hp6 hu6 b6
    go_wp2_with fail
    refine (er_same u6 f0 w6 E6.out (G0.out.1.below B6.out)).mono ?_
    rintro e w7 ⟨rfl, b7⟩
    have B7 : Hid (Below w.heap.size w w7) := B6.out.trans (b7.mono B6.out.size)
    clear b7
    go_wp2_with fail
    refine Calls.mono (last_any _ ks0 w7 (K0.out.1.below B7.out)) ?_
    rintro e w8 ⟨u8, r8, rfl, hr8, hu8, b8⟩
    rw [HF0.out] at hr8
    have B8 : Hid (Below w.heap.size w w8) := B7.out.trans (b8.mono B7.out.size)
    obtain rfl : u8 = .slice none 0 0 := by
      rcases hu8 with ⟨-, h⟩ | ⟨h, -⟩
      · exact h
      · exact absurd h HZ.out
    have E8 : Hid (Er r8 f0) := hr8
    clear hr8 hu8 b8
    go_wp2_with fail
    refine (er_same r8 f0 w8 E8.out (G0.out.1.below B8.out)).mono ?_
    rintro e wa ⟨rfl, ba⟩
    have BA : Hid (Below w.heap.size w wa) := B8.out.trans (ba.mono B8.out.size)
    clear ba
    go_wp2_with fail
    refine (orders_like (.slice none 0 0) (.slice none 0 0) [] wa ⟨none, 0, rfl, by simp, by omega, fun h => absurd rfl h⟩ ⟨none, 0, rfl, by simp, by omega, fun h => absurd rfl h⟩).mono ?_
    rintro e w9 ⟨rfl, b9⟩
    have B9 : Hid (Below w.heap.size w w9) := BA.out.trans (b9.mono BA.out.size)
    clear b9 hzb0
    go_wp2_with (at_builtin; refine app_ors _ rfl _ _ rfl w9.heap.size _ [] rfl (Oro.nil _ _) _ ks0 rfl (K0.out.1.below B9.out) (by simp; omega) (Nat.le_refl _) ?_)
    intro v15 wc oc gc ec
    have BC : Hid (Below w.heap.size w wc) := B9.out.grown gc B9.out.size (fun k hk => by cases hk)
    have OC : Hid (Oro wc w9.heap.size v15 ks0) := by unfold Hid; simpa using oc
    have SC : Hid (w9.heap.size ≤ wc.heap.size) := ((Below.refl w9.heap.size w9).grown gc (Nat.le_refl _) (fun k hk => by cases hk)).size
    obtain ⟨a15, c15, rfl⟩ := OC.out.len
    clear oc gc ec
    go_wp2_with (at_builtin; refine app_ors _ rfl _ _ rfl w9.heap.size _ ks0 rfl OC.out _ ks1 rfl (K1.out.1.below BC.out) (by omega) SC.out ?_)
    intro v16 wd od gd ed
    have BD : Hid (Below w.heap.size w wd) := BC.out.grown gd BC.out.size (fun k hk => by have h1 := (OC.out.block k hk).1; have h2 := B9.out.size; omega)
    have OD : Hid (Oro wd w9.heap.size v16 (ks0 ++ ks1)) := od
    obtain ⟨a16, c16, e16⟩ := od.len
    rw [hs1] at e16
    subst e16
    have OL : Hid (Orl wd (.slice a16 s c16) (ks0 ++ ks1)) := od.l
    clear od gd ed
    go_wp2_with fail
    refine (ref_orders _ (ks0 ++ ks1) wd OL.out).mono ?_
    rintro e we ⟨rfl, be⟩
    have BE : Hid (Below w.heap.size w we) := BD.out.trans (be.mono BD.out.size)
    have OE : Hid (Orl we (.slice a16 s c16) (ks0 ++ ks1)) := OL.out.below be
    clear be
    have MG : Hid (∀ W, Below w.heap.size w W → Calls Tryd.prog 30 #[.slice (some ⟨W.heap.size, 0, none⟩) 2 2] (W.alloc (Obj.cells #[.slice pa ks0.length pc, .slice pb ks1.length pd] 57)) (LastTells (ks0 ++ ks1) (W.alloc (Obj.cells #[.slice pa ks0.length pc, .slice pb ks1.length pd] 57)))) := fun W hW => by
      have ba := hW.alloc (o := Obj.cells #[.slice pa ks0.length pc, .slice pb ks1.length pd] 57) hW.size
      exact merge_any W.heap.size _ _ ks0 ks1 _ (K0.out.1.below ba) (K1.out.1.below ba) K0.out.2 K1.out.2 (by simp) (by simp)
    by_cases hz1 : Od.faults (ks0 ++ ks1) = 0
    · have HZ1 : Hid (Od.faults (ks0 ++ ks1) = 0) := hz1
      rw [hz1]
      clear hz1
      go_wp2_with fail
      refine (ref_last _ (ks0 ++ ks1) we OE.out (Od.faults_ok HZ1.out).1).mono ?_
      rintro e wf ⟨u8, out8, rfl, hls8, ho8, bf⟩
      have BF : Hid (Below w.heap.size w wf) := BE.out.trans (bf.mono BE.out.size)
      have L8 : Hid (LastSays (ks0 ++ ks1) out8 ∧ Orl wf u8 out8) := ⟨hls8, ho8.l⟩
      clear hls8 ho8 bf
      go_wp2_with fail
      refine Calls.mono (MG.out wf BF.out) ?_
      rintro e wg ⟨um, rm, rfl, hrm, hum, bg⟩
      have BG1 : Hid (Below wf.heap.size wf wg) := ((Below.refl wf.heap.size wf).alloc (Nat.le_refl _) _).trans (bg.mono (by simp))
      have BG : Hid (Below w.heap.size w wg) := BF.out.trans (BG1.out.mono BF.out.size)
      have EG : Hid (Er rm 0) := by have h := hrm; rw [HZ1.out] at h; exact h
      obtain ⟨outm, hlm, hom⟩ : ∃ out, LastSays (ks0 ++ ks1) out ∧ Oro wg _ um out := by
        rcases hum with ⟨h, -⟩ | ⟨-, h⟩
        · exact absurd HZ1.out h
        · exact h
      obtain rfl := hlm.one L8.out.1
      have LM : Hid (Orl wg um outm) := hom.l
      have L9 : Hid (Orl wg u8 outm) := L8.out.2.below BG1.out
      clear hrm hum bg hlm hom
      go_wp2_with fail
      refine (er_same rm 0 wg EG.out (G0.out.1.below BG.out)).mono ?_
      rintro e wh ⟨rfl, bh⟩
      have BH : Hid (Below w.heap.size w wh) := BG.out.trans (bh.mono BG.out.size)
      have LM2 : Hid (Orl wh um outm ∧ Orl wh u8 outm) := ⟨LM.out.below bh, L9.out.below bh⟩
      clear bh
      go_wp2_with fail
      refine (orders_like um u8 outm wh LM2.out.1 LM2.out.2).mono ?_
      rintro e wi ⟨rfl, bi⟩
      have BI : Hid (Below w.heap.size w wi) := BH.out.trans (bi.mono BH.out.size)
      clear bi
      go_wp2
      go_ret
      exact ⟨by simp, BI.out⟩
    · have hzb : (Od.faults (ks0 ++ ks1) == 0) = false := beq_eq_false_iff_ne.2 hz1
      have HZ1 : Hid (Od.faults (ks0 ++ ks1) ≠ 0) := hz1
      obtain ⟨f, hf⟩ : ∃ f, Od.faults (ks0 ++ ks1) = f := ⟨_, rfl⟩
      have HF : Hid (Od.faults (ks0 ++ ks1) = f) := hf
      rw [hf] at hzb ⊢
      clear hz1 hf
      go_wp2_with fail
      refine Calls.mono (MG.out we BE.out) ?_
      rintro e wg ⟨um, rm, rfl, hrm, hum, bg⟩
      have BG : Hid (Below w.heap.size w wg) := BE.out.trans ((((Below.refl we.heap.size we).alloc (Nat.le_refl _) _).trans (bg.mono (by simp))).mono BE.out.size)
      have EG : Hid (Er rm f) := by have h := hrm; rw [HF.out] at h; exact h
      obtain rfl : um = .slice none 0 0 := by
        rcases hum with ⟨-, h⟩ | ⟨h, -⟩
        · exact h
        · exact absurd h HZ1.out
      clear hrm hum bg
      go_wp2_with fail
      refine (er_same rm f wg EG.out (G0.out.1.below BG.out)).mono ?_
      rintro e wh ⟨rfl, bh⟩
      have BH : Hid (Below w.heap.size w wh) := BG.out.trans (bh.mono BG.out.size)
      clear bh
      go_wp2_with fail
      refine (orders_like (.slice none 0 0) (.slice none 0 0) [] wh ⟨none, 0, rfl, by simp, by omega, fun h => absurd rfl h⟩ ⟨none, 0, rfl, by simp, by omega, fun h => absurd rfl h⟩).mono ?_
      rintro e wi ⟨rfl, bi⟩
      have BI : Hid (Below w.heap.size w wi) := BH.out.trans (bi.mono BH.out.size)
      clear bi
      go_wp2
      go_ret
      exact ⟨by simp, BI.out⟩
end Go.Proofs.YtelbdcljdfadbaaDoor.ordersCount

