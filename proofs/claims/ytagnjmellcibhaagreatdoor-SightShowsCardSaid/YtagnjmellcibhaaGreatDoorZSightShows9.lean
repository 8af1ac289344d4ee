/- SightShows: the walk. -/
import Derived.Test.YtagnjmellcibhaaGreatDoorZSightShows7
import Derived.Test.YtagnjmellcibhaaGreatDoorZSightShows8
namespace Go.Proofs.YtagnjmellcibhaaGreatDoor.sightShows
open Go.RowKit
set_option linter.unusedVariables false

set_option maxRecDepth 100000 in
set_option maxHeartbeats 40000000 in
theorem walk (vk : Value) (ks : List KV) (vw : Value) (X : WV) (p c : Int) (w : World)
    (h0 : Kl w vk ks ∧ ∀ k ∈ ks, k.b.size ≤ maxLen) (h1 : Wl w vw X ∧ ∀ n ∈ Wd.nums X, Wd.In64 n) (h2 : (Lit.int .i64 p).wf = true) (h3 : (Lit.int .i64 c).wf = true) (hg : Et w) :
    Calls Tryz.prog 4 #[vk, vw, .int .i64 p, .int .i64 c] w fun e w' => e = .returned (.bool true) ∧ Below w.heap.size w w' := by
  have K : Hid (Kl w vk ks ∧ ∀ k ∈ ks, k.b.size ≤ 9223372036854775807) := ⟨h0.1, fun k hk => by have := h0.2 k hk; unfold maxLen at this; omega⟩
  have H : Hid (Wl w vw X) := h1.1
  have HG : Hid (Et w) := hg
  obtain ⟨p1, q1, p2, q2, p3, q3, p4, q4, p5, q5, rfl⟩ := wl_shape9 h1.1
  obtain ⟨pk, qk, rfl, -⟩ := h0.1
  clear h0 h1 hg h2 h3
  go_enter Tryz.func4, Tryz.ntmps4
  go_upto_region 1 with fail
  have B0 : Hid (Below w.heap.size w (w.alloc (Obj.cells #[.int .i64 X.turn, .int .i64 X.next, .int .i64 X.wide, .int .i64 X.high, .slice p1 X.gs.length q1, .slice p2 X.os.length q2, .slice p3 X.gold.length q3, .slice p4 X.us.length q4, .slice p5 X.qs.length q5] 29))) := (Below.refl _ _).alloc (Nat.le_refl _) _
  have X0 : Hid (Bw (w.alloc (Obj.cells #[.int .i64 X.turn, .int .i64 X.next, .int .i64 X.wide, .int .i64 X.high, .slice p1 X.gs.length q1, .slice p2 X.os.length q2, .slice p3 X.gold.length q3, .slice p4 X.us.length q4, .slice p5 X.qs.length q5] 29)) w.heap.size X (.slice p1 X.gs.length q1) (.slice p2 X.os.length q2) (.slice p3 X.gold.length q3) (.slice p4 X.us.length q4) (.slice p5 X.qs.length q5)) := Bw.mk' X _ _ _ _ _ rfl
  generalize (w.alloc (Obj.cells #[.int .i64 X.turn, .int .i64 X.next, .int .i64 X.wide, .int .i64 X.high, .slice p1 X.gs.length q1, .slice p2 X.os.length q2, .slice p3 X.gold.length q3, .slice p4 X.us.length q4, .slice p5 X.qs.length q5] 29)) = w0 at *
  obtain ⟨x0, x1, x2, x3, x4, x5, x6, x7, x8⟩ := X0.out
  go_wp2_with fail
  refine (rcheck_any _ _ ks X w0 (K.out.1.below B0.out) K.out.2 (H.out.below B0.out)).mono ?_
  rintro e w1 ⟨f, rfl, hf, hb⟩
  have HF : Hid (Wd.wfault ks X = f) := hf.symm
  have B1 : Hid (Below w.heap.size w w1) := B0.out.trans (hb.mono B0.out.size)
  have X1 : Hid (Bw w1 w.heap.size X (.slice p1 X.gs.length q1) (.slice p2 X.os.length q2) (.slice p3 X.gold.length q3) (.slice p4 X.us.length q4) (.slice p5 X.qs.length q5)) := X0.out.below hb X0.out.lt
  clear hf hb X0 B0 x0 x1 x2 x3 x4 x5 x6 x7 x8
  obtain ⟨bd, hbd⟩ : ∃ b, decide (f = 0 ∧ ¬ (0 ≤ p ∧ p < (X.gold.length : Int))) = b := ⟨_, rfl⟩
  have HBD : Hid (decide (f = 0 ∧ ¬ (0 ≤ p ∧ p < (X.gold.length : Int))) = bd) := hbd
  clear hbd
  go_upto_region 3 with fail
  go_cut [42] (fun v42 V => v42 = .bool bd ∧ V = w1)
  case first =>
    have x6 := X1.out.c6
    by_cases hf0 : f = 0
    · subst hf0
      by_cases hp0 : p < 0
      · obtain rfl : bd = true := by rw [← HBD.out]; exact decide_eq_true ⟨rfl, by omega⟩
        go_wp2_with fail
        go_meet
        case rel => exact ⟨by first | rfl | simp, rfl⟩
      · by_cases hp1 : (X.gold.length : Int) ≤ p
        · obtain rfl : bd = true := by rw [← HBD.out]; exact decide_eq_true ⟨rfl, by omega⟩
          have hp2 : decide (p < 0) = false := decide_eq_false hp0
          go_wp2_with fail
          go_meet
          case rel => exact ⟨by first | rfl | simp [hp1], rfl⟩
        · obtain rfl : bd = false := by rw [← HBD.out]; exact decide_eq_false (by omega)
          have hp2 : decide (p < 0) = false := decide_eq_false hp0
          have hp3 : decide ((X.gold.length : Int) ≤ p) = false := decide_eq_false hp1
          go_wp2_with fail
          go_meet
          case rel => exact ⟨by first | rfl | simp [hp3], rfl⟩
    · obtain rfl : bd = false := by rw [← HBD.out]; exact decide_eq_false (fun h => hf0 h.1)
      have hf1 : (f == 0) = false := by rw [beq_eq_false_iff_ne]; exact hf0
      go_wp2_with fail
      go_meet
      case rel => exact ⟨by first | rfl | simp [hf1], rfl⟩
  case rest =>
    obtain ⟨rfl, hV⟩ := hcut
    rw [hV]
    clear hV
    by_cases hf0 : f = 0
    case neg =>
      have HFN : Hid (cfault ks X c = f ∧ f ≠ 0) := ⟨by unfold cfault; rw [HF.out, if_neg hf0], hf0⟩
      have PE : Hid (pfault ks X p = f) := by unfold Hid pfault; rw [HF.out, if_neg hf0]
      have NE : Hid (f ≠ 0) := hf0
      have hf1 : (f == 0) = false := by rw [beq_eq_false_iff_ne]; exact hf0
      obtain rfl : bd = false := by rw [← HBD.out]; exact decide_eq_false (fun h => hf0 h.1)
      go_upto_region 6 with fail
      have BA : Hid (Below w1.heap.size w1 (w1.alloc (Obj.cells #[.int .i64 0, .int .i64 0, .int .i64 0, .int .i64 0, .slice none 0 0, .slice none 0 0, .slice none 0 0, .slice none 0 0, .slice none 0 0] 29))) := (Below.refl _ _).alloc (Nat.le_refl _) _
      obtain ⟨bz, hbz⟩ : ∃ z, w1.heap.size = z := ⟨_, rfl⟩
      have Z2 : Hid (Wx (w1.alloc (Obj.cells #[.int .i64 0, .int .i64 0, .int .i64 0, .int .i64 0, .slice none 0 0, .slice none 0 0, .slice none 0 0, .slice none 0 0, .slice none 0 0] 29)) bz (.int .i64 0) (.int .i64 0) (.int .i64 0) (.int .i64 0) (.slice none 0 0) (.slice none 0 0) (.slice none 0 0) (.slice none 0 0) (.slice none 0 0)) := Wx.new _ _ _ _ _ _ _ _ _ hbz
      rw [hbz]
      generalize (w1.alloc (Obj.cells #[.int .i64 0, .int .i64 0, .int .i64 0, .int .i64 0, .slice none 0 0, .slice none 0 0, .slice none 0 0, .slice none 0 0, .slice none 0 0] 29)) = w2 at *
      have B2 : Hid (Below w.heap.size w w2) := B1.out.trans (BA.out.mono B1.out.size)
      have X2 : Hid (Bw w2 w.heap.size X (.slice p1 X.gs.length q1) (.slice p2 X.os.length q2) (.slice p3 X.gold.length q3) (.slice p4 X.us.length q4) (.slice p5 X.qs.length q5)) := X1.out.below BA.out X1.out.lt
      have NZ : Hid (w.heap.size < bz) := by have := X1.out.lt; unfold Hid; omega
      clear hbz BA B1 X1
      obtain ⟨x0, x1, x2, x3, x4, x5, x6, x7, x8⟩ := X2.out
      go_wp2_with fail
      refine (Seen_any _ _ ks X p w2 (K.out.1.below B2.out) K.out.2 (H.out.below B2.out)).mono ?_
      rintro e w3 ⟨v3, r3, rfl, hr, hy, hb⟩
      rw [PE.out] at hr
      obtain rfl : v3 = .slice none 0 0 := by
        rcases hy with ⟨-, h⟩ | ⟨h, -⟩
        · exact h
        · exact absurd (PE.out.symm.trans h) NE.out
      have EV3 : Hid (Er r3 f) := hr
      have B3 : Hid (Below w.heap.size w w3) := B2.out.trans (hb.mono B2.out.size)
      have X3 : Hid (Bw w3 w.heap.size X (.slice p1 X.gs.length q1) (.slice p2 X.os.length q2) (.slice p3 X.gold.length q3) (.slice p4 X.us.length q4) (.slice p5 X.qs.length q5)) := X2.out.below hb X2.out.lt
      have Z3 : Hid (Wx w3 bz (.int .i64 0) (.int .i64 0) (.int .i64 0) (.int .i64 0) (.slice none 0 0) (.slice none 0 0) (.slice none 0 0) (.slice none 0 0) (.slice none 0 0)) := Z2.out.below hb Z2.out.lt
      clear hr hy hb x0 x1 x2 x3 x4 x5 x6 x7 x8 B2 X2 Z2
      go_wp2_with fail
      refine (er_same _ _ w3 EV3.out (HG.out.below B3.out)).mono ?_
      rintro e w4 ⟨rfl, hb⟩
      have B4 : Hid (Below w.heap.size w w4) := B3.out.trans (hb.mono B3.out.size)
      have X4 : Hid (Bw w4 w.heap.size X (.slice p1 X.gs.length q1) (.slice p2 X.os.length q2) (.slice p3 X.gold.length q3) (.slice p4 X.us.length q4) (.slice p5 X.qs.length q5)) := X3.out.below hb X3.out.lt
      have Z4 : Hid (Wx w4 bz (.int .i64 0) (.int .i64 0) (.int .i64 0) (.int .i64 0) (.slice none 0 0) (.slice none 0 0) (.slice none 0 0) (.slice none 0 0) (.slice none 0 0)) := Z3.out.below hb Z3.out.lt
      clear hb B3 X3 Z3 EV3
      go_upto_region 15 with fail
      go_loopw [16] (fun v16 V => v16 = .int .i64 0 ∧ V = w4) (fun _ _ => 0)
      case atStart => exact ⟨rfl, rfl⟩
      case round =>
        obtain ⟨rfl, hV⟩ := hrel
        rw [hV]
        clear hV
        obtain ⟨x0, x1, x2, x3, x4, x5, x6, x7, x8⟩ := X4.out
        go_wp2_with fail
        refine (View_any _ _ ks X p w4 (K.out.1.below B4.out) K.out.2 (H.out.below B4.out)).mono ?_
        rintro e w5 ⟨v5, r5, rfl, hr, hy, hb⟩
        rw [PE.out] at hr
        obtain rfl : v5 = .agg #[.int .i64 0, .int .i64 0, .int .i64 0, .int .i64 0, .slice none 0 0, .slice none 0 0, .slice none 0 0, .slice none 0 0, .slice none 0 0] := by
          rcases hy with ⟨-, h⟩ | ⟨h, -⟩
          · exact h
          · exact absurd (PE.out.symm.trans h) NE.out
        have EV5 : Hid (Er r5 f) := hr
        have B5 : Hid (Below w.heap.size w w5) := B4.out.trans (hb.mono B4.out.size)
        have X5 : Hid (Bw w5 w.heap.size X (.slice p1 X.gs.length q1) (.slice p2 X.os.length q2) (.slice p3 X.gold.length q3) (.slice p4 X.us.length q4) (.slice p5 X.qs.length q5)) := X4.out.below hb X4.out.lt
        have Z5 : Hid (Wx w5 bz (.int .i64 0) (.int .i64 0) (.int .i64 0) (.int .i64 0) (.slice none 0 0) (.slice none 0 0) (.slice none 0 0) (.slice none 0 0) (.slice none 0 0)) := Z4.out.below hb Z4.out.lt
        clear hr hy hb x0 x1 x2 x3 x4 x5 x6 x7 x8 B4 X4 Z4
        obtain ⟨Y, hY⟩ : ∃ Y, WV.zero = Y := ⟨_, rfl⟩
        have L5 : Hid (Wl w5 (.agg #[.int .i64 0, .int .i64 0, .int .i64 0, .int .i64 0, .slice none 0 0, .slice none 0 0, .slice none 0 0, .slice none 0 0, .slice none 0 0]) Y ∧ Wl w5 (.agg #[.int .i64 0, .int .i64 0, .int .i64 0, .int .i64 0, .slice none 0 0, .slice none 0 0, .slice none 0 0, .slice none 0 0, .slice none 0 0]) Y) := by
          rw [← hY]
          exact ⟨(zero_wo w5 0).l, (zero_wo w5 0).l⟩
        clear hY
        go_upto_region 20 with fail
        have BA : Hid (Below w5.heap.size w5 (w5.alloc (Obj.cells #[.int .i64 0, .int .i64 0, .int .i64 0, .int .i64 0, .slice none 0 0, .slice none 0 0, .slice none 0 0, .slice none 0 0, .slice none 0 0] 29))) := (Below.refl _ _).alloc (Nat.le_refl _) _
        obtain ⟨bq, hbq⟩ : ∃ z, w5.heap.size = z := ⟨_, rfl⟩
        have Q6 : Hid (Wx (w5.alloc (Obj.cells #[.int .i64 0, .int .i64 0, .int .i64 0, .int .i64 0, .slice none 0 0, .slice none 0 0, .slice none 0 0, .slice none 0 0, .slice none 0 0] 29)) bq (.int .i64 0) (.int .i64 0) (.int .i64 0) (.int .i64 0) (.slice none 0 0) (.slice none 0 0) (.slice none 0 0) (.slice none 0 0) (.slice none 0 0)) := Wx.new _ _ _ _ _ _ _ _ _ hbq
        rw [hbq]
        generalize (w5.alloc (Obj.cells #[.int .i64 0, .int .i64 0, .int .i64 0, .int .i64 0, .slice none 0 0, .slice none 0 0, .slice none 0 0, .slice none 0 0, .slice none 0 0] 29)) = w6 at *
        have B6 : Hid (Below w.heap.size w w6) := B5.out.trans (BA.out.mono B5.out.size)
        have X6 : Hid (Bw w6 w.heap.size X (.slice p1 X.gs.length q1) (.slice p2 X.os.length q2) (.slice p3 X.gold.length q3) (.slice p4 X.us.length q4) (.slice p5 X.qs.length q5)) := X5.out.below BA.out X5.out.lt
        have Z6 : Hid (Wx w6 bz (.int .i64 0) (.int .i64 0) (.int .i64 0) (.int .i64 0) (.slice none 0 0) (.slice none 0 0) (.slice none 0 0) (.slice none 0 0) (.slice none 0 0)) := Z5.out.below BA.out Z5.out.lt
        have L6 : Hid (Wl w6 (.agg #[.int .i64 0, .int .i64 0, .int .i64 0, .int .i64 0, .slice none 0 0, .slice none 0 0, .slice none 0 0, .slice none 0 0, .slice none 0 0]) Y ∧ Wl w6 (.agg #[.int .i64 0, .int .i64 0, .int .i64 0, .int .i64 0, .slice none 0 0, .slice none 0 0, .slice none 0 0, .slice none 0 0, .slice none 0 0]) Y) := ⟨L5.out.1.below BA.out, L5.out.2.below BA.out⟩
        clear hbq BA B5 X5 Z5 L5
        go_wp2_with fail
        refine (er_same _ _ w6 EV5.out (HG.out.below B6.out)).mono ?_
        rintro e w7 ⟨rfl, hb⟩
        have B7 : Hid (Below w.heap.size w w7) := B6.out.trans (hb.mono B6.out.size)
        have X7 : Hid (Bw w7 w.heap.size X (.slice p1 X.gs.length q1) (.slice p2 X.os.length q2) (.slice p3 X.gold.length q3) (.slice p4 X.us.length q4) (.slice p5 X.qs.length q5)) := X6.out.below hb X6.out.lt
        have Z7 : Hid (Wx w7 bz (.int .i64 0) (.int .i64 0) (.int .i64 0) (.int .i64 0) (.slice none 0 0) (.slice none 0 0) (.slice none 0 0) (.slice none 0 0) (.slice none 0 0)) := Z6.out.below hb Z6.out.lt
        have Q7 : Hid (Wx w7 bq (.int .i64 0) (.int .i64 0) (.int .i64 0) (.int .i64 0) (.slice none 0 0) (.slice none 0 0) (.slice none 0 0) (.slice none 0 0) (.slice none 0 0)) := Q6.out.below hb Q6.out.lt
        have L7 : Hid (Wl w7 (.agg #[.int .i64 0, .int .i64 0, .int .i64 0, .int .i64 0, .slice none 0 0, .slice none 0 0, .slice none 0 0, .slice none 0 0, .slice none 0 0]) Y ∧ Wl w7 (.agg #[.int .i64 0, .int .i64 0, .int .i64 0, .int .i64 0, .slice none 0 0, .slice none 0 0, .slice none 0 0, .slice none 0 0, .slice none 0 0]) Y) := ⟨L6.out.1.below hb, L6.out.2.below hb⟩
        clear hb B6 X6 Z6 Q6 L6 EV5
        obtain ⟨z0, z1, z2, z3, z4, z5, z6, z7, z8⟩ := Z7.out.cells
        obtain ⟨y0, y1, y2, y3, y4, y5, y6, y7, y8⟩ := Q7.out.cells
        go_wp2_with fail
        refine (worlds_like _ _ Y w7 L7.out.1 L7.out.2).mono ?_
        rintro e w8 ⟨rfl, hb⟩
        have B8 : Hid (Below w.heap.size w w8) := B7.out.trans (hb.mono B7.out.size)
        have X8 : Hid (Bw w8 w.heap.size X (.slice p1 X.gs.length q1) (.slice p2 X.os.length q2) (.slice p3 X.gold.length q3) (.slice p4 X.us.length q4) (.slice p5 X.qs.length q5)) := X7.out.below hb X7.out.lt
        clear hb z0 z1 z2 z3 z4 z5 z6 z7 z8 y0 y1 y2 y3 y4 y5 y6 y7 y8 B7 X7 Z7 Q7 L7
        go_upto_region 26 with fail
        go_loopw [20, 21] (fun v20 v21 V => v20 = .slice none 0 0 ∧ v21 = .int .i64 0 ∧ V = w8) (fun _ _ _ => 0)
        case atStart => exact ⟨rfl, rfl, rfl⟩
        case round =>
          obtain ⟨rfl, rfl, hV⟩ := hrel
          rw [hV]
          clear hV
          obtain ⟨lv, hlv⟩ : ∃ v : Value, .slice none 0 0 = v := ⟨_, rfl⟩
          obtain ⟨ls, hls⟩ : ∃ l : List Int, [] = l := ⟨_, rfl⟩
          have XL := X8
          have BL9 := B8
          have CF : Hid (cfault ks X c = f) := HFN.out.1
          have RL : Hid (Ro w8 lv ls) := by unfold Hid; rw [← hlv, ← hls]; exact ⟨none, 0, rfl, Nat.le_refl _, by omega, fun h => absurd rfl h⟩
          have VN : Hid (∀ V v, SeersSays ks X c V v → Ro V v ls) := fun V v h => by
            rcases h with ⟨-, rfl⟩ | ⟨h, -⟩
            · rw [← hls]; exact ⟨none, 0, rfl, Nat.le_refl _, by omega, fun h => absurd rfl h⟩
            · exact absurd (HFN.out.1.symm.trans h) HFN.out.2
          rw [hlv]
          clear hls hlv
          obtain ⟨x0, x1, x2, x3, x4, x5, x6, x7, x8⟩ := XL.out
          go_wp2_with fail
          refine (Seers_any _ _ ks X _ w8 (K.out.1.below BL9.out) K.out.2 (H.out.below BL9.out)).mono ?_
          rintro e wa ⟨va, ra, rfl, hr, hy, hb⟩
          rw [CF.out] at hr
          have EVa : Hid (Er ra f) := hr
          have RA : Hid (Ro wa va ls) := VN.out _ _ hy
          have RB : Hid (Ro wa lv ls) := RL.out.below hb
          have Ba : Hid (Below w.heap.size w wa) := BL9.out.trans (hb.mono BL9.out.size)
          clear hr hy hb x0 x1 x2 x3 x4 x5 x6 x7 x8 XL BL9
          go_wp2_with fail
          refine (er_same _ _ wa EVa.out (HG.out.below Ba.out)).mono ?_
          rintro e wb ⟨rfl, hb⟩
          have Bb' : Hid (Below w.heap.size w wb) := Ba.out.trans (hb.mono Ba.out.size)
          have RA2 : Hid (Ro wb va ls) := RA.out.below hb
          have RB2 : Hid (Ro wb lv ls) := RB.out.below hb
          clear hb RA RB Ba
          go_wp2_with fail
          refine (ints_any _ _ ls ls wb RA2.out RB2.out).mono ?_
          rintro e wc' ⟨rfl, nn, rfl⟩
          rw [decide_eq_true (rfl : ls = ls)]
          go_wp2
          go_ret
          exact ⟨rfl, ⟨Bb'.out.os, Bb'.out.tape, Bb'.out.output, Bb'.out.size, Bb'.out.block⟩⟩
    subst hf0
    have WR : Hid (WRight ks X) := wright_of HF.out
    obtain ⟨Wn, Hn, e1, -, G⟩ := WR.out.good
    have GD : Hid (X.wide = (Wn : Nat) ∧ X.gs.length ≤ 144 ∧ X.gold.length ≤ 4) := ⟨e1, by rw [G.gl]; exact G.pos.2, by have := (nums_ok WR.out.nums).2; omega⟩
    clear e1 G
    by_cases hp : 0 ≤ p ∧ p < (X.gold.length : Int)
    case neg =>
      have PE : Hid (pfault ks X p = 1) := by unfold Hid pfault; rw [HF.out, if_pos rfl, if_neg hp]
      have NE : Hid ((1 : Int) ≠ 0) := by unfold Hid; decide
      obtain rfl : bd = true := by rw [← HBD.out]; exact decide_eq_true ⟨rfl, hp⟩
      clear hp
      go_upto_region 6 with fail
      have BA : Hid (Below w1.heap.size w1 (w1.alloc (Obj.cells #[.int .i64 0, .int .i64 0, .int .i64 0, .int .i64 0, .slice none 0 0, .slice none 0 0, .slice none 0 0, .slice none 0 0, .slice none 0 0] 29))) := (Below.refl _ _).alloc (Nat.le_refl _) _
      obtain ⟨bz, hbz⟩ : ∃ z, w1.heap.size = z := ⟨_, rfl⟩
      have Z2 : Hid (Wx (w1.alloc (Obj.cells #[.int .i64 0, .int .i64 0, .int .i64 0, .int .i64 0, .slice none 0 0, .slice none 0 0, .slice none 0 0, .slice none 0 0, .slice none 0 0] 29)) bz (.int .i64 0) (.int .i64 0) (.int .i64 0) (.int .i64 0) (.slice none 0 0) (.slice none 0 0) (.slice none 0 0) (.slice none 0 0) (.slice none 0 0)) := Wx.new _ _ _ _ _ _ _ _ _ hbz
      rw [hbz]
      generalize (w1.alloc (Obj.cells #[.int .i64 0, .int .i64 0, .int .i64 0, .int .i64 0, .slice none 0 0, .slice none 0 0, .slice none 0 0, .slice none 0 0, .slice none 0 0] 29)) = w2 at *
      have B2 : Hid (Below w.heap.size w w2) := B1.out.trans (BA.out.mono B1.out.size)
      have X2 : Hid (Bw w2 w.heap.size X (.slice p1 X.gs.length q1) (.slice p2 X.os.length q2) (.slice p3 X.gold.length q3) (.slice p4 X.us.length q4) (.slice p5 X.qs.length q5)) := X1.out.below BA.out X1.out.lt
      have NZ : Hid (w.heap.size < bz) := by have := X1.out.lt; unfold Hid; omega
      clear hbz BA B1 X1
      obtain ⟨x0, x1, x2, x3, x4, x5, x6, x7, x8⟩ := X2.out
      go_wp2_with fail
      refine (Seen_any _ _ ks X p w2 (K.out.1.below B2.out) K.out.2 (H.out.below B2.out)).mono ?_
      rintro e w3 ⟨v3, r3, rfl, hr, hy, hb⟩
      rw [PE.out] at hr
      obtain rfl : v3 = .slice none 0 0 := by
        rcases hy with ⟨-, h⟩ | ⟨h, -⟩
        · exact h
        · exact absurd (PE.out.symm.trans h) NE.out
      have EV3 : Hid (Er r3 1) := hr
      have B3 : Hid (Below w.heap.size w w3) := B2.out.trans (hb.mono B2.out.size)
      have X3 : Hid (Bw w3 w.heap.size X (.slice p1 X.gs.length q1) (.slice p2 X.os.length q2) (.slice p3 X.gold.length q3) (.slice p4 X.us.length q4) (.slice p5 X.qs.length q5)) := X2.out.below hb X2.out.lt
      have Z3 : Hid (Wx w3 bz (.int .i64 0) (.int .i64 0) (.int .i64 0) (.int .i64 0) (.slice none 0 0) (.slice none 0 0) (.slice none 0 0) (.slice none 0 0) (.slice none 0 0)) := Z2.out.below hb Z2.out.lt
      clear hr hy hb x0 x1 x2 x3 x4 x5 x6 x7 x8 B2 X2 Z2
      go_wp2_with fail
      refine (er_same _ _ w3 EV3.out (HG.out.below B3.out)).mono ?_
      rintro e w4 ⟨rfl, hb⟩
      have B4 : Hid (Below w.heap.size w w4) := B3.out.trans (hb.mono B3.out.size)
      have X4 : Hid (Bw w4 w.heap.size X (.slice p1 X.gs.length q1) (.slice p2 X.os.length q2) (.slice p3 X.gold.length q3) (.slice p4 X.us.length q4) (.slice p5 X.qs.length q5)) := X3.out.below hb X3.out.lt
      have Z4 : Hid (Wx w4 bz (.int .i64 0) (.int .i64 0) (.int .i64 0) (.int .i64 0) (.slice none 0 0) (.slice none 0 0) (.slice none 0 0) (.slice none 0 0) (.slice none 0 0)) := Z3.out.below hb Z3.out.lt
      clear hb B3 X3 Z3 EV3
      go_upto_region 15 with fail
      go_loopw [16] (fun v16 V => v16 = .int .i64 0 ∧ V = w4) (fun _ _ => 0)
      case atStart => exact ⟨rfl, rfl⟩
      case round =>
        obtain ⟨rfl, hV⟩ := hrel
        rw [hV]
        clear hV
        obtain ⟨x0, x1, x2, x3, x4, x5, x6, x7, x8⟩ := X4.out
        go_wp2_with fail
        refine (View_any _ _ ks X p w4 (K.out.1.below B4.out) K.out.2 (H.out.below B4.out)).mono ?_
        rintro e w5 ⟨v5, r5, rfl, hr, hy, hb⟩
        rw [PE.out] at hr
        obtain rfl : v5 = .agg #[.int .i64 0, .int .i64 0, .int .i64 0, .int .i64 0, .slice none 0 0, .slice none 0 0, .slice none 0 0, .slice none 0 0, .slice none 0 0] := by
          rcases hy with ⟨-, h⟩ | ⟨h, -⟩
          · exact h
          · exact absurd (PE.out.symm.trans h) NE.out
        have EV5 : Hid (Er r5 1) := hr
        have B5 : Hid (Below w.heap.size w w5) := B4.out.trans (hb.mono B4.out.size)
        have X5 : Hid (Bw w5 w.heap.size X (.slice p1 X.gs.length q1) (.slice p2 X.os.length q2) (.slice p3 X.gold.length q3) (.slice p4 X.us.length q4) (.slice p5 X.qs.length q5)) := X4.out.below hb X4.out.lt
        have Z5 : Hid (Wx w5 bz (.int .i64 0) (.int .i64 0) (.int .i64 0) (.int .i64 0) (.slice none 0 0) (.slice none 0 0) (.slice none 0 0) (.slice none 0 0) (.slice none 0 0)) := Z4.out.below hb Z4.out.lt
        clear hr hy hb x0 x1 x2 x3 x4 x5 x6 x7 x8 B4 X4 Z4
        obtain ⟨Y, hY⟩ : ∃ Y, WV.zero = Y := ⟨_, rfl⟩
        have L5 : Hid (Wl w5 (.agg #[.int .i64 0, .int .i64 0, .int .i64 0, .int .i64 0, .slice none 0 0, .slice none 0 0, .slice none 0 0, .slice none 0 0, .slice none 0 0]) Y ∧ Wl w5 (.agg #[.int .i64 0, .int .i64 0, .int .i64 0, .int .i64 0, .slice none 0 0, .slice none 0 0, .slice none 0 0, .slice none 0 0, .slice none 0 0]) Y) := by
          rw [← hY]
          exact ⟨(zero_wo w5 0).l, (zero_wo w5 0).l⟩
        clear hY
        go_upto_region 20 with fail
        have BA : Hid (Below w5.heap.size w5 (w5.alloc (Obj.cells #[.int .i64 0, .int .i64 0, .int .i64 0, .int .i64 0, .slice none 0 0, .slice none 0 0, .slice none 0 0, .slice none 0 0, .slice none 0 0] 29))) := (Below.refl _ _).alloc (Nat.le_refl _) _
        obtain ⟨bq, hbq⟩ : ∃ z, w5.heap.size = z := ⟨_, rfl⟩
        have Q6 : Hid (Wx (w5.alloc (Obj.cells #[.int .i64 0, .int .i64 0, .int .i64 0, .int .i64 0, .slice none 0 0, .slice none 0 0, .slice none 0 0, .slice none 0 0, .slice none 0 0] 29)) bq (.int .i64 0) (.int .i64 0) (.int .i64 0) (.int .i64 0) (.slice none 0 0) (.slice none 0 0) (.slice none 0 0) (.slice none 0 0) (.slice none 0 0)) := Wx.new _ _ _ _ _ _ _ _ _ hbq
        rw [hbq]
        generalize (w5.alloc (Obj.cells #[.int .i64 0, .int .i64 0, .int .i64 0, .int .i64 0, .slice none 0 0, .slice none 0 0, .slice none 0 0, .slice none 0 0, .slice none 0 0] 29)) = w6 at *
        have B6 : Hid (Below w.heap.size w w6) := B5.out.trans (BA.out.mono B5.out.size)
        have X6 : Hid (Bw w6 w.heap.size X (.slice p1 X.gs.length q1) (.slice p2 X.os.length q2) (.slice p3 X.gold.length q3) (.slice p4 X.us.length q4) (.slice p5 X.qs.length q5)) := X5.out.below BA.out X5.out.lt
        have Z6 : Hid (Wx w6 bz (.int .i64 0) (.int .i64 0) (.int .i64 0) (.int .i64 0) (.slice none 0 0) (.slice none 0 0) (.slice none 0 0) (.slice none 0 0) (.slice none 0 0)) := Z5.out.below BA.out Z5.out.lt
        have L6 : Hid (Wl w6 (.agg #[.int .i64 0, .int .i64 0, .int .i64 0, .int .i64 0, .slice none 0 0, .slice none 0 0, .slice none 0 0, .slice none 0 0, .slice none 0 0]) Y ∧ Wl w6 (.agg #[.int .i64 0, .int .i64 0, .int .i64 0, .int .i64 0, .slice none 0 0, .slice none 0 0, .slice none 0 0, .slice none 0 0, .slice none 0 0]) Y) := ⟨L5.out.1.below BA.out, L5.out.2.below BA.out⟩
        clear hbq BA B5 X5 Z5 L5
        go_wp2_with fail
        refine (er_same _ _ w6 EV5.out (HG.out.below B6.out)).mono ?_
        rintro e w7 ⟨rfl, hb⟩
        have B7 : Hid (Below w.heap.size w w7) := B6.out.trans (hb.mono B6.out.size)
        have X7 : Hid (Bw w7 w.heap.size X (.slice p1 X.gs.length q1) (.slice p2 X.os.length q2) (.slice p3 X.gold.length q3) (.slice p4 X.us.length q4) (.slice p5 X.qs.length q5)) := X6.out.below hb X6.out.lt
        have Z7 : Hid (Wx w7 bz (.int .i64 0) (.int .i64 0) (.int .i64 0) (.int .i64 0) (.slice none 0 0) (.slice none 0 0) (.slice none 0 0) (.slice none 0 0) (.slice none 0 0)) := Z6.out.below hb Z6.out.lt
        have Q7 : Hid (Wx w7 bq (.int .i64 0) (.int .i64 0) (.int .i64 0) (.int .i64 0) (.slice none 0 0) (.slice none 0 0) (.slice none 0 0) (.slice none 0 0) (.slice none 0 0)) := Q6.out.below hb Q6.out.lt
        have L7 : Hid (Wl w7 (.agg #[.int .i64 0, .int .i64 0, .int .i64 0, .int .i64 0, .slice none 0 0, .slice none 0 0, .slice none 0 0, .slice none 0 0, .slice none 0 0]) Y ∧ Wl w7 (.agg #[.int .i64 0, .int .i64 0, .int .i64 0, .int .i64 0, .slice none 0 0, .slice none 0 0, .slice none 0 0, .slice none 0 0, .slice none 0 0]) Y) := ⟨L6.out.1.below hb, L6.out.2.below hb⟩
        clear hb B6 X6 Z6 Q6 L6 EV5
        obtain ⟨z0, z1, z2, z3, z4, z5, z6, z7, z8⟩ := Z7.out.cells
        obtain ⟨y0, y1, y2, y3, y4, y5, y6, y7, y8⟩ := Q7.out.cells
        go_wp2_with fail
        refine (worlds_like _ _ Y w7 L7.out.1 L7.out.2).mono ?_
        rintro e w8 ⟨rfl, hb⟩
        have B8 : Hid (Below w.heap.size w w8) := B7.out.trans (hb.mono B7.out.size)
        have X8 : Hid (Bw w8 w.heap.size X (.slice p1 X.gs.length q1) (.slice p2 X.os.length q2) (.slice p3 X.gold.length q3) (.slice p4 X.us.length q4) (.slice p5 X.qs.length q5)) := X7.out.below hb X7.out.lt
        clear hb z0 z1 z2 z3 z4 z5 z6 z7 z8 y0 y1 y2 y3 y4 y5 y6 y7 y8 B7 X7 Z7 Q7 L7
        obtain ⟨cd, hcd⟩ : ∃ b, decide (¬ (0 ≤ c ∧ c < (X.gs.length : Int))) = b := ⟨_, rfl⟩
        have HCD : Hid (decide (¬ (0 ≤ c ∧ c < (X.gs.length : Int))) = cd) := hcd
        clear hcd
        go_upto_region 22 with fail
        go_cut [113] (fun v113 V => v113 = .bool cd ∧ V = w8)
        case first =>
          have x4 := X8.out.c4
          by_cases hc0 : c < 0
          · obtain rfl : cd = true := by rw [← HCD.out]; exact decide_eq_true (by omega)
            go_wp2_with fail
            go_meet
            case rel => exact ⟨by first | rfl | simp, rfl⟩
          · by_cases hc1 : (X.gs.length : Int) ≤ c
            · obtain rfl : cd = true := by rw [← HCD.out]; exact decide_eq_true (by omega)
              have hc2 : decide (c < 0) = false := decide_eq_false hc0
              go_wp2_with fail
              go_meet
              case rel => exact ⟨by first | rfl | simp [hc1], rfl⟩
            · obtain rfl : cd = false := by rw [← HCD.out]; exact decide_eq_false (by omega)
              have hc2 : decide (c < 0) = false := decide_eq_false hc0
              have hc3 : decide ((X.gs.length : Int) ≤ c) = false := decide_eq_false hc1
              go_wp2_with fail
              go_meet
              case rel => exact ⟨by first | rfl | simp [hc3], rfl⟩
        case rest =>
          obtain ⟨rfl, hV⟩ := hcut
          rw [hV]
          clear hV
          by_cases hc : 0 ≤ c ∧ c < (X.gs.length : Int)
          case neg =>
            have HFN : Hid (cfault ks X c = 6 ∧ (6 : Int) ≠ 0) := ⟨by unfold cfault; rw [HF.out, if_pos rfl, if_neg hc], by decide⟩
            obtain rfl : cd = true := by rw [← HCD.out]; exact decide_eq_true hc
            clear hc
            go_upto_region 26 with fail
            go_loopw [20, 21] (fun v20 v21 V => v20 = .slice none 0 0 ∧ v21 = .int .i64 0 ∧ V = w8) (fun _ _ _ => 0)
            case atStart => exact ⟨rfl, rfl, rfl⟩
            case round =>
              obtain ⟨rfl, rfl, hV⟩ := hrel
              rw [hV]
              clear hV
              obtain ⟨lv, hlv⟩ : ∃ v : Value, .slice none 0 0 = v := ⟨_, rfl⟩
              obtain ⟨ls, hls⟩ : ∃ l : List Int, [] = l := ⟨_, rfl⟩
              have XL := X8
              have BL9 := B8
              have CF : Hid (cfault ks X c = 6) := HFN.out.1
              have RL : Hid (Ro w8 lv ls) := by unfold Hid; rw [← hlv, ← hls]; exact ⟨none, 0, rfl, Nat.le_refl _, by omega, fun h => absurd rfl h⟩
              have VN : Hid (∀ V v, SeersSays ks X c V v → Ro V v ls) := fun V v h => by
                rcases h with ⟨-, rfl⟩ | ⟨h, -⟩
                · rw [← hls]; exact ⟨none, 0, rfl, Nat.le_refl _, by omega, fun h => absurd rfl h⟩
                · exact absurd (HFN.out.1.symm.trans h) HFN.out.2
              rw [hlv]
              clear hls hlv
              obtain ⟨x0, x1, x2, x3, x4, x5, x6, x7, x8⟩ := XL.out
              go_wp2_with fail
              refine (Seers_any _ _ ks X _ w8 (K.out.1.below BL9.out) K.out.2 (H.out.below BL9.out)).mono ?_
              rintro e wa ⟨va, ra, rfl, hr, hy, hb⟩
              rw [CF.out] at hr
              have EVa : Hid (Er ra 6) := hr
              have RA : Hid (Ro wa va ls) := VN.out _ _ hy
              have RB : Hid (Ro wa lv ls) := RL.out.below hb
              have Ba : Hid (Below w.heap.size w wa) := BL9.out.trans (hb.mono BL9.out.size)
              clear hr hy hb x0 x1 x2 x3 x4 x5 x6 x7 x8 XL BL9
              go_wp2_with fail
              refine (er_same _ _ wa EVa.out (HG.out.below Ba.out)).mono ?_
              rintro e wb ⟨rfl, hb⟩
              have Bb' : Hid (Below w.heap.size w wb) := Ba.out.trans (hb.mono Ba.out.size)
              have RA2 : Hid (Ro wb va ls) := RA.out.below hb
              have RB2 : Hid (Ro wb lv ls) := RB.out.below hb
              clear hb RA RB Ba
              go_wp2_with fail
              refine (ints_any _ _ ls ls wb RA2.out RB2.out).mono ?_
              rintro e wc' ⟨rfl, nn, rfl⟩
              rw [decide_eq_true (rfl : ls = ls)]
              go_wp2
              go_ret
              exact ⟨rfl, ⟨Bb'.out.os, Bb'.out.tape, Bb'.out.output, Bb'.out.size, Bb'.out.block⟩⟩
          obtain rfl : cd = false := by rw [← HCD.out]; exact decide_eq_false (fun h => h hc)
          obtain ⟨c0, rfl⟩ : ∃ n : Nat, c = n := ⟨c.toNat, by omega⟩
          have CL : Hid (c0 < X.gs.length) := by unfold Hid; omega
          have HFZ : Hid (cfault ks X (c0 : Nat) = 0) := by unfold Hid cfault; rw [HF.out, if_pos rfl, if_pos hc]
          clear hc
          go_upto_region 26 with fail
          obtain ⟨b8, hb8⟩ : ∃ z, w8.heap.size = z := ⟨_, rfl⟩
          have LB : Hid (w.heap.size < b8 ∧ b8 ≤ w8.heap.size) := ⟨by rw [← hb8]; exact X8.out.lt, by rw [hb8]; exact Nat.le_refl _⟩
          clear hb8
          go_loopw [20, 21] (fun v20 v21 V => ∃ (n : Nat) (lv : Value), v21 = .int .i64 (n : Nat) ∧ lv = v20 ∧ n ≤ X.gold.length ∧ Ow V b8 lv (seersUp ks Wn X c0 n) ∧ Below b8 w8 V) (fun _ v21 _ => X.gold.length - (intOf v21).toNat)
          case atStart => exact ⟨0, _, rfl, rfl, Nat.zero_le _, Ow.nil _ _, Below.refl _ _⟩
          case round =>
            obtain ⟨n, lv, rfl, rfl, hn, ho, hb⟩ := hrel
            have OW : Hid (Ow wr b8 lv (seersUp ks Wn X c0 n)) := ho
            have BB : Hid (Below b8 w8 wr) := hb
            have BL9 : Hid (Below w.heap.size w wr) := B8.out.trans (hb.mono (Nat.le_of_lt LB.out.1))
            have XL : Hid (Bw wr w.heap.size X (.slice p1 X.gs.length q1) (.slice p2 X.os.length q2) (.slice p3 X.gold.length q3) (.slice p4 X.us.length q4) (.slice p5 X.qs.length q5)) := X8.out.below hb LB.out.1
            clear ho hb
            by_cases h0 : n = X.gold.length
            · subst h0
              have hnn : ¬ (((X.gold.length : Nat) : Int) < (X.gold.length : Nat)) := by omega
              obtain ⟨ls, hls⟩ : ∃ l, seersUp ks Wn X c0 X.gold.length = l := ⟨_, rfl⟩
              have RL : Hid (Ro wr lv ls) := by have := OW.out.ro; rw [hls] at this; exact this
              have CF : Hid (cfault ks X (c0 : Nat) = 0) := HFZ.out
              have VN : Hid (∀ V v, SeersSays ks X (c0 : Nat) V v → Ro V v ls) := fun V v h => by
                rcases h with ⟨h, -⟩ | ⟨-, Wm, h1, h2⟩
                · exact absurd HFZ.out h
                · obtain rfl : Wm = Wn := by have := GD.out.1; omega
                  rw [← hls]
                  exact h2
              clear hls
              obtain ⟨x0, x1, x2, x3, x4, x5, x6, x7, x8⟩ := XL.out
              go_wp2_with fail
              refine (Seers_any _ _ ks X _ wr (K.out.1.below BL9.out) K.out.2 (H.out.below BL9.out)).mono ?_
              rintro e wa ⟨va, ra, rfl, hr, hy, hb⟩
              rw [CF.out] at hr
              have EVa : Hid (Er ra 0) := hr
              have RA : Hid (Ro wa va ls) := VN.out _ _ hy
              have RB : Hid (Ro wa lv ls) := RL.out.below hb
              have Ba : Hid (Below w.heap.size w wa) := BL9.out.trans (hb.mono BL9.out.size)
              clear hr hy hb x0 x1 x2 x3 x4 x5 x6 x7 x8 XL BL9
              go_wp2_with fail
              refine (er_same _ _ wa EVa.out (HG.out.below Ba.out)).mono ?_
              rintro e wb ⟨rfl, hb⟩
              have Bb' : Hid (Below w.heap.size w wb) := Ba.out.trans (hb.mono Ba.out.size)
              have RA2 : Hid (Ro wb va ls) := RA.out.below hb
              have RB2 : Hid (Ro wb lv ls) := RB.out.below hb
              clear hb RA RB Ba
              go_wp2_with fail
              refine (ints_any _ _ ls ls wb RA2.out RB2.out).mono ?_
              rintro e wc' ⟨rfl, nn, rfl⟩
              rw [decide_eq_true (rfl : ls = ls)]
              go_wp2
              go_ret
              exact ⟨rfl, ⟨Bb'.out.os, Bb'.out.tape, Bb'.out.output, Bb'.out.size, Bb'.out.block⟩⟩
            · have hnl : n < X.gold.length := by omega
              have hni : ((n : Nat) : Int) < (X.gold.length : Nat) := by omega
              have HN : Hid (n < X.gold.length) := hnl
              have WN : IntKind.i64.wrap ((n : Nat) + 1 : Int) = ((n : Nat) : Int) + 1 := by have := GD.out.2.2; rw [IntKind.wrap_i64]; omega
              obtain ⟨xs, hxs⟩ : ∃ l, seersUp ks Wn X c0 n = l := ⟨_, rfl⟩
              have LX : Hid (xs.length ≤ 4) := by have h1 := seersUp_len ks Wn X c0 n; have := GD.out.2.2; unfold Hid; rw [← hxs]; omega
              have NX := seers_next ks Wn X c0 n
              rw [hxs] at OW NX
              clear hxs
              obtain ⟨x0, x1, x2, x3, x4, x5, x6, x7, x8⟩ := XL.out
              go_wp2_with fail
              refine (rsees_any _ _ ks X (n : Nat) Wn c0 wr WR.out GD.out.1 CL.out (K.out.1.below BL9.out) (H.out.below BL9.out)).mono ?_
              rintro e wa ⟨rfl, hb⟩
              have BB2 : Hid (Below b8 w8 wa) := BB.out.trans (hb.mono (Nat.le_trans LB.out.2 BB.out.size))
              have OW2 : Hid (Ow wa b8 lv xs) := OW.out.below hb
              have S2 : Hid (b8 ≤ wa.heap.size) := Nat.le_trans LB.out.2 BB2.out.size
              obtain ⟨t, ht⟩ : ∃ t, seesP ks Wn X.gs X.us (n : Nat) c0 = t := ⟨_, rfl⟩
              rw [ht] at NX ⊢
              clear hb ht x0 x1 x2 x3 x4 x5 x6 x7 x8 BB OW BL9 XL
              cases t with
              | false =>
                have NY : Hid (seersUp ks Wn X c0 (n + 1) = xs) := by unfold Hid; rw [NX]; simp
                clear NX
                go_wp2
                go_round
                case rel => exact ⟨n + 1, _, by go_num, rfl, by have := HN.out; omega, by rw [NY.out]; exact OW2.out, BB2.out⟩
                case measure => simp [intOf]; omega
              | true =>
                have NY : Hid (seersUp ks Wn X c0 (n + 1) = xs ++ [((n : Nat) : Int)]) := by unfold Hid; rw [NX]; simp
                clear NX
                go_wp2_with (at_builtin; refine app_int _ rfl _ _ rfl b8 _ xs rfl (OW2.out.alloc _) ⟨wa.heap.size, 0, none⟩ (n : Nat) rfl (by simp) (by have := LX.out; omega) (by have := S2.out; simp; omega) ?_)
                intro g cap wq o6 g6 _ _
                have O6 : Hid (Ow wq b8 (.slice (some ⟨g, 0, none⟩) (xs.length + 1) cap) (xs ++ [((n : Nat) : Int)])) := o6
                have hob : ∀ k, lv.ownBlock = some k → b8 ≤ k := fun k hk => (OW2.out.block k hk).1
                have B6 : Hid (Below b8 w8 wq) := BB2.out.trans (((Below.refl _ _).alloc S2.out _).grown g6 (by have := S2.out; simp; omega) hob)
                clear o6 g6 hob OW2 BB2 S2
                go_wp2
                go_round
                case rel => exact ⟨n + 1, _, by go_num, rfl, by have := HN.out; omega, by rw [NY.out]; exact O6.out, B6.out⟩
                case measure => simp [intOf]; omega
    have PE : Hid (pfault ks X p = 0) := by unfold Hid pfault; rw [HF.out, if_pos rfl, if_pos hp]
    obtain rfl : bd = false := by rw [← HBD.out]; exact decide_eq_false (fun h => h.2 hp)
    clear hp
    go_upto_region 6 with fail
    have BA : Hid (Below w1.heap.size w1 (w1.alloc (Obj.cells #[.int .i64 0, .int .i64 0, .int .i64 0, .int .i64 0, .slice none 0 0, .slice none 0 0, .slice none 0 0, .slice none 0 0, .slice none 0 0] 29))) := (Below.refl _ _).alloc (Nat.le_refl _) _
    obtain ⟨bz, hbz⟩ : ∃ z, w1.heap.size = z := ⟨_, rfl⟩
    have Z2 : Hid (Wx (w1.alloc (Obj.cells #[.int .i64 0, .int .i64 0, .int .i64 0, .int .i64 0, .slice none 0 0, .slice none 0 0, .slice none 0 0, .slice none 0 0, .slice none 0 0] 29)) bz (.int .i64 0) (.int .i64 0) (.int .i64 0) (.int .i64 0) (.slice none 0 0) (.slice none 0 0) (.slice none 0 0) (.slice none 0 0) (.slice none 0 0)) := Wx.new _ _ _ _ _ _ _ _ _ hbz
    rw [hbz]
    generalize (w1.alloc (Obj.cells #[.int .i64 0, .int .i64 0, .int .i64 0, .int .i64 0, .slice none 0 0, .slice none 0 0, .slice none 0 0, .slice none 0 0, .slice none 0 0] 29)) = w2 at *
    have B2 : Hid (Below w.heap.size w w2) := B1.out.trans (BA.out.mono B1.out.size)
    have X2 : Hid (Bw w2 w.heap.size X (.slice p1 X.gs.length q1) (.slice p2 X.os.length q2) (.slice p3 X.gold.length q3) (.slice p4 X.us.length q4) (.slice p5 X.qs.length q5)) := X1.out.below BA.out X1.out.lt
    have NZ : Hid (w.heap.size < bz) := by have := X1.out.lt; unfold Hid; omega
    clear hbz BA B1 X1
    obtain ⟨x0, x1, x2, x3, x4, x5, x6, x7, x8⟩ := X2.out
    go_wp2_with fail
    refine (rview_any _ _ ks X p Wn w2 WR.out GD.out.1 (K.out.1.below B2.out) (H.out.below B2.out)).mono ?_
    rintro e wf ⟨vf, rfl, hw, hb⟩
    obtain ⟨Y, hY⟩ : ∃ Y, viewOf ks Wn X p = Y := ⟨_, rfl⟩
    have FY : Hid (viewOf ks Wn X p = Y) := hY
    rw [hY] at hw
    obtain ⟨g1, g2, g3, g4, g5, hvf, o1, o2, o3, o4, o5⟩ := hw
    subst hvf
    obtain ⟨m1, n1, rfl⟩ := o1.len
    obtain ⟨m2, n2, rfl⟩ := o2.len
    obtain ⟨m3, n3, rfl⟩ := o3.len
    obtain ⟨m4, n4, rfl⟩ := o4.len
    obtain ⟨m5, n5, rfl⟩ := o5.len
    have OW : Hid (Ow wf w2.heap.size (.slice m1 Y.gs.length n1) Y.gs ∧ Ow wf w2.heap.size (.slice m2 Y.os.length n2) Y.os ∧ Ow wf w2.heap.size (.slice m3 Y.gold.length n3) Y.gold ∧ Uno wf w2.heap.size (.slice m4 Y.us.length n4) Y.us ∧ Jbo wf w2.heap.size (.slice m5 Y.qs.length n5) Y.qs) := ⟨o1, o2, o3, o4, o5⟩
    have Bf' : Hid (Below w.heap.size w wf) := B2.out.trans (hb.mono B2.out.size)
    have Xf : Hid (Bw wf w.heap.size X (.slice p1 X.gs.length q1) (.slice p2 X.os.length q2) (.slice p3 X.gold.length q3) (.slice p4 X.us.length q4) (.slice p5 X.qs.length q5)) := X2.out.below hb X2.out.lt
    have Zf : Hid (Wx wf bz (.int .i64 0) (.int .i64 0) (.int .i64 0) (.int .i64 0) (.slice none 0 0) (.slice none 0 0) (.slice none 0 0) (.slice none 0 0) (.slice none 0 0)) := Z2.out.below hb Z2.out.lt
    have ZL : Hid (bz < w2.heap.size) := Z2.out.lt
    clear hb hY o1 o2 o3 o4 o5 x0 x1 x2 x3 x4 x5 x6 x7 x8 B2 X2 Z2
    obtain ⟨z0, z1, z2, z3, z4, z5, z6, z7, z8⟩ := Zf.out.cells
    obtain ⟨t0, t1, t2, t3, t4, t5, t6, t7, t8⟩ := Zf.out.thaws
    have KZ : Hid (Kp bz wf (((((((((wf.setCell ⟨bz, 0, none⟩ (.int .i64 Y.turn)).setCell ⟨bz, 1, none⟩ (.int .i64 Y.next)).setCell ⟨bz, 2, none⟩ (.int .i64 Y.wide)).setCell ⟨bz, 3, none⟩ (.int .i64 Y.high)).setCell ⟨bz, 4, none⟩ (.slice m1 Y.gs.length n1)).setCell ⟨bz, 5, none⟩ (.slice m2 Y.os.length n2)).setCell ⟨bz, 6, none⟩ (.slice m3 Y.gold.length n3)).setCell ⟨bz, 7, none⟩ (.slice m4 Y.us.length n4)).setCell ⟨bz, 8, none⟩ (.slice m5 Y.qs.length n5))) := put_kp _ _ _ _ _ _ _ _ _ _ _
    have Zg : Hid (Wx (((((((((wf.setCell ⟨bz, 0, none⟩ (.int .i64 Y.turn)).setCell ⟨bz, 1, none⟩ (.int .i64 Y.next)).setCell ⟨bz, 2, none⟩ (.int .i64 Y.wide)).setCell ⟨bz, 3, none⟩ (.int .i64 Y.high)).setCell ⟨bz, 4, none⟩ (.slice m1 Y.gs.length n1)).setCell ⟨bz, 5, none⟩ (.slice m2 Y.os.length n2)).setCell ⟨bz, 6, none⟩ (.slice m3 Y.gold.length n3)).setCell ⟨bz, 7, none⟩ (.slice m4 Y.us.length n4)).setCell ⟨bz, 8, none⟩ (.slice m5 Y.qs.length n5)) bz (.int .i64 Y.turn) (.int .i64 Y.next) (.int .i64 Y.wide) (.int .i64 Y.high) (.slice m1 Y.gs.length n1) (.slice m2 Y.os.length n2) (.slice m3 Y.gold.length n3) (.slice m4 Y.us.length n4) (.slice m5 Y.qs.length n5)) := Zf.out.put (.int .i64 Y.turn) (.int .i64 Y.next) (.int .i64 Y.wide) (.int .i64 Y.high) (.slice m1 Y.gs.length n1) (.slice m2 Y.os.length n2) (.slice m3 Y.gold.length n3) (.slice m4 Y.us.length n4) (.slice m5 Y.qs.length n5)
    go_upto_region 9 with fail
    clear z0 z1 z2 z3 z4 z5 z6 z7 z8 t0 t1 t2 t3 t4 t5 t6 t7 t8
    generalize (((((((((wf.setCell ⟨bz, 0, none⟩ (.int .i64 Y.turn)).setCell ⟨bz, 1, none⟩ (.int .i64 Y.next)).setCell ⟨bz, 2, none⟩ (.int .i64 Y.wide)).setCell ⟨bz, 3, none⟩ (.int .i64 Y.high)).setCell ⟨bz, 4, none⟩ (.slice m1 Y.gs.length n1)).setCell ⟨bz, 5, none⟩ (.slice m2 Y.os.length n2)).setCell ⟨bz, 6, none⟩ (.slice m3 Y.gold.length n3)).setCell ⟨bz, 7, none⟩ (.slice m4 Y.us.length n4)).setCell ⟨bz, 8, none⟩ (.slice m5 Y.qs.length n5)) = wg at *
    have Bg : Hid (Below w.heap.size w wg) := KZ.out.below Bf'.out Bf'.out.size (by have := NZ.out; omega)
    have Xg : Hid (Bw wg w.heap.size X (.slice p1 X.gs.length q1) (.slice p2 X.os.length q2) (.slice p3 X.gold.length q3) (.slice p4 X.us.length q4) (.slice p5 X.qs.length q5)) := Xf.out.kp9 KZ.out (by have := NZ.out; omega)
    have Lg : Hid (Wl wg (.agg #[.int .i64 Y.turn, .int .i64 Y.next, .int .i64 Y.wide, .int .i64 Y.high, .slice m1 Y.gs.length n1, .slice m2 Y.os.length n2, .slice m3 Y.gold.length n3, .slice m4 Y.us.length n4, .slice m5 Y.qs.length n5]) Y) := ⟨_, _, _, _, _, rfl, (OW.out.1.kp KZ.out ZL.out).ro, (OW.out.2.1.kp KZ.out ZL.out).ro, (OW.out.2.2.1.kp KZ.out ZL.out).ro, (OW.out.2.2.2.1.kp KZ.out ZL.out).l, (OW.out.2.2.2.2.kp KZ.out ZL.out).l⟩
    clear OW Bf' Xf Zf KZ ZL
    obtain ⟨x0, x1, x2, x3, x4, x5, x6, x7, x8⟩ := Xg.out
    go_wp2_with fail
    refine (Seen_any _ _ ks X p wg (K.out.1.below Bg.out) K.out.2 (H.out.below Bg.out)).mono ?_
    rintro e w3 ⟨v3, r3, rfl, hr, hy, hb⟩
    rw [PE.out] at hr
    have SL : Hid (Bl w3 v3 (seenL ks Wn X p)) := by
      rcases hy with ⟨h, -⟩ | ⟨-, Wm, h1, h2⟩
      · exact absurd PE.out h
      · obtain rfl : Wm = Wn := by have := GD.out.1; omega
        exact h2
    have EV3 : Hid (Er r3 0) := hr
    have B3 : Hid (Below w.heap.size w w3) := Bg.out.trans (hb.mono Bg.out.size)
    have X3 : Hid (Bw w3 w.heap.size X (.slice p1 X.gs.length q1) (.slice p2 X.os.length q2) (.slice p3 X.gold.length q3) (.slice p4 X.us.length q4) (.slice p5 X.qs.length q5)) := Xg.out.below hb Xg.out.lt
    have Z3 : Hid (Wx w3 bz (.int .i64 Y.turn) (.int .i64 Y.next) (.int .i64 Y.wide) (.int .i64 Y.high) (.slice m1 Y.gs.length n1) (.slice m2 Y.os.length n2) (.slice m3 Y.gold.length n3) (.slice m4 Y.us.length n4) (.slice m5 Y.qs.length n5)) := Zg.out.below hb Zg.out.lt
    have L3 : Hid (Wl w3 (.agg #[.int .i64 Y.turn, .int .i64 Y.next, .int .i64 Y.wide, .int .i64 Y.high, .slice m1 Y.gs.length n1, .slice m2 Y.os.length n2, .slice m3 Y.gold.length n3, .slice m4 Y.us.length n4, .slice m5 Y.qs.length n5]) Y) := Lg.out.below hb
    clear hr hy hb x0 x1 x2 x3 x4 x5 x6 x7 x8 Bg Xg Zg Lg
    obtain ⟨ba, bc, hv3⟩ := SL.out.len
    rw [seen_len] at hv3
    subst hv3
    go_wp2_with fail
    refine (er_same _ _ w3 EV3.out (HG.out.below B3.out)).mono ?_
    rintro e w4 ⟨rfl, hb⟩
    have B4 : Hid (Below w.heap.size w w4) := B3.out.trans (hb.mono B3.out.size)
    have X4 : Hid (Bw w4 w.heap.size X (.slice p1 X.gs.length q1) (.slice p2 X.os.length q2) (.slice p3 X.gold.length q3) (.slice p4 X.us.length q4) (.slice p5 X.qs.length q5)) := X3.out.below hb X3.out.lt
    have Z4 : Hid (Wx w4 bz (.int .i64 Y.turn) (.int .i64 Y.next) (.int .i64 Y.wide) (.int .i64 Y.high) (.slice m1 Y.gs.length n1) (.slice m2 Y.os.length n2) (.slice m3 Y.gold.length n3) (.slice m4 Y.us.length n4) (.slice m5 Y.qs.length n5)) := Z3.out.below hb Z3.out.lt
    have L4 : Hid (Wl w4 (.agg #[.int .i64 Y.turn, .int .i64 Y.next, .int .i64 Y.wide, .int .i64 Y.high, .slice m1 Y.gs.length n1, .slice m2 Y.os.length n2, .slice m3 Y.gold.length n3, .slice m4 Y.us.length n4, .slice m5 Y.qs.length n5]) Y) := L3.out.below hb
    have SL4 : Hid (Bl w4 (.slice ba X.gs.length bc) (seenL ks Wn X p)) := SL.out.below hb
    clear hb B3 X3 Z3 L3 SL EV3
    go_upto_region 15 with fail
    go_loopw [16] (fun v16 V => ∃ n : Nat, v16 = .int .i64 (n : Nat) ∧ n ≤ X.gs.length ∧ Below w4.heap.size w4 V) (fun v16 _ => X.gs.length - (intOf v16).toNat)
    case atStart => exact ⟨0, rfl, Nat.zero_le _, Below.refl _ _⟩
    case round =>
      obtain ⟨n, rfl, hn, hb⟩ := hrel
      have BR : Hid (Below w4.heap.size w4 wr) := hb
      have BB : Hid (Below w.heap.size w wr) := B4.out.trans (hb.mono B4.out.size)
      have XR : Hid (Bw wr w.heap.size X (.slice p1 X.gs.length q1) (.slice p2 X.os.length q2) (.slice p3 X.gold.length q3) (.slice p4 X.us.length q4) (.slice p5 X.qs.length q5)) := X4.out.below hb X4.out.lt
      clear hb
      by_cases h0 : n = X.gs.length
      case neg =>
        have hnl : n < X.gs.length := by omega
        have hni : ((n : Nat) : Int) < (X.gs.length : Nat) := by omega
        have HN : Hid (n < X.gs.length) := hnl
        have WN : IntKind.i64.wrap ((n : Nat) + 1 : Int) = ((n : Nat) : Int) + 1 := by have := GD.out.2.1; rw [IntKind.wrap_i64]; omega
        obtain ⟨a', c', hv, -, -, hbc⟩ := SL4.out
        have hd := seen_at ks Wn X p hnl
        obtain ⟨xb, hxb, hxl, hxc⟩ := hbc (by intro h; rw [h] at hd; simp at hd)
        injection hv with hv1 hv2 hv3
        subst hv1
        subst hxb
        obtain ⟨t, ht⟩ : ∃ t, seesP ks Wn X.gs X.us p n = t := ⟨_, rfl⟩
        have CC : Hid (w4.cell? (xb.add n) = some (.bool t) ∧ (xb.add n).block < w4.heap.size ∧ seesP ks Wn X.gs X.us p n = t) := ⟨by rw [← ht]; exact hxc n _ hd, by rw [add_block]; exact hxl, ht⟩
        clear hv2 hv3 hbc hd hxl hxc ht
        go_upto_region 17 with fail
        have CB : Hid (∀ V, Below w4.heap.size w4 V → (Bw V w.heap.size X (.slice p1 X.gs.length q1) (.slice p2 X.os.length q2) (.slice p3 X.gold.length q3) (.slice p4 X.us.length q4) (.slice p5 X.qs.length q5) ∧ V.cell? (xb.add n) = some (.bool t))) := fun V hb => ⟨X4.out.below hb X4.out.lt, by rw [hb.cell (p := xb.add n) CC.out.2.1]; exact CC.out.1⟩
        refine wp_region_two [(true, 0), (true, 1), (true, 2), (true, 3), (true, 4), (true, 5), (true, 6), (true, 7), (false, 8)] [(true, 9)] (fun V => Bw V w.heap.size X (.slice p1 X.gs.length q1) (.slice p2 X.os.length q2) (.slice p3 X.gold.length q3) (.slice p4 X.us.length q4) (.slice p5 X.qs.length q5) ∧ V.cell? (xb.add n) = some (.bool t)) (by kernel_rfl) (by kernel_rfl) (by kernel_rfl) (by decide +kernel) (by decide +kernel) (CB.out _ BR.out.drew) ?_
        have D4 : Hid (Below w4.heap.size w4 { wr with drawn := wr.drawn + 1 }) := BR.out.drew
        have D5 : Hid (Below w.heap.size w { wr with drawn := wr.drawn + 1 }) := BB.out.drew
        generalize ({ wr with drawn := wr.drawn + 1 } : World) = wd at *
        refine headT_read rfl (.slice (some xb) X.gs.length bc) (by go_simp) (fun V hV => by go_simp) ?_
        go_simp
        refine headT_read rfl (.int .i64 (n : Nat)) (by go_simp) (fun V hV => by go_simp) ?_
        go_simp
        refine headT_read rfl (.pointer (some (xb.add n))) (by go_simp) (fun V hV => by go_simp) ?_
        go_simp
        refine headT_read rfl (.bool t) (by go_simp) (fun V hV => by obtain ⟨⟨x0, x1, x2, x3, x4, x5, x6, x7, x8⟩, d1⟩ := hV; go_simp) ?_
        go_simp
        refine headT_read rfl (.slice pk ks.length qk) (by go_simp) (fun V hV => by go_simp) ?_
        go_simp
        refine headT_read rfl (.agg #[.int .i64 X.turn, .int .i64 X.next, .int .i64 X.wide, .int .i64 X.high, .slice p1 X.gs.length q1, .slice p2 X.os.length q2, .slice p3 X.gold.length q3, .slice p4 X.us.length q4, .slice p5 X.qs.length q5]) (by go_simp) (fun V hV => by obtain ⟨⟨x0, x1, x2, x3, x4, x5, x6, x7, x8⟩, d1⟩ := hV; go_simp) ?_
        go_simp
        refine headT_read rfl (.int .i64 p) (by go_simp) (fun V hV => by go_simp) ?_
        go_simp
        refine headT_read rfl (.int .i64 (n : Nat)) (by go_simp) (fun V hV => by go_simp) ?_
        go_simp
        refine headT_call rfl 16 #[.slice pk ks.length qk, .agg #[.int .i64 X.turn, .int .i64 X.next, .int .i64 X.wide, .int .i64 X.high, .slice p1 X.gs.length q1, .slice p2 X.os.length q2, .slice p3 X.gold.length q3, .slice p4 X.us.length q4, .slice p5 X.qs.length q5], .int .i64 p, .int .i64 (n : Nat)] (by go_simp) (by go_simp) ?_
        refine (rsees_any _ _ ks X p Wn n wd WR.out GD.out.1 HN.out (K.out.1.below D5.out) (H.out.below D5.out)).mono ?_
        rintro e wa ⟨rfl, hb⟩
        rw [CC.out.2.2]
        have DA : Hid (Below w4.heap.size w4 wa) := D4.out.trans (hb.mono D4.out.size)
        refine ⟨_, rfl, CB.out _ DA.out, ?_⟩
        clear hb D4 D5 CB BR BB XR
        go_simp
        refine sched_read rfl (.bool false) (by cases t <;> go_simp) (fun V hV => by cases t <;> go_simp) ?_
        go_simp
        unfold wpSched
        go_wp2
        go_round
        case rel => exact ⟨n + 1, by go_num, by have := HN.out; omega, DA.out⟩
        case measure => simp [intOf]; omega
      subst h0
      have hnn : ¬ (((X.gs.length : Nat) : Int) < (X.gs.length : Nat)) := by omega
      have ZR : Hid (Wx wr bz (.int .i64 Y.turn) (.int .i64 Y.next) (.int .i64 Y.wide) (.int .i64 Y.high) (.slice m1 Y.gs.length n1) (.slice m2 Y.os.length n2) (.slice m3 Y.gold.length n3) (.slice m4 Y.us.length n4) (.slice m5 Y.qs.length n5)) := Z4.out.below BR.out Z4.out.lt
      have LR : Hid (Wl wr (.agg #[.int .i64 Y.turn, .int .i64 Y.next, .int .i64 Y.wide, .int .i64 Y.high, .slice m1 Y.gs.length n1, .slice m2 Y.os.length n2, .slice m3 Y.gold.length n3, .slice m4 Y.us.length n4, .slice m5 Y.qs.length n5]) Y) := L4.out.below BR.out
      obtain ⟨x0, x1, x2, x3, x4, x5, x6, x7, x8⟩ := XR.out
      go_wp2_with fail
      refine (View_any _ _ ks X p wr (K.out.1.below BB.out) K.out.2 (H.out.below BB.out)).mono ?_
      rintro e w5 ⟨v5, r5, rfl, hr, hy, hb⟩
      rw [PE.out] at hr
      have VL : Wl w5 v5 Y := by
        rcases hy with ⟨h, -⟩ | ⟨-, Wm, h1, h2⟩
        · exact absurd PE.out h
        · obtain rfl : Wm = Wn := by have := GD.out.1; omega
          rw [FY.out] at h2
          exact h2.l
      obtain ⟨s1, l1, s2, l2, s3, l3, s4, l4, s5, l5, hv5⟩ := wl_shape9 VL
      subst hv5
      have EV5 : Hid (Er r5 0) := hr
      have B5 : Hid (Below w.heap.size w w5) := BB.out.trans (hb.mono BB.out.size)
      have X5 : Hid (Bw w5 w.heap.size X (.slice p1 X.gs.length q1) (.slice p2 X.os.length q2) (.slice p3 X.gold.length q3) (.slice p4 X.us.length q4) (.slice p5 X.qs.length q5)) := XR.out.below hb XR.out.lt
      have Z5 : Hid (Wx w5 bz (.int .i64 Y.turn) (.int .i64 Y.next) (.int .i64 Y.wide) (.int .i64 Y.high) (.slice m1 Y.gs.length n1) (.slice m2 Y.os.length n2) (.slice m3 Y.gold.length n3) (.slice m4 Y.us.length n4) (.slice m5 Y.qs.length n5)) := ZR.out.below hb ZR.out.lt
      have L5 : Hid (Wl w5 (.agg #[.int .i64 Y.turn, .int .i64 Y.next, .int .i64 Y.wide, .int .i64 Y.high, .slice s1 Y.gs.length l1, .slice s2 Y.os.length l2, .slice s3 Y.gold.length l3, .slice s4 Y.us.length l4, .slice s5 Y.qs.length l5]) Y ∧ Wl w5 (.agg #[.int .i64 Y.turn, .int .i64 Y.next, .int .i64 Y.wide, .int .i64 Y.high, .slice m1 Y.gs.length n1, .slice m2 Y.os.length n2, .slice m3 Y.gold.length n3, .slice m4 Y.us.length n4, .slice m5 Y.qs.length n5]) Y) := ⟨VL, LR.out.below hb⟩
      clear hr hy hb VL hnn x0 x1 x2 x3 x4 x5 x6 x7 x8 B4 X4 Z4 L4 SL4 BR BB XR ZR LR
      go_upto_region 20 with fail
      have BA : Hid (Below w5.heap.size w5 (w5.alloc (Obj.cells #[.int .i64 Y.turn, .int .i64 Y.next, .int .i64 Y.wide, .int .i64 Y.high, .slice s1 Y.gs.length l1, .slice s2 Y.os.length l2, .slice s3 Y.gold.length l3, .slice s4 Y.us.length l4, .slice s5 Y.qs.length l5] 29))) := (Below.refl _ _).alloc (Nat.le_refl _) _
      obtain ⟨bq, hbq⟩ : ∃ z, w5.heap.size = z := ⟨_, rfl⟩
      have Q6 : Hid (Wx (w5.alloc (Obj.cells #[.int .i64 Y.turn, .int .i64 Y.next, .int .i64 Y.wide, .int .i64 Y.high, .slice s1 Y.gs.length l1, .slice s2 Y.os.length l2, .slice s3 Y.gold.length l3, .slice s4 Y.us.length l4, .slice s5 Y.qs.length l5] 29)) bq (.int .i64 Y.turn) (.int .i64 Y.next) (.int .i64 Y.wide) (.int .i64 Y.high) (.slice s1 Y.gs.length l1) (.slice s2 Y.os.length l2) (.slice s3 Y.gold.length l3) (.slice s4 Y.us.length l4) (.slice s5 Y.qs.length l5)) := Wx.new _ _ _ _ _ _ _ _ _ hbq
      rw [hbq]
      generalize (w5.alloc (Obj.cells #[.int .i64 Y.turn, .int .i64 Y.next, .int .i64 Y.wide, .int .i64 Y.high, .slice s1 Y.gs.length l1, .slice s2 Y.os.length l2, .slice s3 Y.gold.length l3, .slice s4 Y.us.length l4, .slice s5 Y.qs.length l5] 29)) = w6 at *
      have B6 : Hid (Below w.heap.size w w6) := B5.out.trans (BA.out.mono B5.out.size)
      have X6 : Hid (Bw w6 w.heap.size X (.slice p1 X.gs.length q1) (.slice p2 X.os.length q2) (.slice p3 X.gold.length q3) (.slice p4 X.us.length q4) (.slice p5 X.qs.length q5)) := X5.out.below BA.out X5.out.lt
      have Z6 : Hid (Wx w6 bz (.int .i64 Y.turn) (.int .i64 Y.next) (.int .i64 Y.wide) (.int .i64 Y.high) (.slice m1 Y.gs.length n1) (.slice m2 Y.os.length n2) (.slice m3 Y.gold.length n3) (.slice m4 Y.us.length n4) (.slice m5 Y.qs.length n5)) := Z5.out.below BA.out Z5.out.lt
      have L6 : Hid (Wl w6 (.agg #[.int .i64 Y.turn, .int .i64 Y.next, .int .i64 Y.wide, .int .i64 Y.high, .slice s1 Y.gs.length l1, .slice s2 Y.os.length l2, .slice s3 Y.gold.length l3, .slice s4 Y.us.length l4, .slice s5 Y.qs.length l5]) Y ∧ Wl w6 (.agg #[.int .i64 Y.turn, .int .i64 Y.next, .int .i64 Y.wide, .int .i64 Y.high, .slice m1 Y.gs.length n1, .slice m2 Y.os.length n2, .slice m3 Y.gold.length n3, .slice m4 Y.us.length n4, .slice m5 Y.qs.length n5]) Y) := ⟨L5.out.1.below BA.out, L5.out.2.below BA.out⟩
      clear hbq BA B5 X5 Z5 L5
      go_wp2_with fail
      refine (er_same _ _ w6 EV5.out (HG.out.below B6.out)).mono ?_
      rintro e w7 ⟨rfl, hb⟩
      have B7 : Hid (Below w.heap.size w w7) := B6.out.trans (hb.mono B6.out.size)
      have X7 : Hid (Bw w7 w.heap.size X (.slice p1 X.gs.length q1) (.slice p2 X.os.length q2) (.slice p3 X.gold.length q3) (.slice p4 X.us.length q4) (.slice p5 X.qs.length q5)) := X6.out.below hb X6.out.lt
      have Z7 : Hid (Wx w7 bz (.int .i64 Y.turn) (.int .i64 Y.next) (.int .i64 Y.wide) (.int .i64 Y.high) (.slice m1 Y.gs.length n1) (.slice m2 Y.os.length n2) (.slice m3 Y.gold.length n3) (.slice m4 Y.us.length n4) (.slice m5 Y.qs.length n5)) := Z6.out.below hb Z6.out.lt
      have Q7 : Hid (Wx w7 bq (.int .i64 Y.turn) (.int .i64 Y.next) (.int .i64 Y.wide) (.int .i64 Y.high) (.slice s1 Y.gs.length l1) (.slice s2 Y.os.length l2) (.slice s3 Y.gold.length l3) (.slice s4 Y.us.length l4) (.slice s5 Y.qs.length l5)) := Q6.out.below hb Q6.out.lt
      have L7 : Hid (Wl w7 (.agg #[.int .i64 Y.turn, .int .i64 Y.next, .int .i64 Y.wide, .int .i64 Y.high, .slice s1 Y.gs.length l1, .slice s2 Y.os.length l2, .slice s3 Y.gold.length l3, .slice s4 Y.us.length l4, .slice s5 Y.qs.length l5]) Y ∧ Wl w7 (.agg #[.int .i64 Y.turn, .int .i64 Y.next, .int .i64 Y.wide, .int .i64 Y.high, .slice m1 Y.gs.length n1, .slice m2 Y.os.length n2, .slice m3 Y.gold.length n3, .slice m4 Y.us.length n4, .slice m5 Y.qs.length n5]) Y) := ⟨L6.out.1.below hb, L6.out.2.below hb⟩
      clear hb B6 X6 Z6 Q6 L6 EV5
      obtain ⟨z0, z1, z2, z3, z4, z5, z6, z7, z8⟩ := Z7.out.cells
      obtain ⟨y0, y1, y2, y3, y4, y5, y6, y7, y8⟩ := Q7.out.cells
      go_wp2_with fail
      refine (worlds_like _ _ Y w7 L7.out.1 L7.out.2).mono ?_
      rintro e w8 ⟨rfl, hb⟩
      have B8 : Hid (Below w.heap.size w w8) := B7.out.trans (hb.mono B7.out.size)
      have X8 : Hid (Bw w8 w.heap.size X (.slice p1 X.gs.length q1) (.slice p2 X.os.length q2) (.slice p3 X.gold.length q3) (.slice p4 X.us.length q4) (.slice p5 X.qs.length q5)) := X7.out.below hb X7.out.lt
      clear hb z0 z1 z2 z3 z4 z5 z6 z7 z8 y0 y1 y2 y3 y4 y5 y6 y7 y8 B7 X7 Z7 Q7 L7
      obtain ⟨cd, hcd⟩ : ∃ b, decide (¬ (0 ≤ c ∧ c < (X.gs.length : Int))) = b := ⟨_, rfl⟩
      have HCD : Hid (decide (¬ (0 ≤ c ∧ c < (X.gs.length : Int))) = cd) := hcd
      clear hcd
      go_upto_region 22 with fail
      go_cut [113] (fun v113 V => v113 = .bool cd ∧ V = w8)
      case first =>
        have x4 := X8.out.c4
        by_cases hc0 : c < 0
        · obtain rfl : cd = true := by rw [← HCD.out]; exact decide_eq_true (by omega)
          go_wp2_with fail
          go_meet
          case rel => exact ⟨by first | rfl | simp, rfl⟩
        · by_cases hc1 : (X.gs.length : Int) ≤ c
          · obtain rfl : cd = true := by rw [← HCD.out]; exact decide_eq_true (by omega)
            have hc2 : decide (c < 0) = false := decide_eq_false hc0
            go_wp2_with fail
            go_meet
            case rel => exact ⟨by first | rfl | simp [hc1], rfl⟩
          · obtain rfl : cd = false := by rw [← HCD.out]; exact decide_eq_false (by omega)
            have hc2 : decide (c < 0) = false := decide_eq_false hc0
            have hc3 : decide ((X.gs.length : Int) ≤ c) = false := decide_eq_false hc1
            go_wp2_with fail
            go_meet
            case rel => exact ⟨by first | rfl | simp [hc3], rfl⟩
      case rest =>
        obtain ⟨rfl, hV⟩ := hcut
        rw [hV]
        clear hV
        by_cases hc : 0 ≤ c ∧ c < (X.gs.length : Int)
        case neg =>
          have HFN : Hid (cfault ks X c = 6 ∧ (6 : Int) ≠ 0) := ⟨by unfold cfault; rw [HF.out, if_pos rfl, if_neg hc], by decide⟩
          obtain rfl : cd = true := by rw [← HCD.out]; exact decide_eq_true hc
          clear hc
          go_upto_region 26 with fail
          go_loopw [20, 21] (fun v20 v21 V => v20 = .slice none 0 0 ∧ v21 = .int .i64 0 ∧ V = w8) (fun _ _ _ => 0)
          case atStart => exact ⟨rfl, rfl, rfl⟩
          case round =>
            obtain ⟨rfl, rfl, hV⟩ := hrel
            rw [hV]
            clear hV
            obtain ⟨lv, hlv⟩ : ∃ v : Value, .slice none 0 0 = v := ⟨_, rfl⟩
            obtain ⟨ls, hls⟩ : ∃ l : List Int, [] = l := ⟨_, rfl⟩
            have XL := X8
            have BL9 := B8
            have CF : Hid (cfault ks X c = 6) := HFN.out.1
            have RL : Hid (Ro w8 lv ls) := by unfold Hid; rw [← hlv, ← hls]; exact ⟨none, 0, rfl, Nat.le_refl _, by omega, fun h => absurd rfl h⟩
            have VN : Hid (∀ V v, SeersSays ks X c V v → Ro V v ls) := fun V v h => by
              rcases h with ⟨-, rfl⟩ | ⟨h, -⟩
              · rw [← hls]; exact ⟨none, 0, rfl, Nat.le_refl _, by omega, fun h => absurd rfl h⟩
              · exact absurd (HFN.out.1.symm.trans h) HFN.out.2
            rw [hlv]
            clear hls hlv
            obtain ⟨x0, x1, x2, x3, x4, x5, x6, x7, x8⟩ := XL.out
            go_wp2_with fail
            refine (Seers_any _ _ ks X _ w8 (K.out.1.below BL9.out) K.out.2 (H.out.below BL9.out)).mono ?_
            rintro e wa ⟨va, ra, rfl, hr, hy, hb⟩
            rw [CF.out] at hr
            have EVa : Hid (Er ra 6) := hr
            have RA : Hid (Ro wa va ls) := VN.out _ _ hy
            have RB : Hid (Ro wa lv ls) := RL.out.below hb
            have Ba : Hid (Below w.heap.size w wa) := BL9.out.trans (hb.mono BL9.out.size)
            clear hr hy hb x0 x1 x2 x3 x4 x5 x6 x7 x8 XL BL9
            go_wp2_with fail
            refine (er_same _ _ wa EVa.out (HG.out.below Ba.out)).mono ?_
            rintro e wb ⟨rfl, hb⟩
            have Bb' : Hid (Below w.heap.size w wb) := Ba.out.trans (hb.mono Ba.out.size)
            have RA2 : Hid (Ro wb va ls) := RA.out.below hb
            have RB2 : Hid (Ro wb lv ls) := RB.out.below hb
            clear hb RA RB Ba
            go_wp2_with fail
            refine (ints_any _ _ ls ls wb RA2.out RB2.out).mono ?_
            rintro e wc' ⟨rfl, nn, rfl⟩
            rw [decide_eq_true (rfl : ls = ls)]
            go_wp2
            go_ret
            exact ⟨rfl, ⟨Bb'.out.os, Bb'.out.tape, Bb'.out.output, Bb'.out.size, Bb'.out.block⟩⟩
        obtain rfl : cd = false := by rw [← HCD.out]; exact decide_eq_false (fun h => h hc)
        obtain ⟨c0, rfl⟩ : ∃ n : Nat, c = n := ⟨c.toNat, by omega⟩
        have CL : Hid (c0 < X.gs.length) := by unfold Hid; omega
        have HFZ : Hid (cfault ks X (c0 : Nat) = 0) := by unfold Hid cfault; rw [HF.out, if_pos rfl, if_pos hc]
        clear hc
        go_upto_region 26 with fail
        obtain ⟨b8, hb8⟩ : ∃ z, w8.heap.size = z := ⟨_, rfl⟩
        have LB : Hid (w.heap.size < b8 ∧ b8 ≤ w8.heap.size) := ⟨by rw [← hb8]; exact X8.out.lt, by rw [hb8]; exact Nat.le_refl _⟩
        clear hb8
        go_loopw [20, 21] (fun v20 v21 V => ∃ (n : Nat) (lv : Value), v21 = .int .i64 (n : Nat) ∧ lv = v20 ∧ n ≤ X.gold.length ∧ Ow V b8 lv (seersUp ks Wn X c0 n) ∧ Below b8 w8 V) (fun _ v21 _ => X.gold.length - (intOf v21).toNat)
        case atStart => exact ⟨0, _, rfl, rfl, Nat.zero_le _, Ow.nil _ _, Below.refl _ _⟩
        case round =>
          obtain ⟨n, lv, rfl, rfl, hn, ho, hb⟩ := hrel
          have OW : Hid (Ow wr b8 lv (seersUp ks Wn X c0 n)) := ho
          have BB : Hid (Below b8 w8 wr) := hb
          have BL9 : Hid (Below w.heap.size w wr) := B8.out.trans (hb.mono (Nat.le_of_lt LB.out.1))
          have XL : Hid (Bw wr w.heap.size X (.slice p1 X.gs.length q1) (.slice p2 X.os.length q2) (.slice p3 X.gold.length q3) (.slice p4 X.us.length q4) (.slice p5 X.qs.length q5)) := X8.out.below hb LB.out.1
          clear ho hb
          by_cases h0 : n = X.gold.length
          · subst h0
            have hnn : ¬ (((X.gold.length : Nat) : Int) < (X.gold.length : Nat)) := by omega
            obtain ⟨ls, hls⟩ : ∃ l, seersUp ks Wn X c0 X.gold.length = l := ⟨_, rfl⟩
            have RL : Hid (Ro wr lv ls) := by have := OW.out.ro; rw [hls] at this; exact this
            have CF : Hid (cfault ks X (c0 : Nat) = 0) := HFZ.out
            have VN : Hid (∀ V v, SeersSays ks X (c0 : Nat) V v → Ro V v ls) := fun V v h => by
              rcases h with ⟨h, -⟩ | ⟨-, Wm, h1, h2⟩
              · exact absurd HFZ.out h
              · obtain rfl : Wm = Wn := by have := GD.out.1; omega
                rw [← hls]
                exact h2
            clear hls
            obtain ⟨x0, x1, x2, x3, x4, x5, x6, x7, x8⟩ := XL.out
            go_wp2_with fail
            refine (Seers_any _ _ ks X _ wr (K.out.1.below BL9.out) K.out.2 (H.out.below BL9.out)).mono ?_
            rintro e wa ⟨va, ra, rfl, hr, hy, hb⟩
            rw [CF.out] at hr
            have EVa : Hid (Er ra 0) := hr
            have RA : Hid (Ro wa va ls) := VN.out _ _ hy
            have RB : Hid (Ro wa lv ls) := RL.out.below hb
            have Ba : Hid (Below w.heap.size w wa) := BL9.out.trans (hb.mono BL9.out.size)
            clear hr hy hb x0 x1 x2 x3 x4 x5 x6 x7 x8 XL BL9
            go_wp2_with fail
            refine (er_same _ _ wa EVa.out (HG.out.below Ba.out)).mono ?_
            rintro e wb ⟨rfl, hb⟩
            have Bb' : Hid (Below w.heap.size w wb) := Ba.out.trans (hb.mono Ba.out.size)
            have RA2 : Hid (Ro wb va ls) := RA.out.below hb
            have RB2 : Hid (Ro wb lv ls) := RB.out.below hb
            clear hb RA RB Ba
            go_wp2_with fail
            refine (ints_any _ _ ls ls wb RA2.out RB2.out).mono ?_
            rintro e wc' ⟨rfl, nn, rfl⟩
            rw [decide_eq_true (rfl : ls = ls)]
            go_wp2
            go_ret
            exact ⟨rfl, ⟨Bb'.out.os, Bb'.out.tape, Bb'.out.output, Bb'.out.size, Bb'.out.block⟩⟩
          · have hnl : n < X.gold.length := by omega
            have hni : ((n : Nat) : Int) < (X.gold.length : Nat) := by omega
            have HN : Hid (n < X.gold.length) := hnl
            have WN : IntKind.i64.wrap ((n : Nat) + 1 : Int) = ((n : Nat) : Int) + 1 := by have := GD.out.2.2; rw [IntKind.wrap_i64]; omega
            obtain ⟨xs, hxs⟩ : ∃ l, seersUp ks Wn X c0 n = l := ⟨_, rfl⟩
            have LX : Hid (xs.length ≤ 4) := by have h1 := seersUp_len ks Wn X c0 n; have := GD.out.2.2; unfold Hid; rw [← hxs]; omega
            have NX := seers_next ks Wn X c0 n
            rw [hxs] at OW NX
            clear hxs
            obtain ⟨x0, x1, x2, x3, x4, x5, x6, x7, x8⟩ := XL.out
            go_wp2_with fail
            refine (rsees_any _ _ ks X (n : Nat) Wn c0 wr WR.out GD.out.1 CL.out (K.out.1.below BL9.out) (H.out.below BL9.out)).mono ?_
            rintro e wa ⟨rfl, hb⟩
            have BB2 : Hid (Below b8 w8 wa) := BB.out.trans (hb.mono (Nat.le_trans LB.out.2 BB.out.size))
            have OW2 : Hid (Ow wa b8 lv xs) := OW.out.below hb
            have S2 : Hid (b8 ≤ wa.heap.size) := Nat.le_trans LB.out.2 BB2.out.size
            obtain ⟨t, ht⟩ : ∃ t, seesP ks Wn X.gs X.us (n : Nat) c0 = t := ⟨_, rfl⟩
            rw [ht] at NX ⊢
            clear hb ht x0 x1 x2 x3 x4 x5 x6 x7 x8 BB OW BL9 XL
            cases t with
            | false =>
              have NY : Hid (seersUp ks Wn X c0 (n + 1) = xs) := by unfold Hid; rw [NX]; simp
              clear NX
              go_wp2
              go_round
              case rel => exact ⟨n + 1, _, by go_num, rfl, by have := HN.out; omega, by rw [NY.out]; exact OW2.out, BB2.out⟩
              case measure => simp [intOf]; omega
            | true =>
              have NY : Hid (seersUp ks Wn X c0 (n + 1) = xs ++ [((n : Nat) : Int)]) := by unfold Hid; rw [NX]; simp
              clear NX
              go_wp2_with (at_builtin; refine app_int _ rfl _ _ rfl b8 _ xs rfl (OW2.out.alloc _) ⟨wa.heap.size, 0, none⟩ (n : Nat) rfl (by simp) (by have := LX.out; omega) (by have := S2.out; simp; omega) ?_)
              intro g cap wq o6 g6 _ _
              have O6 : Hid (Ow wq b8 (.slice (some ⟨g, 0, none⟩) (xs.length + 1) cap) (xs ++ [((n : Nat) : Int)])) := o6
              have hob : ∀ k, lv.ownBlock = some k → b8 ≤ k := fun k hk => (OW2.out.block k hk).1
              have B6 : Hid (Below b8 w8 wq) := BB2.out.trans (((Below.refl _ _).alloc S2.out _).grown g6 (by have := S2.out; simp; omega) hob)
              clear o6 g6 hob OW2 BB2 S2
              go_wp2
              go_round
              case rel => exact ⟨n + 1, _, by go_num, rfl, by have := HN.out; omega, by rw [NY.out]; exact O6.out, B6.out⟩
              case measure => simp [intOf]; omega
end Go.Proofs.YtagnjmellcibhaaGreatDoor.sightShows

