/- What marchsame.World answers of two worlds that are the same. -/
import Derived.Test.YtefepjiajgoomaaDoorWdA
import Derived.Test.YtefepjiajgoomaaDoorSmF
namespace Go.Proofs.YtefepjiajgoomaaDoor
open Go.RowKit
set_option linter.unusedVariables false

theorem ints_like (u v : Value) (xs : List Int) (w : World) (hu : Ro w u xs) (hv : Ro w v xs) :
    Calls Tryd.prog 57 #[u, v] w fun e w' => e = .returned (.bool true) ∧ Below w.heap.size w w' :=
  (ints_any u v xs xs w hu hv).mono fun e w' ⟨h1, q, h2⟩ => ⟨by rw [h1, decide_eq_true rfl], by rw [h2]; exact below_drewN (Below.refl _ _) _⟩
set_option maxRecDepth 100000 in
set_option maxHeartbeats 4000000 in
theorem worlds_like (u v : Value) (W : WV) (w : World) (hu : Wl w u W) (hv : Wl w v W) :
    Calls Tryd.prog 21 #[u, v] w fun e w' => e = .returned (.bool true) ∧ Below w.heap.size w w' := by
  obtain ⟨u1, u2, u3, u4, u5, rfl, g1, g2, g3, g4, g5⟩ := hu
  obtain ⟨v1, v2, v3, v4, v5, rfl, k1, k2, k3, k4, k5⟩ := hv
  obtain ⟨a4, c4, rfl, gl4, gc4, ga4⟩ := g4
  obtain ⟨b4, d4, rfl, kl4, kc4, ka4⟩ := k4
  obtain ⟨a5, c5, rfl, gl5, gc5, ga5⟩ := g5
  obtain ⟨b5, d5, rfl, kl5, kc5, ka5⟩ := k5
  have R : Hid (Ro w u1 W.gs ∧ Ro w u2 W.os ∧ Ro w u3 W.gold ∧ Ro w v1 W.gs ∧ Ro w v2 W.os ∧ Ro w v3 W.gold) := ⟨g1, g2, g3, k1, k2, k3⟩
  have GU : Hid (W.us ≠ [] → ∃ x, a4 = some x ∧ x.block < w.heap.size ∧ ∀ (i : Nat) k, W.us[i]? = some k → Unc w (x.add (i * 8)) k) := ga4
  have KU : Hid (W.us ≠ [] → ∃ x, b4 = some x ∧ x.block < w.heap.size ∧ ∀ (i : Nat) k, W.us[i]? = some k → Unc w (x.add (i * 8)) k) := ka4
  have GJ : Hid (W.qs ≠ [] → ∃ x, a5 = some x ∧ x.block < w.heap.size ∧ ∀ (i : Nat) k, W.qs[i]? = some k → Jbc w (x.add (i * 4)) k) := ga5
  have KJ : Hid (W.qs ≠ [] → ∃ x, b5 = some x ∧ x.block < w.heap.size ∧ ∀ (i : Nat) k, W.qs[i]? = some k → Jbc w (x.add (i * 4)) k) := ka5
  have hul : W.us.length ≤ 9223372036854775807 := by omega
  have hql : W.qs.length ≤ 9223372036854775807 := by omega
  clear g1 g2 g3 k1 k2 k3 ga4 ka4 ga5 ka5 gl4 gc4 kl4 kc4 gl5 gc5 kl5 kc5
  go_enter Tryd.func21, Tryd.ntmps21
  go_wp2_with fail
  have K0 : Below w.heap.size w ((w.alloc (Obj.cells #[.int .i64 W.turn, .int .i64 W.next, .int .i64 W.wide, .int .i64 W.high, u1, u2, u3, .slice a4 W.us.length c4, .slice a5 W.qs.length c5] 49)).alloc (Obj.cells #[.int .i64 W.turn, .int .i64 W.next, .int .i64 W.wide, .int .i64 W.high, v1, v2, v3, .slice b4 W.us.length d4, .slice b5 W.qs.length d5] 49)) := ((Below.refl _ _).alloc (Nat.le_refl _) _).alloc (by simp) _
  have X0 := (Bw.mk' (w := w) W u1 u2 u3 (.slice a4 W.us.length c4) (.slice a5 W.qs.length c5) rfl).below ((Below.refl _ _).alloc (Nat.le_refl _) (Obj.cells #[.int .i64 W.turn, .int .i64 W.next, .int .i64 W.wide, .int .i64 W.high, v1, v2, v3, .slice b4 W.us.length d4, .slice b5 W.qs.length d5] 49)) (by simp)
  have Y0 := Bw.mk' (w := w.alloc (Obj.cells #[.int .i64 W.turn, .int .i64 W.next, .int .i64 W.wide, .int .i64 W.high, u1, u2, u3, .slice a4 W.us.length c4, .slice a5 W.qs.length c5] 49)) (z := w.heap.size + 1) W v1 v2 v3 (.slice b4 W.us.length d4) (.slice b5 W.qs.length d5) (by simp)
  generalize ((w.alloc (Obj.cells #[.int .i64 W.turn, .int .i64 W.next, .int .i64 W.wide, .int .i64 W.high, u1, u2, u3, .slice a4 W.us.length c4, .slice a5 W.qs.length c5] 49)).alloc (Obj.cells #[.int .i64 W.turn, .int .i64 W.next, .int .i64 W.wide, .int .i64 W.high, v1, v2, v3, .slice b4 W.us.length d4, .slice b5 W.qs.length d5] 49)) = w0 at *
  refine (same_field _ _ W.wide W.high W.gs W.os w0 ⟨_, _, rfl, R.out.1.below K0, R.out.2.1.below K0⟩ ⟨_, _, rfl, R.out.2.2.2.1.below K0, R.out.2.2.2.2.1.below K0⟩).mono ?_
  rintro e w1 ⟨rfl, hb1⟩
  have K1 : Hid (Below w.heap.size w w1) := K0.trans (hb1.mono K0.size)
  have X1 : Hid (Bw w1 w.heap.size W u1 u2 u3 (.slice a4 W.us.length c4) (.slice a5 W.qs.length c5)) := X0.below hb1 X0.lt
  have Y1 : Hid (Bw w1 (w.heap.size + 1) W v1 v2 v3 (.slice b4 W.us.length d4) (.slice b5 W.qs.length d5)) := Y0.below hb1 Y0.lt
  clear K0 X0 Y0 hb1
  obtain ⟨x0, x1, x2, x3, x4, x5, x6, x7, x8⟩ := X1.out
  obtain ⟨y0, y1, y2, y3, y4, y5, y6, y7, y8⟩ := Y1.out
  go_wp2_with fail
  refine (ints_like _ _ W.gold w1 (R.out.2.2.1.below K1.out) (R.out.2.2.2.2.2.below K1.out)).mono ?_
  rintro e w2 ⟨rfl, hb2⟩
  have K2' : Hid (Below w.heap.size w w2) := K1.out.trans (hb2.mono K1.out.size)
  have X2 : Hid (Bw w2 w.heap.size W u1 u2 u3 (.slice a4 W.us.length c4) (.slice a5 W.qs.length c5)) := X1.out.below hb2 X1.out.lt
  have Y2 : Hid (Bw w2 (w.heap.size + 1) W v1 v2 v3 (.slice b4 W.us.length d4) (.slice b5 W.qs.length d5)) := Y1.out.below hb2 Y1.out.lt
  clear hb2 x0 x1 x2 x3 x4 x5 x6 x7 x8 y0 y1 y2 y3 y4 y5 y6 y7 y8 X1 Y1 K1
  obtain ⟨x0, x1, x2, x3, x4, x5, x6, x7, x8⟩ := X2.out
  obtain ⟨y0, y1, y2, y3, y4, y5, y6, y7, y8⟩ := Y2.out
  go_wp2
  clear x0 x1 x2 x3 x4 x5 x6 x7 x8 y0 y1 y2 y3 y4 y5 y6 y7 y8
  go_loopw [7] (fun i W' => ∃ k : Nat, k ≤ W.us.length ∧ i = .int .i64 (k : Nat) ∧ Bw W' w.heap.size W u1 u2 u3 (.slice a4 W.us.length c4) (.slice a5 W.qs.length c5) ∧ Bw W' (w.heap.size + 1) W v1 v2 v3 (.slice b4 W.us.length d4) (.slice b5 W.qs.length d5) ∧ Below w.heap.size w W') (fun i _ => W.us.length - (intOf i).toNat)
  case atStart => exact ⟨0, Nat.zero_le _, rfl, X2.out, Y2.out, K2'.out⟩
  case round =>
    obtain ⟨k, hk, rfl, hX, hY, hB⟩ := hrel
    have XB : Hid (Bw wr w.heap.size W u1 u2 u3 (.slice a4 W.us.length c4) (.slice a5 W.qs.length c5)) := hX
    have YB : Hid (Bw wr (w.heap.size + 1) W v1 v2 v3 (.slice b4 W.us.length d4) (.slice b5 W.qs.length d5)) := hY
    have B : Hid (Below w.heap.size w wr) := hB
    clear hX hY hB X2 Y2 K2'
    by_cases h0 : k = W.us.length
    · subst h0
      have x7 := XB.out.c7
      clear hk
      go_wp2
      clear x7
      go_loopw [8] (fun i W' => ∃ k : Nat, k ≤ W.qs.length ∧ i = .int .i64 (k : Nat) ∧ Bw W' w.heap.size W u1 u2 u3 (.slice a4 W.us.length c4) (.slice a5 W.qs.length c5) ∧ Bw W' (w.heap.size + 1) W v1 v2 v3 (.slice b4 W.us.length d4) (.slice b5 W.qs.length d5) ∧ Below w.heap.size w W') (fun i _ => W.qs.length - (intOf i).toNat)
      case atStart => exact ⟨0, Nat.zero_le _, rfl, XB.out, YB.out, B.out⟩
      case round =>
        obtain ⟨k, hk, rfl, hX, hY, hB⟩ := hrel
        have XB : Hid (Bw wr w.heap.size W u1 u2 u3 (.slice a4 W.us.length c4) (.slice a5 W.qs.length c5)) := hX
        have YB : Hid (Bw wr (w.heap.size + 1) W v1 v2 v3 (.slice b4 W.us.length d4) (.slice b5 W.qs.length d5)) := hY
        have B : Hid (Below w.heap.size w wr) := hB
        clear hX hY hB
        by_cases h0 : k = W.qs.length
        · subst h0
          have x8 := XB.out.c8
          clear hk
          go_wp2
          go_ret
          exact ⟨rfl, B.out⟩
        · have hlt : k < W.qs.length := by omega
          have hlti : ((k : Nat) : Int) < (W.qs.length : Nat) := by omega
          obtain ⟨o, ho⟩ : ∃ o, W.qs[k]? = some o := ⟨_, List.getElem?_eq_getElem hlt⟩
          have hne : W.qs ≠ [] := by intro e; rw [e] at hlt; simp at hlt
          obtain ⟨x, rfl, hx, hxc⟩ := GJ.out hne
          obtain ⟨y, rfl, hy, hyc⟩ := KJ.out hne
          obtain ⟨q0, q1, q2, q3⟩ := (hxc k o ho).below B.out (by rw [add_block]; exact hx)
          obtain ⟨r0, r1, r2, r3⟩ := (hyc k o ho).below B.out (by rw [add_block]; exact hy)
          have x8 := XB.out.c8
          have y8 := YB.out.c8
          clear hxc hyc hne ho hx hy
          go_wp2
          go_quiet (fail)
          go_wp2
          go_round
          case rel => exact ⟨k + 1, by omega, by go_num, XB.out.below (below_drewN (Below.refl _ _) _) XB.out.lt, YB.out.below (below_drewN (Below.refl _ _) _) YB.out.lt, below_drewN B.out _⟩
          case measure => simp [intOf]; omega
    · have hlt : k < W.us.length := by omega
      have hlti : ((k : Nat) : Int) < (W.us.length : Nat) := by omega
      obtain ⟨o, ho⟩ : ∃ o, W.us[k]? = some o := ⟨_, List.getElem?_eq_getElem hlt⟩
      have hne : W.us ≠ [] := by intro e; rw [e] at hlt; simp at hlt
      obtain ⟨x, rfl, hx, hxc⟩ := GU.out hne
      obtain ⟨y, rfl, hy, hyc⟩ := KU.out hne
      obtain ⟨q0, q1, q2, q3, q4, q5, q6, q7⟩ := (hxc k o ho).below B.out (by rw [add_block]; exact hx)
      obtain ⟨r0, r1, r2, r3, r4, r5, r6, r7⟩ := (hyc k o ho).below B.out (by rw [add_block]; exact hy)
      have x7 := XB.out.c7
      have y7 := YB.out.c7
      clear hxc hyc hne ho hx hy
      go_wp2
      go_quiet (fail)
      go_wp2
      go_round
      case rel => exact ⟨k + 1, by omega, by go_num, XB.out.below (below_drewN (Below.refl _ _) _) XB.out.lt, YB.out.below (below_drewN (Below.refl _ _) _) YB.out.lt, below_drewN B.out _⟩
      case measure => simp [intOf]; omega
end Go.Proofs.YtefepjiajgoomaaDoor
