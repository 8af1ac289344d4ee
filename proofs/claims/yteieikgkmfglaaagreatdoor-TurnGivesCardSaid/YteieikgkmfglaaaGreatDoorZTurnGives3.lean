/- Worlds: what is wrong with a unit. · Worlds: what is wrong with a job. · The program's kinds: a number within bounds, where a name is. · The program's kinds: their numbers, and whether these are within bounds. · A name's letters, asked rune by rune. Plain mathematics. · The program's kinds: what is a name; what is wrong with one kind, those ahead being right. -/
import Derived.Test.YteieikgkmfglaaaGreatDoorZTurnGives2
import Derived.BigQuiet
import Derived.BigRegion
import Derived.Deep.DeepCutAuto
import Derived.Test.YteieikgkmfglaaaGreatDoorZTurnGives1
import Derived.Laws.Closers25
import Derived.IntWalk
import Derived.Shelf.GgClosure.StringsIndexFunc
import Derived.Test.YteieikgkmfglaaaGreatDoorShelf
namespace Go.Proofs.YteieikgkmfglaaaGreatDoor
open Go.RowKit
set_option linter.unusedVariables false

theorem uf1 {ks : List KV} {W : WV} {i : Nat} {u : UnV} (h : decide (1 ≤ u.id ∧ u.id ≤ W.next - 1) = false) : Wd.unitFault ks W i u = 1 := by unfold Wd.unitFault; rw [h]; rfl
theorem uf2 {ks : List KV} {W : WV} {i : Nat} {u : UnV} (h : decide (1 ≤ u.id ∧ u.id ≤ W.next - 1) = true) (h2 : Wd.notAbove W.us i u = true) : Wd.unitFault ks W i u = 5 := by unfold Wd.unitFault; rw [h, h2]; rfl
theorem uf3 {ks : List KV} {W : WV} {i : Nat} {u : UnV} (h : decide (1 ≤ u.id ∧ u.id ≤ W.next - 1) = true) (h2 : Wd.notAbove W.us i u = false) (h3 : Wd.has W.gold.length u.player = false) : Wd.unitFault ks W i u = 1 := by unfold Wd.unitFault; rw [h, h2, h3]; rfl
theorem uf4 {ks : List KV} {W : WV} {i : Nat} {u : UnV} (h : decide (1 ≤ u.id ∧ u.id ≤ W.next - 1) = true) (h2 : Wd.notAbove W.us i u = false) (h3 : Wd.has W.gold.length u.player = true) (h4 : Wd.has ks.length u.kind = false) : Wd.unitFault ks W i u = 1 := by unfold Wd.unitFault; rw [h, h2, h3, h4]; rfl
theorem uf5 {ks : List KV} {W : WV} {i : Nat} {u : UnV} {k : KV} (h : decide (1 ≤ u.id ∧ u.id ≤ W.next - 1) = true) (h2 : Wd.notAbove W.us i u = false) (h3 : Wd.has W.gold.length u.player = true) (h4 : Wd.has ks.length u.kind = true) (h5 : ks[u.kind.toNat]? = some k) : Wd.unitFault ks W i u = Wd.kindPart W (W.us.take i) u k := by unfold Wd.unitFault; rw [h, h2, h3, h4, h5]; rfl
theorem wwithin_yes (x lo hi : Int) (w : World) (h : lo ≤ x ∧ x ≤ hi) : Calls Tryz.prog 86 #[.int .i64 x, .int .i64 lo, .int .i64 hi] w fun e w' => e = .returned (.bool true) ∧ w' = w := (wwithin_any x lo hi w).mono fun e w' ⟨h1, h2⟩ => ⟨by rw [h1, decide_eq_true h], h2⟩
theorem wwithin_no (x lo hi : Int) (w : World) (h : ¬ (lo ≤ x ∧ x ≤ hi)) : Calls Tryz.prog 86 #[.int .i64 x, .int .i64 lo, .int .i64 hi] w fun e w' => e = .returned (.bool false) ∧ w' = w := (wwithin_any x lo hi w).mono fun e w' ⟨h1, h2⟩ => ⟨by rw [h1, decide_eq_false h], h2⟩
section
variable {W : WV} {ah : List UnV} {u : UnV} {k : KV}
theorem kp1 (h : ¬ (1 ≤ u.life ∧ u.life ≤ k.n0) ∨ ¬ (0 ≤ u.load ∧ u.load ≤ k.n7) ∨ ¬ (0 ≤ u.task ∧ u.task ≤ 2)) : Wd.kindPart W ah u k = 1 := by
  unfold Wd.kindPart
  rw [if_pos]
  rcases h with h | h | h <;> simp only [decide_eq_false h, Bool.not_false, Bool.true_or, Bool.or_true]
theorem kp6 (h5 : 1 ≤ u.life ∧ u.life ≤ k.n0) (h6 : 0 ≤ u.load ∧ u.load ≤ k.n7) (h7 : 0 ≤ u.task ∧ u.task ≤ 2) (h : ¬ (0 ≤ u.at_ ∧ u.at_ < (W.gs.length : Int)) ∨ ¬ (0 ≤ u.goal ∧ u.goal < (W.gs.length : Int))) : Wd.kindPart W ah u k = 6 := by
  unfold Wd.kindPart Wd.has
  rw [decide_eq_true h5, decide_eq_true h6, decide_eq_true h7, if_neg (by decide), if_pos]
  rcases h with h | h <;> simp only [decide_eq_false h, Bool.not_false, Bool.true_or, Bool.or_true]
theorem kp7 (h5 : 1 ≤ u.life ∧ u.life ≤ k.n0) (h6 : 0 ≤ u.load ∧ u.load ≤ k.n7) (h7 : 0 ≤ u.task ∧ u.task ≤ 2) (h8 : 0 ≤ u.at_ ∧ u.at_ < (W.gs.length : Int)) (h9 : 0 ≤ u.goal ∧ u.goal < (W.gs.length : Int)) (h : Wd.open_ W.gs ah u.at_ k.f = false ∨ (u.goal ≠ 0 ∧ u.task = 0)) : Wd.kindPart W ah u k = 7 := by
  unfold Wd.kindPart Wd.has
  rw [decide_eq_true h5, decide_eq_true h6, decide_eq_true h7, decide_eq_true h8, decide_eq_true h9, if_neg (by decide), if_neg (by decide), if_pos]
  rcases h with h | ⟨h, h'⟩
  · rw [h]; rfl
  · simp [h, h']
theorem kp0 (h5 : 1 ≤ u.life ∧ u.life ≤ k.n0) (h6 : 0 ≤ u.load ∧ u.load ≤ k.n7) (h7 : 0 ≤ u.task ∧ u.task ≤ 2) (h8 : 0 ≤ u.at_ ∧ u.at_ < (W.gs.length : Int)) (h9 : 0 ≤ u.goal ∧ u.goal < (W.gs.length : Int)) (h : Wd.open_ W.gs ah u.at_ k.f = true) (h' : u.goal = 0 ∨ u.task ≠ 0) : Wd.kindPart W ah u k = 0 := by
  unfold Wd.kindPart Wd.has
  rw [decide_eq_true h5, decide_eq_true h6, decide_eq_true h7, decide_eq_true h8, decide_eq_true h9, h, if_neg (by decide), if_neg (by decide), if_neg]
  rcases h' with h' | h' <;> simp [h']
end
theorem Unl.take_ {w : World} {a : Option Addr} {n c : Nat} {us : List UnV} (h : Unl w (.slice a n c) us) {q : Nat} (hq : q ≤ us.length) : Unl w (.slice a q c) (us.take q) := by
  obtain ⟨a', c', e, h1, h2, h3⟩ := h
  injection e with e1 e2 e3
  subst e1 e3
  have hl : (us.take q).length = q := by rw [List.length_take]; omega
  refine ⟨a, c, by rw [hl], by omega, h2, fun hn => ?_⟩
  obtain ⟨x, e, hx, hc⟩ := h3 (by intro e; rw [e] at hn; simp at hn)
  refine ⟨x, e, hx, fun i k hk => hc i k ?_⟩
  rw [List.getElem?_take] at hk
  split at hk
  · exact hk
  · cases hk
set_option maxRecDepth 100000 in
set_option maxHeartbeats 16000000 in
theorem unit_any (vk vw : Value) (ks : List KV) (W : WV) (Wn Hn : Nat) (i : Nat) (u : UnV) (w : World) (hk : Kl w vk ks) (hw : Wl w vw W) (hW : W.wide = Wn) (hH : W.high = Hn) (G : Fd.Good Wn Hn W.gs W.os) (hu : W.us[i]? = some u) (hn : Wd.off 1 W.next = false) (hul : W.us.length ≤ 40) (hkl : ks.length ≤ 8) (hgl : W.gold.length ≤ 4) :
    Calls Tryz.prog 55 #[vk, vw, .int .i64 (i : Nat)] w fun e w' => ∃ r, e = .returned r ∧ Er r (Wd.unitFault ks W i u) ∧ Below w.heap.size w w' := by
  have K : Hid (Kl w vk ks) := hk
  have H : Hid (Wl w vw W) := hw
  have HG : Hid (Fd.Good Wn Hn W.gs W.os ∧ W.wide = Wn ∧ W.high = Hn) := ⟨G, hW, hH⟩
  have HU : Hid (W.us[i]? = some u) := hu
  have gl144 : W.gs.length ≤ 144 := by have := G.gl; have := G.pos; have := G.pos.2; omega
  obtain ⟨u1, u2, u3, u4, u5, rfl, r1, r2, r3, r4, r5⟩ := hw
  obtain ⟨p1, q1, rfl, -⟩ := r1
  obtain ⟨p2, q2, rfl, -⟩ := r2
  obtain ⟨p3, q3, rfl, -⟩ := r3
  obtain ⟨p4, q4, rfl, k41, k42, k43⟩ := r4
  obtain ⟨p5, q5, rfl, -⟩ := r5
  obtain ⟨pk, qk, rfl, kk1, kk2, kk3⟩ := hk
  have hil : i < W.us.length := (List.getElem?_eq_some_iff.1 hu).1
  have hili : (i : Int) < (W.us.length : Int) := by omega
  obtain ⟨x, rfl, hx, hcell⟩ := k43 (by intro e; rw [e] at hil; simp at hil)
  have UC : Hid (x.block < w.heap.size ∧ ∀ (i : Nat) k, W.us[i]? = some k → Unc w (x.add (i * 8)) k) := ⟨hx, hcell⟩
  obtain ⟨d0, d1, d2, d3, d4, d5, d6, d7⟩ := hcell i u hu
  have nx : 1 ≤ W.next ∧ W.next ≤ 1000000 := by
    unfold Wd.off at hn
    have : decide (1 ≤ W.next ∧ W.next ≤ 1000000) = true := by cases h : decide (1 ≤ W.next ∧ W.next ≤ 1000000) with | true => rfl | false => rw [h] at hn; cases hn
    exact of_decide_eq_true this
  obtain ⟨n1, hn1⟩ : ∃ n1 : Int, W.next - 1 = n1 := ⟨_, rfl⟩
  have wn1 : IntKind.i64.wrap n1 = n1 := by rw [IntKind.wrap_i64]; omega
  obtain ⟨b1, hb1⟩ : ∃ b, decide (1 ≤ u.id ∧ u.id ≤ n1) = b := ⟨_, rfl⟩
  have HB1 : Hid (decide (1 ≤ u.id ∧ u.id ≤ W.next - 1) = b1) := by unfold Hid; rw [hn1]; exact hb1
  clear hcell hx k43 hn nx hu hW hH G
  go_enter Tryz.func55, Tryz.ntmps55
  go_upto_region 1 with fail
  have Y0 : Hid (Bw (w.alloc (Obj.cells #[.int .i64 W.turn, .int .i64 W.next, .int .i64 W.wide, .int .i64 W.high, .slice p1 W.gs.length q1, .slice p2 W.os.length q2, .slice p3 W.gold.length q3, .slice (some x) W.us.length q4, .slice p5 W.qs.length q5] 29)) w.heap.size W (.slice p1 W.gs.length q1) (.slice p2 W.os.length q2) (.slice p3 W.gold.length q3) (.slice (some x) W.us.length q4) (.slice p5 W.qs.length q5)) := Bw.mk' W _ _ _ _ _ rfl
  have BY : Hid (Below w.heap.size w (w.alloc (Obj.cells #[.int .i64 W.turn, .int .i64 W.next, .int .i64 W.wide, .int .i64 W.high, .slice p1 W.gs.length q1, .slice p2 W.os.length q2, .slice p3 W.gold.length q3, .slice (some x) W.us.length q4, .slice p5 W.qs.length q5] 29))) := (Below.refl _ _).alloc (Nat.le_refl _) _
  have SY : Hid ((w.alloc (Obj.cells #[.int .i64 W.turn, .int .i64 W.next, .int .i64 W.wide, .int .i64 W.high, .slice p1 W.gs.length q1, .slice p2 W.os.length q2, .slice p3 W.gold.length q3, .slice (some x) W.us.length q4, .slice p5 W.qs.length q5] 29)).heap.size = w.heap.size + 1) := by unfold Hid; simp
  generalize (w.alloc (Obj.cells #[.int .i64 W.turn, .int .i64 W.next, .int .i64 W.wide, .int .i64 W.high, .slice p1 W.gs.length q1, .slice p2 W.os.length q2, .slice p3 W.gold.length q3, .slice (some x) W.us.length q4, .slice p5 W.qs.length q5] 29)) = wy at *
  clear d0 d1 d2 d3 d4 d5 d6 d7
  obtain ⟨d0, d1, d2, d3, d4, d5, d6, d7⟩ := (UC.out.2 i u HU.out).below BY.out (by rw [add_block]; exact UC.out.1)
  have x7 := Y0.out.c7
  go_upto_region 2 with fail
  have X0 : Hid (Bw (wy.alloc (Obj.cells #[.int .i64 u.id, .int .i64 u.player, .int .i64 u.kind, .int .i64 u.at_, .int .i64 u.life, .int .i64 u.load, .int .i64 u.task, .int .i64 u.goal] 44)) w.heap.size W (.slice p1 W.gs.length q1) (.slice p2 W.os.length q2) (.slice p3 W.gold.length q3) (.slice (some x) W.us.length q4) (.slice p5 W.qs.length q5)) := Y0.out.below ((Below.refl _ _).alloc (Nat.le_refl _) _) Y0.out.lt
  have U0 : Hid (Unc (wy.alloc (Obj.cells #[.int .i64 u.id, .int .i64 u.player, .int .i64 u.kind, .int .i64 u.at_, .int .i64 u.life, .int .i64 u.load, .int .i64 u.task, .int .i64 u.goal] 44)) ⟨wy.heap.size, 0, none⟩ u) := Unc.mk' u rfl
  have B0 : Hid (Below w.heap.size w (wy.alloc (Obj.cells #[.int .i64 u.id, .int .i64 u.player, .int .i64 u.kind, .int .i64 u.at_, .int .i64 u.life, .int .i64 u.load, .int .i64 u.task, .int .i64 u.goal] 44))) := BY.out.alloc BY.out.size _
  generalize (wy.alloc (Obj.cells #[.int .i64 u.id, .int .i64 u.player, .int .i64 u.kind, .int .i64 u.at_, .int .i64 u.life, .int .i64 u.load, .int .i64 u.task, .int .i64 u.goal] 44)) = w0 at *
  generalize wy.heap.size = zu at *
  clear d0 d1 d2 d3 d4 d5 d6 d7 x7 Y0 BY SY
  obtain ⟨x0, x1, x2, x3, x4, x5, x6, x7, x8⟩ := X0.out
  obtain ⟨y0, y1, y2, y3, y4, y5, y6, y7⟩ := U0.out
  go_wp2_with fail
  refine (wwithin_any u.id 1 n1 w0).mono ?_
  rintro e ww ⟨rfl, rfl⟩
  rw [hb1]
  clear hb1 hn1 wn1
  cases b1 with
  | false =>
    go_wp2
    go_ret
    exact ⟨_, rfl, by rw [uf1 HB1.out]; exact Er.no (by decide), B0.out⟩
  | true =>
    obtain ⟨b2, hb2⟩ : ∃ b, Wd.notAbove W.us i u = b := ⟨_, rfl⟩
    have HB2 : Hid (Wd.notAbove W.us i u = b2) := hb2
    go_upto_region 4 with fail
    go_cut [2, 22] from 23 to 36 (fun v2 v22 V => v2 = .int .i64 (i : Nat) ∧ v22 = .bool b2 ∧ Below ww.heap.size ww V)
    case first =>
      rcases Nat.eq_zero_or_pos i with hi0 | hi0
      · have g0 : ¬ (0 : Int) < (i : Int) := by omega
        have hbf : b2 = false := by rw [← hb2, hi0]; rfl
        subst hbf
        clear hb2
        have HI0 : Hid (i = 0) := hi0
        have hnp : ¬ 0 < i := by omega
        clear hi0
        go_quiet (fail)
        go_wp2
        go_meet
        case rel => exact ⟨by first | rfl | rw [HI0.out], rfl, _root_.Go.below_drewN (Below.refl _ _) _⟩
      · obtain ⟨j, hj⟩ : ∃ j, i = j + 1 := ⟨i - 1, by omega⟩
        obtain ⟨v, hv⟩ : ∃ v, W.us[j]? = some v := ⟨_, List.getElem?_eq_getElem (by omega)⟩
        have e0 : (i : Int) - 1 = (j : Nat) := by omega
        have g0 : (0 : Int) < (i : Int) := by omega
        have wj : IntKind.i64.wrap ((j : Nat) : Int) = (j : Nat) := by rw [IntKind.wrap_i64]; omega
        have jl : (j : Int) < (W.us.length : Int) := by omega
        obtain ⟨d0, -, -, -, -, -, -, -⟩ := (UC.out.2 j v hv).below B0.out (by rw [add_block]; exact UC.out.1)
        have hb : decide (u.id ≤ v.id) = b2 := by rw [← hb2, hj]; unfold Wd.notAbove; simp only [hv]
        clear hj hb2 hv
        cases b2
        · have hgt : ¬ u.id ≤ v.id := of_decide_eq_false hb
          clear hb
          go_quiet (fail)
          go_wp2
          go_meet
          case rel => exact ⟨by first | rfl | rw [HI0.out], rfl, _root_.Go.below_drewN (Below.refl _ _) _⟩
        · have hle : u.id ≤ v.id := of_decide_eq_true hb
          clear hb
          go_quiet (fail)
          go_wp2
          go_meet
          case rel => exact ⟨by first | rfl | rw [HI0.out], rfl, _root_.Go.below_drewN (Below.refl _ _) _⟩
    case rest =>
      obtain ⟨rfl, rfl, hbc⟩ := hcut
      have BC : Hid (Below w.heap.size w wc) := B0.out.trans (hbc.mono B0.out.size)
      have XC : Hid (Bw wc w.heap.size W (.slice p1 W.gs.length q1) (.slice p2 W.os.length q2) (.slice p3 W.gold.length q3) (.slice (some x) W.us.length q4) (.slice p5 W.qs.length q5)) := X0.out.below hbc X0.out.lt
      have VC : Hid (Unc wc ⟨zu, 0, none⟩ u) := U0.out.below hbc U0.out.lt
      clear hbc hb2 x0 x1 x2 x3 x4 x5 x6 x7 x8 y0 y1 y2 y3 y4 y5 y6 y7 X0 U0 B0
      obtain ⟨x0, x1, x2, x3, x4, x5, x6, x7, x8⟩ := XC.out
      obtain ⟨y0, y1, y2, y3, y4, y5, y6, y7⟩ := VC.out
      cases b2 with
      | true =>
        go_wp2
        go_ret
        exact ⟨_, rfl, by rw [uf2 HB1.out HB2.out]; exact Er.no (by decide), BC.out⟩
      | false =>
        obtain ⟨b3, hb3⟩ : ∃ b, decide (0 ≤ u.player ∧ u.player < (W.gold.length : Int)) = b := ⟨_, rfl⟩
        have HB3 : Hid (Wd.has W.gold.length u.player = b3) := hb3
        go_wp2_with fail
        refine (isone_ints _ _ _ _ _ (by omega)).mono ?_
        rintro e w5 ⟨rfl, hww⟩
        obtain rfl := hww.symm
        rw [hb3]
        clear hb3
        cases b3 with
        | false =>
          go_wp2
          go_ret
          exact ⟨_, rfl, by rw [uf3 HB1.out HB2.out HB3.out]; exact Er.no (by decide), BC.out⟩
        | true =>
          obtain ⟨b4, hb4⟩ : ∃ b, decide (0 ≤ u.kind ∧ u.kind < (ks.length : Int)) = b := ⟨_, rfl⟩
          have HB4 : Hid (Wd.has ks.length u.kind = b4) := hb4
          go_wp2_with fail
          refine (isone_kinds _ _ _ _ _ (by omega)).mono ?_
          rintro e w6 ⟨rfl, hww⟩
          obtain rfl := hww.symm
          rw [hb4]
          cases b4 with
          | false =>
            clear hb4
            go_wp2
            go_ret
            exact ⟨_, rfl, by rw [uf4 HB1.out HB2.out HB3.out HB4.out]; exact Er.no (by decide), BC.out⟩
          | true =>
            have hkr := of_decide_eq_true hb4
            obtain ⟨kn, ek⟩ : ∃ kn : Nat, u.kind = kn := ⟨u.kind.toNat, by omega⟩
            have hkn : kn < ks.length := by omega
            obtain ⟨k, hkk⟩ : ∃ k, ks[kn]? = some k := ⟨_, List.getElem?_eq_getElem hkn⟩
            have UF : Hid (Wd.unitFault ks W i u = Wd.kindPart W (W.us.take i) u k) := uf5 HB1.out HB2.out HB3.out HB4.out (by rw [ek, Int.toNat_natCast]; exact hkk)
            obtain ⟨xk, rfl, hxk, hkc⟩ := kk3 (by intro e; rw [e] at hkn; simp at hkn)
            have hkni : (kn : Int) < (ks.length : Int) := by omega
            have KC : Hid (Kc _ (xk.add (kn * 11)) k) := (hkc kn k hkk).below BC.out (by rw [add_block]; exact hxk)
            rw [ek] at y2
            obtain ⟨l0, l1, l2, l3, l4, l5, l6, l7, l8, l9, l10⟩ := KC.out
            clear hkr hb4 hkc hxk hkk kk3
            go_upto_region 9 with fail
            by_cases h5 : 1 ≤ u.life ∧ u.life ≤ k.n0
            · go_quiet ((go_at_call 86; exact Calls.quiet_of_same (wwithin_yes _ _ _ _ h5)))
              have BC' : Hid (Below w.heap.size w (wc.drewN nq)) := _root_.Go.below_drewN BC.out nq
              have XC' : Hid (Bw (wc.drewN nq) w.heap.size W (.slice p1 W.gs.length q1) (.slice p2 W.os.length q2) (.slice p3 W.gold.length q3) (.slice (some x) W.us.length q4) (.slice p5 W.qs.length q5)) := XC.out.below (_root_.Go.below_drewN (Below.refl _ _) nq) XC.out.lt
              have VC' : Hid (Unc (wc.drewN nq) ⟨zu, 0, none⟩ u) := VC.out.below (_root_.Go.below_drewN (Below.refl _ _) nq) VC.out.lt
              have KC' : Hid (Kc (wc.drewN nq) (xk.add (kn * 11)) k) := KC.out.below (_root_.Go.below_drewN (Below.refl _ _) nq) KC.out.lt
              generalize wc.drewN nq = wd at *
              clear BC XC VC KC x0 x1 x2 x3 x4 x5 x6 x7 x8 y0 y1 y2 y3 y4 y5 y6 y7 l0 l1 l2 l3 l4 l5 l6 l7 l8 l9 l10
              obtain ⟨wc, hwc⟩ : ∃ wc, wc = wd := ⟨_, rfl⟩
              subst hwc
              have BC := BC'
              have XC := XC'
              have VC := VC'
              have KC := KC'
              clear BC' XC' VC' KC'
              obtain ⟨x0, x1, x2, x3, x4, x5, x6, x7, x8⟩ := XC.out
              obtain ⟨y0, y1, y2, y3, y4, y5, y6, y7⟩ := VC.out
              rw [ek] at y2
              obtain ⟨l0, l1, l2, l3, l4, l5, l6, l7, l8, l9, l10⟩ := KC.out
              go_upto_region 10 with fail
              by_cases h6 : 0 ≤ u.load ∧ u.load ≤ k.n7
              · go_quiet ((go_at_call 86; exact Calls.quiet_of_same (wwithin_yes _ _ _ _ h6)))
                have BC' : Hid (Below w.heap.size w (wc.drewN nq)) := _root_.Go.below_drewN BC.out nq
                have XC' : Hid (Bw (wc.drewN nq) w.heap.size W (.slice p1 W.gs.length q1) (.slice p2 W.os.length q2) (.slice p3 W.gold.length q3) (.slice (some x) W.us.length q4) (.slice p5 W.qs.length q5)) := XC.out.below (_root_.Go.below_drewN (Below.refl _ _) nq) XC.out.lt
                have VC' : Hid (Unc (wc.drewN nq) ⟨zu, 0, none⟩ u) := VC.out.below (_root_.Go.below_drewN (Below.refl _ _) nq) VC.out.lt
                have KC' : Hid (Kc (wc.drewN nq) (xk.add (kn * 11)) k) := KC.out.below (_root_.Go.below_drewN (Below.refl _ _) nq) KC.out.lt
                generalize wc.drewN nq = wd at *
                clear BC XC VC KC x0 x1 x2 x3 x4 x5 x6 x7 x8 y0 y1 y2 y3 y4 y5 y6 y7 l0 l1 l2 l3 l4 l5 l6 l7 l8 l9 l10
                obtain ⟨wc, hwc⟩ : ∃ wc, wc = wd := ⟨_, rfl⟩
                subst hwc
                have BC := BC'
                have XC := XC'
                have VC := VC'
                have KC := KC'
                clear BC' XC' VC' KC'
                obtain ⟨x0, x1, x2, x3, x4, x5, x6, x7, x8⟩ := XC.out
                obtain ⟨y0, y1, y2, y3, y4, y5, y6, y7⟩ := VC.out
                rw [ek] at y2
                obtain ⟨l0, l1, l2, l3, l4, l5, l6, l7, l8, l9, l10⟩ := KC.out
                by_cases h7 : 0 ≤ u.task ∧ u.task ≤ 2
                · go_wp2_with fail
                  refine (wwithin_yes _ _ _ _ h7).mono ?_
                  rintro e w8 ⟨rfl, hww⟩
                  obtain rfl := hww.symm
                  by_cases h8 : 0 ≤ u.at_ ∧ u.at_ < (W.gs.length : Int)
                  · have t8 : decide (0 ≤ u.at_ ∧ u.at_ < (W.gs.length : Int)) = true := decide_eq_true h8
                    go_wp2_with fail
                    refine (isone_ints _ _ _ _ _ (by omega)).mono ?_
                    rintro e w9 ⟨rfl, hww⟩
                    obtain rfl := hww.symm
                    rw [t8]
                    by_cases h9 : 0 ≤ u.goal ∧ u.goal < (W.gs.length : Int)
                    · have t9 : decide (0 ≤ u.goal ∧ u.goal < (W.gs.length : Int)) = true := decide_eq_true h9
                      go_wp2_with fail
                      refine (isone_ints _ _ _ _ _ (by omega)).mono ?_
                      rintro e w10 ⟨rfl, hww⟩
                      obtain rfl := hww.symm
                      rw [t9]
                      clear t8 t9
                      obtain ⟨an, ea⟩ : ∃ an : Nat, u.at_ = an := ⟨u.at_.toNat, by omega⟩
                      obtain ⟨g, hg0⟩ : ∃ g, W.gs[an]? = some g := ⟨_, List.getElem?_eq_getElem (by omega)⟩
                      have hgan : Hid (W.gs[an]? = some g) := hg0
                      clear hg0
                      have FC : Hid (∀ V, Below wc.heap.size wc V → V.cell? ⟨w.heap.size, 2, none⟩ = some (.int .i64 W.wide) ∧ V.cell? ⟨w.heap.size, 3, none⟩ = some (.int .i64 W.high) ∧ V.cell? ⟨w.heap.size, 4, none⟩ = some (.slice p1 W.gs.length q1) ∧ V.cell? ⟨w.heap.size, 5, none⟩ = some (.slice p2 W.os.length q2) ∧ V.cell? ⟨w.heap.size, 7, none⟩ = some (.slice (some x) W.us.length q4) ∧ V.cell? ⟨zu, 3, none⟩ = some (.int .i64 (an : Nat)) ∧ V.cell? ⟨zu, 2, none⟩ = some (.int .i64 (kn : Nat)) ∧ V.cell? ⟨(xk.add (kn * 11)).block, (xk.add (kn * 11)).off + 9, none⟩ = some (.bool k.f)) := fun V hV => by
                        obtain ⟨-, -, z2, z3, z4, z5, -, z7, -⟩ := XC.out.below hV XC.out.lt
                        obtain ⟨-, -, g2, g3, -, -, -, -⟩ := VC.out.below hV VC.out.lt
                        obtain ⟨-, -, -, -, -, -, -, -, -, m9, -⟩ := KC.out.below hV KC.out.lt
                        rw [ek] at g2
                        rw [ea] at g3
                        exact ⟨z2, z3, z4, z5, z7, g3, g2, m9⟩
                      have OPN : Hid (∀ V, Below wc.heap.size wc V → Calls Tryz.prog 90 #[.agg #[.int .i64 W.wide, .int .i64 W.high, .slice p1 W.gs.length q1, .slice p2 W.os.length q2], .slice (some x) i q4, .int .i64 (an : Nat), .bool k.f] V fun e w' => e = .returned (.bool (Wd.open_ W.gs (W.us.take i) (an : Nat) k.f)) ∧ Below wc.heap.size wc w') := fun V hV => by
                        have BV : Below w.heap.size w V := BC.out.trans (hV.mono BC.out.size)
                        obtain ⟨r1, r2, -, r4, -⟩ := (H.out.below BV).slices
                        obtain ⟨hGood, hWn, hHn⟩ := HG.out
                        rw [hWn, hHn]
                        exact (isopen_any _ _ Wn Hn W.gs W.os (W.us.take i) an g k.f V ⟨_, _, rfl, r1, r2⟩ hGood (r4.take_ (by omega)) (by have := hGood.gl; omega) hgan.out).mono fun e w' ⟨h1, h2⟩ => ⟨h1, hV.trans (h2.mono hV.size)⟩
                      have eo : ∀ args w, (callFunc 90 args).run Tryz.prog w = .ok (.enter 90 args) w := by intro args w; go_simp
                      have hin : (i : Int) ≤ (q4 : Int) := by omega
                      go_upto_region 16 with fail
                      refine wp_region_class 15 (fun V => Below wc.heap.size wc V) (by kernel_rfl) (by kernel_rfl) (Below.refl _ _).drew ?_
                      simp only [List.take_succ_cons, List.take_zero, List.drop_succ_cons, List.drop_zero]
                      refine head_step (.pointer (some ⟨w.heap.size, 2, none⟩)) (by go_simp) (fun V hV => by go_simp) ?_
                      go_simp
                      refine head_step (.agg #[.int .i64 W.wide, .int .i64 W.high, .slice p1 W.gs.length q1, .slice p2 W.os.length q2]) (by go_simp) (fun V hV => by obtain ⟨f2, f3, f4, f5, -⟩ := FC.out V hV; go_simp) ?_
                      go_simp
                      refine head_step (.pointer (some ⟨w.heap.size, 7, none⟩)) (by go_simp) (fun V hV => by go_simp) ?_
                      go_simp
                      refine head_step (.slice (some x) W.us.length q4) (by go_simp) (fun V hV => by obtain ⟨-, -, -, -, f7, -⟩ := FC.out V hV; go_simp) ?_
                      go_simp
                      refine head_step (.int .i64 (i : Nat)) (by go_simp) (fun V hV => by go_simp) ?_
                      go_simp
                      refine head_step (.slice (some x) i q4) (by go_simp) (fun V hV => by go_simp) ?_
                      go_simp
                      refine head_step (.pointer (some ⟨zu, 3, none⟩)) (by go_simp) (fun V hV => by go_simp) ?_
                      go_simp
                      refine head_step (.int .i64 (an : Nat)) (by go_simp) (fun V hV => by obtain ⟨-, -, -, -, -, f8, -⟩ := FC.out V hV; go_simp) ?_
                      go_simp
                      refine head_step (.slice (some xk) ks.length qk) (by go_simp) (fun V hV => by go_simp) ?_
                      go_simp
                      refine head_step (.pointer (some ⟨zu, 2, none⟩)) (by go_simp) (fun V hV => by go_simp) ?_
                      go_simp
                      refine head_step (.int .i64 (kn : Nat)) (by go_simp) (fun V hV => by obtain ⟨-, -, -, -, -, -, f9, -⟩ := FC.out V hV; go_simp) ?_
                      go_simp
                      refine head_step (.pointer (some (xk.add (kn * 11)))) (by go_simp) (fun V hV => by go_simp) ?_
                      go_simp
                      refine head_step (.pointer (some ⟨(xk.add (kn * 11)).block, (xk.add (kn * 11)).off + 9, none⟩)) (by go_simp) (fun V hV => by go_simp) ?_
                      go_simp
                      refine head_step (.bool k.f) (by go_simp) (fun V hV => by obtain ⟨-, -, -, -, -, -, -, f10⟩ := FC.out V hV; go_simp) ?_
                      go_simp
                      refine head_call (.bool (Wd.open_ W.gs (W.us.take i) (an : Nat) k.f)) 90 #[.agg #[.int .i64 W.wide, .int .i64 W.high, .slice p1 W.gs.length q1, .slice p2 W.os.length q2], .slice (some x) i q4, .int .i64 (an : Nat), .bool k.f] (by go_simp) (fun V hV => by go_simp) (fun V hV => OPN.out V hV) ?_
                      go_simp
                      intro V hV
                      have BV : Hid (Below w.heap.size w V) := BC.out.trans (hV.mono BC.out.size)
                      have VV : Hid (Unc V ⟨zu, 0, none⟩ u) := VC.out.below hV VC.out.lt
                      obtain ⟨b9, hb9⟩ : ∃ b, Wd.open_ W.gs (W.us.take i) (an : Nat) k.f = b := ⟨_, rfl⟩
                      have HB9 : Hid (Wd.open_ W.gs (W.us.take i) (an : Nat) k.f = b9) := hb9
                      rw [hb9]
                      clear hV FC OPN hb9 x0 x1 x2 x3 x4 x5 x6 x7 x8 y0 y1 y2 y3 y4 y5 y6 y7 l0 l1 l2 l3 l4 l5 l6 l7 l8 l9 l10
                      cases b9 with
                      | false =>
                        go_wp2
                        go_ret
                        exact ⟨_, rfl, by rw [UF.out, kp7 h5 h6 h7 h8 h9 (.inl (by rw [ea]; exact HB9.out))]; exact Er.no (by decide), BV.out⟩
                      | true =>
                        obtain ⟨y0, y1, y2, y3, y4, y5, y6, y7⟩ := VV.out
                        by_cases hgo : u.goal = 0
                        · have FINE : Hid (Wd.unitFault ks W i u = 0) := by unfold Hid; rw [UF.out, kp0 h5 h6 h7 h8 h9 (by rw [ea]; exact HB9.out) (.inl hgo)]
                          go_wp2
                          go_ret
                          exact ⟨_, rfl, by rw [FINE.out]; exact Er.nil, BV.out⟩
                        · by_cases hta : u.task = 0
                          · have BADF : Hid (Wd.unitFault ks W i u = 7) := by unfold Hid; rw [UF.out, kp7 h5 h6 h7 h8 h9 (.inr ⟨hgo, hta⟩)]
                            go_wp2
                            go_ret
                            exact ⟨_, rfl, by rw [BADF.out]; exact Er.no (by decide), BV.out⟩
                          · have FINE : Hid (Wd.unitFault ks W i u = 0) := by unfold Hid; rw [UF.out, kp0 h5 h6 h7 h8 h9 (by rw [ea]; exact HB9.out) (.inr hta)]
                            have tb : (u.task == 0) = false := by simpa using hta
                            clear hta
                            go_wp2
                            go_ret
                            exact ⟨_, rfl, by rw [FINE.out]; exact Er.nil, BV.out⟩
                    · have t9 : decide (0 ≤ u.goal ∧ u.goal < (W.gs.length : Int)) = false := decide_eq_false h9
                      go_wp2_with fail
                      refine (isone_ints _ _ _ _ _ (by omega)).mono ?_
                      rintro e w10 ⟨rfl, hww⟩
                      obtain rfl := hww.symm
                      rw [t9]
                      clear t9 t8
                      go_wp2
                      go_ret
                      exact ⟨_, rfl, by rw [UF.out, kp6 h5 h6 h7 (.inr h9)]; exact Er.no (by decide), BC.out⟩
                  · have t8 : decide (0 ≤ u.at_ ∧ u.at_ < (W.gs.length : Int)) = false := decide_eq_false h8
                    go_wp2_with fail
                    refine (isone_ints _ _ _ _ _ (by omega)).mono ?_
                    rintro e w9 ⟨rfl, hww⟩
                    obtain rfl := hww.symm
                    rw [t8]
                    clear t8
                    go_wp2
                    go_ret
                    exact ⟨_, rfl, by rw [UF.out, kp6 h5 h6 h7 (.inl h8)]; exact Er.no (by decide), BC.out⟩
                · go_wp2_with fail
                  refine (wwithin_no _ _ _ _ h7).mono ?_
                  rintro e w8 ⟨rfl, hww⟩
                  obtain rfl := hww.symm
                  go_wp2
                  go_ret
                  exact ⟨_, rfl, by rw [UF.out, kp1 (.inr (.inr h7))]; exact Er.no (by decide), BC.out⟩
              · go_quiet ((go_at_call 86; exact Calls.quiet_of_same (wwithin_no _ _ _ _ h6)))
                have BC' : Hid (Below w.heap.size w (wc.drewN nq)) := _root_.Go.below_drewN BC.out nq
                have XC' : Hid (Bw (wc.drewN nq) w.heap.size W (.slice p1 W.gs.length q1) (.slice p2 W.os.length q2) (.slice p3 W.gold.length q3) (.slice (some x) W.us.length q4) (.slice p5 W.qs.length q5)) := XC.out.below (_root_.Go.below_drewN (Below.refl _ _) nq) XC.out.lt
                have VC' : Hid (Unc (wc.drewN nq) ⟨zu, 0, none⟩ u) := VC.out.below (_root_.Go.below_drewN (Below.refl _ _) nq) VC.out.lt
                have KC' : Hid (Kc (wc.drewN nq) (xk.add (kn * 11)) k) := KC.out.below (_root_.Go.below_drewN (Below.refl _ _) nq) KC.out.lt
                generalize wc.drewN nq = wd at *
                clear BC XC VC KC x0 x1 x2 x3 x4 x5 x6 x7 x8 y0 y1 y2 y3 y4 y5 y6 y7 l0 l1 l2 l3 l4 l5 l6 l7 l8 l9 l10
                obtain ⟨wc, hwc⟩ : ∃ wc, wc = wd := ⟨_, rfl⟩
                subst hwc
                have BC := BC'
                have XC := XC'
                have VC := VC'
                have KC := KC'
                clear BC' XC' VC' KC'
                obtain ⟨x0, x1, x2, x3, x4, x5, x6, x7, x8⟩ := XC.out
                obtain ⟨y0, y1, y2, y3, y4, y5, y6, y7⟩ := VC.out
                rw [ek] at y2
                obtain ⟨l0, l1, l2, l3, l4, l5, l6, l7, l8, l9, l10⟩ := KC.out
                go_wp2
                go_ret
                exact ⟨_, rfl, by rw [UF.out, kp1 (.inr (.inl h6))]; exact Er.no (by decide), BC.out⟩
            · go_quiet ((go_at_call 86; exact Calls.quiet_of_same (wwithin_no _ _ _ _ h5)))
              have BC' : Hid (Below w.heap.size w (wc.drewN nq)) := _root_.Go.below_drewN BC.out nq
              have XC' : Hid (Bw (wc.drewN nq) w.heap.size W (.slice p1 W.gs.length q1) (.slice p2 W.os.length q2) (.slice p3 W.gold.length q3) (.slice (some x) W.us.length q4) (.slice p5 W.qs.length q5)) := XC.out.below (_root_.Go.below_drewN (Below.refl _ _) nq) XC.out.lt
              have VC' : Hid (Unc (wc.drewN nq) ⟨zu, 0, none⟩ u) := VC.out.below (_root_.Go.below_drewN (Below.refl _ _) nq) VC.out.lt
              have KC' : Hid (Kc (wc.drewN nq) (xk.add (kn * 11)) k) := KC.out.below (_root_.Go.below_drewN (Below.refl _ _) nq) KC.out.lt
              generalize wc.drewN nq = wd at *
              clear BC XC VC KC x0 x1 x2 x3 x4 x5 x6 x7 x8 y0 y1 y2 y3 y4 y5 y6 y7 l0 l1 l2 l3 l4 l5 l6 l7 l8 l9 l10
              obtain ⟨wc, hwc⟩ : ∃ wc, wc = wd := ⟨_, rfl⟩
              subst hwc
              have BC := BC'
              have XC := XC'
              have VC := VC'
              have KC := KC'
              clear BC' XC' VC' KC'
              obtain ⟨x0, x1, x2, x3, x4, x5, x6, x7, x8⟩ := XC.out
              obtain ⟨y0, y1, y2, y3, y4, y5, y6, y7⟩ := VC.out
              rw [ek] at y2
              obtain ⟨l0, l1, l2, l3, l4, l5, l6, l7, l8, l9, l10⟩ := KC.out
              go_wp2
              go_ret
              exact ⟨_, rfl, by rw [UF.out, kp1 (.inl h5)]; exact Er.no (by decide), BC.out⟩
end Go.Proofs.YteieikgkmfglaaaGreatDoor

namespace Go.Proofs.YteieikgkmfglaaaGreatDoor
open Go.RowKit
set_option linter.unusedVariables false

theorem find_fst {us : List UnV} {id : Int} : ∀ {r : Int}, FstU (fun u => u.id == id) us r → (r = -1 ∧ us.find? (fun u => u.id == id) = none) ∨ ∃ (n : Nat) (x : UnV), r = n ∧ us[n]? = some x ∧ us.find? (fun u => u.id == id) = some x
  | r, .inl ⟨h, h1⟩ => .inl ⟨h, by
      rw [List.find?_eq_none]
      intro x hx hp
      have : us.any (fun u => u.id == id) = true := List.any_eq_true.2 ⟨x, hx, hp⟩
      rw [h1] at this; cases this⟩
  | r, .inr ⟨n, x, h, h1, h2, h3⟩ => .inr ⟨n, x, h, h1, by
      have hn : n < us.length := (List.getElem?_eq_some_iff.1 h1).1
      have e : us = us.take n ++ x :: us.drop (n + 1) := by
        obtain ⟨hi, e⟩ := List.getElem?_eq_some_iff.1 h1
        rw [← e, ← List.drop_eq_getElem_cons hi, List.take_append_drop]
      have h4 : (us.take n).find? (fun u => u.id == id) = none := by
        rw [List.find?_eq_none]
        intro y hy hp
        have : (us.take n).any (fun u => u.id == id) = true := List.any_eq_true.2 ⟨y, hy, hp⟩
        rw [h3] at this; cases this
      rw [e, List.find?_append, h4]
      simp only [Option.none_or]
      have h2' : (x.id == id) = true := h2
      simp only [List.find?_cons, h2']⟩
theorem jf6 {ks : List KV} {W : WV} {j : JbV} (h : W.us.find? (fun u => u.id == j.unit) = none) : Wd.jobFault ks W j = 6 := by unfold Wd.jobFault; rw [h]
theorem jf7 {ks : List KV} {W : WV} {j : JbV} {u : UnV} {k : KV} (h : W.us.find? (fun u => u.id == j.unit) = some u) (hk : ks[u.kind.toNat]? = some k) (h7 : u.player ≠ j.player ∨ k.t = false) : Wd.jobFault ks W j = 7 := by
  unfold Wd.jobFault
  rw [h]
  simp only [hk]
  rw [if_pos]
  rcases h7 with h7 | h7 <;> simp [h7]
theorem jf1 {ks : List KV} {W : WV} {j : JbV} {u : UnV} {k : KV} (h : W.us.find? (fun u => u.id == j.unit) = some u) (hk : ks[u.kind.toNat]? = some k) (hp : u.player = j.player) (ht : k.t = true) (h1 : decide (0 ≤ j.kind ∧ j.kind < (ks.length : Int)) = false ∨ decide (1 ≤ j.left ∧ j.left ≤ 1000) = false) : Wd.jobFault ks W j = 1 := by
  unfold Wd.jobFault Wd.has
  rw [h]
  simp only [hk]
  rw [hp, ht, if_neg (by simp), if_pos]
  rcases h1 with h1 | h1 <;> rw [h1] <;> simp
theorem jf0 {ks : List KV} {W : WV} {j : JbV} {u : UnV} {k : KV} (h : W.us.find? (fun u => u.id == j.unit) = some u) (hk : ks[u.kind.toNat]? = some k) (hp : u.player = j.player) (ht : k.t = true) (h1 : decide (0 ≤ j.kind ∧ j.kind < (ks.length : Int)) = true) (h2 : decide (1 ≤ j.left ∧ j.left ≤ 1000) = true) : Wd.jobFault ks W j = 0 := by
  unfold Wd.jobFault Wd.has
  rw [h]
  simp only [hk]
  rw [hp, ht, h1, h2, if_neg (by simp), if_neg (by simp)]
set_option maxRecDepth 100000 in
set_option maxHeartbeats 8000000 in
theorem job_any (vk vw : Value) (ks : List KV) (W : WV) (j : JbV) (w : World) (hk : Kl w vk ks) (hw : Wl w vw W) (hul : W.us.length ≤ 40) (hkl : ks.length ≤ 8) (hall : ∀ u ∈ W.us, 0 ≤ u.kind ∧ u.kind < (ks.length : Int)) :
    Calls Tryz.prog 56 #[vk, vw, j.val] w fun e w' => ∃ r, e = .returned r ∧ Er r (Wd.jobFault ks W j) ∧ Below w.heap.size w w' := by
  have K : Hid (Kl w vk ks) := hk
  have H : Hid (Wl w vw W) := hw
  have HA : Hid (∀ u ∈ W.us, 0 ≤ u.kind ∧ u.kind < (ks.length : Int)) := hall
  obtain ⟨u1, u2, u3, u4, u5, rfl, r1, r2, r3, r4, r5⟩ := hw
  obtain ⟨p4, q4, rfl, k41, k42, k43⟩ := r4
  obtain ⟨pk, qk, rfl, kk1, kk2, kk3⟩ := hk
  have UC : Hid (W.us ≠ [] → ∃ x, p4 = some x ∧ x.block < w.heap.size ∧ ∀ (i : Nat) k, W.us[i]? = some k → Unc w (x.add (i * 8)) k) := k43
  have KK : Hid (ks ≠ [] → ∃ x, pk = some x ∧ x.block < w.heap.size ∧ ∀ (i : Nat) k, ks[i]? = some k → Kc w (x.add (i * 11)) k) := kk3
  clear r1 r2 r3 r5 k43 kk3 hall
  unfold JbV.val
  go_enter Tryz.func56, Tryz.ntmps56
  go_wp2_with fail
  have B0 : Hid (Below w.heap.size w ((w.alloc (Obj.cells #[.int .i64 W.turn, .int .i64 W.next, .int .i64 W.wide, .int .i64 W.high, u1, u2, u3, .slice p4 W.us.length q4, u5] 29)).alloc (Obj.cells #[.int .i64 j.player, .int .i64 j.unit, .int .i64 j.kind, .int .i64 j.left] 71))) := ((Below.refl _ _).alloc (Nat.le_refl _) _).alloc (by simp) _
  have X0 : Hid (Bw ((w.alloc (Obj.cells #[.int .i64 W.turn, .int .i64 W.next, .int .i64 W.wide, .int .i64 W.high, u1, u2, u3, .slice p4 W.us.length q4, u5] 29)).alloc (Obj.cells #[.int .i64 j.player, .int .i64 j.unit, .int .i64 j.kind, .int .i64 j.left] 71)) w.heap.size W u1 u2 u3 (.slice p4 W.us.length q4) u5) := (Bw.mk' W _ _ _ _ _ rfl).below (n := w.heap.size + 1) ((Below.refl _ _).alloc (by simp) _) (Nat.lt_succ_self _)
  have J0 : Hid (Jbc ((w.alloc (Obj.cells #[.int .i64 W.turn, .int .i64 W.next, .int .i64 W.wide, .int .i64 W.high, u1, u2, u3, .slice p4 W.us.length q4, u5] 29)).alloc (Obj.cells #[.int .i64 j.player, .int .i64 j.unit, .int .i64 j.kind, .int .i64 j.left] 71)) ⟨w.heap.size + 1, 0, none⟩ j) := Jbc.mk' j (by simp)
  generalize ((w.alloc (Obj.cells #[.int .i64 W.turn, .int .i64 W.next, .int .i64 W.wide, .int .i64 W.high, u1, u2, u3, .slice p4 W.us.length q4, u5] 29)).alloc (Obj.cells #[.int .i64 j.player, .int .i64 j.unit, .int .i64 j.kind, .int .i64 j.left] 71)) = w0 at *
  generalize w.heap.size + 1 = zj at *
  refine (wfind_any _ W j.unit w0 (H.out.below B0.out)).mono ?_
  rintro e w1 ⟨r, rfl, hf, hb1⟩
  have B1 : Hid (Below w.heap.size w w1) := B0.out.trans (hb1.mono B0.out.size)
  have X1 : Hid (Bw w1 w.heap.size W u1 u2 u3 (.slice p4 W.us.length q4) u5) := X0.out.below hb1 X0.out.lt
  have J1 : Hid (Jbc w1 ⟨zj, 0, none⟩ j) := J0.out.below hb1 J0.out.lt
  clear hb1 X0 J0 B0
  rcases find_fst hf with ⟨rfl, hfn⟩ | ⟨n, u, rfl, hn, hfs⟩
  · have F6 : Hid (Wd.jobFault ks W j = 6) := jf6 hfn
    clear hf hfn
    go_wp2
    go_ret
    exact ⟨_, rfl, by rw [F6.out]; exact Er.no (by decide), B1.out⟩
  · have hnl : n < W.us.length := (List.getElem?_eq_some_iff.1 hn).1
    have hni : (n : Int) < (W.us.length : Int) := by omega
    have hn0 : ¬ (n : Int) < 0 := by omega
    have HF : Hid (W.us.find? (fun u => u.id == j.unit) = some u) := hfs
    obtain ⟨x, rfl, hx, hcell⟩ := UC.out (by intro e; rw [e] at hnl; simp at hnl)
    obtain ⟨d0, d1, d2, d3, d4, d5, d6, d7⟩ := (hcell n u hn).below B1.out (by rw [add_block]; exact hx)
    have hku := HA.out u (List.mem_of_getElem? hn)
    obtain ⟨kn, ek⟩ : ∃ kn : Nat, u.kind = kn := ⟨u.kind.toNat, by omega⟩
    have hkn : kn < ks.length := by omega
    have hkni : (kn : Int) < (ks.length : Int) := by omega
    obtain ⟨k, hkk⟩ : ∃ k, ks[kn]? = some k := ⟨_, List.getElem?_eq_getElem hkn⟩
    have HK : Hid (ks[u.kind.toNat]? = some k) := by unfold Hid; rw [ek, Int.toNat_natCast]; exact hkk
    obtain ⟨xk, rfl, hxk, hkc⟩ := KK.out (by intro e; rw [e] at hkn; simp at hkn)
    have KC1 : Hid (Kc w1 (xk.add (kn * 11)) k) := (hkc kn k hkk).below B1.out (by rw [add_block]; exact hxk)
    have x7 := X1.out.c7
    have EK : Hid (u.kind = kn) := ek
    clear hf hfs hcell hx hn hku hkc hxk hkk ek
    go_upto_region 5 with fail
    have U2 : Hid (Unc (w1.alloc (Obj.cells #[.int .i64 u.id, .int .i64 u.player, .int .i64 u.kind, .int .i64 u.at_, .int .i64 u.life, .int .i64 u.load, .int .i64 u.task, .int .i64 u.goal] 44)) ⟨w1.heap.size, 0, none⟩ u) := Unc.mk' u rfl
    have BA : Hid (Below w1.heap.size w1 (w1.alloc (Obj.cells #[.int .i64 u.id, .int .i64 u.player, .int .i64 u.kind, .int .i64 u.at_, .int .i64 u.life, .int .i64 u.load, .int .i64 u.task, .int .i64 u.goal] 44))) := (Below.refl _ _).alloc (Nat.le_refl _) _
    generalize (w1.alloc (Obj.cells #[.int .i64 u.id, .int .i64 u.player, .int .i64 u.kind, .int .i64 u.at_, .int .i64 u.life, .int .i64 u.load, .int .i64 u.task, .int .i64 u.goal] 44)) = w2 at *
    have B2 : Hid (Below w.heap.size w w2) := B1.out.trans (BA.out.mono B1.out.size)
    have J2 : Hid (Jbc w2 ⟨zj, 0, none⟩ j) := J1.out.below BA.out J1.out.lt
    have KC2 : Hid (Kc w2 (xk.add (kn * 11)) k) := KC1.out.below BA.out KC1.out.lt
    clear d0 d1 d2 d3 d4 d5 d6 d7 x7 X1 J1 KC1 BA B1
    generalize w1.heap.size = zu at *
    obtain ⟨y0, y1, y2, y3, y4, y5, y6, y7⟩ := U2.out
    rw [EK.out] at y2
    obtain ⟨j0, j1, j2, j3⟩ := J2.out
    obtain ⟨l0, l1, l2, l3, l4, l5, l6, l7, l8, l9, l10⟩ := KC2.out
    simp only [Nat.zero_add] at y1 y2 y3 y4 y5 y6 y7 j1 j2 j3
    by_cases hp : u.player = j.player
    · cases ht : k.t with
      | false =>
        have F7 : Hid (Wd.jobFault ks W j = 7) := jf7 HF.out HK.out (.inr ht)
        rw [ht] at l10
        rw [hp] at y1
        clear ht
        go_wp2
        go_ret
        exact ⟨_, rfl, by rw [F7.out]; exact Er.no (by decide), B2.out⟩
      | true =>
        obtain ⟨b4, hb4⟩ : ∃ b, decide (0 ≤ j.kind ∧ j.kind < (ks.length : Int)) = b := ⟨_, rfl⟩
        obtain ⟨b5, hb5⟩ : ∃ b, decide (1 ≤ j.left ∧ j.left ≤ 1000) = b := ⟨_, rfl⟩
        have HB : Hid (decide (0 ≤ j.kind ∧ j.kind < (ks.length : Int)) = b4 ∧ decide (1 ≤ j.left ∧ j.left ≤ 1000) = b5) := ⟨hb4, hb5⟩
        have HPT : Hid (u.player = j.player ∧ k.t = true) := ⟨hp, ht⟩
        rw [ht] at l10
        rw [hp] at y1
        clear ht
        go_wp2_with fail
        refine (isone_kinds _ _ _ _ _ (by omega)).mono ?_
        rintro e w3 ⟨rfl, hww⟩
        obtain rfl := hww.symm
        rw [hb4]
        clear hb4
        cases b4 with
        | false =>
          have F1 : Hid (Wd.jobFault ks W j = 1) := jf1 HF.out HK.out HPT.out.1 HPT.out.2 (.inl HB.out.1)
          clear hb5
          go_wp2
          go_ret
          exact ⟨_, rfl, by rw [F1.out]; exact Er.no (by decide), B2.out⟩
        | true =>
          go_wp2_with fail
          refine (wwithin_any j.left 1 1000 _).mono ?_
          rintro e w4 ⟨rfl, hww⟩
          obtain rfl := hww.symm
          rw [hb5]
          clear hb5
          cases b5 with
          | false =>
            have F1 : Hid (Wd.jobFault ks W j = 1) := jf1 HF.out HK.out HPT.out.1 HPT.out.2 (.inr HB.out.2)
            go_wp2
            go_ret
            exact ⟨_, rfl, by rw [F1.out]; exact Er.no (by decide), B2.out⟩
          | true =>
            have F0 : Hid (Wd.jobFault ks W j = 0) := jf0 HF.out HK.out HPT.out.1 HPT.out.2 HB.out.1 HB.out.2
            go_wp2
            go_ret
            exact ⟨_, rfl, by rw [F0.out]; exact Er.nil, B2.out⟩
    · have F7 : Hid (Wd.jobFault ks W j = 7) := jf7 HF.out HK.out (.inl hp)
      go_wp2
      go_ret
      exact ⟨_, rfl, by rw [F7.out]; exact Er.no (by decide), B2.out⟩
end Go.Proofs.YteieikgkmfglaaaGreatDoor

namespace Go.Proofs.YteieikgkmfglaaaGreatDoor
open Go.RowKit
set_option linter.unusedVariables false

set_option maxHeartbeats 400000 in
theorem kwin_any (x a b : Int) (w : World) :
    Calls Tryz.prog 162 #[.int .i64 x, .int .i64 a, .int .i64 b] w fun e w' => e = .returned (.bool (decide (a ≤ x ∧ x ≤ b))) ∧ w' = w := by
  by_cases h1 : a ≤ x
  · by_cases h2 : x ≤ b
    · go_enter Tryz.func162, Tryz.ntmps162
      go_wp2
      go_ret
      exact ⟨by simp [h1, h2], rfl⟩
    · go_enter Tryz.func162, Tryz.ntmps162
      go_wp2
      go_ret
      exact ⟨by simp; omega, rfl⟩
  · go_enter Tryz.func162, Tryz.ntmps162
    go_wp2
    go_ret
    exact ⟨by simp; omega, rfl⟩
theorem kwin_yes (x a b : Int) (w : World) (h1 : a ≤ x) (h2 : x ≤ b) :
    Calls Tryz.prog 162 #[.int .i64 x, .int .i64 a, .int .i64 b] w fun e w' => e = .returned (.bool true) ∧ w' = w :=
  (kwin_any x a b w).mono fun e w' ⟨h, hw⟩ => ⟨by rw [h, decide_eq_true ⟨h1, h2⟩], hw⟩
theorem kwin_no (x a b : Int) (w : World) (h : x < a ∨ b < x) :
    Calls Tryz.prog 162 #[.int .i64 x, .int .i64 a, .int .i64 b] w fun e w' => e = .returned (.bool false) ∧ w' = w :=
  (kwin_any x a b w).mono fun e w' ⟨h', hw⟩ => ⟨by rw [h', decide_eq_false (by omega)], hw⟩

/-- r is where the first is; -1: there is none. -/
def FstK (p : KV → Bool) (ks : List KV) (r : Int) : Prop := (r = -1 ∧ ks.any p = false) ∨ ∃ (k : Nat) (x : KV), r = k ∧ ks[k]? = some x ∧ p x = true ∧ (ks.take k).any p = false
theorem anyk_next {p : KV → Bool} {ks : List KV} {k : Nat} {x : KV} (h : ks[k]? = some x) : (ks.take (k + 1)).any p = ((ks.take k).any p || p x) := by
  obtain ⟨hi, e⟩ := List.getElem?_eq_some_iff.1 h
  rw [List.take_succ_eq_append_getElem hi, List.any_append, e]
  simp

set_option maxHeartbeats 2000000 in
theorem idxk_any (K : Nat) (eK : ∀ args w, (callFunc K args).run Tryz.prog w = .ok (.enter K args) w) (u : Value) (cs : Array Value) (ks : List KV) (p : KV → Bool) (w : World) (hu : Kl w u ks)
    (hp : ∀ W, Below w.heap.size w W → ∀ k : KV, Calls Tryz.prog K (#[k.val] ++ cs) W fun e w' => e = .returned (.bool (p k)) ∧ Below W.heap.size W w') :
    Calls Tryz.prog 164 #[u, .func (Fn.func K) #[] cs] w fun e w' => ∃ r : Int, e = .returned (.int .i64 r) ∧ FstK p ks r ∧ Below w.heap.size w w' := by
  obtain ⟨a, c, rfl, c1, c2, ca⟩ := hu
  have Ca : Hid (ks ≠ [] → ∃ x, a = some x ∧ x.block < w.heap.size ∧ ∀ (i : Nat) k, ks[i]? = some k → Kc w (x.add (i * 11)) k) := ca
  have Hp : Hid (∀ W, Below w.heap.size w W → ∀ k : KV, Calls Tryz.prog K (#[k.val] ++ cs) W fun e w' => e = .returned (.bool (p k)) ∧ Below W.heap.size W w') := hp
  clear ca hp
  go_enter Tryz.func164, Tryz.ntmps164
  go_wp2
  go_loopw [8] (fun i W' => ∃ k : Nat, k ≤ ks.length ∧ i = .int .i64 (k : Nat) ∧ (ks.take k).any p = false ∧ Below w.heap.size w W') (fun i _ => ks.length - (intOf i).toNat)
  case atStart => exact ⟨0, Nat.zero_le _, rfl, by simp, Below.refl _ _⟩
  case round =>
    obtain ⟨k, hk, rfl, ht, hb⟩ := hrel
    have Ht : Hid ((ks.take k).any p = false) := ht
    have B : Hid (Below w.heap.size w wr) := hb
    clear ht hb
    by_cases h0 : k = ks.length
    · subst h0
      go_wp2
      go_ret
      refine ⟨_, rfl, .inl ⟨rfl, ?_⟩, B⟩
      have := Ht.out
      rw [List.take_of_length_le (Nat.le_refl _)] at this
      exact this
    · have hkx : k < ks.length := by omega
      obtain ⟨x, rfl, hx1, hx⟩ := Ca.out (by intro h; rw [h] at hkx; simp at hkx)
      obtain ⟨y, hy⟩ : ∃ y, ks[k]? = some y := ⟨_, List.getElem?_eq_getElem hkx⟩
      have Yc := (hx k y hy).below B.out (by rw [add_block]; exact hx1)
      obtain ⟨q0, q1, q2, q3, q4, q5, q6, q7, q8, q9, q10⟩ := Yc
      have hc := Hp.out wr B.out y
      have Hs : Hid _ := anyk_next (p := p) hy
      have Hm : Hid (ks[k]? = some y) := hy
      clear hx hx1 hy
      cases hy : p y with
      | true =>
        rw [hy] at hc
        have Hc : Hid (Calls Tryz.prog K (#[y.val] ++ cs) wr fun e w' => e = .returned (.bool true) ∧ Below wr.heap.size wr w') := hc
        have Hy : Hid (p y = true) := hy
        clear hc hy
        go_wp2_with fail
        refine Calls.mono Hc.out ?_
        rintro e w1 ⟨rfl, b1⟩
        have B1 : Hid (Below w.heap.size w w1) := B.out.trans (b1.mono B.out.size)
        clear b1
        go_wp2
        go_ret
        exact ⟨_, rfl, .inr ⟨k, y, rfl, Hm, Hy, Ht⟩, B1⟩
      | false =>
        rw [hy] at hc
        have Hc : Hid (Calls Tryz.prog K (#[y.val] ++ cs) wr fun e w' => e = .returned (.bool false) ∧ Below wr.heap.size wr w') := hc
        have Hy : Hid (p y = false) := hy
        clear hc hy
        go_wp2_with fail
        refine Calls.mono Hc.out ?_
        rintro e w1 ⟨rfl, b1⟩
        have B1 : Hid (Below w.heap.size w w1) := B.out.trans (b1.mono B.out.size)
        clear b1
        go_wp2
        go_round
        case rel => exact ⟨k + 1, by omega, by go_num, by have := Hs.out; rw [Ht.out, Hy.out] at this; exact this, B1⟩
        case measure => simp [intOf]; omega

set_option maxHeartbeats 400000 in
theorem findc_any (k : KV) (s : ByteArray) (b : Nat) (w : World) (hc : w.cell? ⟨b, 0, none⟩ = some (.string s)) :
    Calls Tryz.prog 165 #[k.val, .pointer (some ⟨b, 0, none⟩)] w fun e w' => e = .returned (.bool (k.k.name == s.data.toList)) ∧ Below w.heap.size w w' := by
  obtain ⟨kb, n0, n1, n2, n3, n4, n5, n6, n7, kf, kt⟩ := k
  have hl := cell_lt hc
  unfold KV.val
  go_enter Tryz.func165, Tryz.ntmps165
  go_wp2
  go_ret
  refine ⟨?_, (Below.refl _ _).alloc (Nat.le_refl _) _⟩
  show Ending.returned (.bool (kb.toList == s.toList)) = _
  rw [ByteArray.toList_eq, ByteArray.toList_eq]
  rfl

theorem efind1 : ∀ args w, (callFunc 165 args).run Tryz.prog w = .ok (.enter 165 args) w := by
  intro args w
  go_simp

set_option maxHeartbeats 400000 in
/-- where a name is. -/
theorem find_any (v : Value) (ks : List KV) (s : ByteArray) (w : World) (h : Kl w v ks) :
    Calls Tryz.prog 147 #[v, .string s] w fun e w' => ∃ r : Int, e = .returned (.int .i64 r) ∧ FstK (fun k => k.k.name == s.data.toList) ks r ∧ Below w.heap.size w w' := by
  have K0 : Hid (Kl w v ks) := h
  obtain ⟨a, c, rfl, c1, c2, -⟩ := h
  go_enter Tryz.func147, Tryz.ntmps147
  go_wp2_with fail
  have B1 : Below w.heap.size w (w.alloc (Obj.cells #[.string s] 9)) := (Below.refl _ _).alloc (Nat.le_refl _) _
  have hc : (w.alloc (Obj.cells #[.string s] 9)).cell? ⟨w.heap.size, 0, none⟩ = some (.string s) := by simp
  have hz : (w.alloc (Obj.cells #[.string s] 9)).heap.size = w.heap.size + 1 := by simp
  refine (idxk_any 165 efind1 _ _ ks (fun k => k.k.name == s.data.toList) _ (K0.out.below B1) ?_).mono ?_
  · intro W hW k
    exact findc_any k s w.heap.size W (by rw [hW.cell (p := ⟨w.heap.size, 0, none⟩) (by rw [hz]; exact Nat.lt_succ_self _)]; exact hc)
  · rintro e w1 ⟨r, rfl, hr, b1⟩
    have B2 : Hid (Below w.heap.size w w1) := B1.trans (b1.mono B1.size)
    have Hr : Hid (FstK (fun k => k.k.name == s.data.toList) ks r) := hr
    clear hr b1 B1 hc hz
    go_wp2
    go_ret
    exact ⟨r, rfl, Hr, B2⟩
end Go.Proofs.YteieikgkmfglaaaGreatDoor

namespace Go.Proofs.YteieikgkmfglaaaGreatDoor
open Go.RowKit
set_option linter.unusedVariables false

def KV.arr (k : KV) : Value := .agg #[.int .i64 k.n0, .int .i64 k.n1, .int .i64 k.n2, .int .i64 k.n3, .int .i64 k.n4, .int .i64 k.n5, .int .i64 k.n6, .int .i64 k.n7]
set_option maxHeartbeats 1000000 in
theorem nums_any (k : KV) (w : World) :
    Calls Tryz.prog 166 #[k.val] w fun e w' => e = .returned k.arr ∧ Below w.heap.size w w' := by
  obtain ⟨kb, n0, n1, n2, n3, n4, n5, n6, n7, kf, kt⟩ := k
  unfold KV.val KV.arr
  go_enter Tryz.func166, Tryz.ntmps166
  go_wp2
  refine bodyPost_ret (v := .agg #[.int .i64 n0, .int .i64 n1, .int .i64 n2, .int .i64 n3, .int .i64 n4, .int .i64 n5, .int .i64 n6, .int .i64 n7]) (by simp [results, Tryz.results166, go_sem]) rfl ⟨rfl, ?_⟩
  exact ((Below.refl _ _).alloc (Nat.le_refl _) _).alloc (by simp) _

theorem idx8 (cs : Array Value) (p : Nat) (x : Int) (hp : p < 8) (h : cs[p]? = some (.int .i64 x)) (W : World) : (Instr.index 213 (.agg cs) (.int .i64 (p : Int))).run Tryz.prog W = .ok (.int .i64 x) W := by
  have h1 : (0 : Int) ≤ p ∧ (p : Int) < 8 := by omega
  have hs : p < cs.size := (Array.getElem?_eq_some_iff.1 h).1
  unfold Instr.index
  simp [go_sem, h1]
  rw [if_pos hp, h]
  simp [go_sem]
def KV.ns (k : KV) : List Int := [k.n0, k.n1, k.n2, k.n3, k.n4, k.n5, k.n6, k.n7]
set_option maxRecDepth 100000 in
set_option maxHeartbeats 4000000 in
theorem inb_any (k : KV) (w : World) :
    Calls Tryz.prog 148 #[k.val] w fun e w' => e = .returned (.bool (decide (Kd.numsFault k.ns = 0))) ∧ Below w.heap.size w w' := by
  have NA := nums_any k
  obtain ⟨kb, n0, n1, n2, n3, n4, n5, n6, n7, kf, kt⟩ := k
  have R : Hid (Kd.numsFault (KV.ns ⟨kb, n0, n1, n2, n3, n4, n5, n6, n7, kf, kt⟩) = if [n0, n1, n2, n3, n4, n5, n6, n7].any (fun x => decide (x < 0 ∨ 1000 < x)) then 1 else if n0 < 1 ∨ 4 < n4 ∨ 12 < n2 ∨ 12 < n3 then 1 else 0) := rfl
  generalize Kd.numsFault (KV.ns ⟨kb, n0, n1, n2, n3, n4, n5, n6, n7, kf, kt⟩) = r at *
  unfold KV.val KV.arr at *
  simp only at NA
  have NA' : Hid (∀ w : World, Calls Tryz.prog 166 #[.agg #[.string kb, .int .i64 n0, .int .i64 n1, .int .i64 n2, .int .i64 n3, .int .i64 n4, .int .i64 n5, .int .i64 n6, .int .i64 n7, .bool kf, .bool kt]] w fun e w' => e = .returned (.agg #[.int .i64 n0, .int .i64 n1, .int .i64 n2, .int .i64 n3, .int .i64 n4, .int .i64 n5, .int .i64 n6, .int .i64 n7]) ∧ Below w.heap.size w w') := NA
  clear NA
  go_enter Tryz.func148, Tryz.ntmps148
  have B1 : Hid (Below w.heap.size w (w.alloc (Obj.cells #[.string kb, .int .i64 n0, .int .i64 n1, .int .i64 n2, .int .i64 n3, .int .i64 n4, .int .i64 n5, .int .i64 n6, .int .i64 n7, .bool kf, .bool kt] 68))) := (Below.refl _ _).alloc (Nat.le_refl _) _
  have X1 : Hid (Kc (w.alloc (Obj.cells #[.string kb, .int .i64 n0, .int .i64 n1, .int .i64 n2, .int .i64 n3, .int .i64 n4, .int .i64 n5, .int .i64 n6, .int .i64 n7, .bool kf, .bool kt] 68)) ⟨w.heap.size, 0, none⟩ ⟨kb, n0, n1, n2, n3, n4, n5, n6, n7, kf, kt⟩) := Kc.mk' ⟨kb, n0, n1, n2, n3, n4, n5, n6, n7, kf, kt⟩ rfl
  go_wp2_with fail
  refine (NA'.out _).mono ?_
  rintro e w2 ⟨rfl, b2⟩
  have X2 : Hid (Kc w2 ⟨w.heap.size, 0, none⟩ ⟨kb, n0, n1, n2, n3, n4, n5, n6, n7, kf, kt⟩) := X1.out.below b2 X1.out.lt
  have B2 : Hid (Below w.heap.size w w2) := B1.out.trans (b2.mono B1.out.size)
  clear b2 B1 X1 NA'
  obtain ⟨ns, hns⟩ : ∃ ns, [n0, n1, n2, n3, n4, n5, n6, n7] = ns := ⟨_, rfl⟩
  have Hns : Hid ([n0, n1, n2, n3, n4, n5, n6, n7] = ns) := hns
  have nl : Hid (ns.length = 8) := by rw [← hns]; rfl
  rw [hns] at R
  clear hns
  go_wp2_with fail
  go_loop [7] (fun j => ∃ p : Nat, p ≤ 8 ∧ j = .int .i64 (p : Nat) ∧ (ns.take p).any (fun x => decide (x < 0 ∨ 1000 < x)) = false) (fun j => 8 - (intOf j).toNat)
  case atStart => exact ⟨0, Nat.zero_le _, rfl, by simp⟩
  case round =>
    obtain ⟨p, hp, rfl, hany⟩ := hrel
    have An : Hid ((ns.take p).any (fun x => decide (x < 0 ∨ 1000 < x)) = false) := hany
    clear hany
    by_cases hp8 : p = 8
    · have R2 : Hid (r = if n0 < 1 ∨ 4 < n4 ∨ 12 < n2 ∨ 12 < n3 then 1 else 0) := by
        have h9 := An.out
        rw [List.take_of_length_le (by rw [nl.out, hp8]; exact Nat.le_refl _)] at h9
        unfold Hid
        rw [R.out, if_neg (by rw [h9]; decide)]
      have z1 : w2.cell? ⟨w.heap.size, 1, none⟩ = some (.int .i64 n0) := X2.out.c1
      have z3 : w2.cell? ⟨w.heap.size, 3, none⟩ = some (.int .i64 n2) := X2.out.c3
      have z4 : w2.cell? ⟨w.heap.size, 4, none⟩ = some (.int .i64 n3) := X2.out.c4
      have z5 : w2.cell? ⟨w.heap.size, 5, none⟩ = some (.int .i64 n4) := X2.out.c5
      subst hp8
      clear R An X2
      by_cases t1 : 0 < n0
      · by_cases t2 : n4 ≤ 4
        · by_cases t3 : n2 ≤ 12
          · by_cases t4 : n3 ≤ 12
            · have E : Hid (decide (r = 0) = true) := by unfold Hid; rw [R2.out, if_neg (by omega)]; rfl
              go_wp2
              go_ret
              exact ⟨by rw [E.out]; rfl, B2⟩
            · have E : Hid (decide (r = 0) = false) := by unfold Hid; rw [R2.out, if_pos (by omega)]; rfl
              go_wp2
              go_ret
              exact ⟨by rw [E.out]; rfl, B2⟩
          · have E : Hid (decide (r = 0) = false) := by unfold Hid; rw [R2.out, if_pos (by omega)]; rfl
            go_wp2
            go_ret
            exact ⟨by rw [E.out]; rfl, B2⟩
        · have E : Hid (decide (r = 0) = false) := by unfold Hid; rw [R2.out, if_pos (by omega)]; rfl
          go_wp2
          go_ret
          exact ⟨by rw [E.out]; rfl, B2⟩
      · have E : Hid (decide (r = 0) = false) := by unfold Hid; rw [R2.out, if_pos (by omega)]; rfl
        go_wp2
        go_ret
        exact ⟨by rw [E.out]; rfl, B2⟩
    · have hp9 : p < 8 := by omega
      obtain ⟨x, hx⟩ : ∃ x, ns[p]? = some x := ⟨_, List.getElem?_eq_getElem (by rw [nl.out]; exact hp9)⟩
      have As : Hid ((ns.take (p + 1)).any (fun x => decide (x < 0 ∨ 1000 < x)) = decide (x < 0 ∨ 1000 < x)) := by
        obtain ⟨hi, e⟩ := List.getElem?_eq_some_iff.1 hx
        unfold Hid
        rw [List.take_succ_eq_append_getElem hi, List.any_append, An.out, e]
        simp
      have ax : (#[.int .i64 n0, .int .i64 n1, .int .i64 n2, .int .i64 n3, .int .i64 n4, .int .i64 n5, .int .i64 n6, .int .i64 n7] : Array Value)[p]? = some (.int .i64 x) := by
        have h9 : (ns.map (Value.int .i64)).toArray[p]? = some (.int .i64 x) := by simp [hx]
        rw [← Hns.out] at h9
        exact h9
      have hix := idx8 _ p x hp9 ax
      clear ax
      have Mx : Hid (x ∈ ns) := List.mem_of_getElem? hx
      clear hx
      by_cases t : x < 0 ∨ 1000 < x
      · have E : Hid (decide (r = 0) = false) := by
          unfold Hid
          rw [R.out, if_pos (List.any_eq_true.2 ⟨x, Mx.out, by simpa using t⟩)]; rfl
        go_wp2_with (go_at_call 162; refine (kwin_no _ _ _ _ t).mono ?_; rintro e w' ⟨rfl, rfl⟩)
        go_ret
        exact ⟨by rw [E.out]; rfl, B2⟩
      · have A2 : Hid ((ns.take (p + 1)).any (fun x => decide (x < 0 ∨ 1000 < x)) = false) := by unfold Hid; rw [As.out, decide_eq_false t]
        go_wp2_with (go_at_call 162; refine (kwin_yes _ _ _ _ (by omega) (by omega)).mono ?_; rintro e w' ⟨rfl, rfl⟩)
        go_round
        case rel => exact ⟨p + 1, by omega, by go_num, A2⟩
        case measure => simp [intOf]; omega
end Go.Proofs.YteieikgkmfglaaaGreatDoor

namespace Go.Proofs.YteieikgkmfglaaaGreatDoor.Kd
set_option linter.unusedVariables false

/-- a rune that is none of a to z. -/
def otherR (r : Nat) : Bool := decide ((r : Int) < 97) || decide (122 < (r : Int))
theorem other_big {r : Nat} (h : 128 ≤ r) : otherR r = true := by
  unfold otherR
  rw [decide_eq_true (show (122 : Int) < (r : Int) by omega), Bool.or_true]
theorem decode_small (s : ByteArray) (i : Nat) (h : (s.get! i).toNat < 128) : Utf8.decode s i = ((s.get! i).toNat, 1) := by
  unfold Utf8.decode
  simp only [Nat.add_zero]
  rw [if_pos h]
theorem decode_big (s : ByteArray) (i : Nat) (h : ¬ (s.get! i).toNat < 128) : 128 ≤ (Utf8.decode s i).1 := by
  unfold Utf8.decode
  simp only [Nat.add_zero]
  rw [if_neg h]
  simp only [Utf8.runeError]
  split
  · split
    · rename_i h2; exact h2
    · simp
  · split
    · split
      · rename_i h2
        simp only [Bool.and_eq_true, decide_eq_true_eq] at h2
        have := h2.1
        simp only
        omega
      · simp
    · split
      · split
        · rename_i h2
          simp only [Bool.and_eq_true, decide_eq_true_eq] at h2
          have := h2.1
          simp only
          omega
        · simp
      · simp
theorem other_letter (b : UInt8) (h : b.toNat < 128) : otherR b.toNat = !isLetter b := by
  unfold otherR isLetter
  by_cases h1 : 97 ≤ b.toNat
  · by_cases h2 : b.toNat ≤ 122
    · rw [decide_eq_true h1, decide_eq_true h2, decide_eq_false (show ¬ (b.toNat : Int) < 97 by omega), decide_eq_false (show ¬ 122 < (b.toNat : Int) by omega)]; rfl
    · rw [decide_eq_true h1, decide_eq_false h2, decide_eq_false (show ¬ (b.toNat : Int) < 97 by omega), decide_eq_true (show 122 < (b.toNat : Int) by omega)]; rfl
  · rw [decide_eq_false h1, decide_eq_true (show (b.toNat : Int) < 97 by omega)]; rfl
theorem get_at (s : ByteArray) (i : Nat) (h : i < s.size) : s.get! i = s.data.toList[i]'h := by
  show s.data[i]! = _
  rw [getElem!_pos s.data i h]
  simp
theorem other_from (s : ByteArray) : ∀ (f pos : Nat), s.size ≤ pos + f → decide (0 ≤ Lib.idxFuncFrom otherR true s f pos) = !((s.data.toList.drop pos).all isLetter)
  | 0, pos, h => by
    rw [List.drop_eq_nil_of_le (by show s.size ≤ pos; omega)]
    rfl
  | f + 1, pos, h => by
    unfold Lib.idxFuncFrom
    by_cases hp : pos < s.size
    · have hl : pos < s.data.toList.length := hp
      rw [if_pos hp, List.drop_eq_getElem_cons hl, List.all_cons, ← get_at s pos hp]
      by_cases hb : (s.get! pos).toNat < 128
      · rw [decode_small s pos hb]
        simp only
        rw [other_letter _ hb]
        cases hi : isLetter (s.get! pos) with
        | true =>
          rw [if_neg (by simp), Bool.true_and]
          exact other_from s f (pos + 1) (by omega)
        | false =>
          rw [if_pos (by simp), decide_eq_true (by omega)]
          simp
      · rw [if_pos (other_big (decode_big s pos hb)), decide_eq_true (by omega)]
        have : isLetter (s.get! pos) = false := by
          unfold isLetter
          rw [decide_eq_false (show ¬ (s.get! pos).toNat ≤ 122 by omega), Bool.and_false]
        rw [this]
        rfl
    · rw [if_neg hp, List.drop_eq_nil_of_le (by show s.size ≤ pos; omega)]
      rfl
theorem other_name (s : ByteArray) : decide (0 ≤ Lib.idxFunc otherR true s) = !(s.data.toList.all isLetter) := by
  have := other_from s s.size 0 (by omega)
  rw [List.drop_zero] at this
  exact this
end Go.Proofs.YteieikgkmfglaaaGreatDoor.Kd

namespace Go.Proofs.YteieikgkmfglaaaGreatDoor
open Go.RowKit
set_option linter.unusedVariables false

theorem ename1 : ∀ args w, (callFunc 161 args).run Tryz.prog w = .ok (.enter 161 args) w := by
  intro args w
  go_simp
set_option maxHeartbeats 400000 in
theorem other_any (x : Nat) (w : World) :
    Calls Tryz.prog 161 #[.int .i32 (x : Int)] w fun e w' => e = .returned (.bool (Kd.otherR x)) ∧ w' = w := by
  unfold Kd.otherR
  by_cases h1 : (x : Int) < 97
  · go_enter Tryz.func161, Tryz.ntmps161
    go_wp2
    go_ret
    exact ⟨by first | (simp; done) | (simp; omega), rfl⟩
  · by_cases h2 : 122 < (x : Int)
    · go_enter Tryz.func161, Tryz.ntmps161
      go_wp2
      go_ret
      exact ⟨by first | (simp; done) | (simp; omega), rfl⟩
    · go_enter Tryz.func161, Tryz.ntmps161
      go_wp2
      go_ret
      exact ⟨by first | (simp; done) | (simp; omega), rfl⟩
theorem letters_any (s : ByteArray) (w : World) :
    Calls Tryz.prog 163 #[.string s, .func (.func 161) #[] #[]] w fun e w' => e = .returned (.bool (!(s.data.toList.all Kd.isLetter))) ∧ Below w.heap.size w w' := by
  have h := Tryz.strings_ContainsFunc_grows 161 #[] ename1 Kd.otherR s w (fun W x _ _ => (other_any x W).mono fun e w' ⟨h1, h2⟩ => ⟨h1, by rw [h2]; exact Below.refl _ _⟩)
  rw [Kd.other_name s] at h
  exact h

set_option maxHeartbeats 1000000 in
theorem isName_any (s : ByteArray) (w : World) (hb : s.size ≤ 9223372036854775807) :
    Calls Tryz.prog 146 #[.string s] w fun e w' => e = .returned (.bool (Kd.nameOk s.data.toList)) ∧ Below w.heap.size w w' := by
  have L : Hid (∀ w : World, Calls Tryz.prog 163 #[.string s, .func (.func 161) #[] #[]] w fun e w' => e = .returned (.bool (!(s.data.toList.all Kd.isLetter))) ∧ Below w.heap.size w w') := fun w => letters_any s w
  obtain ⟨l, hl⟩ : ∃ l, s.data.toList = l := ⟨_, rfl⟩
  have Ll : Hid (l.length = s.size) := by unfold Hid; rw [← hl]; rfl
  rw [hl] at L ⊢
  clear hl
  by_cases h1 : 1 ≤ s.size ∧ s.size ≤ 8
  · obtain ⟨h2, h3⟩ := h1
    have E : Hid (Kd.nameOk l = l.all Kd.isLetter) := by
      unfold Hid Kd.nameOk
      rw [decide_eq_true (show l.length ≤ 8 by rw [Ll.out]; exact h3), Bool.true_and]
      cases l with
      | nil => have := Ll.out; simp at this; omega
      | cons a r => rfl
    generalize l.all Kd.isLetter = b at *
    rw [E.out]
    clear E
    go_enter Tryz.func146, Tryz.ntmps146
    go_wp2_with (go_at_call 162; refine (kwin_yes _ _ _ _ (by omega) (by omega)).mono ?_; rintro e w' ⟨rfl, hw⟩; obtain rfl := hw.symm)
    refine (L.out _).mono ?_
    rintro e w1 ⟨rfl, b1⟩
    have B1 : Hid (Below w.heap.size w w1) := b1
    clear b1
    go_wp2
    go_ret
    exact ⟨by simp, B1⟩
  · have E : Hid (Kd.nameOk l = false) := by
      unfold Hid Kd.nameOk
      cases l with
      | nil => rfl
      | cons a r =>
        rw [decide_eq_false (show ¬ (a :: r).length ≤ 8 by intro h; have := Ll.out; simp at this h; omega)]
        simp
    rw [E.out]
    go_enter Tryz.func146, Tryz.ntmps146
    go_wp2_with (go_at_call 162; refine (kwin_no _ _ _ _ (by omega)).mono ?_; rintro e w' ⟨rfl, rfl⟩)
    go_ret
    exact ⟨rfl, Below.refl _ _⟩
theorem FstK.none {p : KV → Bool} {ks : List KV} {r : Int} (h : FstK p ks r) : (0 ≤ r ∧ ks.any p = true) ∨ (r = -1 ∧ ks.any p = false) := by
  rcases h with h | ⟨k, x, rfl, h1, h2, _⟩
  · exact .inr h
  · exact .inl ⟨by omega, List.any_eq_true.2 ⟨x, List.mem_of_getElem? h1, h2⟩⟩

set_option maxHeartbeats 2000000 in
theorem ckind_any (v : Value) (ks : List KV) (k : KV) (w : World) (h : Kl w v ks) (hb : k.b.size ≤ 9223372036854775807) :
    Calls Tryz.prog 115 #[v, k.val] w fun e w' => ∃ u, e = .returned u ∧ Er u (Kd.kindFault (ks.map KV.k) k.k) ∧ Below w.heap.size w w' := by
  have K0 : Hid (Kl w v ks) := h
  obtain ⟨a, c, rfl, c1, c2, -⟩ := h
  have NM := isName_any k.b
  have IB := inb_any k
  have KF : Hid (Kd.kindFault (ks.map KV.k) k.k = if Kd.nameOk k.b.data.toList then (if (ks.any fun a => a.k.name == k.b.data.toList) then 8 else Kd.numsFault k.ns) else 2) := by
    unfold Hid Kd.kindFault
    rw [List.any_map]
    rfl
  obtain ⟨R, hR⟩ : ∃ R, Kd.kindFault (ks.map KV.k) k.k = R := ⟨_, rfl⟩
  rw [hR] at KF ⊢
  clear hR
  obtain ⟨kb, n0, n1, n2, n3, n4, n5, n6, n7, kf, kt⟩ := k
  simp only at hb NM KF
  unfold KV.val at IB ⊢
  simp only at IB ⊢
  have NM' : Hid (∀ w : World, kb.size ≤ 9223372036854775807 → Calls Tryz.prog 146 #[.string kb] w fun e w' => e = .returned (.bool (Kd.nameOk kb.data.toList)) ∧ Below w.heap.size w w') := NM
  obtain ⟨F, hF⟩ : ∃ F, Kd.numsFault (KV.ns ⟨kb, n0, n1, n2, n3, n4, n5, n6, n7, kf, kt⟩) = F := ⟨_, rfl⟩
  rw [hF] at IB KF
  have IB' : Hid (∀ w : World, Calls Tryz.prog 148 #[.agg #[.string kb, .int .i64 n0, .int .i64 n1, .int .i64 n2, .int .i64 n3, .int .i64 n4, .int .i64 n5, .int .i64 n6, .int .i64 n7, .bool kf, .bool kt]] w fun e w' => e = .returned (.bool (decide (F = 0))) ∧ Below w.heap.size w w') := IB
  have HF : Hid (F = 0 ∨ F = 1) := by
    unfold Hid
    rw [← hF]
    unfold Kd.numsFault
    split
    · exact .inr rfl
    · split
      · exact .inr rfl
      · exact .inl rfl
  clear NM IB hF
  go_enter Tryz.func115, Tryz.ntmps115
  have B1 : Hid (Below w.heap.size w (w.alloc (Obj.cells #[.string kb, .int .i64 n0, .int .i64 n1, .int .i64 n2, .int .i64 n3, .int .i64 n4, .int .i64 n5, .int .i64 n6, .int .i64 n7, .bool kf, .bool kt] 68))) := (Below.refl _ _).alloc (Nat.le_refl _) _
  have X1 : Hid (Kc (w.alloc (Obj.cells #[.string kb, .int .i64 n0, .int .i64 n1, .int .i64 n2, .int .i64 n3, .int .i64 n4, .int .i64 n5, .int .i64 n6, .int .i64 n7, .bool kf, .bool kt] 68)) ⟨w.heap.size, 0, none⟩ ⟨kb, n0, n1, n2, n3, n4, n5, n6, n7, kf, kt⟩) := Kc.mk' ⟨kb, n0, n1, n2, n3, n4, n5, n6, n7, kf, kt⟩ rfl
  go_wp2_with fail
  generalize w.alloc (Obj.cells #[.string kb, .int .i64 n0, .int .i64 n1, .int .i64 n2, .int .i64 n3, .int .i64 n4, .int .i64 n5, .int .i64 n6, .int .i64 n7, .bool kf, .bool kt] 68) = w1 at *
  refine (NM'.out _ hb).mono ?_
  rintro e w2 ⟨rfl, b2⟩
  have B2 : Hid (Below w.heap.size w w2) := B1.out.trans (b2.mono B1.out.size)
  have X2 : Hid (Kc w2 ⟨w.heap.size, 0, none⟩ ⟨kb, n0, n1, n2, n3, n4, n5, n6, n7, kf, kt⟩) := X1.out.below b2 X1.out.lt
  clear b2 X1 NM'
  cases hn : Kd.nameOk kb.data.toList with
  | false =>
    have E : Hid (R = 2) := by unfold Hid; rw [KF.out, hn]; rfl
    clear hn
    go_wp2
    go_ret
    exact ⟨_, rfl, by rw [E.out]; exact Er.no (by decide), B2⟩
  | true =>
    have KF2 : Hid (R = if (ks.any fun a => a.k.name == kb.data.toList) then 8 else F) := by unfold Hid; rw [KF.out, hn]; rfl
    clear hn KF
    have x0 : w2.cell? ⟨w.heap.size, 0, none⟩ = some (.string kb) := X2.out.c0
    go_wp2_with fail
    refine (find_any _ ks kb _ (K0.out.below B2.out)).mono ?_
    rintro e w3 ⟨r, rfl, hr, b3⟩
    have B3 : Hid (Below w.heap.size w w3) := B2.out.trans (b3.mono B2.out.size)
    have X3 : Hid (Kc w3 ⟨w.heap.size, 0, none⟩ ⟨kb, n0, n1, n2, n3, n4, n5, n6, n7, kf, kt⟩) := X2.out.below b3 X2.out.lt
    clear b3 X2 x0
    rcases hr.none with ⟨h0, ha⟩ | ⟨h0, ha⟩
    · have E : Hid (R = 8) := by unfold Hid; rw [KF2.out, if_pos ha]
      clear ha hr
      go_wp2
      go_ret
      exact ⟨_, rfl, by rw [E.out]; exact Er.no (by decide), B3⟩
    · have E : Hid (R = F) := by unfold Hid; rw [KF2.out, if_neg (by rw [ha]; decide)]
      clear ha hr
      subst h0
      obtain ⟨x0, x1, x2, x3, x4, x5, x6, x7, x8, x9, x10⟩ := X3.out
      have x1 : w3.cell? ⟨w.heap.size, 1, none⟩ = some (.int .i64 n0) := x1
      have x2 : w3.cell? ⟨w.heap.size, 2, none⟩ = some (.int .i64 n1) := x2
      have x3 : w3.cell? ⟨w.heap.size, 3, none⟩ = some (.int .i64 n2) := x3
      have x4 : w3.cell? ⟨w.heap.size, 4, none⟩ = some (.int .i64 n3) := x4
      have x5 : w3.cell? ⟨w.heap.size, 5, none⟩ = some (.int .i64 n4) := x5
      have x6 : w3.cell? ⟨w.heap.size, 6, none⟩ = some (.int .i64 n5) := x6
      have x7 : w3.cell? ⟨w.heap.size, 7, none⟩ = some (.int .i64 n6) := x7
      have x8 : w3.cell? ⟨w.heap.size, 8, none⟩ = some (.int .i64 n7) := x8
      have x9 : w3.cell? ⟨w.heap.size, 9, none⟩ = some (.bool kf) := x9
      have x10 : w3.cell? ⟨w.heap.size, 10, none⟩ = some (.bool kt) := x10
      go_wp2_with fail
      refine (IB'.out _).mono ?_
      rintro e w4 ⟨rfl, b4⟩
      have B4 : Hid (Below w.heap.size w w4) := B3.out.trans (b4.mono B3.out.size)
      clear b4 IB' x0 x1 x2 x3 x4 x5 x6 x7 x8 x9 x10
      rcases HF.out with hF | hF
      · rw [hF]
        have E2 : Hid (R = 0) := by unfold Hid; rw [E.out, hF]
        go_wp2
        go_ret
        exact ⟨_, rfl, by rw [E2.out]; exact Er.nil, B4⟩
      · rw [hF]
        have E2 : Hid (R = 1) := by unfold Hid; rw [E.out, hF]
        go_wp2
        go_ret
        exact ⟨_, rfl, by rw [E2.out]; exact Er.no (by decide), B4⟩
end Go.Proofs.YteieikgkmfglaaaGreatDoor

