/- The walk of ScoreTells, out of the contracts of what it calls. -/
import Derived.Test.YtamgjhehnblbgaaDoorZScoreTells3
import Derived.Test.YtamgjhehnblbgaaDoorZScoreTells4
namespace Go.Proofs.YtamgjhehnblbgaaDoor
theorem Sc.won_none2 {us : List UnV} (h : us = []) : Sc.won us = (0, false) := by subst h; rfl
def Sc.want (ks : List KV) (X : WV) (r : Int) : List Int := if r = 0 then Sc.points ks X else []
theorem Sc.want_zero (ks : List KV) (X : WV) : Sc.want ks X 0 = Sc.points ks X := if_pos rfl
theorem Sc.want_no (ks : List KV) (X : WV) {r : Int} (h : r ≠ 0) : Sc.want ks X r = [] := if_neg h
def Sc.upto (us : List UnV) (p : Int) (n : Nat) : Bool := decide (0 < us.length) && (us.take n).all (fun x => decide (x.player = p))
theorem Sc.upto_zero (us : List UnV) (p : Int) : Sc.upto us p 0 = decide (0 < us.length) := by unfold Sc.upto; simp
theorem Sc.upto_next {us : List UnV} {p : Int} {n : Nat} {x : UnV} (h : us[n]? = some x) : Sc.upto us p (n + 1) = (Sc.upto us p n && decide (x.player = p)) := by
  unfold Sc.upto
  rw [List.take_add_one, h]
  simp [Bool.and_assoc]
theorem Sc.upto_end {us : List UnV} {u : UnV} (h : us[0]? = some u) : Sc.won us = (if Sc.upto us u.player us.length = true then u.player else 0, Sc.upto us u.player us.length) := by
  cases us with
  | nil => simp at h
  | cons y l =>
    simp at h
    subst h
    unfold Sc.won Sc.upto
    rw [List.take_of_length_le (Nat.le_refl _)]
    simp only [List.length_cons, Nat.zero_lt_succ, decide_true, Bool.true_and]
    split
    · rename_i h; rw [h]
    · rename_i h; rw [Bool.not_eq_true] at h; rw [h]
end Go.Proofs.YtamgjhehnblbgaaDoor
namespace Go.Proofs.YtamgjhehnblbgaaDoor.scoreTells
open Go.RowKit
set_option linter.unusedVariables false

set_option maxRecDepth 100000 in
set_option maxHeartbeats 64000000 in
theorem walk (vk : Value) (ks : List KV) (vw : Value) (X : WV) (vp : Value) (ps : List Int) (w : World)
    (h0 : Kl w vk ks ∧ ∀ k ∈ ks, k.b.size ≤ maxLen) (h1 : Wl w vw X ∧ ∀ n ∈ Wd.nums X, Wd.In64 n) (h2 : Ro w vp ps) (hg : Et w) :
    Calls Tryd.prog 4 #[vk, vw, vp] w fun e w' => e = .returned (.bool true) ∧ Below w.heap.size w w' := by
  have K : Hid (Kl w vk ks ∧ ∀ k ∈ ks, k.b.size ≤ 9223372036854775807) := ⟨h0.1, fun k hk => by have := h0.2 k hk; unfold maxLen at this; omega⟩
  have ET : Hid (Et w) := hg
  obtain ⟨hw, -⟩ := h1
  have W0 : Hid (Wl w vw X) := hw
  have PS : Hid (∀ V, Below w.heap.size w V → Ro V vp ps) := fun V hV => h2.below hV
  obtain ⟨v1, v2, v3, v4, v5, rfl, r1, r2, hgo, hu, r5⟩ := hw
  have UL : Hid (∀ V, Below w.heap.size w V → Unl V v4 X.us) := fun V hV => hu.below hV
  have GL : Hid (∀ V, Below w.heap.size w V → Ro V v3 X.gold) := fun V hV => hgo.below hV
  obtain ⟨au, cu, rfl, cu1, cu2, -⟩ := hu
  obtain ⟨ag, cg, rfl, cg1, cg2, -⟩ := hgo
  obtain ⟨ap, cp, rfl, cp1, cp2, -⟩ := h2
  clear r1 r2 r5 h0 hg
  obtain ⟨fx, hfx⟩ : ∃ f, Wd.wfault ks X = f := ⟨_, rfl⟩
  have FX : Hid (Wd.wfault ks X = fx) := hfx
  have PF : Hid (fx = 0 → PFit ks X) := fun h => pfit_of (by rw [hfx, h])
  clear hfx
  go_enter Tryd.func4, Tryd.ntmps4
  obtain ⟨z, hz⟩ : ∃ z, w.heap.size = z := ⟨_, rfl⟩
  have HZ : Hid (w.heap.size = z) := hz
  have X0 : Hid (Bw (w.alloc (Obj.cells #[.int .i64 X.turn, .int .i64 X.next, .int .i64 X.wide, .int .i64 X.high, v1, v2, .slice ag X.gold.length cg, .slice au X.us.length cu, v5] 37)) z X (v1) (v2) (.slice ag X.gold.length cg) (.slice au X.us.length cu) (v5)) := Bw.mk' (w := w) X v1 v2 (.slice ag X.gold.length cg) (.slice au X.us.length cu) v5 hz
  have B0 : Hid (Below w.heap.size w (w.alloc (Obj.cells #[.int .i64 X.turn, .int .i64 X.next, .int .i64 X.wide, .int .i64 X.high, v1, v2, .slice ag X.gold.length cg, .slice au X.us.length cu, v5] 37))) := (Below.refl _ _).alloc (Nat.le_refl _) _
  go_upto_region 1 with fail
  clear hz
  generalize (w.alloc (Obj.cells #[.int .i64 X.turn, .int .i64 X.next, .int .i64 X.wide, .int .i64 X.high, v1, v2, .slice ag X.gold.length cg, .slice au X.us.length cu, v5] 37)) = w1 at *
  obtain ⟨x0, x1, x2, x3, x4, x5, x6, x7, x8⟩ := X0.out
  go_wp2_with fail
  refine (rcheck_any _ _ ks X w1 (K.out.1.below B0.out) K.out.2 (W0.out.below B0.out)).mono ?_
  rintro e w2 ⟨r, rfl, hr, b2⟩
  rw [FX.out] at hr
  subst hr
  have C2 : Hid ((Below w.heap.size w w2 ∧ Bw w2 z X (v1) (v2) (.slice ag X.gold.length cg) (.slice au X.us.length cu) (v5))) := ⟨B0.out.trans (b2.mono B0.out.size), X0.out.below b2 X0.out.lt⟩
  clear b2 x0 x1 x2 x3 x4 x5 x6 x7 x8 X0 B0
  go_upto_if 32 with fail
  go_cut [7, 8] (fun v7 v8 V => v7 = .int .i64 r ∧ ∃ q8, q8 = v8 ∧ Ro V q8 (Sc.want ks X r) ∧ (Below w.heap.size w V ∧ Bw V z X (v1) (v2) (.slice ag X.gold.length cg) (.slice au X.us.length cu) (v5)))
  case first =>
    by_cases hr : r = 0
    case neg =>
      have hb : (r == 0) = false := by simpa using hr
      go_wp2_with fail
      go_meet
      case rel => exact ⟨rfl, _, rfl, by rw [Sc.want_no _ _ hr]; exact ⟨none, 0, rfl, Nat.le_refl _, by omega, fun h => absurd rfl h⟩, C2.out⟩
    case pos =>
      subst hr
      have F : Hid (PFit ks X) := PF.out rfl
      have x7 := C2.out.2.c7
      go_wp2_with fail
      refine (ref_worth _ ks _ X.us w2 (K.out.1.below C2.out.1) K.out.2 (UL.out w2 C2.out.1)).mono ?_
      rintro e w3 ⟨r, u, rfl, b3, hr⟩
      have C3 : Hid ((Below w.heap.size w w3 ∧ Bw w3 z X (v1) (v2) (.slice ag X.gold.length cg) (.slice au X.us.length cu) (v5))) := ⟨C2.out.1.trans (b3.mono C2.out.1.size), C2.out.2.below b3 C2.out.2.lt⟩
      clear b3 x7
      rcases hr with ⟨h, -⟩ | ⟨-, h, -⟩ | ⟨-, -, h, -⟩ | ⟨-, -, -, hr, rfl⟩
      · exact absurd F.out.k h
      · have := F.out.ul; omega
      · rw [F.out.bad] at h; cases h
      have lw : (worths ks X.us).length = 4 := rfl
      obtain ⟨ar, cr, rfl, -, -, hwc⟩ := hr
      obtain ⟨xr, rfl, hxl, hxr⟩ := hwc (by simp [worths])
      have WC : Hid (xr.block < w3.heap.size ∧ ∀ (i : Nat) d, (worths ks X.us)[i]? = some d → w3.cell? (xr.add i) = some (.int .i64 d)) := ⟨hxl, hxr⟩
      rw [lw]
      clear hwc hxl hxr lw
      have gl := F.out.gl
      have x6 := C3.out.2.c6
      obtain ⟨b, hb⟩ : ∃ b, w3.heap.size = b := ⟨_, rfl⟩
      have HB : Hid (w3.heap.size = b) := hb
      clear hb
      go_wp2_with fail
      clear x6
      go_loopw [8, 11] (fun v8 j V => ∃ n : Nat, n ≤ X.gold.length ∧ j = .int .i64 (n : Nat) ∧ ∃ q8, q8 = v8 ∧ Ow V b q8 ((Sc.points ks X).take n) ∧ Below b w3 V) (fun _ j _ => X.gold.length - (intOf j).toNat)
      case atStart => exact ⟨0, Nat.zero_le _, rfl, _, rfl, Ow.nil _ _, by rw [← HB.out]; exact Below.refl _ _⟩
      case round =>
        obtain ⟨n, hn, rfl, q8, rfl, ho, hB⟩ := hrel
        have OW : Hid (Ow wr b q8 ((Sc.points ks X).take n)) := ho
        have BB : Hid (Below b w3 wr) := hB
        have CR : Hid ((Below w.heap.size w wr ∧ Bw wr z X (v1) (v2) (.slice ag X.gold.length cg) (.slice au X.us.length cu) (v5))) := by
          have hB' := hB
          rw [← HB.out] at hB'
          exact ⟨C3.out.1.trans (hB'.mono C3.out.1.size), C3.out.2.below hB' C3.out.2.lt⟩
        clear ho hB
        have x6 := CR.out.2.c6
        by_cases hne : n = X.gold.length
        · subst hne
          go_wp2_with fail
          go_meet
          case rel =>
            refine ⟨rfl, _, rfl, ?_, CR.out⟩
            rw [Sc.want_zero]
            have := OW.out.ro
            rw [List.take_of_length_le (by rw [Sc.points_len gl]; exact Nat.le_refl _)] at this
            exact this
        · have hnl : n < X.gold.length := by omega
          have hnl' : (n : Int) < (X.gold.length : Int) := by omega
          have hn4 : (n : Int) < 4 := by omega
          obtain ⟨g, hg⟩ : ∃ g, X.gold[n]? = some g := ⟨_, List.getElem?_eq_getElem hnl⟩
          obtain ⟨x, hx⟩ := F.out.wl n hnl
          have gb := F.out.gold g (List.mem_of_getElem? hg)
          have xb := F.out.worth n x hx
          have PG : Hid ((Sc.points ks X).take (n + 1) = (Sc.points ks X).take n ++ [g + 10 * x]) := by
            unfold Hid; rw [List.take_add_one, Sc.points_get hg hx]; rfl
          obtain ⟨a', c', e', -, -, hy⟩ := GL.out w3 C3.out.1
          injection e' with e1 e2 e3
          subst e1 e3
          obtain ⟨y, rfl, hyl, hy⟩ := hy (by rintro hn; rw [hn] at hnl; simp at hnl)
          have CB : Hid (∀ V, Below b w3 V → ((fun V => V.cell? ⟨z, 6, none⟩ = some (.slice (some y) X.gold.length cg) ∧ V.cell? (y.add n) = some (.int .i64 g) ∧ V.cell? (xr.add n) = some (.int .i64 x)) V)) := fun V hV => by
            rw [← HB.out] at hV
            exact ⟨(C3.out.2.below hV C3.out.2.lt).c6, by rw [hV.cell (by rw [add_block]; exact hyl)]; exact hy n g hg, by rw [hV.cell (by rw [add_block]; exact WC.out.1)]; exact WC.out.2 n x hx⟩
          have w10 : IntKind.i64.wrap (10 * x) = 10 * x := by rw [IntKind.wrap_i64]; omega
          have wgx : IntKind.i64.wrap (g + 10 * x) = g + 10 * x := by rw [IntKind.wrap_i64]; omega
          have PN : Hid (((Sc.points ks X).take n).length ≤ 4) := by unfold Hid; rw [List.length_take, Sc.points_len gl]; omega
          clear hy hyl hg hx e2
          go_upto_region 9 with fail
          clear x6
          have BD : Hid (Below b w3 { wr with drawn := wr.drawn + 1 }) := BB.out.drew
          have OD : Hid (Ow { wr with drawn := wr.drawn + 1 } b q8 ((Sc.points ks X).take n)) := OW.out.drewN 1
          refine wp_region_two [(true, 0), (true, 1), (true, 2), (true, 3), (true, 4), (true, 5), (true, 6), (true, 7), (true, 8), (true, 9), (true, 10), (true, 11), (false, 12), (false, 13)] [(false, 14)] (fun V => V.cell? ⟨z, 6, none⟩ = some (.slice (some y) X.gold.length cg) ∧ V.cell? (y.add n) = some (.int .i64 g) ∧ V.cell? (xr.add n) = some (.int .i64 x)) (by kernel_rfl) (by kernel_rfl) (by kernel_rfl) (by decide +kernel) (by decide +kernel) (CB.out _ BD.out) ?_
          generalize ({ wr with drawn := wr.drawn + 1 } : World) = w6 at *
          refine headT_read rfl (q8) (by go_simp) (fun V hV => by go_simp) ?_
          go_simp
          refine headT_read rfl (.pointer (some ⟨z, 6, none⟩)) (by go_simp) (fun V hV => by go_simp) ?_
          go_simp
          refine headT_read rfl (.slice (some y) X.gold.length cg) (by go_simp) (fun V hV => by obtain ⟨d1, d2, d3⟩ := hV; go_simp) ?_
          go_simp
          refine headT_read rfl (.int .i64 (n : Nat)) (by go_simp) (fun V hV => by go_simp) ?_
          go_simp
          refine headT_read rfl (.pointer (some (y.add n))) (by go_simp) (fun V hV => by go_simp) ?_
          go_simp
          refine headT_read rfl (.int .i64 g) (by go_simp) (fun V hV => by obtain ⟨d1, d2, d3⟩ := hV; go_simp) ?_
          go_simp
          refine headT_read rfl (.slice (some xr) 4 cr) (by go_simp) (fun V hV => by go_simp) ?_
          go_simp
          refine headT_read rfl (.int .i64 (n : Nat)) (by go_simp) (fun V hV => by go_simp) ?_
          go_simp
          refine headT_read rfl (.pointer (some (xr.add n))) (by go_simp) (fun V hV => by go_simp) ?_
          go_simp
          refine headT_read rfl (.int .i64 x) (by go_simp) (fun V hV => by obtain ⟨d1, d2, d3⟩ := hV; go_simp) ?_
          go_simp
          refine headT_read rfl (.int .i64 (10 * x)) (by go_simp) (fun V hV => by go_simp) ?_
          go_simp
          refine headT_read rfl (.int .i64 (g + 10 * x)) (by go_simp) (fun V hV => by go_simp) ?_
          go_simp
          have BA : Hid (Below w6.heap.size w6 (w6.alloc (Obj.cells #[.int .i64 (g + 10 * x)] 3))) := (Below.refl _ _).alloc (Nat.le_refl _) _
          have S6 : Hid (b ≤ w6.heap.size) := by have := BD.out.size; have := HB.out; unfold Hid; omega
          have CE : Hid ((w6.alloc (Obj.cells #[.int .i64 (g + 10 * x)] 3)).cell? ⟨w6.heap.size, 0, none⟩ = some (.int .i64 (g + 10 * x))) := by unfold Hid; simp
          refine headT_value rfl (.slice (some ⟨w6.heap.size, 0, none⟩) 1 1) (w6.alloc (Obj.cells #[.int .i64 (g + 10 * x)] 3)) (by go_simp) (by go_simp) (CB.out _ (BD.out.trans (BA.out.mono S6.out))) ?_
          go_simp
          have O7 : Hid (Ow (w6.alloc (Obj.cells #[.int .i64 (g + 10 * x)] 3)) b q8 ((Sc.points ks X).take n)) := OD.out.alloc _
          have B7 : Hid (Below b w3 (w6.alloc (Obj.cells #[.int .i64 (g + 10 * x)] 3))) := BD.out.trans (BA.out.mono S6.out)
          have S7 : Hid (b ≤ (w6.alloc (Obj.cells #[.int .i64 (g + 10 * x)] 3)).heap.size) := Nat.le_trans S6.out BA.out.size
          generalize (w6.alloc (Obj.cells #[.int .i64 (g + 10 * x)] 3)) = w7 at *
          obtain ⟨gg, gc, w8, hr, ho8, hg8, -, -⟩ := run_int w7 31 b q8 _ O7.out _ _ CE.out (by have := PN.out; omega) S7.out
          have BG : Hid (Below b w7 w8) := (Below.refl _ _).grown hg8 S7.out (fun k hk => (O7.out.block k hk).1)
          have B8 : Hid (Below b w3 w8) := B7.out.trans BG.out
          have O8 : Hid (Ow w8 b (.slice (some ⟨gg, 0, none⟩) (((Sc.points ks X).take n).length + 1) gc) ((Sc.points ks X).take (n + 1))) := by unfold Hid; rw [PG.out]; exact ho8
          generalize ((Sc.points ks X).take n).length = ln at *
          refine headT_value rfl (.slice (some ⟨gg, 0, none⟩) (ln + 1) gc) w8 (by go_simp) (exec_append _ _ _ _ rfl _ _ (by go_simp) (by go_simp) hr) (CB.out _ B8.out) ?_
          clear hr ho8 hg8
          go_simp
          unfold wpHeadT
          refine sched_value rfl (.slice (some ⟨gg, 0, none⟩) (ln + 1) gc) w8 (by go_simp) (by go_simp) trivial ?_
          go_simp
          unfold wpSched
          go_wp2
          go_round
          case rel => exact ⟨n + 1, by omega, by go_num, _, rfl, O8.out, B8.out⟩
          case measure => simp [intOf]; omega
  case rest =>
    obtain ⟨rfl, q8, rfl, hv8, hC⟩ := hcut
    have CC : Hid ((Below w.heap.size w wc ∧ Bw wc z X (v1) (v2) (.slice ag X.gold.length cg) (.slice au X.us.length cu) (v5))) := hC
    have WT : Hid (Ro wc q8 (Sc.want ks X r)) := hv8
    clear hC hv8 C2
    generalize wc = w3 at *
    obtain ⟨x0, x1, x2, x3, x4, x5, x6, x7, x8⟩ := CC.out.2
    go_wp2_with fail
    clear x0 x1 x2 x3 x4 x5 x6 x7 x8
    refine (points_any _ _ ks X w3 (K.out.1.below CC.out.1) K.out.2 (W0.out.below CC.out.1)).mono ?_
    rintro e w4 ⟨rp, ue, rfl, b4, hp⟩
    rw [FX.out] at hp
    have C4 : Hid ((Below w.heap.size w w4 ∧ Bw w4 z X (v1) (v2) (.slice ag X.gold.length cg) (.slice au X.us.length cu) (v5))) := ⟨CC.out.1.trans (b4.mono CC.out.1.size), CC.out.2.below b4 CC.out.2.lt⟩
    have WT4 : Hid (Ro w4 q8 (Sc.want ks X r)) := WT.out.below b4
    have RP : Hid (Ro w4 rp (Sc.want ks X r)) := by
      unfold Hid
      rcases hp with ⟨h, hp, -⟩ | ⟨h, hp, -⟩
      · rw [Sc.want_no _ _ h]; exact hp
      · rw [h, Sc.want_zero]; exact hp
    have EE : Hid (Er ue r) := by
      unfold Hid
      rcases hp with ⟨h, -, hp⟩ | ⟨h, -, hp⟩
      · exact hp
      · rw [h]; exact hp
    clear hp b4 WT CC
    go_wp2_with fail
    refine (er_same ue r w4 EE.out (ET.out.below C4.out.1)).mono ?_
    rintro e w5 ⟨rfl, b5⟩
    have C5 : Hid ((Below w.heap.size w w5 ∧ Bw w5 z X (v1) (v2) (.slice ag X.gold.length cg) (.slice au X.us.length cu) (v5))) := ⟨C4.out.1.trans (b5.mono C4.out.1.size), C4.out.2.below b5 C4.out.2.lt⟩
    have WT5 : Hid (Ro w5 q8 (Sc.want ks X r)) := WT4.out.below b5
    have RP5 : Hid (Ro w5 rp (Sc.want ks X r)) := RP.out.below b5
    clear b5 WT4 RP C4
    go_wp2_with fail
    refine (ints_like _ _ _ w5 RP5.out WT5.out).mono ?_
    rintro e w6 ⟨rfl, b6⟩
    have C6 : Hid ((Below w.heap.size w w6 ∧ Bw w6 z X (v1) (v2) (.slice ag X.gold.length cg) (.slice au X.us.length cu) (v5))) := ⟨C5.out.1.trans (b6.mono C5.out.1.size), C5.out.2.below b6 C5.out.2.lt⟩
    clear b6 WT5 RP5 C5
    have x7 := C6.out.2.c7
    obtain ⟨p0, hp0⟩ : ∃ p0, ∀ u, X.us[0]? = some u → u.player = p0 := by
      cases hh : X.us[0]? with
      | none => exact ⟨0, fun u hu => by cases hu⟩
      | some u => exact ⟨u.player, fun v hv => by injection hv with hv; rw [hv]⟩
    have HP : Hid (∀ u, X.us[0]? = some u → u.player = p0) := hp0
    have WN : Hid (Sc.won X.us = (if Sc.upto X.us p0 X.us.length = true then p0 else 0, Sc.upto X.us p0 X.us.length)) := by
      unfold Hid
      by_cases hh : X.us = []
      · rw [hh]; rfl
      · obtain ⟨u, hu⟩ : ∃ u, X.us[0]? = some u := ⟨_, List.getElem?_eq_getElem (List.length_pos_iff.2 hh)⟩
        rw [← hp0 u hu]
        exact Sc.upto_end hu
    obtain ⟨lb, hlb⟩ : ∃ lb, decide (0 < X.us.length) = lb := ⟨_, rfl⟩
    have LB : Hid (decide (0 < X.us.length) = lb) := hlb
    have lbi : decide ((0 : Int) < (X.us.length : Int)) = lb := by rw [← hlb]; exact decide_eq_decide.2 (by omega)
    clear hp0
    go_wp2_with fail
    clear x7 lbi
    go_loopw [16, 18] (fun v16 j V => ∃ n : Nat, n ≤ X.us.length ∧ j = .int .i64 (n : Nat) ∧ ∃ bb : Bool, v16 = .bool bb ∧ bb = Sc.upto X.us p0 n ∧ Below w6.heap.size w6 V) (fun _ j _ => X.us.length - (intOf j).toNat)
    case atStart => exact ⟨0, Nat.zero_le _, rfl, lb, by first | rfl | (rw [← LB.out]; simp), by rw [Sc.upto_zero]; exact LB.out.symm, Below.refl _ _⟩
    case round =>
      obtain ⟨n, hn, rfl, bb, rfl, hbb, hB⟩ := hrel
      have BV : Hid (bb = Sc.upto X.us p0 n) := hbb
      have C7 : Hid ((Below w.heap.size w wr ∧ Bw wr z X (v1) (v2) (.slice ag X.gold.length cg) (.slice au X.us.length cu) (v5))) := ⟨C6.out.1.trans (hB.mono C6.out.1.size), C6.out.2.below hB C6.out.2.lt⟩
      have B7 : Hid (Below w6.heap.size w6 wr) := hB
      clear hbb hB
      have x7 := C7.out.2.c7
      by_cases hne : n = X.us.length
      case neg =>
        have hnl : n < X.us.length := by omega
        have hnl' : (n : Int) < (X.us.length : Int) := by omega
        have h0l : (0 : Int) < (X.us.length : Int) := by omega
        obtain ⟨x, hx⟩ : ∃ x, X.us[n]? = some x := ⟨_, List.getElem?_eq_getElem hnl⟩
        obtain ⟨u, hu⟩ : ∃ u, X.us[0]? = some u := ⟨_, List.getElem?_eq_getElem (by omega)⟩
        obtain ⟨a', c', e', -, -, hy⟩ := UL.out wr C7.out.1
        injection e' with e1 e2 e3
        subst e1 e3
        obtain ⟨xu, rfl, -, hy⟩ := hy (by rintro hh; rw [hh] at hnl; simp at hnl)
        have y1 := (hy n x hx).c1
        have y0 : wr.cell? ⟨xu.block, xu.off + 1, none⟩ = some (.int .i64 p0) := by rw [← HP.out u hu]; exact (hy 0 u hu).c1
        have NX : Hid (Sc.upto X.us p0 (n + 1) = (bb && decide (x.player = p0))) := by unfold Hid; rw [Sc.upto_next hx, ← BV.out]
        clear hy hx hu e2
        obtain ⟨q, hq⟩ : ∃ q, x.player = q := ⟨_, rfl⟩
        rw [hq] at y1 NX
        clear hq
        go_upto_region 18 with fail
        have DD : bb = false ∨ (bb = true ∧ q = p0) ∨ (bb = true ∧ q ≠ p0) := by
          cases bb
          · exact .inl rfl
          · by_cases h : q = p0
            · exact .inr (.inl ⟨rfl, h⟩)
            · exact .inr (.inr ⟨rfl, h⟩)
        rcases DD with rfl | ⟨rfl, rfl⟩ | ⟨rfl, hqp⟩
        · have N1 : Hid (Sc.upto X.us p0 (n + 1) = false) := by unfold Hid; rw [NX.out]; rfl
          go_quiet (fail)
          have D6 : Hid (Below wr.heap.size wr (wr.drewN nq)) := ⟨rfl, rfl, rfl, Nat.le_refl _, fun _ _ => rfl⟩
          generalize wr.drewN nq = wn at *
          go_wp2
          go_round
          case rel => exact ⟨n + 1, by omega, by go_num, _, rfl, N1.out.symm, B7.out.trans (D6.out.mono B7.out.size)⟩
          case measure => simp [intOf]; omega
        · have N1 : Hid (Sc.upto X.us q (n + 1) = true) := by unfold Hid; rw [NX.out]; simp
          go_quiet (fail)
          have D6 : Hid (Below wr.heap.size wr (wr.drewN nq)) := ⟨rfl, rfl, rfl, Nat.le_refl _, fun _ _ => rfl⟩
          generalize wr.drewN nq = wn at *
          go_wp2
          go_round
          case rel => exact ⟨n + 1, by omega, by go_num, _, rfl, by rw [N1.out]; try rfl, B7.out.trans (D6.out.mono B7.out.size)⟩
          case measure => simp [intOf]; omega
        · have N1 : Hid (Sc.upto X.us p0 (n + 1) = false) := by unfold Hid; rw [NX.out, decide_eq_false hqp]; rfl
          have hqb : (q == p0) = false := by rw [beq_eq_false_iff_ne]; exact hqp
          go_quiet (fail)
          have D6 : Hid (Below wr.heap.size wr (wr.drewN nq)) := ⟨rfl, rfl, rfl, Nat.le_refl _, fun _ _ => rfl⟩
          generalize wr.drewN nq = wn at *
          go_wp2
          go_round
          case rel => exact ⟨n + 1, by omega, by go_num, _, rfl, by rw [N1.out], B7.out.trans (D6.out.mono B7.out.size)⟩
          case measure => simp [intOf]; omega
      case pos =>
        have W2 : Hid (Sc.won X.us = (if bb = true then p0 else 0, bb)) := by unfold Hid; rw [WN.out, BV.out, hne]
        have BL : Hid (bb = true → 0 < X.us.length) := fun h => by
          have h9 := BV.out
          rw [h] at h9
          unfold Sc.upto at h9
          simp at h9
          exact h9.1
        subst hne
        clear WN BV hlb LB
        generalize wr = w7 at *
        obtain ⟨wp, hwp⟩ : ∃ p, (if bb = true then p0 else 0) = p := ⟨_, rfl⟩
        have WP : Hid ((if bb = true then p0 else 0) = wp) := hwp
        rw [hwp] at W2
        clear hwp
        go_upto_if 104 with fail
        go_cut [17] (fun v17 V => v17 = .int .i64 wp ∧ V = w7)
        case first =>
          cases bb with
          | false =>
            obtain rfl : 0 = wp := WP.out
            go_wp2_with fail
            go_meet
            case rel => exact ⟨rfl, rfl⟩
          | true =>
            obtain rfl : p0 = wp := WP.out
            have h0n := BL.out rfl
            have h0l : (0 : Int) < (X.us.length : Int) := by omega
            obtain ⟨u, hu⟩ : ∃ u, X.us[0]? = some u := ⟨_, List.getElem?_eq_getElem h0n⟩
            obtain ⟨a', c', e', -, -, hy⟩ := UL.out w7 C7.out.1
            injection e' with e1 e2 e3
            subst e1 e3
            obtain ⟨xu, rfl, -, hy⟩ := hy (by rintro hh; rw [hh] at h0n; simp at h0n)
            have y0 : w7.cell? ⟨xu.block, xu.off + 1, none⟩ = some (.int .i64 p0) := by rw [← HP.out u hu]; exact (hy 0 u hu).c1
            clear hy hu e2
            go_wp2_with fail
            go_meet
            case rel => exact ⟨rfl, rfl⟩
        case rest =>
          obtain ⟨rfl, hwc⟩ := hcut
          have C8 : Hid ((Below w.heap.size w wc ∧ Bw wc z X (v1) (v2) (.slice ag X.gold.length cg) (.slice au X.us.length cu) (v5))) := by rw [hwc]; exact C7.out
          clear hwc C7 B7 C6 x7
          generalize wc = w8 at *
          obtain ⟨x0, x1, x2, x3, x4, x5, x6, x7, x8⟩ := C8.out.2
          go_wp2_with fail
          clear x0 x1 x2 x3 x4 x5 x6 x7 x8
          refine (winner_any _ X w8 (W0.out.below C8.out.1)).mono ?_
          rintro e w9 ⟨rfl, b9⟩
          have B9 : Hid (Below w.heap.size w w9) := C8.out.1.trans (b9.mono C8.out.1.size)
          rw [W2.out]
          simp only
          clear b9 C8 W2 WP BL
          obtain ⟨e2, he2⟩ : ∃ e : Int, (if 200 < ps.length then 4 else 0) = e := ⟨_, rfl⟩
          have HE : Hid ((if 200 < ps.length then (4 : Int) else 0) = e2) := he2
          clear he2
          go_upto_if 117 with fail
          go_cut [7] (fun v7 V => v7 = .int .i64 e2 ∧ V = w9)
          case first =>
            by_cases h2 : 200 < ps.length
            · have h2' : (200 : Int) < (ps.length : Int) := by omega
              have E4 : e2 = 4 := by rw [← HE.out, if_pos h2]
              subst E4
              go_wp2_with fail
              go_meet
              case rel => exact ⟨rfl, rfl⟩
            · have h2' : ¬ (200 : Int) < (ps.length : Int) := by omega
              have E4 : e2 = 0 := by rw [← HE.out, if_neg h2]
              subst E4
              go_wp2_with fail
              go_meet
              case rel => exact ⟨rfl, rfl⟩
          case rest =>
            obtain ⟨rfl, hwc⟩ := hcut
            have B10 : Hid (Below w.heap.size w wc) := by rw [hwc]; exact B9.out
            clear hwc B9
            generalize wc = w10 at *
            by_cases h2 : 200 < ps.length
            · have E4 : e2 = 4 := by rw [← HE.out, if_pos h2]
              subst E4
              clear HE
              go_wp2_with fail
              go_loopw [21, 22] (fun v21 j V => v21 = .slice none 0 0 ∧ j = .int .i64 0 ∧ V = w10) (fun _ _ _ => 0)
              case atStart => exact ⟨rfl, rfl, rfl⟩
              case round =>
                obtain ⟨rfl, rfl, hV⟩ := hrel
                have B11 : Hid (Below w.heap.size w wr) := by rw [hV]; exact B10.out
                clear hV
                have h0p : (0 : Int) < (ps.length : Int) := by omega
                generalize wr = w11 at *
                go_wp2_with fail
                refine (rank_any _ ps w11 (PS.out w11 B11.out)).mono ?_
                rintro e w12 ⟨rr, ue, rfl, b12, hr⟩
                have B13 : Hid (Below w.heap.size w w12) := B11.out.trans (b12.mono B11.out.size)
                rcases hr with ⟨h9, hr, he⟩ | ⟨h9, hr, he⟩
                · have RL : Hid (Ro w11 (.slice none 0 0) []) := ⟨none, 0, rfl, Nat.le_refl _, by omega, fun h => absurd rfl h⟩
                  have RR : Hid (Ro w12 rr ([])) := hr
                  have RL2 : Hid (Ro w12 (.slice none 0 0) ([])) := RL.out.below b12
                  have EE : Hid (Er ue 4) := he
                  clear hr he b12 h9
                  go_wp2_with fail
                  refine (er_same ue 4 w12 EE.out (ET.out.below B13.out)).mono ?_
                  rintro e w13 ⟨rfl, b13⟩
                  have B14 : Hid (Below w.heap.size w w13) := B13.out.trans (b13.mono B13.out.size)
                  have RR3 : Hid (Ro w13 rr ([])) := RR.out.below b13
                  have RL3 : Hid (Ro w13 (.slice none 0 0) ([])) := RL2.out.below b13
                  clear b13
                  go_wp2_with fail
                  refine (ints_like _ _ _ w13 RR3.out RL3.out).mono ?_
                  rintro e w14 ⟨rfl, b14⟩
                  have B15 : Hid (Below w.heap.size w w14) := B14.out.trans (b14.mono B14.out.size)
                  clear b14
                  cases bb
                  all_goals (go_wp2; go_ret; exact ⟨rfl, B15.out⟩)
                · omega
            · have E4 : e2 = 0 := by rw [← HE.out, if_neg h2]
              subst E4
              clear HE
              obtain ⟨b, hb⟩ : ∃ b, w10.heap.size = b := ⟨_, rfl⟩
              have HB : Hid (w10.heap.size = b) := hb
              clear hb
              go_wp2_with fail
              go_loopw [21, 22] (fun v21 j V => ∃ n : Nat, n ≤ ps.length ∧ j = .int .i64 (n : Nat) ∧ ∃ q8, q8 = v21 ∧ Ow V b q8 ((Sc.ranks ps).take n) ∧ Below b w10 V) (fun _ j _ => ps.length - (intOf j).toNat)
              case atStart => exact ⟨0, Nat.zero_le _, rfl, _, rfl, Ow.nil _ _, by rw [← HB.out]; exact Below.refl _ _⟩
              case round =>
                obtain ⟨n, hn, rfl, q8, rfl, ho, hB⟩ := hrel
                have OW : Hid (Ow wr b q8 ((Sc.ranks ps).take n)) := ho
                have BB : Hid (Below b w10 wr) := hB
                have B11 : Hid (Below w.heap.size w wr) := B10.out.trans (by rw [← HB.out] at hB; exact hB.mono B10.out.size)
                clear ho hB
                by_cases hne : n = ps.length
                · subst hne
                  have RL : Hid (Ro wr q8 (Sc.ranks ps)) := by
                    have := OW.out.ro
                    rw [List.take_of_length_le (by rw [Sc.ranks_len]; exact Nat.le_refl _)] at this
                    exact this
                  clear OW BB
                  generalize wr = w11 at *
                  go_wp2_with fail
                  refine (rank_any _ ps w11 (PS.out w11 B11.out)).mono ?_
                  rintro e w12 ⟨rr, ue, rfl, b12, hr⟩
                  have B13 : Hid (Below w.heap.size w w12) := B11.out.trans (b12.mono B11.out.size)
                  rcases hr with ⟨h9, hr, he⟩ | ⟨h9, hr, he⟩
                  · omega
                  · have RR : Hid (Ro w12 rr (Sc.ranks ps)) := hr
                    have RL2 : Hid (Ro w12 (q8) (Sc.ranks ps)) := RL.out.below b12
                    have EE : Hid (Er ue 0) := he
                    clear hr he b12 h9
                    go_wp2_with fail
                    refine (er_same ue 0 w12 EE.out (ET.out.below B13.out)).mono ?_
                    rintro e w13 ⟨rfl, b13⟩
                    have B14 : Hid (Below w.heap.size w w13) := B13.out.trans (b13.mono B13.out.size)
                    have RR3 : Hid (Ro w13 rr (Sc.ranks ps)) := RR.out.below b13
                    have RL3 : Hid (Ro w13 (q8) (Sc.ranks ps)) := RL2.out.below b13
                    clear b13
                    go_wp2_with fail
                    refine (ints_like _ _ _ w13 RR3.out RL3.out).mono ?_
                    rintro e w14 ⟨rfl, b14⟩
                    have B15 : Hid (Below w.heap.size w w14) := B14.out.trans (b14.mono B14.out.size)
                    clear b14
                    cases bb
                    all_goals (go_wp2; go_ret; exact ⟨rfl, B15.out⟩)
                · have hnl : n < ps.length := by omega
                  have hnl' : (n : Int) < (ps.length : Int) := by omega
                  obtain ⟨d, hd⟩ : ∃ d, ps[n]? = some d := ⟨_, List.getElem?_eq_getElem hnl⟩
                  have HD : Hid (ps[n]? = some d) := hd
                  have PG : Hid ((Sc.ranks ps).take (n + 1) = (Sc.ranks ps).take n ++ [((1 + Sc.above ps d : Nat) : Int)]) := by
                    unfold Hid; rw [List.take_add_one, Sc.ranks_get hd]; rfl
                  have PN : Hid (((Sc.ranks ps).take n).length ≤ 200) := by unfold Hid; rw [List.length_take, Sc.ranks_len]; omega
                  generalize (Sc.ranks ps).take n = rs at *
                  clear hd
                  go_wp2_with fail
                  generalize wr = wo at *
                  go_loopw [23, 24] (fun v23 j V => ∃ m : Nat, m ≤ ps.length ∧ j = .int .i64 (m : Nat) ∧ (∃ c : Nat, c = Sc.above (ps.take m) d ∧ v23 = .int .i64 ((1 + c : Nat) : Int)) ∧ Below wo.heap.size wo V) (fun _ j _ => ps.length - (intOf j).toNat)
                  case atStart => exact ⟨0, Nat.zero_le _, rfl, ⟨0, by simp [Sc.above], rfl⟩, Below.refl _ _⟩
                  case round =>
                    obtain ⟨m, hm, rfl, ⟨c, hc, rfl⟩, hB⟩ := hrel
                    have HC : Hid (c = Sc.above (ps.take m) d) := hc
                    have cl : c ≤ m := by rw [hc]; exact Nat.le_trans (Sc.above_le _ _) (by rw [List.length_take]; omega)
                    have BI : Hid (Below wo.heap.size wo wr) := hB
                    have BJ : Hid (Below b w10 wr) := BB.out.trans (hB.mono (by have := BB.out.size; have := HB.out; omega))
                    have B12 : Hid (Below w.heap.size w wr) := B11.out.trans (hB.mono B11.out.size)
                    clear hc hB
                    by_cases hme : m = ps.length
                    · have CE9 : Hid (Sc.above ps d = c) := by
                        have h9 := HC.out
                        rw [hme, List.take_of_length_le (Nat.le_refl _)] at h9
                        exact h9.symm
                      subst hme
                      have OI : Hid (Ow wr b q8 rs) := OW.out.below BI.out
                      have PG2 : Hid ((Sc.ranks ps).take (n + 1) = rs ++ [((1 + c : Nat) : Int)]) := by unfold Hid; rw [PG.out, CE9.out]
                      generalize (1 + c : Nat) = c1 at *
                      clear PG CE9 HC cl
                      have BA : Hid (Below wr.heap.size wr (wr.alloc (Obj.cells #[.int .i64 ((c1 : Nat) : Int)] 3))) := (Below.refl _ _).alloc (Nat.le_refl _) _
                      have OA : Hid (Ow (wr.alloc (Obj.cells #[.int .i64 ((c1 : Nat) : Int)] 3)) b q8 rs) := OI.out.alloc _
                      have RC : Hid ((wr.alloc (Obj.cells #[.int .i64 ((c1 : Nat) : Int)] 3)).cell? ⟨wr.heap.size, 0, none⟩ = some (.int .i64 ((c1 : Nat) : Int))) := by unfold Hid; simp
                      have SB : Hid (b ≤ (wr.alloc (Obj.cells #[.int .i64 ((c1 : Nat) : Int)] 3)).heap.size) := by have h1 := BJ.out.size; have h2 := BA.out.size; have h3 := HB.out; unfold Hid; omega
                      have SA : Hid (b ≤ wr.heap.size) := by have h1 := BJ.out.size; have h3 := HB.out; unfold Hid; omega
                      go_wp2_with (at_builtin; refine app_int _ rfl _ _ rfl b _ rs rfl OA.out ⟨wr.heap.size, 0, none⟩ ((c1 : Nat) : Int) rfl RC.out (by have := PN.out; omega) SB.out ?_)
                      intro g cap wE o8 g8 a8 l8
                      have OE : Hid (Ow wE b (.slice (some ⟨g, 0, none⟩) (rs.length + 1) cap) ((Sc.ranks ps).take (n + 1))) := by unfold Hid; rw [PG2.out]; exact o8
                      have BE : Hid (Below b w10 wE) := by
                        have h1 : Below b (wr.alloc (Obj.cells #[.int .i64 ((c1 : Nat) : Int)] 3)) wE := (Below.refl _ _).grown g8 SB.out (fun k hk => (OA.out.block k hk).1)
                        exact (BJ.out.trans (BA.out.mono SA.out)).trans h1
                      clear o8 g8 a8 l8
                      go_wp2
                      go_round
                      case rel => exact ⟨n + 1, by omega, by go_num, _, rfl, OE.out, BE.out⟩
                      case measure => simp [intOf]; omega
                    · have hml : m < ps.length := by omega
                      have hml' : (m : Int) < (ps.length : Int) := by omega
                      obtain ⟨f, hf⟩ : ∃ f, ps[m]? = some f := ⟨_, List.getElem?_eq_getElem hml⟩
                      obtain ⟨a', c', e', -, -, hy⟩ := PS.out wr B12.out
                      injection e' with e1 e2 e3
                      subst e1 e3
                      obtain ⟨yp, rfl, -, hy⟩ := hy (by rintro hh; rw [hh] at hnl; simp at hnl)
                      have C3 := hy n d HD.out
                      have C4 := hy m f hf
                      have NX : Hid (Sc.above (ps.take (m + 1)) d = c + if d < f then 1 else 0) := by unfold Hid; rw [Sc.take_next hf, ← HC.out]
                      clear hy hf e2
                      go_upto_region 33 with fail
                      by_cases hdf : d < f
                      · have N1 : Hid (c + 1 = Sc.above (ps.take (m + 1)) d) := by unfold Hid; rw [NX.out, if_pos hdf]
                        go_quiet (fail)
                        have D6 : Hid (Below wr.heap.size wr (wr.drewN nq)) := ⟨rfl, rfl, rfl, Nat.le_refl _, fun _ _ => rfl⟩
                        generalize wr.drewN nq = wn at *
                        go_wp2
                        go_round
                        case rel => exact ⟨m + 1, by omega, by go_num, ⟨c + 1, N1.out, by go_num⟩, BI.out.trans (D6.out.mono BI.out.size)⟩
                        case measure => simp [intOf]; omega
                      · have N1 : Hid (c = Sc.above (ps.take (m + 1)) d) := by unfold Hid; rw [NX.out, if_neg hdf]; rfl
                        go_quiet (fail)
                        have D6 : Hid (Below wr.heap.size wr (wr.drewN nq)) := ⟨rfl, rfl, rfl, Nat.le_refl _, fun _ _ => rfl⟩
                        generalize wr.drewN nq = wn at *
                        go_wp2
                        go_round
                        case rel => exact ⟨m + 1, by omega, by go_num, ⟨c, N1.out, rfl⟩, BI.out.trans (D6.out.mono BI.out.size)⟩
                        case measure => simp [intOf]; omega
end Go.Proofs.YtamgjhehnblbgaaDoor.scoreTells

