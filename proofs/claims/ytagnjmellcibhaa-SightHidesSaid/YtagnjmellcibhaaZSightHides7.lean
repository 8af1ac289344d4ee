/- SightHides: the walk. -/
import Derived.Test.YtagnjmellcibhaaZSightHides6
import Derived.BigQuiet
namespace Go.Proofs.Ytagnjmellcibhaa.sightHides
open Go.RowKit
set_option linter.unusedVariables false

set_option maxRecDepth 100000 in
set_option maxHeartbeats 80000000 in
theorem walk (vk : Value) (ks : List KV) (vw : Value) (X : WV) (p : Int) (w : World)
    (h0 : Kl w vk ks ∧ ∀ k ∈ ks, k.b.size ≤ maxLen) (h1 : Wl w vw X ∧ ∀ n ∈ Wd.nums X, Wd.In64 n) (h2 : (Lit.int .i64 p).wf = true) :
    Calls Try.prog 4 #[vk, vw, .int .i64 p] w fun e w' => e = .returned (.bool true) ∧ Below w.heap.size w w' := by
  have K : Hid (Kl w vk ks ∧ ∀ k ∈ ks, k.b.size ≤ 9223372036854775807) := ⟨h0.1, fun k hk => by have := h0.2 k hk; unfold maxLen at this; omega⟩
  have H : Hid (Wl w vw X) := h1.1
  obtain ⟨p1, q1, p2, q2, p3, q3, p4, q4, p5, q5, rfl⟩ := wl_shape9 h1.1
  obtain ⟨pk, qk, rfl, -⟩ := h0.1
  clear h0 h1 h2
  go_enter Try.func4, Try.ntmps4
  go_upto_region 1 with fail
  have B0 : Hid (Below w.heap.size w (w.alloc (Obj.cells #[.int .i64 X.turn, .int .i64 X.next, .int .i64 X.wide, .int .i64 X.high, .slice p1 X.gs.length q1, .slice p2 X.os.length q2, .slice p3 X.gold.length q3, .slice p4 X.us.length q4, .slice p5 X.qs.length q5] 29))) := (Below.refl _ _).alloc (Nat.le_refl _) _
  have X0 : Hid (Bw (w.alloc (Obj.cells #[.int .i64 X.turn, .int .i64 X.next, .int .i64 X.wide, .int .i64 X.high, .slice p1 X.gs.length q1, .slice p2 X.os.length q2, .slice p3 X.gold.length q3, .slice p4 X.us.length q4, .slice p5 X.qs.length q5] 29)) w.heap.size X (.slice p1 X.gs.length q1) (.slice p2 X.os.length q2) (.slice p3 X.gold.length q3) (.slice p4 X.us.length q4) (.slice p5 X.qs.length q5)) := Bw.mk' X _ _ _ _ _ rfl
  generalize (w.alloc (Obj.cells #[.int .i64 X.turn, .int .i64 X.next, .int .i64 X.wide, .int .i64 X.high, .slice p1 X.gs.length q1, .slice p2 X.os.length q2, .slice p3 X.gold.length q3, .slice p4 X.us.length q4, .slice p5 X.qs.length q5] 29)) = w0 at *
  go_wp2_with fail
  refine (small_any w0).mono ?_
  rintro e w1 ⟨u, rfl, ho, hb⟩
  have B1 : Hid (Below w.heap.size w w1) := B0.out.trans (hb.mono B0.out.size)
  have X1 : Hid (Bw w1 w.heap.size X (.slice p1 X.gs.length q1) (.slice p2 X.os.length q2) (.slice p3 X.gold.length q3) (.slice p4 X.us.length q4) (.slice p5 X.qs.length q5)) := X0.out.below hb X0.out.lt
  have LS0 := ho.l
  obtain ⟨y1, y2, y3, y4, y5, rfl, o1, o2, o3, o4, o5⟩ := ho
  obtain ⟨m1, n1, rfl⟩ := o1.len
  obtain ⟨m2, n2, rfl⟩ := o2.len
  obtain ⟨m3, n3, rfl⟩ := o3.len
  obtain ⟨m4, n4, rfl⟩ := o4.len
  obtain ⟨m5, n5, rfl⟩ := o5.len
  have LS : Hid (Wl w1 (.agg #[.int .i64 0, .int .i64 4, .int .i64 4, .int .i64 2, .slice m1 8 n1, .slice m2 8 n2, .slice m3 2 n3, .slice m4 3 n4, .slice m5 0 n5]) S3) := LS0
  obtain ⟨g1, g2, g3, g4, g5, g6, g7, g8, g9⟩ := s3_eqs
  simp only [g1, g2, g3, g4, g5, g6, g7, g8, g9]
  clear g1 g2 g3 g4 g5 g6 g7 g8 g9 hb o1 o2 o3 o4 o5 X0 B0 LS0
  go_upto_region 2 with fail
  have BA : Hid (Below w1.heap.size w1 (w1.alloc (Obj.cells #[.int .i64 0, .int .i64 4, .int .i64 4, .int .i64 2, .slice m1 8 n1, .slice m2 8 n2, .slice m3 2 n3, .slice m4 3 n4, .slice m5 0 n5] 29))) := (Below.refl _ _).alloc (Nat.le_refl _) _
  obtain ⟨z, hz⟩ : ∃ z, w1.heap.size = z := ⟨_, rfl⟩
  have W2 : Hid (Wx (w1.alloc (Obj.cells #[.int .i64 0, .int .i64 4, .int .i64 4, .int .i64 2, .slice m1 8 n1, .slice m2 8 n2, .slice m3 2 n3, .slice m4 3 n4, .slice m5 0 n5] 29)) z (.int .i64 0) (.int .i64 4) (.int .i64 4) (.int .i64 2) (.slice m1 8 n1) (.slice m2 8 n2) (.slice m3 2 n3) (.slice m4 3 n4) (.slice m5 0 n5)) := Wx.new _ _ _ _ _ _ _ _ _ hz
  rw [hz]
  generalize (w1.alloc (Obj.cells #[.int .i64 0, .int .i64 4, .int .i64 4, .int .i64 2, .slice m1 8 n1, .slice m2 8 n2, .slice m3 2 n3, .slice m4 3 n4, .slice m5 0 n5] 29)) = w2 at *
  have B2 : Hid (Below w.heap.size w w2) := B1.out.trans (BA.out.mono B1.out.size)
  have X2 : Hid (Bw w2 w.heap.size X (.slice p1 X.gs.length q1) (.slice p2 X.os.length q2) (.slice p3 X.gold.length q3) (.slice p4 X.us.length q4) (.slice p5 X.qs.length q5)) := X1.out.below BA.out X1.out.lt
  have L2 : Hid (Wl w2 (.agg #[.int .i64 0, .int .i64 4, .int .i64 4, .int .i64 2, .slice m1 8 n1, .slice m2 8 n2, .slice m3 2 n3, .slice m4 3 n4, .slice m5 0 n5]) S3) := LS.out.below BA.out
  clear X1 B1 BA LS hz
  go_upto_region 4 with fail
  go_cut [9, 10] (fun v9 v10 V => v10 = .nilIface ∧ ∃ bf gf h3 f4 h4, v9 = .pointer (some ⟨bf, 0, none⟩) ∧ 2 ≤ h3 ∧ V.cell? ⟨bf, 6, none⟩ = some (.slice (some ⟨gf, 0, none⟩) 2 h3) ∧ V.cell? ⟨gf, 0, none⟩ = some (.int .i64 0) ∧ V.cell? ⟨gf, 1, none⟩ = some (.int .i64 100) ∧ V.cell? ⟨bf, 7, none⟩ = some (.slice f4 3 h4) ∧ Below w.heap.size w V ∧ Bw V w.heap.size X (.slice p1 X.gs.length q1) (.slice p2 X.os.length q2) (.slice p3 X.gold.length q3) (.slice p4 X.us.length q4) (.slice p5 X.qs.length q5))
  case first =>
    refine wp_region_float 6 [(true, 1), (false, 0), (false, 2), (true, 3), (true, 4), (true, 5)] [(false, 7)] [(false, 8)] (fun V => V.cell? ⟨z, 0, none⟩ = some (.int .i64 0) ∧ V.cell? ⟨z, 1, none⟩ = some (.int .i64 4) ∧ V.cell? ⟨z, 2, none⟩ = some (.int .i64 4) ∧ V.cell? ⟨z, 3, none⟩ = some (.int .i64 2) ∧ V.cell? ⟨z, 4, none⟩ = some (.slice m1 8 n1) ∧ V.cell? ⟨z, 5, none⟩ = some (.slice m2 8 n2) ∧ V.cell? ⟨z, 6, none⟩ = some (.slice m3 2 n3) ∧ V.cell? ⟨z, 7, none⟩ = some (.slice m4 3 n4) ∧ V.cell? ⟨z, 8, none⟩ = some (.slice m5 0 n5)) (by kernel_rfl) (by kernel_rfl) (by kernel_rfl) (by decide +kernel) (by decide +kernel) W2.out.cells ?_
    have FB : Hid (∀ A B : World, (Below w.heap.size w A ∧ Bw A w.heap.size X (.slice p1 X.gs.length q1) (.slice p2 X.os.length q2) (.slice p3 X.gold.length q3) (.slice p4 X.us.length q4) (.slice p5 X.qs.length q5) ∧ (A.cell? ⟨z, 0, none⟩ = some (.int .i64 0) ∧ A.cell? ⟨z, 1, none⟩ = some (.int .i64 4) ∧ A.cell? ⟨z, 2, none⟩ = some (.int .i64 4) ∧ A.cell? ⟨z, 3, none⟩ = some (.int .i64 2) ∧ A.cell? ⟨z, 4, none⟩ = some (.slice m1 8 n1) ∧ A.cell? ⟨z, 5, none⟩ = some (.slice m2 8 n2) ∧ A.cell? ⟨z, 6, none⟩ = some (.slice m3 2 n3) ∧ A.cell? ⟨z, 7, none⟩ = some (.slice m4 3 n4) ∧ A.cell? ⟨z, 8, none⟩ = some (.slice m5 0 n5))) → Below A.heap.size A B → (Below w.heap.size w B ∧ Bw B w.heap.size X (.slice p1 X.gs.length q1) (.slice p2 X.os.length q2) (.slice p3 X.gold.length q3) (.slice p4 X.us.length q4) (.slice p5 X.qs.length q5) ∧ (B.cell? ⟨z, 0, none⟩ = some (.int .i64 0) ∧ B.cell? ⟨z, 1, none⟩ = some (.int .i64 4) ∧ B.cell? ⟨z, 2, none⟩ = some (.int .i64 4) ∧ B.cell? ⟨z, 3, none⟩ = some (.int .i64 2) ∧ B.cell? ⟨z, 4, none⟩ = some (.slice m1 8 n1) ∧ B.cell? ⟨z, 5, none⟩ = some (.slice m2 8 n2) ∧ B.cell? ⟨z, 6, none⟩ = some (.slice m3 2 n3) ∧ B.cell? ⟨z, 7, none⟩ = some (.slice m4 3 n4) ∧ B.cell? ⟨z, 8, none⟩ = some (.slice m5 0 n5)))) := fun A B h hb => by
      obtain ⟨a1, a2, a3⟩ := h
      have hz : z < A.heap.size := cell_lt a3.1
      exact ⟨a1.trans (hb.mono a1.size), a2.below hb a2.lt, by rw [hb.cell (p := ⟨z, 0, none⟩) hz]; exact a3.1, by rw [hb.cell (p := ⟨z, 1, none⟩) hz]; exact a3.2.1, by rw [hb.cell (p := ⟨z, 2, none⟩) hz]; exact a3.2.2.1, by rw [hb.cell (p := ⟨z, 3, none⟩) hz]; exact a3.2.2.2.1, by rw [hb.cell (p := ⟨z, 4, none⟩) hz]; exact a3.2.2.2.2.1, by rw [hb.cell (p := ⟨z, 5, none⟩) hz]; exact a3.2.2.2.2.2.1, by rw [hb.cell (p := ⟨z, 6, none⟩) hz]; exact a3.2.2.2.2.2.2.1, by rw [hb.cell (p := ⟨z, 7, none⟩) hz]; exact a3.2.2.2.2.2.2.2.1, by rw [hb.cell (p := ⟨z, 8, none⟩) hz]; exact a3.2.2.2.2.2.2.2.2⟩
    have D0 : Hid (Below w2.heap.size w2 { w2 with drawn := w2.drawn + 1 }) := (Below.refl _ _).drew
    generalize ({ w2 with drawn := w2.drawn + 1 } : World) = v0 at *
    have Fv0 : Hid (Below w.heap.size w v0 ∧ Bw v0 w.heap.size X (.slice p1 X.gs.length q1) (.slice p2 X.os.length q2) (.slice p3 X.gold.length q3) (.slice p4 X.us.length q4) (.slice p5 X.qs.length q5) ∧ (v0.cell? ⟨z, 0, none⟩ = some (.int .i64 0) ∧ v0.cell? ⟨z, 1, none⟩ = some (.int .i64 4) ∧ v0.cell? ⟨z, 2, none⟩ = some (.int .i64 4) ∧ v0.cell? ⟨z, 3, none⟩ = some (.int .i64 2) ∧ v0.cell? ⟨z, 4, none⟩ = some (.slice m1 8 n1) ∧ v0.cell? ⟨z, 5, none⟩ = some (.slice m2 8 n2) ∧ v0.cell? ⟨z, 6, none⟩ = some (.slice m3 2 n3) ∧ v0.cell? ⟨z, 7, none⟩ = some (.slice m4 3 n4) ∧ v0.cell? ⟨z, 8, none⟩ = some (.slice m5 0 n5))) := FB.out w2 v0 ⟨B2.out, X2.out, W2.out.cells⟩ D0.out
    have L0 : Hid (Wl v0 (.agg #[.int .i64 0, .int .i64 4, .int .i64 4, .int .i64 2, .slice m1 8 n1, .slice m2 8 n2, .slice m3 2 n3, .slice m4 3 n4, .slice m5 0 n5]) S3) := L2.out.below D0.out
    clear W2 X2 B2 L2 D0
    have NEW : Hid (∀ V : World, (Below w.heap.size w V ∧ Bw V w.heap.size X (.slice p1 X.gs.length q1) (.slice p2 X.os.length q2) (.slice p3 X.gold.length q3) (.slice p4 X.us.length q4) (.slice p5 X.qs.length q5) ∧ (V.cell? ⟨z, 0, none⟩ = some (.int .i64 0) ∧ V.cell? ⟨z, 1, none⟩ = some (.int .i64 4) ∧ V.cell? ⟨z, 2, none⟩ = some (.int .i64 4) ∧ V.cell? ⟨z, 3, none⟩ = some (.int .i64 2) ∧ V.cell? ⟨z, 4, none⟩ = some (.slice m1 8 n1) ∧ V.cell? ⟨z, 5, none⟩ = some (.slice m2 8 n2) ∧ V.cell? ⟨z, 6, none⟩ = some (.slice m3 2 n3) ∧ V.cell? ⟨z, 7, none⟩ = some (.slice m4 3 n4) ∧ V.cell? ⟨z, 8, none⟩ = some (.slice m5 0 n5))) → Wx (V.alloc (Obj.cells #[.int .i64 0, .int .i64 0, .int .i64 0, .int .i64 0, .slice none 0 0, .slice none 0 0, .slice none 0 0, .slice none 0 0, .slice none 0 0] 29)) V.heap.size (.int .i64 0) (.int .i64 0) (.int .i64 0) (.int .i64 0) (.slice none 0 0) (.slice none 0 0) (.slice none 0 0) (.slice none 0 0) (.slice none 0 0) ∧ w.heap.size < V.heap.size ∧ z < V.heap.size ∧ Below V.heap.size V (V.alloc (Obj.cells #[.int .i64 0, .int .i64 0, .int .i64 0, .int .i64 0, .slice none 0 0, .slice none 0 0, .slice none 0 0, .slice none 0 0, .slice none 0 0] 29)) ∧ (V.alloc (Obj.cells #[.int .i64 0, .int .i64 0, .int .i64 0, .int .i64 0, .slice none 0 0, .slice none 0 0, .slice none 0 0, .slice none 0 0, .slice none 0 0] 29)).heap.size = V.heap.size + 1) := fun V h => ⟨Wx.new (.int .i64 0) (.int .i64 0) (.int .i64 0) (.int .i64 0) (.slice none 0 0) (.slice none 0 0) (.slice none 0 0) (.slice none 0 0) (.slice none 0 0) rfl, h.2.1.lt, cell_lt h.2.2.1, (Below.refl _ _).alloc (Nat.le_refl _) _, by simp⟩
    refine headA_read rfl (.agg #[.int .i64 0, .int .i64 4, .int .i64 4, .int .i64 2, .slice m1 8 n1, .slice m2 8 n2, .slice m3 2 n3, .slice m4 3 n4, .slice m5 0 n5]) (by go_simp) (fun V hV => by obtain ⟨x0, x1, x2, x3, x4, x5, x6, x7, x8⟩ := hV; go_simp) ?_
    go_simp
    refine headA_call rfl 11 #[] (by go_simp) (by go_simp) ?_ rfl (.pointer (some ⟨v0.heap.size, 0, none⟩)) (v0.alloc (Obj.cells #[.int .i64 0, .int .i64 0, .int .i64 0, .int .i64 0, .slice none 0 0, .slice none 0 0, .slice none 0 0, .slice none 0 0, .slice none 0 0] 29)) (by go_simp) (by go_simp) (FB.out _ _ Fv0.out (NEW.out v0 Fv0.out).2.2.2.1).2.2 ?_
    · refine (sorts_any v0).mono ?_
      rintro e v1 ⟨ku, rfl, hk, hb⟩
      have KU : Hid (Kl v1 ku SK) := hk
      have Fv1 : Hid (Below w.heap.size w v1 ∧ Bw v1 w.heap.size X (.slice p1 X.gs.length q1) (.slice p2 X.os.length q2) (.slice p3 X.gold.length q3) (.slice p4 X.us.length q4) (.slice p5 X.qs.length q5) ∧ (v1.cell? ⟨z, 0, none⟩ = some (.int .i64 0) ∧ v1.cell? ⟨z, 1, none⟩ = some (.int .i64 4) ∧ v1.cell? ⟨z, 2, none⟩ = some (.int .i64 4) ∧ v1.cell? ⟨z, 3, none⟩ = some (.int .i64 2) ∧ v1.cell? ⟨z, 4, none⟩ = some (.slice m1 8 n1) ∧ v1.cell? ⟨z, 5, none⟩ = some (.slice m2 8 n2) ∧ v1.cell? ⟨z, 6, none⟩ = some (.slice m3 2 n3) ∧ v1.cell? ⟨z, 7, none⟩ = some (.slice m4 3 n4) ∧ v1.cell? ⟨z, 8, none⟩ = some (.slice m5 0 n5))) := FB.out v0 v1 Fv0.out hb
      have LA : Hid (Wl v1 (.agg #[.int .i64 0, .int .i64 4, .int .i64 4, .int .i64 2, .slice m1 8 n1, .slice m2 8 n2, .slice m3 2 n3, .slice m4 3 n4, .slice m5 0 n5]) S3) := L0.out.below hb
      refine ⟨_, rfl, Fv1.out.2.2, ?_⟩
      clear hk hb Fv0 L0
      go_simp
      refine headA_call rfl 10 #[ku, .agg #[.int .i64 0, .int .i64 4, .int .i64 4, .int .i64 2, .slice m1 8 n1, .slice m2 8 n2, .slice m3 2 n3, .slice m4 3 n4, .slice m5 0 n5], .int .i64 1] (by go_simp) (by go_simp) ?_ rfl (.pointer (some ⟨v1.heap.size, 0, none⟩)) (v1.alloc (Obj.cells #[.int .i64 0, .int .i64 0, .int .i64 0, .int .i64 0, .slice none 0 0, .slice none 0 0, .slice none 0 0, .slice none 0 0, .slice none 0 0] 29)) (by go_simp) (by go_simp) (FB.out _ _ Fv1.out (NEW.out v1 Fv1.out).2.2.2.1).2.2 ?_
      · refine (View_any ku _ SK S3 1 v1 KU.out sm_names LA.out).mono ?_
        rintro e v2 ⟨v, r, rfl, hr, hf, hb⟩
        rw [sv_zero] at hr
        obtain rfl := er_zero hr
        obtain ⟨f1, h1, f2, h2, gf, h3, f4, h4, f5, h5, rfl, hgf, h23, hc0, hc1⟩ := sm_view hf
        have H3 : Hid (2 ≤ h3) := h23
        have CE : Hid (v2.cell? ⟨gf, 0, none⟩ = some (.int .i64 0) ∧ v2.cell? ⟨gf, 1, none⟩ = some (.int .i64 100)) := ⟨hc0, hc1⟩
        have Fv2 : Hid (Below w.heap.size w v2 ∧ Bw v2 w.heap.size X (.slice p1 X.gs.length q1) (.slice p2 X.os.length q2) (.slice p3 X.gold.length q3) (.slice p4 X.us.length q4) (.slice p5 X.qs.length q5) ∧ (v2.cell? ⟨z, 0, none⟩ = some (.int .i64 0) ∧ v2.cell? ⟨z, 1, none⟩ = some (.int .i64 4) ∧ v2.cell? ⟨z, 2, none⟩ = some (.int .i64 4) ∧ v2.cell? ⟨z, 3, none⟩ = some (.int .i64 2) ∧ v2.cell? ⟨z, 4, none⟩ = some (.slice m1 8 n1) ∧ v2.cell? ⟨z, 5, none⟩ = some (.slice m2 8 n2) ∧ v2.cell? ⟨z, 6, none⟩ = some (.slice m3 2 n3) ∧ v2.cell? ⟨z, 7, none⟩ = some (.slice m4 3 n4) ∧ v2.cell? ⟨z, 8, none⟩ = some (.slice m5 0 n5))) := FB.out v1 v2 Fv1.out hb
        refine ⟨_, rfl, Fv2.out.2.2, ?_⟩
        obtain ⟨n1', n2', n3', n4', n5'⟩ := NEW.out v2 Fv2.out
        have GL : Hid (gf < v2.heap.size) := cell_lt hc0
        obtain ⟨bf, hbf⟩ : ∃ z, v2.heap.size = z := ⟨_, rfl⟩
        clear hgf h23 hc0 hc1 hf hr hb LA KU Fv1
        go_simp
        refine headA_read rfl (.tuple #[.agg #[.int .i64 0, .int .i64 4, .int .i64 4, .int .i64 2, .slice f1 8 h1, .slice f2 8 h2, .slice (some ⟨gf, 0, none⟩) 2 h3, .slice f4 3 h4, .slice f5 0 h5], .nilIface]) (by go_simp) (fun V hV => by go_simp) ?_
        go_simp
        refine headA_read rfl (.agg #[.int .i64 0, .int .i64 4, .int .i64 4, .int .i64 2, .slice f1 8 h1, .slice f2 8 h2, .slice (some ⟨gf, 0, none⟩) 2 h3, .slice f4 3 h4, .slice f5 0 h5]) (by go_simp) (fun V hV => by go_simp) ?_
        go_simp
        refine headA_read rfl (.nilIface) (by go_simp) (fun V hV => by go_simp) ?_
        go_simp
        refine headA_last rfl (.pointer (some ⟨v2.heap.size, 0, none⟩)) (v2.alloc (Obj.cells #[.int .i64 0, .int .i64 0, .int .i64 0, .int .i64 0, .slice none 0 0, .slice none 0 0, .slice none 0 0, .slice none 0 0, .slice none 0 0] 29)) (by go_simp) (by go_simp) (FB.out _ _ Fv2.out n4').2.2 ?_
        rw [hbf]
        go_simp
        have ZE : Hid (Wx (v2.alloc (Obj.cells #[.int .i64 0, .int .i64 0, .int .i64 0, .int .i64 0, .slice none 0 0, .slice none 0 0, .slice none 0 0, .slice none 0 0, .slice none 0 0] 29)) bf (.int .i64 0) (.int .i64 0) (.int .i64 0) (.int .i64 0) (.slice none 0 0) (.slice none 0 0) (.slice none 0 0) (.slice none 0 0) (.slice none 0 0)) := by rw [← hbf]; exact n1'
        have FE : Hid (Below w.heap.size w (v2.alloc (Obj.cells #[.int .i64 0, .int .i64 0, .int .i64 0, .int .i64 0, .slice none 0 0, .slice none 0 0, .slice none 0 0, .slice none 0 0, .slice none 0 0] 29)) ∧ Bw (v2.alloc (Obj.cells #[.int .i64 0, .int .i64 0, .int .i64 0, .int .i64 0, .slice none 0 0, .slice none 0 0, .slice none 0 0, .slice none 0 0, .slice none 0 0] 29)) w.heap.size X (.slice p1 X.gs.length q1) (.slice p2 X.os.length q2) (.slice p3 X.gold.length q3) (.slice p4 X.us.length q4) (.slice p5 X.qs.length q5) ∧ ((v2.alloc (Obj.cells #[.int .i64 0, .int .i64 0, .int .i64 0, .int .i64 0, .slice none 0 0, .slice none 0 0, .slice none 0 0, .slice none 0 0, .slice none 0 0] 29)).cell? ⟨z, 0, none⟩ = some (.int .i64 0) ∧ (v2.alloc (Obj.cells #[.int .i64 0, .int .i64 0, .int .i64 0, .int .i64 0, .slice none 0 0, .slice none 0 0, .slice none 0 0, .slice none 0 0, .slice none 0 0] 29)).cell? ⟨z, 1, none⟩ = some (.int .i64 4) ∧ (v2.alloc (Obj.cells #[.int .i64 0, .int .i64 0, .int .i64 0, .int .i64 0, .slice none 0 0, .slice none 0 0, .slice none 0 0, .slice none 0 0, .slice none 0 0] 29)).cell? ⟨z, 2, none⟩ = some (.int .i64 4) ∧ (v2.alloc (Obj.cells #[.int .i64 0, .int .i64 0, .int .i64 0, .int .i64 0, .slice none 0 0, .slice none 0 0, .slice none 0 0, .slice none 0 0, .slice none 0 0] 29)).cell? ⟨z, 3, none⟩ = some (.int .i64 2) ∧ (v2.alloc (Obj.cells #[.int .i64 0, .int .i64 0, .int .i64 0, .int .i64 0, .slice none 0 0, .slice none 0 0, .slice none 0 0, .slice none 0 0, .slice none 0 0] 29)).cell? ⟨z, 4, none⟩ = some (.slice m1 8 n1) ∧ (v2.alloc (Obj.cells #[.int .i64 0, .int .i64 0, .int .i64 0, .int .i64 0, .slice none 0 0, .slice none 0 0, .slice none 0 0, .slice none 0 0, .slice none 0 0] 29)).cell? ⟨z, 5, none⟩ = some (.slice m2 8 n2) ∧ (v2.alloc (Obj.cells #[.int .i64 0, .int .i64 0, .int .i64 0, .int .i64 0, .slice none 0 0, .slice none 0 0, .slice none 0 0, .slice none 0 0, .slice none 0 0] 29)).cell? ⟨z, 6, none⟩ = some (.slice m3 2 n3) ∧ (v2.alloc (Obj.cells #[.int .i64 0, .int .i64 0, .int .i64 0, .int .i64 0, .slice none 0 0, .slice none 0 0, .slice none 0 0, .slice none 0 0, .slice none 0 0] 29)).cell? ⟨z, 7, none⟩ = some (.slice m4 3 n4) ∧ (v2.alloc (Obj.cells #[.int .i64 0, .int .i64 0, .int .i64 0, .int .i64 0, .slice none 0 0, .slice none 0 0, .slice none 0 0, .slice none 0 0, .slice none 0 0] 29)).cell? ⟨z, 8, none⟩ = some (.slice m5 0 n5))) := FB.out _ _ Fv2.out n4'
        have CE2 : Hid ((v2.alloc (Obj.cells #[.int .i64 0, .int .i64 0, .int .i64 0, .int .i64 0, .slice none 0 0, .slice none 0 0, .slice none 0 0, .slice none 0 0, .slice none 0 0] 29)).cell? ⟨gf, 0, none⟩ = some (.int .i64 0) ∧ (v2.alloc (Obj.cells #[.int .i64 0, .int .i64 0, .int .i64 0, .int .i64 0, .slice none 0 0, .slice none 0 0, .slice none 0 0, .slice none 0 0, .slice none 0 0] 29)).cell? ⟨gf, 1, none⟩ = some (.int .i64 100)) := ⟨by rw [n4'.cell (p := ⟨gf, 0, none⟩) GL.out]; exact CE.out.1, by rw [n4'.cell (p := ⟨gf, 1, none⟩) GL.out]; exact CE.out.2⟩
        have NB : Hid (w.heap.size < bf ∧ z ≠ bf ∧ gf ≠ bf) := by have h5 := GL.out; exact ⟨by omega, by omega, by omega⟩
        clear n1' n2' n3' n4' n5' CE GL Fv2 hbf
        generalize (v2.alloc (Obj.cells #[.int .i64 0, .int .i64 0, .int .i64 0, .int .i64 0, .slice none 0 0, .slice none 0 0, .slice none 0 0, .slice none 0 0, .slice none 0 0] 29)) = v3 at *
        obtain ⟨z0, z1, z2, z3, z4, z5, z6, z7, z8⟩ := ZE.out.cells
        obtain ⟨t0, t1, t2, t3, t4, t5, t6, t7, t8⟩ := ZE.out.thaws
        have KZ : Hid (Kp bf v3 (((((((((v3.setCell ⟨bf, 0, none⟩ (.int .i64 0)).setCell ⟨bf, 1, none⟩ (.int .i64 4)).setCell ⟨bf, 2, none⟩ (.int .i64 4)).setCell ⟨bf, 3, none⟩ (.int .i64 2)).setCell ⟨bf, 4, none⟩ (.slice f1 8 h1)).setCell ⟨bf, 5, none⟩ (.slice f2 8 h2)).setCell ⟨bf, 6, none⟩ (.slice (some ⟨gf, 0, none⟩) 2 h3)).setCell ⟨bf, 7, none⟩ (.slice f4 3 h4)).setCell ⟨bf, 8, none⟩ (.slice f5 0 h5))) := put_kp _ _ _ _ _ _ _ _ _ _ _
        obtain ⟨-, -, -, -, -, -, c6, c7, -⟩ := (ZE.out.put (.int .i64 0) (.int .i64 4) (.int .i64 4) (.int .i64 2) (.slice f1 8 h1) (.slice f2 8 h2) (.slice (some ⟨gf, 0, none⟩) 2 h3) (.slice f4 3 h4) (.slice f5 0 h5)).cells
        have FS : Hid (Below w.heap.size w (((((((((v3.setCell ⟨bf, 0, none⟩ (.int .i64 0)).setCell ⟨bf, 1, none⟩ (.int .i64 4)).setCell ⟨bf, 2, none⟩ (.int .i64 4)).setCell ⟨bf, 3, none⟩ (.int .i64 2)).setCell ⟨bf, 4, none⟩ (.slice f1 8 h1)).setCell ⟨bf, 5, none⟩ (.slice f2 8 h2)).setCell ⟨bf, 6, none⟩ (.slice (some ⟨gf, 0, none⟩) 2 h3)).setCell ⟨bf, 7, none⟩ (.slice f4 3 h4)).setCell ⟨bf, 8, none⟩ (.slice f5 0 h5)) ∧ Bw (((((((((v3.setCell ⟨bf, 0, none⟩ (.int .i64 0)).setCell ⟨bf, 1, none⟩ (.int .i64 4)).setCell ⟨bf, 2, none⟩ (.int .i64 4)).setCell ⟨bf, 3, none⟩ (.int .i64 2)).setCell ⟨bf, 4, none⟩ (.slice f1 8 h1)).setCell ⟨bf, 5, none⟩ (.slice f2 8 h2)).setCell ⟨bf, 6, none⟩ (.slice (some ⟨gf, 0, none⟩) 2 h3)).setCell ⟨bf, 7, none⟩ (.slice f4 3 h4)).setCell ⟨bf, 8, none⟩ (.slice f5 0 h5)) w.heap.size X (.slice p1 X.gs.length q1) (.slice p2 X.os.length q2) (.slice p3 X.gold.length q3) (.slice p4 X.us.length q4) (.slice p5 X.qs.length q5) ∧ ((((((((((v3.setCell ⟨bf, 0, none⟩ (.int .i64 0)).setCell ⟨bf, 1, none⟩ (.int .i64 4)).setCell ⟨bf, 2, none⟩ (.int .i64 4)).setCell ⟨bf, 3, none⟩ (.int .i64 2)).setCell ⟨bf, 4, none⟩ (.slice f1 8 h1)).setCell ⟨bf, 5, none⟩ (.slice f2 8 h2)).setCell ⟨bf, 6, none⟩ (.slice (some ⟨gf, 0, none⟩) 2 h3)).setCell ⟨bf, 7, none⟩ (.slice f4 3 h4)).setCell ⟨bf, 8, none⟩ (.slice f5 0 h5)).cell? ⟨z, 0, none⟩ = some (.int .i64 0) ∧ (((((((((v3.setCell ⟨bf, 0, none⟩ (.int .i64 0)).setCell ⟨bf, 1, none⟩ (.int .i64 4)).setCell ⟨bf, 2, none⟩ (.int .i64 4)).setCell ⟨bf, 3, none⟩ (.int .i64 2)).setCell ⟨bf, 4, none⟩ (.slice f1 8 h1)).setCell ⟨bf, 5, none⟩ (.slice f2 8 h2)).setCell ⟨bf, 6, none⟩ (.slice (some ⟨gf, 0, none⟩) 2 h3)).setCell ⟨bf, 7, none⟩ (.slice f4 3 h4)).setCell ⟨bf, 8, none⟩ (.slice f5 0 h5)).cell? ⟨z, 1, none⟩ = some (.int .i64 4) ∧ (((((((((v3.setCell ⟨bf, 0, none⟩ (.int .i64 0)).setCell ⟨bf, 1, none⟩ (.int .i64 4)).setCell ⟨bf, 2, none⟩ (.int .i64 4)).setCell ⟨bf, 3, none⟩ (.int .i64 2)).setCell ⟨bf, 4, none⟩ (.slice f1 8 h1)).setCell ⟨bf, 5, none⟩ (.slice f2 8 h2)).setCell ⟨bf, 6, none⟩ (.slice (some ⟨gf, 0, none⟩) 2 h3)).setCell ⟨bf, 7, none⟩ (.slice f4 3 h4)).setCell ⟨bf, 8, none⟩ (.slice f5 0 h5)).cell? ⟨z, 2, none⟩ = some (.int .i64 4) ∧ (((((((((v3.setCell ⟨bf, 0, none⟩ (.int .i64 0)).setCell ⟨bf, 1, none⟩ (.int .i64 4)).setCell ⟨bf, 2, none⟩ (.int .i64 4)).setCell ⟨bf, 3, none⟩ (.int .i64 2)).setCell ⟨bf, 4, none⟩ (.slice f1 8 h1)).setCell ⟨bf, 5, none⟩ (.slice f2 8 h2)).setCell ⟨bf, 6, none⟩ (.slice (some ⟨gf, 0, none⟩) 2 h3)).setCell ⟨bf, 7, none⟩ (.slice f4 3 h4)).setCell ⟨bf, 8, none⟩ (.slice f5 0 h5)).cell? ⟨z, 3, none⟩ = some (.int .i64 2) ∧ (((((((((v3.setCell ⟨bf, 0, none⟩ (.int .i64 0)).setCell ⟨bf, 1, none⟩ (.int .i64 4)).setCell ⟨bf, 2, none⟩ (.int .i64 4)).setCell ⟨bf, 3, none⟩ (.int .i64 2)).setCell ⟨bf, 4, none⟩ (.slice f1 8 h1)).setCell ⟨bf, 5, none⟩ (.slice f2 8 h2)).setCell ⟨bf, 6, none⟩ (.slice (some ⟨gf, 0, none⟩) 2 h3)).setCell ⟨bf, 7, none⟩ (.slice f4 3 h4)).setCell ⟨bf, 8, none⟩ (.slice f5 0 h5)).cell? ⟨z, 4, none⟩ = some (.slice m1 8 n1) ∧ (((((((((v3.setCell ⟨bf, 0, none⟩ (.int .i64 0)).setCell ⟨bf, 1, none⟩ (.int .i64 4)).setCell ⟨bf, 2, none⟩ (.int .i64 4)).setCell ⟨bf, 3, none⟩ (.int .i64 2)).setCell ⟨bf, 4, none⟩ (.slice f1 8 h1)).setCell ⟨bf, 5, none⟩ (.slice f2 8 h2)).setCell ⟨bf, 6, none⟩ (.slice (some ⟨gf, 0, none⟩) 2 h3)).setCell ⟨bf, 7, none⟩ (.slice f4 3 h4)).setCell ⟨bf, 8, none⟩ (.slice f5 0 h5)).cell? ⟨z, 5, none⟩ = some (.slice m2 8 n2) ∧ (((((((((v3.setCell ⟨bf, 0, none⟩ (.int .i64 0)).setCell ⟨bf, 1, none⟩ (.int .i64 4)).setCell ⟨bf, 2, none⟩ (.int .i64 4)).setCell ⟨bf, 3, none⟩ (.int .i64 2)).setCell ⟨bf, 4, none⟩ (.slice f1 8 h1)).setCell ⟨bf, 5, none⟩ (.slice f2 8 h2)).setCell ⟨bf, 6, none⟩ (.slice (some ⟨gf, 0, none⟩) 2 h3)).setCell ⟨bf, 7, none⟩ (.slice f4 3 h4)).setCell ⟨bf, 8, none⟩ (.slice f5 0 h5)).cell? ⟨z, 6, none⟩ = some (.slice m3 2 n3) ∧ (((((((((v3.setCell ⟨bf, 0, none⟩ (.int .i64 0)).setCell ⟨bf, 1, none⟩ (.int .i64 4)).setCell ⟨bf, 2, none⟩ (.int .i64 4)).setCell ⟨bf, 3, none⟩ (.int .i64 2)).setCell ⟨bf, 4, none⟩ (.slice f1 8 h1)).setCell ⟨bf, 5, none⟩ (.slice f2 8 h2)).setCell ⟨bf, 6, none⟩ (.slice (some ⟨gf, 0, none⟩) 2 h3)).setCell ⟨bf, 7, none⟩ (.slice f4 3 h4)).setCell ⟨bf, 8, none⟩ (.slice f5 0 h5)).cell? ⟨z, 7, none⟩ = some (.slice m4 3 n4) ∧ (((((((((v3.setCell ⟨bf, 0, none⟩ (.int .i64 0)).setCell ⟨bf, 1, none⟩ (.int .i64 4)).setCell ⟨bf, 2, none⟩ (.int .i64 4)).setCell ⟨bf, 3, none⟩ (.int .i64 2)).setCell ⟨bf, 4, none⟩ (.slice f1 8 h1)).setCell ⟨bf, 5, none⟩ (.slice f2 8 h2)).setCell ⟨bf, 6, none⟩ (.slice (some ⟨gf, 0, none⟩) 2 h3)).setCell ⟨bf, 7, none⟩ (.slice f4 3 h4)).setCell ⟨bf, 8, none⟩ (.slice f5 0 h5)).cell? ⟨z, 8, none⟩ = some (.slice m5 0 n5))) := by
          obtain ⟨a1, a2, a3⟩ := FE.out
          have hz := NB.out.2.1
          exact ⟨KZ.out.below a1 a1.size (by have := NB.out.1; omega), a2.kp9 KZ.out (by have := NB.out.1; omega), cell_kp9 a3.1 KZ.out hz, cell_kp9 a3.2.1 KZ.out hz, cell_kp9 a3.2.2.1 KZ.out hz, cell_kp9 a3.2.2.2.1 KZ.out hz, cell_kp9 a3.2.2.2.2.1 KZ.out hz, cell_kp9 a3.2.2.2.2.2.1 KZ.out hz, cell_kp9 a3.2.2.2.2.2.2.1 KZ.out hz, cell_kp9 a3.2.2.2.2.2.2.2.1 KZ.out hz, cell_kp9 a3.2.2.2.2.2.2.2.2 KZ.out hz⟩
        have D7 : Hid ((((((((((v3.setCell ⟨bf, 0, none⟩ (.int .i64 0)).setCell ⟨bf, 1, none⟩ (.int .i64 4)).setCell ⟨bf, 2, none⟩ (.int .i64 4)).setCell ⟨bf, 3, none⟩ (.int .i64 2)).setCell ⟨bf, 4, none⟩ (.slice f1 8 h1)).setCell ⟨bf, 5, none⟩ (.slice f2 8 h2)).setCell ⟨bf, 6, none⟩ (.slice (some ⟨gf, 0, none⟩) 2 h3)).setCell ⟨bf, 7, none⟩ (.slice f4 3 h4)).setCell ⟨bf, 8, none⟩ (.slice f5 0 h5)).cell? ⟨bf, 6, none⟩ = some (.slice (some ⟨gf, 0, none⟩) 2 h3) ∧ (((((((((v3.setCell ⟨bf, 0, none⟩ (.int .i64 0)).setCell ⟨bf, 1, none⟩ (.int .i64 4)).setCell ⟨bf, 2, none⟩ (.int .i64 4)).setCell ⟨bf, 3, none⟩ (.int .i64 2)).setCell ⟨bf, 4, none⟩ (.slice f1 8 h1)).setCell ⟨bf, 5, none⟩ (.slice f2 8 h2)).setCell ⟨bf, 6, none⟩ (.slice (some ⟨gf, 0, none⟩) 2 h3)).setCell ⟨bf, 7, none⟩ (.slice f4 3 h4)).setCell ⟨bf, 8, none⟩ (.slice f5 0 h5)).cell? ⟨gf, 0, none⟩ = some (.int .i64 0) ∧ (((((((((v3.setCell ⟨bf, 0, none⟩ (.int .i64 0)).setCell ⟨bf, 1, none⟩ (.int .i64 4)).setCell ⟨bf, 2, none⟩ (.int .i64 4)).setCell ⟨bf, 3, none⟩ (.int .i64 2)).setCell ⟨bf, 4, none⟩ (.slice f1 8 h1)).setCell ⟨bf, 5, none⟩ (.slice f2 8 h2)).setCell ⟨bf, 6, none⟩ (.slice (some ⟨gf, 0, none⟩) 2 h3)).setCell ⟨bf, 7, none⟩ (.slice f4 3 h4)).setCell ⟨bf, 8, none⟩ (.slice f5 0 h5)).cell? ⟨gf, 1, none⟩ = some (.int .i64 100) ∧ (((((((((v3.setCell ⟨bf, 0, none⟩ (.int .i64 0)).setCell ⟨bf, 1, none⟩ (.int .i64 4)).setCell ⟨bf, 2, none⟩ (.int .i64 4)).setCell ⟨bf, 3, none⟩ (.int .i64 2)).setCell ⟨bf, 4, none⟩ (.slice f1 8 h1)).setCell ⟨bf, 5, none⟩ (.slice f2 8 h2)).setCell ⟨bf, 6, none⟩ (.slice (some ⟨gf, 0, none⟩) 2 h3)).setCell ⟨bf, 7, none⟩ (.slice f4 3 h4)).setCell ⟨bf, 8, none⟩ (.slice f5 0 h5)).cell? ⟨bf, 7, none⟩ = some (.slice f4 3 h4)) := ⟨c6, cell_kp9 CE2.out.1 KZ.out NB.out.2.2, cell_kp9 CE2.out.2 KZ.out NB.out.2.2, c7⟩
        clear c6 c7
        refine headT_skip rfl (((((((((v3.setCell ⟨bf, 0, none⟩ (.int .i64 0)).setCell ⟨bf, 1, none⟩ (.int .i64 4)).setCell ⟨bf, 2, none⟩ (.int .i64 4)).setCell ⟨bf, 3, none⟩ (.int .i64 2)).setCell ⟨bf, 4, none⟩ (.slice f1 8 h1)).setCell ⟨bf, 5, none⟩ (.slice f2 8 h2)).setCell ⟨bf, 6, none⟩ (.slice (some ⟨gf, 0, none⟩) 2 h3)).setCell ⟨bf, 7, none⟩ (.slice f4 3 h4)).setCell ⟨bf, 8, none⟩ (.slice f5 0 h5)) (by go_simp) (by go_simp) FS.out.2.2 ?_
        clear z0 z1 z2 z3 z4 z5 z6 z7 z8 t0 t1 t2 t3 t4 t5 t6 t7 t8 KZ ZE FE CE2
        generalize (((((((((v3.setCell ⟨bf, 0, none⟩ (.int .i64 0)).setCell ⟨bf, 1, none⟩ (.int .i64 4)).setCell ⟨bf, 2, none⟩ (.int .i64 4)).setCell ⟨bf, 3, none⟩ (.int .i64 2)).setCell ⟨bf, 4, none⟩ (.slice f1 8 h1)).setCell ⟨bf, 5, none⟩ (.slice f2 8 h2)).setCell ⟨bf, 6, none⟩ (.slice (some ⟨gf, 0, none⟩) 2 h3)).setCell ⟨bf, 7, none⟩ (.slice f4 3 h4)).setCell ⟨bf, 8, none⟩ (.slice f5 0 h5)) = wE at *
        go_simp
        unfold wpHeadT
        refine sched_value rfl .nilIface wE (by go_simp) (by go_simp) trivial ?_
        go_simp
        unfold wpSched
        go_wp2_with fail
        go_meet
        case rel => exact ⟨rfl, bf, gf, h3, f4, h4, rfl, H3.out, D7.out.1, D7.out.2.1, D7.out.2.2.1, D7.out.2.2.2, FS.out.1, FS.out.2.1⟩
      · obtain ⟨n1', n2', n3', n4', n5'⟩ := NEW.out v1 Fv1.out
        obtain ⟨bf, hbf⟩ : ∃ z, v1.heap.size = z := ⟨_, rfl⟩
        rw [hbf]
        go_simp
        have ZB : Hid (Wx (v1.alloc (Obj.cells #[.int .i64 0, .int .i64 0, .int .i64 0, .int .i64 0, .slice none 0 0, .slice none 0 0, .slice none 0 0, .slice none 0 0, .slice none 0 0] 29)) bf (.int .i64 0) (.int .i64 0) (.int .i64 0) (.int .i64 0) (.slice none 0 0) (.slice none 0 0) (.slice none 0 0) (.slice none 0 0) (.slice none 0 0)) := by rw [← hbf]; exact n1'
        have Fva : Hid (Below w.heap.size w (v1.alloc (Obj.cells #[.int .i64 0, .int .i64 0, .int .i64 0, .int .i64 0, .slice none 0 0, .slice none 0 0, .slice none 0 0, .slice none 0 0, .slice none 0 0] 29)) ∧ Bw (v1.alloc (Obj.cells #[.int .i64 0, .int .i64 0, .int .i64 0, .int .i64 0, .slice none 0 0, .slice none 0 0, .slice none 0 0, .slice none 0 0, .slice none 0 0] 29)) w.heap.size X (.slice p1 X.gs.length q1) (.slice p2 X.os.length q2) (.slice p3 X.gold.length q3) (.slice p4 X.us.length q4) (.slice p5 X.qs.length q5) ∧ ((v1.alloc (Obj.cells #[.int .i64 0, .int .i64 0, .int .i64 0, .int .i64 0, .slice none 0 0, .slice none 0 0, .slice none 0 0, .slice none 0 0, .slice none 0 0] 29)).cell? ⟨z, 0, none⟩ = some (.int .i64 0) ∧ (v1.alloc (Obj.cells #[.int .i64 0, .int .i64 0, .int .i64 0, .int .i64 0, .slice none 0 0, .slice none 0 0, .slice none 0 0, .slice none 0 0, .slice none 0 0] 29)).cell? ⟨z, 1, none⟩ = some (.int .i64 4) ∧ (v1.alloc (Obj.cells #[.int .i64 0, .int .i64 0, .int .i64 0, .int .i64 0, .slice none 0 0, .slice none 0 0, .slice none 0 0, .slice none 0 0, .slice none 0 0] 29)).cell? ⟨z, 2, none⟩ = some (.int .i64 4) ∧ (v1.alloc (Obj.cells #[.int .i64 0, .int .i64 0, .int .i64 0, .int .i64 0, .slice none 0 0, .slice none 0 0, .slice none 0 0, .slice none 0 0, .slice none 0 0] 29)).cell? ⟨z, 3, none⟩ = some (.int .i64 2) ∧ (v1.alloc (Obj.cells #[.int .i64 0, .int .i64 0, .int .i64 0, .int .i64 0, .slice none 0 0, .slice none 0 0, .slice none 0 0, .slice none 0 0, .slice none 0 0] 29)).cell? ⟨z, 4, none⟩ = some (.slice m1 8 n1) ∧ (v1.alloc (Obj.cells #[.int .i64 0, .int .i64 0, .int .i64 0, .int .i64 0, .slice none 0 0, .slice none 0 0, .slice none 0 0, .slice none 0 0, .slice none 0 0] 29)).cell? ⟨z, 5, none⟩ = some (.slice m2 8 n2) ∧ (v1.alloc (Obj.cells #[.int .i64 0, .int .i64 0, .int .i64 0, .int .i64 0, .slice none 0 0, .slice none 0 0, .slice none 0 0, .slice none 0 0, .slice none 0 0] 29)).cell? ⟨z, 6, none⟩ = some (.slice m3 2 n3) ∧ (v1.alloc (Obj.cells #[.int .i64 0, .int .i64 0, .int .i64 0, .int .i64 0, .slice none 0 0, .slice none 0 0, .slice none 0 0, .slice none 0 0, .slice none 0 0] 29)).cell? ⟨z, 7, none⟩ = some (.slice m4 3 n4) ∧ (v1.alloc (Obj.cells #[.int .i64 0, .int .i64 0, .int .i64 0, .int .i64 0, .slice none 0 0, .slice none 0 0, .slice none 0 0, .slice none 0 0, .slice none 0 0] 29)).cell? ⟨z, 8, none⟩ = some (.slice m5 0 n5))) := FB.out _ _ Fv1.out n4'
        have LB : Hid (Wl (v1.alloc (Obj.cells #[.int .i64 0, .int .i64 0, .int .i64 0, .int .i64 0, .slice none 0 0, .slice none 0 0, .slice none 0 0, .slice none 0 0, .slice none 0 0] 29)) (.agg #[.int .i64 0, .int .i64 4, .int .i64 4, .int .i64 2, .slice m1 8 n1, .slice m2 8 n2, .slice m3 2 n3, .slice m4 3 n4, .slice m5 0 n5]) S3) := LA.out.below n4'
        have KB : Hid (Kl (v1.alloc (Obj.cells #[.int .i64 0, .int .i64 0, .int .i64 0, .int .i64 0, .slice none 0 0, .slice none 0 0, .slice none 0 0, .slice none 0 0, .slice none 0 0] 29)) ku SK) := KU.out.below n4'
        have N0 : Hid (w.heap.size < bf ∧ z ≠ bf ∧ bf < (v1.alloc (Obj.cells #[.int .i64 0, .int .i64 0, .int .i64 0, .int .i64 0, .slice none 0 0, .slice none 0 0, .slice none 0 0, .slice none 0 0, .slice none 0 0] 29)).heap.size) := ⟨by omega, by omega, by omega⟩
        clear n1' n2' n3' n4' n5' LA KU Fv1 hbf
        generalize (v1.alloc (Obj.cells #[.int .i64 0, .int .i64 0, .int .i64 0, .int .i64 0, .slice none 0 0, .slice none 0 0, .slice none 0 0, .slice none 0 0, .slice none 0 0] 29)) = va at *
        refine headT_call rfl 10 #[ku, .agg #[.int .i64 0, .int .i64 4, .int .i64 4, .int .i64 2, .slice m1 8 n1, .slice m2 8 n2, .slice m3 2 n3, .slice m4 3 n4, .slice m5 0 n5], .int .i64 1] (by go_simp) (by go_simp) ?_
        refine (View_any ku _ SK S3 1 va KB.out sm_names LB.out).mono ?_
        rintro e v2 ⟨v, r, rfl, hr, hf, hb⟩
        rw [sv_zero] at hr
        obtain rfl := er_zero hr
        obtain ⟨f1, h1, f2, h2, gf, h3, f4, h4, f5, h5, rfl, hgf, h23, hc0, hc1⟩ := sm_view hf
        have H3 : Hid (2 ≤ h3) := h23
        have CE : Hid (v2.cell? ⟨gf, 0, none⟩ = some (.int .i64 0) ∧ v2.cell? ⟨gf, 1, none⟩ = some (.int .i64 100)) := ⟨hc0, hc1⟩
        have Fv2 : Hid (Below w.heap.size w v2 ∧ Bw v2 w.heap.size X (.slice p1 X.gs.length q1) (.slice p2 X.os.length q2) (.slice p3 X.gold.length q3) (.slice p4 X.us.length q4) (.slice p5 X.qs.length q5) ∧ (v2.cell? ⟨z, 0, none⟩ = some (.int .i64 0) ∧ v2.cell? ⟨z, 1, none⟩ = some (.int .i64 4) ∧ v2.cell? ⟨z, 2, none⟩ = some (.int .i64 4) ∧ v2.cell? ⟨z, 3, none⟩ = some (.int .i64 2) ∧ v2.cell? ⟨z, 4, none⟩ = some (.slice m1 8 n1) ∧ v2.cell? ⟨z, 5, none⟩ = some (.slice m2 8 n2) ∧ v2.cell? ⟨z, 6, none⟩ = some (.slice m3 2 n3) ∧ v2.cell? ⟨z, 7, none⟩ = some (.slice m4 3 n4) ∧ v2.cell? ⟨z, 8, none⟩ = some (.slice m5 0 n5))) := FB.out va v2 Fva.out hb
        have NB : Hid (w.heap.size < bf ∧ z ≠ bf ∧ gf ≠ bf) := by have h5 := N0.out; exact ⟨h5.1, h5.2.1, by omega⟩
        have ZE : Hid (Wx v2 bf (.int .i64 0) (.int .i64 0) (.int .i64 0) (.int .i64 0) (.slice none 0 0) (.slice none 0 0) (.slice none 0 0) (.slice none 0 0) (.slice none 0 0)) := ZB.out.below hb N0.out.2.2
        refine ⟨_, rfl, Fv2.out.2.2, ?_⟩
        clear hgf h23 hc0 hc1 hf hr hb LB KB Fva ZB N0
        go_simp
        refine headT_read rfl (.tuple #[.agg #[.int .i64 0, .int .i64 4, .int .i64 4, .int .i64 2, .slice f1 8 h1, .slice f2 8 h2, .slice (some ⟨gf, 0, none⟩) 2 h3, .slice f4 3 h4, .slice f5 0 h5], .nilIface]) (by go_simp) (fun V hV => by go_simp) ?_
        go_simp
        refine headT_read rfl (.agg #[.int .i64 0, .int .i64 4, .int .i64 4, .int .i64 2, .slice f1 8 h1, .slice f2 8 h2, .slice (some ⟨gf, 0, none⟩) 2 h3, .slice f4 3 h4, .slice f5 0 h5]) (by go_simp) (fun V hV => by go_simp) ?_
        go_simp
        refine headT_read rfl (.nilIface) (by go_simp) (fun V hV => by go_simp) ?_
        go_simp
        obtain ⟨z0, z1, z2, z3, z4, z5, z6, z7, z8⟩ := ZE.out.cells
        obtain ⟨t0, t1, t2, t3, t4, t5, t6, t7, t8⟩ := ZE.out.thaws
        have KZ : Hid (Kp bf v2 (((((((((v2.setCell ⟨bf, 0, none⟩ (.int .i64 0)).setCell ⟨bf, 1, none⟩ (.int .i64 4)).setCell ⟨bf, 2, none⟩ (.int .i64 4)).setCell ⟨bf, 3, none⟩ (.int .i64 2)).setCell ⟨bf, 4, none⟩ (.slice f1 8 h1)).setCell ⟨bf, 5, none⟩ (.slice f2 8 h2)).setCell ⟨bf, 6, none⟩ (.slice (some ⟨gf, 0, none⟩) 2 h3)).setCell ⟨bf, 7, none⟩ (.slice f4 3 h4)).setCell ⟨bf, 8, none⟩ (.slice f5 0 h5))) := put_kp _ _ _ _ _ _ _ _ _ _ _
        obtain ⟨-, -, -, -, -, -, c6, c7, -⟩ := (ZE.out.put (.int .i64 0) (.int .i64 4) (.int .i64 4) (.int .i64 2) (.slice f1 8 h1) (.slice f2 8 h2) (.slice (some ⟨gf, 0, none⟩) 2 h3) (.slice f4 3 h4) (.slice f5 0 h5)).cells
        have FS : Hid (Below w.heap.size w (((((((((v2.setCell ⟨bf, 0, none⟩ (.int .i64 0)).setCell ⟨bf, 1, none⟩ (.int .i64 4)).setCell ⟨bf, 2, none⟩ (.int .i64 4)).setCell ⟨bf, 3, none⟩ (.int .i64 2)).setCell ⟨bf, 4, none⟩ (.slice f1 8 h1)).setCell ⟨bf, 5, none⟩ (.slice f2 8 h2)).setCell ⟨bf, 6, none⟩ (.slice (some ⟨gf, 0, none⟩) 2 h3)).setCell ⟨bf, 7, none⟩ (.slice f4 3 h4)).setCell ⟨bf, 8, none⟩ (.slice f5 0 h5)) ∧ Bw (((((((((v2.setCell ⟨bf, 0, none⟩ (.int .i64 0)).setCell ⟨bf, 1, none⟩ (.int .i64 4)).setCell ⟨bf, 2, none⟩ (.int .i64 4)).setCell ⟨bf, 3, none⟩ (.int .i64 2)).setCell ⟨bf, 4, none⟩ (.slice f1 8 h1)).setCell ⟨bf, 5, none⟩ (.slice f2 8 h2)).setCell ⟨bf, 6, none⟩ (.slice (some ⟨gf, 0, none⟩) 2 h3)).setCell ⟨bf, 7, none⟩ (.slice f4 3 h4)).setCell ⟨bf, 8, none⟩ (.slice f5 0 h5)) w.heap.size X (.slice p1 X.gs.length q1) (.slice p2 X.os.length q2) (.slice p3 X.gold.length q3) (.slice p4 X.us.length q4) (.slice p5 X.qs.length q5) ∧ ((((((((((v2.setCell ⟨bf, 0, none⟩ (.int .i64 0)).setCell ⟨bf, 1, none⟩ (.int .i64 4)).setCell ⟨bf, 2, none⟩ (.int .i64 4)).setCell ⟨bf, 3, none⟩ (.int .i64 2)).setCell ⟨bf, 4, none⟩ (.slice f1 8 h1)).setCell ⟨bf, 5, none⟩ (.slice f2 8 h2)).setCell ⟨bf, 6, none⟩ (.slice (some ⟨gf, 0, none⟩) 2 h3)).setCell ⟨bf, 7, none⟩ (.slice f4 3 h4)).setCell ⟨bf, 8, none⟩ (.slice f5 0 h5)).cell? ⟨z, 0, none⟩ = some (.int .i64 0) ∧ (((((((((v2.setCell ⟨bf, 0, none⟩ (.int .i64 0)).setCell ⟨bf, 1, none⟩ (.int .i64 4)).setCell ⟨bf, 2, none⟩ (.int .i64 4)).setCell ⟨bf, 3, none⟩ (.int .i64 2)).setCell ⟨bf, 4, none⟩ (.slice f1 8 h1)).setCell ⟨bf, 5, none⟩ (.slice f2 8 h2)).setCell ⟨bf, 6, none⟩ (.slice (some ⟨gf, 0, none⟩) 2 h3)).setCell ⟨bf, 7, none⟩ (.slice f4 3 h4)).setCell ⟨bf, 8, none⟩ (.slice f5 0 h5)).cell? ⟨z, 1, none⟩ = some (.int .i64 4) ∧ (((((((((v2.setCell ⟨bf, 0, none⟩ (.int .i64 0)).setCell ⟨bf, 1, none⟩ (.int .i64 4)).setCell ⟨bf, 2, none⟩ (.int .i64 4)).setCell ⟨bf, 3, none⟩ (.int .i64 2)).setCell ⟨bf, 4, none⟩ (.slice f1 8 h1)).setCell ⟨bf, 5, none⟩ (.slice f2 8 h2)).setCell ⟨bf, 6, none⟩ (.slice (some ⟨gf, 0, none⟩) 2 h3)).setCell ⟨bf, 7, none⟩ (.slice f4 3 h4)).setCell ⟨bf, 8, none⟩ (.slice f5 0 h5)).cell? ⟨z, 2, none⟩ = some (.int .i64 4) ∧ (((((((((v2.setCell ⟨bf, 0, none⟩ (.int .i64 0)).setCell ⟨bf, 1, none⟩ (.int .i64 4)).setCell ⟨bf, 2, none⟩ (.int .i64 4)).setCell ⟨bf, 3, none⟩ (.int .i64 2)).setCell ⟨bf, 4, none⟩ (.slice f1 8 h1)).setCell ⟨bf, 5, none⟩ (.slice f2 8 h2)).setCell ⟨bf, 6, none⟩ (.slice (some ⟨gf, 0, none⟩) 2 h3)).setCell ⟨bf, 7, none⟩ (.slice f4 3 h4)).setCell ⟨bf, 8, none⟩ (.slice f5 0 h5)).cell? ⟨z, 3, none⟩ = some (.int .i64 2) ∧ (((((((((v2.setCell ⟨bf, 0, none⟩ (.int .i64 0)).setCell ⟨bf, 1, none⟩ (.int .i64 4)).setCell ⟨bf, 2, none⟩ (.int .i64 4)).setCell ⟨bf, 3, none⟩ (.int .i64 2)).setCell ⟨bf, 4, none⟩ (.slice f1 8 h1)).setCell ⟨bf, 5, none⟩ (.slice f2 8 h2)).setCell ⟨bf, 6, none⟩ (.slice (some ⟨gf, 0, none⟩) 2 h3)).setCell ⟨bf, 7, none⟩ (.slice f4 3 h4)).setCell ⟨bf, 8, none⟩ (.slice f5 0 h5)).cell? ⟨z, 4, none⟩ = some (.slice m1 8 n1) ∧ (((((((((v2.setCell ⟨bf, 0, none⟩ (.int .i64 0)).setCell ⟨bf, 1, none⟩ (.int .i64 4)).setCell ⟨bf, 2, none⟩ (.int .i64 4)).setCell ⟨bf, 3, none⟩ (.int .i64 2)).setCell ⟨bf, 4, none⟩ (.slice f1 8 h1)).setCell ⟨bf, 5, none⟩ (.slice f2 8 h2)).setCell ⟨bf, 6, none⟩ (.slice (some ⟨gf, 0, none⟩) 2 h3)).setCell ⟨bf, 7, none⟩ (.slice f4 3 h4)).setCell ⟨bf, 8, none⟩ (.slice f5 0 h5)).cell? ⟨z, 5, none⟩ = some (.slice m2 8 n2) ∧ (((((((((v2.setCell ⟨bf, 0, none⟩ (.int .i64 0)).setCell ⟨bf, 1, none⟩ (.int .i64 4)).setCell ⟨bf, 2, none⟩ (.int .i64 4)).setCell ⟨bf, 3, none⟩ (.int .i64 2)).setCell ⟨bf, 4, none⟩ (.slice f1 8 h1)).setCell ⟨bf, 5, none⟩ (.slice f2 8 h2)).setCell ⟨bf, 6, none⟩ (.slice (some ⟨gf, 0, none⟩) 2 h3)).setCell ⟨bf, 7, none⟩ (.slice f4 3 h4)).setCell ⟨bf, 8, none⟩ (.slice f5 0 h5)).cell? ⟨z, 6, none⟩ = some (.slice m3 2 n3) ∧ (((((((((v2.setCell ⟨bf, 0, none⟩ (.int .i64 0)).setCell ⟨bf, 1, none⟩ (.int .i64 4)).setCell ⟨bf, 2, none⟩ (.int .i64 4)).setCell ⟨bf, 3, none⟩ (.int .i64 2)).setCell ⟨bf, 4, none⟩ (.slice f1 8 h1)).setCell ⟨bf, 5, none⟩ (.slice f2 8 h2)).setCell ⟨bf, 6, none⟩ (.slice (some ⟨gf, 0, none⟩) 2 h3)).setCell ⟨bf, 7, none⟩ (.slice f4 3 h4)).setCell ⟨bf, 8, none⟩ (.slice f5 0 h5)).cell? ⟨z, 7, none⟩ = some (.slice m4 3 n4) ∧ (((((((((v2.setCell ⟨bf, 0, none⟩ (.int .i64 0)).setCell ⟨bf, 1, none⟩ (.int .i64 4)).setCell ⟨bf, 2, none⟩ (.int .i64 4)).setCell ⟨bf, 3, none⟩ (.int .i64 2)).setCell ⟨bf, 4, none⟩ (.slice f1 8 h1)).setCell ⟨bf, 5, none⟩ (.slice f2 8 h2)).setCell ⟨bf, 6, none⟩ (.slice (some ⟨gf, 0, none⟩) 2 h3)).setCell ⟨bf, 7, none⟩ (.slice f4 3 h4)).setCell ⟨bf, 8, none⟩ (.slice f5 0 h5)).cell? ⟨z, 8, none⟩ = some (.slice m5 0 n5))) := by
          obtain ⟨a1, a2, a3⟩ := Fv2.out
          have hz := NB.out.2.1
          exact ⟨KZ.out.below a1 a1.size (by have := NB.out.1; omega), a2.kp9 KZ.out (by have := NB.out.1; omega), cell_kp9 a3.1 KZ.out hz, cell_kp9 a3.2.1 KZ.out hz, cell_kp9 a3.2.2.1 KZ.out hz, cell_kp9 a3.2.2.2.1 KZ.out hz, cell_kp9 a3.2.2.2.2.1 KZ.out hz, cell_kp9 a3.2.2.2.2.2.1 KZ.out hz, cell_kp9 a3.2.2.2.2.2.2.1 KZ.out hz, cell_kp9 a3.2.2.2.2.2.2.2.1 KZ.out hz, cell_kp9 a3.2.2.2.2.2.2.2.2 KZ.out hz⟩
        have D7 : Hid ((((((((((v2.setCell ⟨bf, 0, none⟩ (.int .i64 0)).setCell ⟨bf, 1, none⟩ (.int .i64 4)).setCell ⟨bf, 2, none⟩ (.int .i64 4)).setCell ⟨bf, 3, none⟩ (.int .i64 2)).setCell ⟨bf, 4, none⟩ (.slice f1 8 h1)).setCell ⟨bf, 5, none⟩ (.slice f2 8 h2)).setCell ⟨bf, 6, none⟩ (.slice (some ⟨gf, 0, none⟩) 2 h3)).setCell ⟨bf, 7, none⟩ (.slice f4 3 h4)).setCell ⟨bf, 8, none⟩ (.slice f5 0 h5)).cell? ⟨bf, 6, none⟩ = some (.slice (some ⟨gf, 0, none⟩) 2 h3) ∧ (((((((((v2.setCell ⟨bf, 0, none⟩ (.int .i64 0)).setCell ⟨bf, 1, none⟩ (.int .i64 4)).setCell ⟨bf, 2, none⟩ (.int .i64 4)).setCell ⟨bf, 3, none⟩ (.int .i64 2)).setCell ⟨bf, 4, none⟩ (.slice f1 8 h1)).setCell ⟨bf, 5, none⟩ (.slice f2 8 h2)).setCell ⟨bf, 6, none⟩ (.slice (some ⟨gf, 0, none⟩) 2 h3)).setCell ⟨bf, 7, none⟩ (.slice f4 3 h4)).setCell ⟨bf, 8, none⟩ (.slice f5 0 h5)).cell? ⟨gf, 0, none⟩ = some (.int .i64 0) ∧ (((((((((v2.setCell ⟨bf, 0, none⟩ (.int .i64 0)).setCell ⟨bf, 1, none⟩ (.int .i64 4)).setCell ⟨bf, 2, none⟩ (.int .i64 4)).setCell ⟨bf, 3, none⟩ (.int .i64 2)).setCell ⟨bf, 4, none⟩ (.slice f1 8 h1)).setCell ⟨bf, 5, none⟩ (.slice f2 8 h2)).setCell ⟨bf, 6, none⟩ (.slice (some ⟨gf, 0, none⟩) 2 h3)).setCell ⟨bf, 7, none⟩ (.slice f4 3 h4)).setCell ⟨bf, 8, none⟩ (.slice f5 0 h5)).cell? ⟨gf, 1, none⟩ = some (.int .i64 100) ∧ (((((((((v2.setCell ⟨bf, 0, none⟩ (.int .i64 0)).setCell ⟨bf, 1, none⟩ (.int .i64 4)).setCell ⟨bf, 2, none⟩ (.int .i64 4)).setCell ⟨bf, 3, none⟩ (.int .i64 2)).setCell ⟨bf, 4, none⟩ (.slice f1 8 h1)).setCell ⟨bf, 5, none⟩ (.slice f2 8 h2)).setCell ⟨bf, 6, none⟩ (.slice (some ⟨gf, 0, none⟩) 2 h3)).setCell ⟨bf, 7, none⟩ (.slice f4 3 h4)).setCell ⟨bf, 8, none⟩ (.slice f5 0 h5)).cell? ⟨bf, 7, none⟩ = some (.slice f4 3 h4)) := ⟨c6, cell_kp9 CE.out.1 KZ.out NB.out.2.2, cell_kp9 CE.out.2 KZ.out NB.out.2.2, c7⟩
        clear c6 c7
        refine headT_skip rfl (((((((((v2.setCell ⟨bf, 0, none⟩ (.int .i64 0)).setCell ⟨bf, 1, none⟩ (.int .i64 4)).setCell ⟨bf, 2, none⟩ (.int .i64 4)).setCell ⟨bf, 3, none⟩ (.int .i64 2)).setCell ⟨bf, 4, none⟩ (.slice f1 8 h1)).setCell ⟨bf, 5, none⟩ (.slice f2 8 h2)).setCell ⟨bf, 6, none⟩ (.slice (some ⟨gf, 0, none⟩) 2 h3)).setCell ⟨bf, 7, none⟩ (.slice f4 3 h4)).setCell ⟨bf, 8, none⟩ (.slice f5 0 h5)) (by go_simp) (by go_simp) FS.out.2.2 ?_
        clear z0 z1 z2 z3 z4 z5 z6 z7 z8 t0 t1 t2 t3 t4 t5 t6 t7 t8 KZ ZE Fv2 CE
        generalize (((((((((v2.setCell ⟨bf, 0, none⟩ (.int .i64 0)).setCell ⟨bf, 1, none⟩ (.int .i64 4)).setCell ⟨bf, 2, none⟩ (.int .i64 4)).setCell ⟨bf, 3, none⟩ (.int .i64 2)).setCell ⟨bf, 4, none⟩ (.slice f1 8 h1)).setCell ⟨bf, 5, none⟩ (.slice f2 8 h2)).setCell ⟨bf, 6, none⟩ (.slice (some ⟨gf, 0, none⟩) 2 h3)).setCell ⟨bf, 7, none⟩ (.slice f4 3 h4)).setCell ⟨bf, 8, none⟩ (.slice f5 0 h5)) = wE at *
        go_simp
        unfold wpHeadT
        refine sched_value rfl .nilIface wE (by go_simp) (by go_simp) trivial ?_
        go_simp
        unfold wpSched
        go_wp2_with fail
        go_meet
        case rel => exact ⟨rfl, bf, gf, h3, f4, h4, rfl, H3.out, D7.out.1, D7.out.2.1, D7.out.2.2.1, D7.out.2.2.2, FS.out.1, FS.out.2.1⟩
    · obtain ⟨n1', n2', n3', n4', n5'⟩ := NEW.out v0 Fv0.out
      obtain ⟨bf, hbf⟩ : ∃ z, v0.heap.size = z := ⟨_, rfl⟩
      rw [hbf]
      go_simp
      have ZB : Hid (Wx (v0.alloc (Obj.cells #[.int .i64 0, .int .i64 0, .int .i64 0, .int .i64 0, .slice none 0 0, .slice none 0 0, .slice none 0 0, .slice none 0 0, .slice none 0 0] 29)) bf (.int .i64 0) (.int .i64 0) (.int .i64 0) (.int .i64 0) (.slice none 0 0) (.slice none 0 0) (.slice none 0 0) (.slice none 0 0) (.slice none 0 0)) := by rw [← hbf]; exact n1'
      have Fva : Hid (Below w.heap.size w (v0.alloc (Obj.cells #[.int .i64 0, .int .i64 0, .int .i64 0, .int .i64 0, .slice none 0 0, .slice none 0 0, .slice none 0 0, .slice none 0 0, .slice none 0 0] 29)) ∧ Bw (v0.alloc (Obj.cells #[.int .i64 0, .int .i64 0, .int .i64 0, .int .i64 0, .slice none 0 0, .slice none 0 0, .slice none 0 0, .slice none 0 0, .slice none 0 0] 29)) w.heap.size X (.slice p1 X.gs.length q1) (.slice p2 X.os.length q2) (.slice p3 X.gold.length q3) (.slice p4 X.us.length q4) (.slice p5 X.qs.length q5) ∧ ((v0.alloc (Obj.cells #[.int .i64 0, .int .i64 0, .int .i64 0, .int .i64 0, .slice none 0 0, .slice none 0 0, .slice none 0 0, .slice none 0 0, .slice none 0 0] 29)).cell? ⟨z, 0, none⟩ = some (.int .i64 0) ∧ (v0.alloc (Obj.cells #[.int .i64 0, .int .i64 0, .int .i64 0, .int .i64 0, .slice none 0 0, .slice none 0 0, .slice none 0 0, .slice none 0 0, .slice none 0 0] 29)).cell? ⟨z, 1, none⟩ = some (.int .i64 4) ∧ (v0.alloc (Obj.cells #[.int .i64 0, .int .i64 0, .int .i64 0, .int .i64 0, .slice none 0 0, .slice none 0 0, .slice none 0 0, .slice none 0 0, .slice none 0 0] 29)).cell? ⟨z, 2, none⟩ = some (.int .i64 4) ∧ (v0.alloc (Obj.cells #[.int .i64 0, .int .i64 0, .int .i64 0, .int .i64 0, .slice none 0 0, .slice none 0 0, .slice none 0 0, .slice none 0 0, .slice none 0 0] 29)).cell? ⟨z, 3, none⟩ = some (.int .i64 2) ∧ (v0.alloc (Obj.cells #[.int .i64 0, .int .i64 0, .int .i64 0, .int .i64 0, .slice none 0 0, .slice none 0 0, .slice none 0 0, .slice none 0 0, .slice none 0 0] 29)).cell? ⟨z, 4, none⟩ = some (.slice m1 8 n1) ∧ (v0.alloc (Obj.cells #[.int .i64 0, .int .i64 0, .int .i64 0, .int .i64 0, .slice none 0 0, .slice none 0 0, .slice none 0 0, .slice none 0 0, .slice none 0 0] 29)).cell? ⟨z, 5, none⟩ = some (.slice m2 8 n2) ∧ (v0.alloc (Obj.cells #[.int .i64 0, .int .i64 0, .int .i64 0, .int .i64 0, .slice none 0 0, .slice none 0 0, .slice none 0 0, .slice none 0 0, .slice none 0 0] 29)).cell? ⟨z, 6, none⟩ = some (.slice m3 2 n3) ∧ (v0.alloc (Obj.cells #[.int .i64 0, .int .i64 0, .int .i64 0, .int .i64 0, .slice none 0 0, .slice none 0 0, .slice none 0 0, .slice none 0 0, .slice none 0 0] 29)).cell? ⟨z, 7, none⟩ = some (.slice m4 3 n4) ∧ (v0.alloc (Obj.cells #[.int .i64 0, .int .i64 0, .int .i64 0, .int .i64 0, .slice none 0 0, .slice none 0 0, .slice none 0 0, .slice none 0 0, .slice none 0 0] 29)).cell? ⟨z, 8, none⟩ = some (.slice m5 0 n5))) := FB.out _ _ Fv0.out n4'
      have LB : Hid (Wl (v0.alloc (Obj.cells #[.int .i64 0, .int .i64 0, .int .i64 0, .int .i64 0, .slice none 0 0, .slice none 0 0, .slice none 0 0, .slice none 0 0, .slice none 0 0] 29)) (.agg #[.int .i64 0, .int .i64 4, .int .i64 4, .int .i64 2, .slice m1 8 n1, .slice m2 8 n2, .slice m3 2 n3, .slice m4 3 n4, .slice m5 0 n5]) S3) := L0.out.below n4'
      have N0 : Hid (w.heap.size < bf ∧ z ≠ bf ∧ bf < (v0.alloc (Obj.cells #[.int .i64 0, .int .i64 0, .int .i64 0, .int .i64 0, .slice none 0 0, .slice none 0 0, .slice none 0 0, .slice none 0 0, .slice none 0 0] 29)).heap.size) := ⟨by omega, by omega, by omega⟩
      clear n1' n2' n3' n4' n5' L0 Fv0 hbf
      generalize (v0.alloc (Obj.cells #[.int .i64 0, .int .i64 0, .int .i64 0, .int .i64 0, .slice none 0 0, .slice none 0 0, .slice none 0 0, .slice none 0 0, .slice none 0 0] 29)) = va at *
      refine headT_call rfl 11 #[] (by go_simp) (by go_simp) ?_
      refine (sorts_any va).mono ?_
      rintro e vb ⟨ku, rfl, hk, hb⟩
      have KU : Hid (Kl vb ku SK) := hk
      have Fvb : Hid (Below w.heap.size w vb ∧ Bw vb w.heap.size X (.slice p1 X.gs.length q1) (.slice p2 X.os.length q2) (.slice p3 X.gold.length q3) (.slice p4 X.us.length q4) (.slice p5 X.qs.length q5) ∧ (vb.cell? ⟨z, 0, none⟩ = some (.int .i64 0) ∧ vb.cell? ⟨z, 1, none⟩ = some (.int .i64 4) ∧ vb.cell? ⟨z, 2, none⟩ = some (.int .i64 4) ∧ vb.cell? ⟨z, 3, none⟩ = some (.int .i64 2) ∧ vb.cell? ⟨z, 4, none⟩ = some (.slice m1 8 n1) ∧ vb.cell? ⟨z, 5, none⟩ = some (.slice m2 8 n2) ∧ vb.cell? ⟨z, 6, none⟩ = some (.slice m3 2 n3) ∧ vb.cell? ⟨z, 7, none⟩ = some (.slice m4 3 n4) ∧ vb.cell? ⟨z, 8, none⟩ = some (.slice m5 0 n5))) := FB.out va vb Fva.out hb
      have LA : Hid (Wl vb (.agg #[.int .i64 0, .int .i64 4, .int .i64 4, .int .i64 2, .slice m1 8 n1, .slice m2 8 n2, .slice m3 2 n3, .slice m4 3 n4, .slice m5 0 n5]) S3) := LB.out.below hb
      have ZC : Hid (Wx vb bf (.int .i64 0) (.int .i64 0) (.int .i64 0) (.int .i64 0) (.slice none 0 0) (.slice none 0 0) (.slice none 0 0) (.slice none 0 0) (.slice none 0 0)) := ZB.out.below hb N0.out.2.2
      have N1 : Hid (w.heap.size < bf ∧ z ≠ bf ∧ bf < vb.heap.size) := ⟨N0.out.1, N0.out.2.1, Nat.lt_of_lt_of_le N0.out.2.2 hb.size⟩
      refine ⟨_, rfl, Fvb.out.2.2, ?_⟩
      clear hk hb Fva LB ZB N0
      go_simp
      refine headT_call rfl 10 #[ku, .agg #[.int .i64 0, .int .i64 4, .int .i64 4, .int .i64 2, .slice m1 8 n1, .slice m2 8 n2, .slice m3 2 n3, .slice m4 3 n4, .slice m5 0 n5], .int .i64 1] (by go_simp) (by go_simp) ?_
      refine (View_any ku _ SK S3 1 vb KU.out sm_names LA.out).mono ?_
      rintro e v2 ⟨v, r, rfl, hr, hf, hb⟩
      rw [sv_zero] at hr
      obtain rfl := er_zero hr
      obtain ⟨f1, h1, f2, h2, gf, h3, f4, h4, f5, h5, rfl, hgf, h23, hc0, hc1⟩ := sm_view hf
      have H3 : Hid (2 ≤ h3) := h23
      have CE : Hid (v2.cell? ⟨gf, 0, none⟩ = some (.int .i64 0) ∧ v2.cell? ⟨gf, 1, none⟩ = some (.int .i64 100)) := ⟨hc0, hc1⟩
      have Fv2 : Hid (Below w.heap.size w v2 ∧ Bw v2 w.heap.size X (.slice p1 X.gs.length q1) (.slice p2 X.os.length q2) (.slice p3 X.gold.length q3) (.slice p4 X.us.length q4) (.slice p5 X.qs.length q5) ∧ (v2.cell? ⟨z, 0, none⟩ = some (.int .i64 0) ∧ v2.cell? ⟨z, 1, none⟩ = some (.int .i64 4) ∧ v2.cell? ⟨z, 2, none⟩ = some (.int .i64 4) ∧ v2.cell? ⟨z, 3, none⟩ = some (.int .i64 2) ∧ v2.cell? ⟨z, 4, none⟩ = some (.slice m1 8 n1) ∧ v2.cell? ⟨z, 5, none⟩ = some (.slice m2 8 n2) ∧ v2.cell? ⟨z, 6, none⟩ = some (.slice m3 2 n3) ∧ v2.cell? ⟨z, 7, none⟩ = some (.slice m4 3 n4) ∧ v2.cell? ⟨z, 8, none⟩ = some (.slice m5 0 n5))) := FB.out vb v2 Fvb.out hb
      have NB : Hid (w.heap.size < bf ∧ z ≠ bf ∧ gf ≠ bf) := by have h5 := N1.out; exact ⟨h5.1, h5.2.1, by omega⟩
      have ZE : Hid (Wx v2 bf (.int .i64 0) (.int .i64 0) (.int .i64 0) (.int .i64 0) (.slice none 0 0) (.slice none 0 0) (.slice none 0 0) (.slice none 0 0) (.slice none 0 0)) := ZC.out.below hb N1.out.2.2
      refine ⟨_, rfl, Fv2.out.2.2, ?_⟩
      clear hgf h23 hc0 hc1 hf hr hb LA KU Fvb ZC N1
      go_simp
      refine headT_read rfl (.tuple #[.agg #[.int .i64 0, .int .i64 4, .int .i64 4, .int .i64 2, .slice f1 8 h1, .slice f2 8 h2, .slice (some ⟨gf, 0, none⟩) 2 h3, .slice f4 3 h4, .slice f5 0 h5], .nilIface]) (by go_simp) (fun V hV => by go_simp) ?_
      go_simp
      refine headT_read rfl (.agg #[.int .i64 0, .int .i64 4, .int .i64 4, .int .i64 2, .slice f1 8 h1, .slice f2 8 h2, .slice (some ⟨gf, 0, none⟩) 2 h3, .slice f4 3 h4, .slice f5 0 h5]) (by go_simp) (fun V hV => by go_simp) ?_
      go_simp
      refine headT_read rfl (.nilIface) (by go_simp) (fun V hV => by go_simp) ?_
      go_simp
      obtain ⟨z0, z1, z2, z3, z4, z5, z6, z7, z8⟩ := ZE.out.cells
      obtain ⟨t0, t1, t2, t3, t4, t5, t6, t7, t8⟩ := ZE.out.thaws
      have KZ : Hid (Kp bf v2 (((((((((v2.setCell ⟨bf, 0, none⟩ (.int .i64 0)).setCell ⟨bf, 1, none⟩ (.int .i64 4)).setCell ⟨bf, 2, none⟩ (.int .i64 4)).setCell ⟨bf, 3, none⟩ (.int .i64 2)).setCell ⟨bf, 4, none⟩ (.slice f1 8 h1)).setCell ⟨bf, 5, none⟩ (.slice f2 8 h2)).setCell ⟨bf, 6, none⟩ (.slice (some ⟨gf, 0, none⟩) 2 h3)).setCell ⟨bf, 7, none⟩ (.slice f4 3 h4)).setCell ⟨bf, 8, none⟩ (.slice f5 0 h5))) := put_kp _ _ _ _ _ _ _ _ _ _ _
      obtain ⟨-, -, -, -, -, -, c6, c7, -⟩ := (ZE.out.put (.int .i64 0) (.int .i64 4) (.int .i64 4) (.int .i64 2) (.slice f1 8 h1) (.slice f2 8 h2) (.slice (some ⟨gf, 0, none⟩) 2 h3) (.slice f4 3 h4) (.slice f5 0 h5)).cells
      have FS : Hid (Below w.heap.size w (((((((((v2.setCell ⟨bf, 0, none⟩ (.int .i64 0)).setCell ⟨bf, 1, none⟩ (.int .i64 4)).setCell ⟨bf, 2, none⟩ (.int .i64 4)).setCell ⟨bf, 3, none⟩ (.int .i64 2)).setCell ⟨bf, 4, none⟩ (.slice f1 8 h1)).setCell ⟨bf, 5, none⟩ (.slice f2 8 h2)).setCell ⟨bf, 6, none⟩ (.slice (some ⟨gf, 0, none⟩) 2 h3)).setCell ⟨bf, 7, none⟩ (.slice f4 3 h4)).setCell ⟨bf, 8, none⟩ (.slice f5 0 h5)) ∧ Bw (((((((((v2.setCell ⟨bf, 0, none⟩ (.int .i64 0)).setCell ⟨bf, 1, none⟩ (.int .i64 4)).setCell ⟨bf, 2, none⟩ (.int .i64 4)).setCell ⟨bf, 3, none⟩ (.int .i64 2)).setCell ⟨bf, 4, none⟩ (.slice f1 8 h1)).setCell ⟨bf, 5, none⟩ (.slice f2 8 h2)).setCell ⟨bf, 6, none⟩ (.slice (some ⟨gf, 0, none⟩) 2 h3)).setCell ⟨bf, 7, none⟩ (.slice f4 3 h4)).setCell ⟨bf, 8, none⟩ (.slice f5 0 h5)) w.heap.size X (.slice p1 X.gs.length q1) (.slice p2 X.os.length q2) (.slice p3 X.gold.length q3) (.slice p4 X.us.length q4) (.slice p5 X.qs.length q5) ∧ ((((((((((v2.setCell ⟨bf, 0, none⟩ (.int .i64 0)).setCell ⟨bf, 1, none⟩ (.int .i64 4)).setCell ⟨bf, 2, none⟩ (.int .i64 4)).setCell ⟨bf, 3, none⟩ (.int .i64 2)).setCell ⟨bf, 4, none⟩ (.slice f1 8 h1)).setCell ⟨bf, 5, none⟩ (.slice f2 8 h2)).setCell ⟨bf, 6, none⟩ (.slice (some ⟨gf, 0, none⟩) 2 h3)).setCell ⟨bf, 7, none⟩ (.slice f4 3 h4)).setCell ⟨bf, 8, none⟩ (.slice f5 0 h5)).cell? ⟨z, 0, none⟩ = some (.int .i64 0) ∧ (((((((((v2.setCell ⟨bf, 0, none⟩ (.int .i64 0)).setCell ⟨bf, 1, none⟩ (.int .i64 4)).setCell ⟨bf, 2, none⟩ (.int .i64 4)).setCell ⟨bf, 3, none⟩ (.int .i64 2)).setCell ⟨bf, 4, none⟩ (.slice f1 8 h1)).setCell ⟨bf, 5, none⟩ (.slice f2 8 h2)).setCell ⟨bf, 6, none⟩ (.slice (some ⟨gf, 0, none⟩) 2 h3)).setCell ⟨bf, 7, none⟩ (.slice f4 3 h4)).setCell ⟨bf, 8, none⟩ (.slice f5 0 h5)).cell? ⟨z, 1, none⟩ = some (.int .i64 4) ∧ (((((((((v2.setCell ⟨bf, 0, none⟩ (.int .i64 0)).setCell ⟨bf, 1, none⟩ (.int .i64 4)).setCell ⟨bf, 2, none⟩ (.int .i64 4)).setCell ⟨bf, 3, none⟩ (.int .i64 2)).setCell ⟨bf, 4, none⟩ (.slice f1 8 h1)).setCell ⟨bf, 5, none⟩ (.slice f2 8 h2)).setCell ⟨bf, 6, none⟩ (.slice (some ⟨gf, 0, none⟩) 2 h3)).setCell ⟨bf, 7, none⟩ (.slice f4 3 h4)).setCell ⟨bf, 8, none⟩ (.slice f5 0 h5)).cell? ⟨z, 2, none⟩ = some (.int .i64 4) ∧ (((((((((v2.setCell ⟨bf, 0, none⟩ (.int .i64 0)).setCell ⟨bf, 1, none⟩ (.int .i64 4)).setCell ⟨bf, 2, none⟩ (.int .i64 4)).setCell ⟨bf, 3, none⟩ (.int .i64 2)).setCell ⟨bf, 4, none⟩ (.slice f1 8 h1)).setCell ⟨bf, 5, none⟩ (.slice f2 8 h2)).setCell ⟨bf, 6, none⟩ (.slice (some ⟨gf, 0, none⟩) 2 h3)).setCell ⟨bf, 7, none⟩ (.slice f4 3 h4)).setCell ⟨bf, 8, none⟩ (.slice f5 0 h5)).cell? ⟨z, 3, none⟩ = some (.int .i64 2) ∧ (((((((((v2.setCell ⟨bf, 0, none⟩ (.int .i64 0)).setCell ⟨bf, 1, none⟩ (.int .i64 4)).setCell ⟨bf, 2, none⟩ (.int .i64 4)).setCell ⟨bf, 3, none⟩ (.int .i64 2)).setCell ⟨bf, 4, none⟩ (.slice f1 8 h1)).setCell ⟨bf, 5, none⟩ (.slice f2 8 h2)).setCell ⟨bf, 6, none⟩ (.slice (some ⟨gf, 0, none⟩) 2 h3)).setCell ⟨bf, 7, none⟩ (.slice f4 3 h4)).setCell ⟨bf, 8, none⟩ (.slice f5 0 h5)).cell? ⟨z, 4, none⟩ = some (.slice m1 8 n1) ∧ (((((((((v2.setCell ⟨bf, 0, none⟩ (.int .i64 0)).setCell ⟨bf, 1, none⟩ (.int .i64 4)).setCell ⟨bf, 2, none⟩ (.int .i64 4)).setCell ⟨bf, 3, none⟩ (.int .i64 2)).setCell ⟨bf, 4, none⟩ (.slice f1 8 h1)).setCell ⟨bf, 5, none⟩ (.slice f2 8 h2)).setCell ⟨bf, 6, none⟩ (.slice (some ⟨gf, 0, none⟩) 2 h3)).setCell ⟨bf, 7, none⟩ (.slice f4 3 h4)).setCell ⟨bf, 8, none⟩ (.slice f5 0 h5)).cell? ⟨z, 5, none⟩ = some (.slice m2 8 n2) ∧ (((((((((v2.setCell ⟨bf, 0, none⟩ (.int .i64 0)).setCell ⟨bf, 1, none⟩ (.int .i64 4)).setCell ⟨bf, 2, none⟩ (.int .i64 4)).setCell ⟨bf, 3, none⟩ (.int .i64 2)).setCell ⟨bf, 4, none⟩ (.slice f1 8 h1)).setCell ⟨bf, 5, none⟩ (.slice f2 8 h2)).setCell ⟨bf, 6, none⟩ (.slice (some ⟨gf, 0, none⟩) 2 h3)).setCell ⟨bf, 7, none⟩ (.slice f4 3 h4)).setCell ⟨bf, 8, none⟩ (.slice f5 0 h5)).cell? ⟨z, 6, none⟩ = some (.slice m3 2 n3) ∧ (((((((((v2.setCell ⟨bf, 0, none⟩ (.int .i64 0)).setCell ⟨bf, 1, none⟩ (.int .i64 4)).setCell ⟨bf, 2, none⟩ (.int .i64 4)).setCell ⟨bf, 3, none⟩ (.int .i64 2)).setCell ⟨bf, 4, none⟩ (.slice f1 8 h1)).setCell ⟨bf, 5, none⟩ (.slice f2 8 h2)).setCell ⟨bf, 6, none⟩ (.slice (some ⟨gf, 0, none⟩) 2 h3)).setCell ⟨bf, 7, none⟩ (.slice f4 3 h4)).setCell ⟨bf, 8, none⟩ (.slice f5 0 h5)).cell? ⟨z, 7, none⟩ = some (.slice m4 3 n4) ∧ (((((((((v2.setCell ⟨bf, 0, none⟩ (.int .i64 0)).setCell ⟨bf, 1, none⟩ (.int .i64 4)).setCell ⟨bf, 2, none⟩ (.int .i64 4)).setCell ⟨bf, 3, none⟩ (.int .i64 2)).setCell ⟨bf, 4, none⟩ (.slice f1 8 h1)).setCell ⟨bf, 5, none⟩ (.slice f2 8 h2)).setCell ⟨bf, 6, none⟩ (.slice (some ⟨gf, 0, none⟩) 2 h3)).setCell ⟨bf, 7, none⟩ (.slice f4 3 h4)).setCell ⟨bf, 8, none⟩ (.slice f5 0 h5)).cell? ⟨z, 8, none⟩ = some (.slice m5 0 n5))) := by
        obtain ⟨a1, a2, a3⟩ := Fv2.out
        have hz := NB.out.2.1
        exact ⟨KZ.out.below a1 a1.size (by have := NB.out.1; omega), a2.kp9 KZ.out (by have := NB.out.1; omega), cell_kp9 a3.1 KZ.out hz, cell_kp9 a3.2.1 KZ.out hz, cell_kp9 a3.2.2.1 KZ.out hz, cell_kp9 a3.2.2.2.1 KZ.out hz, cell_kp9 a3.2.2.2.2.1 KZ.out hz, cell_kp9 a3.2.2.2.2.2.1 KZ.out hz, cell_kp9 a3.2.2.2.2.2.2.1 KZ.out hz, cell_kp9 a3.2.2.2.2.2.2.2.1 KZ.out hz, cell_kp9 a3.2.2.2.2.2.2.2.2 KZ.out hz⟩
      have D7 : Hid ((((((((((v2.setCell ⟨bf, 0, none⟩ (.int .i64 0)).setCell ⟨bf, 1, none⟩ (.int .i64 4)).setCell ⟨bf, 2, none⟩ (.int .i64 4)).setCell ⟨bf, 3, none⟩ (.int .i64 2)).setCell ⟨bf, 4, none⟩ (.slice f1 8 h1)).setCell ⟨bf, 5, none⟩ (.slice f2 8 h2)).setCell ⟨bf, 6, none⟩ (.slice (some ⟨gf, 0, none⟩) 2 h3)).setCell ⟨bf, 7, none⟩ (.slice f4 3 h4)).setCell ⟨bf, 8, none⟩ (.slice f5 0 h5)).cell? ⟨bf, 6, none⟩ = some (.slice (some ⟨gf, 0, none⟩) 2 h3) ∧ (((((((((v2.setCell ⟨bf, 0, none⟩ (.int .i64 0)).setCell ⟨bf, 1, none⟩ (.int .i64 4)).setCell ⟨bf, 2, none⟩ (.int .i64 4)).setCell ⟨bf, 3, none⟩ (.int .i64 2)).setCell ⟨bf, 4, none⟩ (.slice f1 8 h1)).setCell ⟨bf, 5, none⟩ (.slice f2 8 h2)).setCell ⟨bf, 6, none⟩ (.slice (some ⟨gf, 0, none⟩) 2 h3)).setCell ⟨bf, 7, none⟩ (.slice f4 3 h4)).setCell ⟨bf, 8, none⟩ (.slice f5 0 h5)).cell? ⟨gf, 0, none⟩ = some (.int .i64 0) ∧ (((((((((v2.setCell ⟨bf, 0, none⟩ (.int .i64 0)).setCell ⟨bf, 1, none⟩ (.int .i64 4)).setCell ⟨bf, 2, none⟩ (.int .i64 4)).setCell ⟨bf, 3, none⟩ (.int .i64 2)).setCell ⟨bf, 4, none⟩ (.slice f1 8 h1)).setCell ⟨bf, 5, none⟩ (.slice f2 8 h2)).setCell ⟨bf, 6, none⟩ (.slice (some ⟨gf, 0, none⟩) 2 h3)).setCell ⟨bf, 7, none⟩ (.slice f4 3 h4)).setCell ⟨bf, 8, none⟩ (.slice f5 0 h5)).cell? ⟨gf, 1, none⟩ = some (.int .i64 100) ∧ (((((((((v2.setCell ⟨bf, 0, none⟩ (.int .i64 0)).setCell ⟨bf, 1, none⟩ (.int .i64 4)).setCell ⟨bf, 2, none⟩ (.int .i64 4)).setCell ⟨bf, 3, none⟩ (.int .i64 2)).setCell ⟨bf, 4, none⟩ (.slice f1 8 h1)).setCell ⟨bf, 5, none⟩ (.slice f2 8 h2)).setCell ⟨bf, 6, none⟩ (.slice (some ⟨gf, 0, none⟩) 2 h3)).setCell ⟨bf, 7, none⟩ (.slice f4 3 h4)).setCell ⟨bf, 8, none⟩ (.slice f5 0 h5)).cell? ⟨bf, 7, none⟩ = some (.slice f4 3 h4)) := ⟨c6, cell_kp9 CE.out.1 KZ.out NB.out.2.2, cell_kp9 CE.out.2 KZ.out NB.out.2.2, c7⟩
      clear c6 c7
      refine headT_skip rfl (((((((((v2.setCell ⟨bf, 0, none⟩ (.int .i64 0)).setCell ⟨bf, 1, none⟩ (.int .i64 4)).setCell ⟨bf, 2, none⟩ (.int .i64 4)).setCell ⟨bf, 3, none⟩ (.int .i64 2)).setCell ⟨bf, 4, none⟩ (.slice f1 8 h1)).setCell ⟨bf, 5, none⟩ (.slice f2 8 h2)).setCell ⟨bf, 6, none⟩ (.slice (some ⟨gf, 0, none⟩) 2 h3)).setCell ⟨bf, 7, none⟩ (.slice f4 3 h4)).setCell ⟨bf, 8, none⟩ (.slice f5 0 h5)) (by go_simp) (by go_simp) FS.out.2.2 ?_
      clear z0 z1 z2 z3 z4 z5 z6 z7 z8 t0 t1 t2 t3 t4 t5 t6 t7 t8 KZ ZE Fv2 CE
      generalize (((((((((v2.setCell ⟨bf, 0, none⟩ (.int .i64 0)).setCell ⟨bf, 1, none⟩ (.int .i64 4)).setCell ⟨bf, 2, none⟩ (.int .i64 4)).setCell ⟨bf, 3, none⟩ (.int .i64 2)).setCell ⟨bf, 4, none⟩ (.slice f1 8 h1)).setCell ⟨bf, 5, none⟩ (.slice f2 8 h2)).setCell ⟨bf, 6, none⟩ (.slice (some ⟨gf, 0, none⟩) 2 h3)).setCell ⟨bf, 7, none⟩ (.slice f4 3 h4)).setCell ⟨bf, 8, none⟩ (.slice f5 0 h5)) = wE at *
      go_simp
      unfold wpHeadT
      refine sched_value rfl .nilIface wE (by go_simp) (by go_simp) trivial ?_
      go_simp
      unfold wpSched
      go_wp2_with fail
      go_meet
      case rel => exact ⟨rfl, bf, gf, h3, f4, h4, rfl, H3.out, D7.out.1, D7.out.2.1, D7.out.2.2.1, D7.out.2.2.2, FS.out.1, FS.out.2.1⟩
  case rest =>
    obtain ⟨rfl, bf, gf, h3', f4', h4', rfl, hh3, c6, d0, d1, c7, hB, hX⟩ := hcut
    have B4 : Hid (Below w.heap.size w wc) := hB
    have X4 : Hid (Bw wc w.heap.size X (.slice p1 X.gs.length q1) (.slice p2 X.os.length q2) (.slice p3 X.gold.length q3) (.slice p4 X.us.length q4) (.slice p5 X.qs.length q5)) := hX
    clear hB hX
    obtain ⟨x0, x1, x2, x3, x4, x5, x6, x7, x8⟩ := X4.out
    go_wp2_with fail
    refine (View_any _ _ ks X p wc (K.out.1.below B4.out) K.out.2 (H.out.below B4.out)).mono ?_
    rintro e w5 ⟨v, r, rfl, hr, hy, hb⟩
    have B5 : Hid (Below w.heap.size w w5) := B4.out.trans (hb.mono B4.out.size)
    have X5 : Hid (Bw w5 w.heap.size X (.slice p1 X.gs.length q1) (.slice p2 X.os.length q2) (.slice p3 X.gold.length q3) (.slice p4 X.us.length q4) (.slice p5 X.qs.length q5)) := X4.out.below hb X4.out.lt
    clear hb x0 x1 x2 x3 x4 x5 x6 x7 x8 c6 d0 d1 c7 hh3 B4 X4
    obtain ⟨fw, hfw⟩ : ∃ f, pfault ks X p = f := ⟨_, rfl⟩
    have FW : Hid (pfault ks X p = fw) := hfw
    rw [hfw] at hr
    rcases hr with ⟨rfl, rfl⟩ | ⟨hf, rfl⟩
    case inr =>
      obtain rfl : v = .agg #[.int .i64 0, .int .i64 0, .int .i64 0, .int .i64 0, .slice none 0 0, .slice none 0 0, .slice none 0 0, .slice none 0 0, .slice none 0 0] := by
        rcases hy with ⟨-, h⟩ | ⟨h, -⟩
        · exact h
        · exact absurd (hfw.symm.trans h) hf
      clear hy hfw hf
      go_wp2
      go_ret
      exact ⟨rfl, ⟨B5.out.os, B5.out.tape, B5.out.output, Nat.le_trans B5.out.size (by simp), fun k hk => by rw [((Below.refl w5.heap.size w5).alloc (Nat.le_refl _) _).block k (Nat.lt_of_lt_of_le hk B5.out.size)]; exact B5.out.block k hk⟩⟩
    have PZ : Hid (Wd.wfault ks X = 0 ∧ 0 ≤ p ∧ p < (X.gold.length : Int)) := pfault_zero FW.out
    have WR : Hid (WRight ks X) := wright_of PZ.out.1
    obtain ⟨Wn, Hn, e1, -, G⟩ := WR.out.good
    have GD : Hid (X.wide = (Wn : Nat) ∧ X.gs.length ≤ 144) := ⟨e1, by rw [G.gl]; exact G.pos.2⟩
    have OGL : X.os.length = X.gs.length := by rw [G.gl, G.ol]
    obtain ⟨Y, hY⟩ : ∃ Y, viewOf ks Wn X p = Y := ⟨_, rfl⟩
    have LY0 : Wl w5 v Y := by
      rcases hy with ⟨h, -⟩ | ⟨-, Wm, h1, h2⟩
      · exact absurd hfw h
      · obtain rfl : Wm = Wn := by omega
        rw [hY] at h2
        exact h2.l
    obtain ⟨s1, l1, s2, l2, s3, l3, s4, l4, s5, l5, hv⟩ := wl_shape9 LY0
    subst hv
    have LY : Hid (Wl w5 (.agg #[.int .i64 Y.turn, .int .i64 Y.next, .int .i64 Y.wide, .int .i64 Y.high, .slice s1 Y.gs.length l1, .slice s2 Y.os.length l2, .slice s3 Y.gold.length l3, .slice s4 Y.us.length l4, .slice s5 Y.qs.length l5]) Y) := LY0
    have YW : Hid (Wd.wfault ks Y = 0) := by unfold Hid; rw [← hY]; exact view_right WR.out
    have YP : Hid (pfault ks Y p = 0 ∧ Y.wide = (Wn : Nat) ∧ viewOf ks Wn Y p = Y ∧ seenL ks Wn Y p = seenL ks Wn X p ∧ Y.gs.length = X.gs.length) := by
      rw [← hY]
      exact ⟨pfault_ok (view_right WR.out) PZ.out.2.1 (by show p < ((zer _ X.gold).length : Int); rw [zer_len]; exact PZ.out.2.2), e1, view_view ks Wn X p, seen_view ks Wn X p, rfl⟩
    have OL : Hid (Y.os.length = X.os.length ∧ X.os.length ≤ 144) := ⟨by rw [← hY]; exact zer_len _ _, by have := GD.out.2; omega⟩
    have OO : Hid (∀ (i : Nat) (x o : Int), X.os[i]? = some x → Y.os[i]? = some o → o ≠ 0 → o = x) := fun i x o hx ho hn => by
      rw [← hY] at ho
      obtain ⟨x', hx', rfl⟩ := zer_at ho
      rw [hx] at hx'
      injection hx' with hx'
      subst hx'
      split at hn
      · exact absurd rfl hn
      · rename_i h; rw [if_neg h]
    have VF : Hid (∀ (i : Nat) (y : UnV), Y.us[i]? = some y → ∃ j, X.us[j]? = some y) := fun i y h => by
      rw [← hY] at h
      obtain ⟨j, hj, -⟩ := view_from h
      exact ⟨j, hj⟩
    have CX0 : Y.us.countP (fun u => u.player == p) = X.us.countP (fun u => u.player == p) := by rw [← hY]; exact own_count ks Wn X p
    obtain ⟨cx, hcx⟩ : ∃ c, X.us.countP (fun u => u.player == p) = c := ⟨_, rfl⟩
    have CX : Hid (Y.us.countP (fun u => u.player == p) = cx ∧ cx ≤ 40 ∧ X.us.countP (fun u => u.player == p) = cx) := ⟨by rw [CX0, hcx], by have h1 : X.us.countP (fun u => u.player == p) ≤ X.us.length := List.countP_le_length; have := WR.out.ul; omega, hcx⟩
    have YL : Hid (Y.us.length ≤ 40) := (wright_of YW.out).ul
    have UC : Hid (∀ (j : Nat) (u : UnV), X.us[j]? = some u → ∃ x, p4 = some x ∧ x.block < w.heap.size ∧ Unc w (x.add (j * 8)) u) := fun j u hu => by
      obtain ⟨pa, pc, he, -, -, h⟩ := H.out.slices.2.2.2.1
      obtain ⟨x, h1, h2, h3⟩ := h (by intro h; rw [h] at hu; simp at hu)
      injection he with he1 he2 he3
      exact ⟨x, by rw [he1, h1], h2, h3 j u hu⟩
    have OC : Hid (∀ (j : Nat) (d : Int), X.os[j]? = some d → ∃ x, p2 = some x ∧ x.block < w.heap.size ∧ w.cell? (x.add j) = some (.int .i64 d)) := fun j d hd => by
      obtain ⟨pa, pc, he, -, -, h⟩ := H.out.slices.2.1
      obtain ⟨x, h1, h2, h3⟩ := h (by intro h; rw [h] at hd; simp at hd)
      injection he with he1 he2 he3
      exact ⟨x, by rw [he1, h1], h2, h3 j d hd⟩
    clear hy hfw hY LY0 e1 G CX0 hcx OGL
    go_upto_region 8 with fail
    have BA : Hid (Below w5.heap.size w5 (w5.alloc (Obj.cells #[.int .i64 Y.turn, .int .i64 Y.next, .int .i64 Y.wide, .int .i64 Y.high, .slice s1 Y.gs.length l1, .slice s2 Y.os.length l2, .slice s3 Y.gold.length l3, .slice s4 Y.us.length l4, .slice s5 Y.qs.length l5] 29))) := (Below.refl _ _).alloc (Nat.le_refl _) _
    obtain ⟨by_, hby⟩ : ∃ z, w5.heap.size = z := ⟨_, rfl⟩
    have Y6 : Hid (Bw (w5.alloc (Obj.cells #[.int .i64 Y.turn, .int .i64 Y.next, .int .i64 Y.wide, .int .i64 Y.high, .slice s1 Y.gs.length l1, .slice s2 Y.os.length l2, .slice s3 Y.gold.length l3, .slice s4 Y.us.length l4, .slice s5 Y.qs.length l5] 29)) by_ Y (.slice s1 Y.gs.length l1) (.slice s2 Y.os.length l2) (.slice s3 Y.gold.length l3) (.slice s4 Y.us.length l4) (.slice s5 Y.qs.length l5)) := Bw.mk' Y _ _ _ _ _ hby
    rw [hby]
    generalize (w5.alloc (Obj.cells #[.int .i64 Y.turn, .int .i64 Y.next, .int .i64 Y.wide, .int .i64 Y.high, .slice s1 Y.gs.length l1, .slice s2 Y.os.length l2, .slice s3 Y.gold.length l3, .slice s4 Y.us.length l4, .slice s5 Y.qs.length l5] 29)) = w6 at *
    have B6 : Hid (Below w.heap.size w w6) := B5.out.trans (BA.out.mono B5.out.size)
    have X6 : Hid (Bw w6 w.heap.size X (.slice p1 X.gs.length q1) (.slice p2 X.os.length q2) (.slice p3 X.gold.length q3) (.slice p4 X.us.length q4) (.slice p5 X.qs.length q5)) := X5.out.below BA.out X5.out.lt
    have L6 : Hid (Wl w6 (.agg #[.int .i64 Y.turn, .int .i64 Y.next, .int .i64 Y.wide, .int .i64 Y.high, .slice s1 Y.gs.length l1, .slice s2 Y.os.length l2, .slice s3 Y.gold.length l3, .slice s4 Y.us.length l4, .slice s5 Y.qs.length l5]) Y) := LY.out.below BA.out
    clear hby BA B5 X5 LY
    obtain ⟨y0, y1, y2, y3, y4, y5, y6, y7, y8⟩ := Y6.out
    go_wp2_with fail
    refine (right_fw _ _ ks Y w6 (K.out.1.below B6.out) K.out.2 L6.out YW.out).mono ?_
    rintro e w7 ⟨rfl, hb⟩
    have B7 : Hid (Below w.heap.size w w7) := B6.out.trans (hb.mono B6.out.size)
    have X7 : Hid (Bw w7 w.heap.size X (.slice p1 X.gs.length q1) (.slice p2 X.os.length q2) (.slice p3 X.gold.length q3) (.slice p4 X.us.length q4) (.slice p5 X.qs.length q5)) := X6.out.below hb X6.out.lt
    have Y7 : Hid (Bw w7 by_ Y (.slice s1 Y.gs.length l1) (.slice s2 Y.os.length l2) (.slice s3 Y.gold.length l3) (.slice s4 Y.us.length l4) (.slice s5 Y.qs.length l5)) := Y6.out.below hb Y6.out.lt
    have L7 : Hid (Wl w7 (.agg #[.int .i64 Y.turn, .int .i64 Y.next, .int .i64 Y.wide, .int .i64 Y.high, .slice s1 Y.gs.length l1, .slice s2 Y.os.length l2, .slice s3 Y.gold.length l3, .slice s4 Y.us.length l4, .slice s5 Y.qs.length l5]) Y) := L6.out.below hb
    have VC : Hid (∀ (j : Nat) (u : UnV), Y.us[j]? = some u → ∃ x, s4 = some x ∧ x.block < w7.heap.size ∧ Unc w7 (x.add (j * 8)) u) := fun j u hu => by
      obtain ⟨pa, pc, he, -, -, h⟩ := L7.out.slices.2.2.2.1
      obtain ⟨x, h1, h2, h3⟩ := h (by intro h; rw [h] at hu; simp at hu)
      injection he with he1 he2 he3
      exact ⟨x, by rw [he1, h1], h2, h3 j u hu⟩
    have OD : Hid (∀ (j : Nat) (d : Int), Y.os[j]? = some d → ∃ x, s2 = some x ∧ x.block < w7.heap.size ∧ w7.cell? (x.add j) = some (.int .i64 d)) := fun j d hd => by
      obtain ⟨pa, pc, he, -, -, h⟩ := L7.out.slices.2.1
      obtain ⟨x, h1, h2, h3⟩ := h (by intro h; rw [h] at hd; simp at hd)
      injection he with he1 he2 he3
      exact ⟨x, by rw [he1, h1], h2, h3 j d hd⟩
    clear hb y0 y1 y2 y3 y4 y5 y6 y7 y8 B6 X6 Y6 L6
    go_upto_region 15 with fail
    go_loopw [14, 15] (fun v14 v15 V => ∃ n : Nat, v15 = .int .i64 (n : Nat) ∧ n ≤ X.us.length ∧ v14 = .int .i64 (((X.us.take n).countP (fun u => u.player == p) : Nat) : Int) ∧ V = w7) (fun _ v15 _ => X.us.length - (intOf v15).toNat)
    case atStart => exact ⟨0, rfl, Nat.zero_le _, by simp, rfl⟩
    case round =>
      obtain ⟨n, rfl, hn, rfl, hV⟩ := hrel
      rw [hV]
      clear hV
      have x7 := X7.out.c7
      by_cases h0 : n = X.us.length
      case neg =>
        have hnl : n < X.us.length := by omega
        have hni : ((n : Nat) : Int) < (X.us.length : Nat) := by omega
        have HN : Hid (n < X.us.length) := hnl
        have WN : IntKind.i64.wrap ((n : Nat) + 1 : Int) = ((n : Nat) : Int) + 1 := by have := WR.out.ul; rw [IntKind.wrap_i64]; omega
        obtain ⟨u, hu⟩ : ∃ u, X.us[n]? = some u := ⟨_, List.getElem?_eq_getElem hnl⟩
        have NX := count_next (q := fun u : UnV => u.player == p) hu
        obtain ⟨xu, rfl, hxl, hxc⟩ := UC.out n u hu
        obtain ⟨y0, y1, y2, y3, y4, y5, y6, y7⟩ := hxc.below B7.out (by rw [add_block]; exact hxl)
        have CL : (X.us.take n).countP (fun u => u.player == p) ≤ n := Nat.le_trans List.countP_le_length (by simp; omega)
        obtain ⟨c, hc⟩ : ∃ c, (X.us.take n).countP (fun u => u.player == p) = c := ⟨_, rfl⟩
        rw [hc] at NX CL ⊢
        have WC : IntKind.i64.wrap ((c : Nat) + 1 : Int) = ((c : Nat) : Int) + 1 := by have := WR.out.ul; rw [IntKind.wrap_i64]; omega
        clear hu hxc hxl hc CL
        by_cases hp : u.player = p
        · have NY : Hid ((X.us.take (n + 1)).countP (fun u => u.player == p) = c + 1) := by unfold Hid; rw [NX, hp]; simp
          rw [hp] at y1
          clear NX hp
          go_wp2
          go_round
          case rel => exact ⟨n + 1, by go_num, by have := HN.out; omega, by rw [NY.out]; go_num, by trivial⟩
          case measure => simp [intOf]; omega
        · have hp' : (u.player == p) = false := by rw [beq_eq_false_iff_ne]; exact hp
          have NY : Hid ((X.us.take (n + 1)).countP (fun u => u.player == p) = c) := by unfold Hid; rw [NX, hp']; rfl
          clear NX
          go_wp2
          go_round
          case rel => exact ⟨n + 1, by go_num, by have := HN.out; omega, by rw [NY.out], by trivial⟩
          case measure => simp [intOf]; omega
      subst h0
      rw [List.take_of_length_le (Nat.le_refl _), CX.out.2.2]
      have hnn : ¬ (((X.us.length : Nat) : Int) < (X.us.length : Nat)) := by omega
      go_upto_region 20 with fail
      clear x7 hnn
      go_loopw [14, 16] (fun v14 v16 V => ∃ n : Nat, v16 = .int .i64 (n : Nat) ∧ n ≤ Y.us.length ∧ v14 = .int .i64 (((cx : Nat) : Int) - (((Y.us.take n).countP (fun u => u.player == p) : Nat) : Int)) ∧ Below w7.heap.size w7 V) (fun _ v16 _ => Y.us.length - (intOf v16).toNat)
      case atStart => exact ⟨0, rfl, Nat.zero_le _, by simp, Below.refl _ _⟩
      case round =>
        obtain ⟨n, rfl, hn, rfl, hb⟩ := hrel
        have BR : Hid (Below w7.heap.size w7 wr) := hb
        clear hb
        by_cases h0 : n = Y.us.length
        case neg =>
          have hnl : n < Y.us.length := by omega
          have hni : ((n : Nat) : Int) < (Y.us.length : Nat) := by omega
          have HN : Hid (n < Y.us.length) := hnl
          have WN : IntKind.i64.wrap ((n : Nat) + 1 : Int) = ((n : Nat) : Int) + 1 := by have := YL.out; rw [IntKind.wrap_i64]; omega
          obtain ⟨y, hy⟩ : ∃ y, Y.us[n]? = some y := ⟨_, List.getElem?_eq_getElem hnl⟩
          obtain ⟨j, hj⟩ := VF.out n y hy
          have NX := count_next (q := fun u : UnV => u.player == p) hy
          have CL : (Y.us.take n).countP (fun u => u.player == p) ≤ n := Nat.le_trans List.countP_le_length (by simp; omega)
          obtain ⟨c, hc⟩ : ∃ c, (Y.us.take n).countP (fun u => u.player == p) = c := ⟨_, rfl⟩
          rw [hc] at NX CL ⊢
          obtain ⟨md, hmd⟩ : ∃ d : Int, ((cx : Nat) : Int) - ((c : Nat) : Int) = d := ⟨_, rfl⟩
          have WC : IntKind.i64.wrap (md - 1) = md - 1 := by have := WR.out.ul; have := CX.out.2; have := YL.out; rw [IntKind.wrap_i64]; omega
          rw [hmd]
          have MD : Hid (((cx : Nat) : Int) - ((c : Nat) : Int) = md) := hmd
          obtain ⟨xy, rfl, hyl, hyc⟩ := VC.out n y hy
          obtain ⟨xu, rfl, hxl, hxc⟩ := UC.out j y hj
          have YU : Hid (Unc w7 (xy.add (n * 8)) y ∧ (xy.add (n * 8)).block < w7.heap.size) := ⟨hyc, by rw [add_block]; exact hyl⟩
          have XU : Hid (Unc w (xu.add (j * 8)) y ∧ (xu.add (j * 8)).block < w.heap.size) := ⟨hxc, by rw [add_block]; exact hxl⟩
          have HJ : Hid (X.us[j]? = some y) := hj
          have JL : Hid (j < X.us.length) := (List.getElem?_eq_some_iff.1 hj).1
          have Y7x : Hid (Bw w7 by_ Y (.slice s1 Y.gs.length l1) (.slice s2 Y.os.length l2) (.slice s3 Y.gold.length l3) (.slice (some xy) Y.us.length l4) (.slice s5 Y.qs.length l5)) := Y7.out
          have X7x : Hid (Bw w7 w.heap.size X (.slice p1 X.gs.length q1) (.slice p2 X.os.length q2) (.slice p3 X.gold.length q3) (.slice (some xu) X.us.length q4) (.slice p5 X.qs.length q5)) := X7.out
          have y7 := (Y7.out.below BR.out Y7.out.lt).c7
          clear hy hj hc hmd CL hyl hyc hxl hxc
          go_upto_region 22 with fail
          clear y7
          have CB : Hid (∀ V, Below w7.heap.size w7 V → (Bw V w.heap.size X (.slice p1 X.gs.length q1) (.slice p2 X.os.length q2) (.slice p3 X.gold.length q3) (.slice (some xu) X.us.length q4) (.slice p5 X.qs.length q5) ∧ Bw V by_ Y (.slice s1 Y.gs.length l1) (.slice s2 Y.os.length l2) (.slice s3 Y.gold.length l3) (.slice (some xy) Y.us.length l4) (.slice s5 Y.qs.length l5) ∧ V.cell? (xy.add (n * 8)) = some (.int .i64 y.id))) := fun V hb => ⟨X7x.out.below hb X7x.out.lt, Y7x.out.below hb Y7x.out.lt, (YU.out.1.below hb YU.out.2).c0⟩
          refine wp_region_two [(true, 0), (true, 1), (true, 2), (true, 3), (true, 4), (true, 5), (true, 6), (false, 7)] [(false, 8)] (fun V => Bw V w.heap.size X (.slice p1 X.gs.length q1) (.slice p2 X.os.length q2) (.slice p3 X.gold.length q3) (.slice (some xu) X.us.length q4) (.slice p5 X.qs.length q5) ∧ Bw V by_ Y (.slice s1 Y.gs.length l1) (.slice s2 Y.os.length l2) (.slice s3 Y.gold.length l3) (.slice (some xy) Y.us.length l4) (.slice s5 Y.qs.length l5) ∧ V.cell? (xy.add (n * 8)) = some (.int .i64 y.id)) (by kernel_rfl) (by kernel_rfl) (by kernel_rfl) (by decide +kernel) (by decide +kernel) (CB.out _ BR.out.drew) ?_
          have D4 : Hid (Below w7.heap.size w7 { wr with drawn := wr.drawn + 1 }) := BR.out.drew
          have D5 : Hid (Below w.heap.size w { wr with drawn := wr.drawn + 1 }) := (B7.out.trans (BR.out.mono B7.out.size)).drew
          generalize ({ wr with drawn := wr.drawn + 1 } : World) = wd at *
          refine headT_read rfl (.agg #[.int .i64 X.turn, .int .i64 X.next, .int .i64 X.wide, .int .i64 X.high, .slice p1 X.gs.length q1, .slice p2 X.os.length q2, .slice p3 X.gold.length q3, .slice (some xu) X.us.length q4, .slice p5 X.qs.length q5]) (by go_simp) (fun V hV => by obtain ⟨⟨x0, x1, x2, x3, x4, x5, x6, x7, x8⟩, ⟨y0, y1, y2, y3, y4, y5, y6, y7, y8⟩, d1⟩ := hV; go_simp) ?_
          go_simp
          refine headT_read rfl (.pointer (some ⟨by_, 7, none⟩)) (by go_simp) (fun V hV => by go_simp) ?_
          go_simp
          refine headT_read rfl (.slice (some xy) Y.us.length l4) (by go_simp) (fun V hV => by obtain ⟨⟨x0, x1, x2, x3, x4, x5, x6, x7, x8⟩, ⟨y0, y1, y2, y3, y4, y5, y6, y7, y8⟩, d1⟩ := hV; go_simp) ?_
          go_simp
          refine headT_read rfl (.int .i64 (n : Nat)) (by go_simp) (fun V hV => by go_simp) ?_
          go_simp
          refine headT_read rfl (.pointer (some (xy.add (n * 8)))) (by go_simp) (fun V hV => by go_simp) ?_
          go_simp
          refine headT_read rfl (.pointer (some (xy.add (n * 8)))) (by go_simp) (fun V hV => by go_simp) ?_
          go_simp
          refine headT_read rfl (.int .i64 y.id) (by go_simp) (fun V hV => by obtain ⟨⟨x0, x1, x2, x3, x4, x5, x6, x7, x8⟩, ⟨y0, y1, y2, y3, y4, y5, y6, y7, y8⟩, d1⟩ := hV; go_simp) ?_
          go_simp
          refine headT_call rfl 13 #[.agg #[.int .i64 X.turn, .int .i64 X.next, .int .i64 X.wide, .int .i64 X.high, .slice p1 X.gs.length q1, .slice p2 X.os.length q2, .slice p3 X.gold.length q3, .slice (some xu) X.us.length q4, .slice p5 X.qs.length q5], .int .i64 y.id] (by go_simp) (by go_simp) ?_
          refine (rfind_any _ X y.id wd (H.out.below D5.out)).mono ?_
          rintro e wa ⟨r, rfl, hr, hb⟩
          obtain rfl : r = ((j : Nat) : Int) := fst_is WR.out HJ.out rfl hr
          have DA : Hid (Below w7.heap.size w7 wa) := D4.out.trans (hb.mono D4.out.size)
          have DB : Hid (Below w.heap.size w wa) := D5.out.trans (hb.mono D5.out.size)
          refine ⟨_, rfl, CB.out _ DA.out, ?_⟩
          clear hb hr D4 D5 CB BR
          go_simp
          refine sched_value rfl (.int .i64 ((j : Nat) : Int)) wa (by go_simp) (by go_simp) trivial ?_
          go_simp
          unfold wpSched
          have hj0 : decide (((j : Nat) : Int) < 0) = false := decide_eq_false (by omega)
          have hjl : ((j : Nat) : Int) < (X.us.length : Nat) := by have := JL.out; omega
          obtain ⟨e0, e1, e2, e3, e4, e5, e6, e7⟩ := XU.out.1.below DB.out XU.out.2
          obtain ⟨g0, g1, g2, g3, g4, g5, g6, g7⟩ := YU.out.1.below DA.out YU.out.2
          have x7 := (X7x.out.below DA.out X7x.out.lt).c7
          have y7 := (Y7x.out.below DA.out Y7x.out.lt).c7
          go_upto_region 23 with fail
          go_quiet (fail)
          clear e0 e1 e2 e3 e4 e5 e6 e7 g0 g2 g3 g4 g5 g6 g7 x7
          by_cases hp : y.player = p
          · have NY : Hid ((Y.us.take (n + 1)).countP (fun u => u.player == p) = c + 1) := by unfold Hid; rw [NX, hp]; simp
            rw [hp] at g1
            clear NX hp
            go_wp2
            go_round
            case rel => exact ⟨n + 1, by go_num, by have := HN.out; omega, by rw [NY.out]; have := MD.out; congr 1; omega, ⟨DA.out.os, DA.out.tape, DA.out.output, DA.out.size, DA.out.block⟩⟩
            case measure => simp [intOf]; omega
          · have hp' : (y.player == p) = false := by rw [beq_eq_false_iff_ne]; exact hp
            have NY : Hid ((Y.us.take (n + 1)).countP (fun u => u.player == p) = c) := by unfold Hid; rw [NX, hp']; rfl
            clear NX
            go_wp2
            go_round
            case rel => exact ⟨n + 1, by go_num, by have := HN.out; omega, by rw [NY.out, MD.out], ⟨DA.out.os, DA.out.tape, DA.out.output, DA.out.size, DA.out.block⟩⟩
            case measure => simp [intOf]; omega
        subst h0
        rw [List.take_of_length_le (Nat.le_refl _), CX.out.1, Int.sub_self]
        have hnn : ¬ (((Y.us.length : Nat) : Int) < (Y.us.length : Nat)) := by omega
        have y7 := (Y7.out.below BR.out Y7.out.lt).c7
        go_upto_region 28 with fail
        clear y7 hnn
        go_loopw [18] (fun v18 V => ∃ n : Nat, v18 = .int .i64 (n : Nat) ∧ n ≤ X.os.length ∧ Below w7.heap.size w7 V) (fun v18 _ => X.os.length - (intOf v18).toNat)
        case atStart => exact ⟨0, rfl, Nat.zero_le _, BR.out⟩
        case round =>
          obtain ⟨n, rfl, hn, hb⟩ := hrel
          clear BR
          have BR : Hid (Below w7.heap.size w7 wr) := hb
          clear hb
          by_cases h0 : n = X.os.length
          case neg =>
            have hnl : n < X.os.length := by omega
            have hni : ((n : Nat) : Int) < (X.os.length : Nat) := by omega
            have hny : ((n : Nat) : Int) < (Y.os.length : Nat) := by have := OL.out.1; omega
            have HN : Hid (n < X.os.length) := hnl
            have WN : IntKind.i64.wrap ((n : Nat) + 1 : Int) = ((n : Nat) : Int) + 1 := by have := OL.out.2; rw [IntKind.wrap_i64]; omega
            obtain ⟨x, hx⟩ : ∃ x, X.os[n]? = some x := ⟨_, List.getElem?_eq_getElem hnl⟩
            obtain ⟨o, ho⟩ : ∃ o, Y.os[n]? = some o := ⟨_, List.getElem?_eq_getElem (by have := OL.out.1; omega)⟩
            have OX := OO.out n x o hx ho
            obtain ⟨xo, hxo, hxl, hxc⟩ := OC.out n x hx
            obtain ⟨yo, hyo, hyl, hyc⟩ := OD.out n o ho
            subst hxo
            subst hyo
            have cx' : wr.cell? (xo.add n) = some (.int .i64 x) := by rw [(B7.out.trans (BR.out.mono B7.out.size)).cell (p := xo.add n) (by rw [add_block]; exact hxl)]; exact hxc
            have cy' : wr.cell? (yo.add n) = some (.int .i64 o) := by rw [BR.out.cell (p := yo.add n) (by rw [add_block]; exact hyl)]; exact hyc
            have x5 := (X7.out.below BR.out X7.out.lt).c5
            have y5 := (Y7.out.below BR.out Y7.out.lt).c5
            clear hx ho hxl hxc hyl hyc
            by_cases ho : o = 0
            · subst ho
              clear OX
              go_upto_region 30 with fail
              go_quiet (fail)
              go_wp2
              go_round
              case rel => exact ⟨n + 1, by go_num, by have := HN.out; omega, ⟨BR.out.os, BR.out.tape, BR.out.output, BR.out.size, BR.out.block⟩⟩
              case measure => simp [intOf]; omega
            · obtain rfl : o = x := OX ho
              have h1 : (o == 0) = false := by rw [beq_eq_false_iff_ne]; exact ho
              have h2 : (o != 0) = true := by unfold bne; rw [h1]; rfl
              have h3 : decide (o = 0) = false := decide_eq_false ho
              clear OX
              go_upto_region 30 with fail
              go_quiet (fail)
              go_wp2
              go_round
              case rel => exact ⟨n + 1, by go_num, by have := HN.out; omega, ⟨BR.out.os, BR.out.tape, BR.out.output, BR.out.size, BR.out.block⟩⟩
              case measure => simp [intOf]; omega
          subst h0
          have hnn : ¬ (((X.os.length : Nat) : Int) < (X.os.length : Nat)) := by omega
          have x5 := (X7.out.below BR.out X7.out.lt).c5
          have BB : Hid (Below w.heap.size w wr) := B7.out.trans (BR.out.mono B7.out.size)
          have XR : Hid (Bw wr w.heap.size X (.slice p1 X.gs.length q1) (.slice p2 X.os.length q2) (.slice p3 X.gold.length q3) (.slice p4 X.us.length q4) (.slice p5 X.qs.length q5)) := X7.out.below BR.out X7.out.lt
          have YR : Hid (Bw wr by_ Y (.slice s1 Y.gs.length l1) (.slice s2 Y.os.length l2) (.slice s3 Y.gold.length l3) (.slice s4 Y.us.length l4) (.slice s5 Y.qs.length l5)) := Y7.out.below BR.out Y7.out.lt
          have LR : Hid (Wl wr (.agg #[.int .i64 Y.turn, .int .i64 Y.next, .int .i64 Y.wide, .int .i64 Y.high, .slice s1 Y.gs.length l1, .slice s2 Y.os.length l2, .slice s3 Y.gold.length l3, .slice s4 Y.us.length l4, .slice s5 Y.qs.length l5]) Y) := L7.out.below BR.out
          go_upto_region 32 with fail
          clear x5 hnn
          obtain ⟨y0, y1, y2, y3, y4, y5, y6, y7, y8⟩ := YR.out
          go_wp2_with fail
          refine (View_any _ _ ks Y p wr (K.out.1.below BB.out) K.out.2 LR.out).mono ?_
          rintro e w8 ⟨v8, r8, rfl, hr, hy, hb⟩
          rw [YP.out.1] at hr
          obtain rfl := er_zero hr
          have L8a : Wl w8 v8 Y := by
            rcases hy with ⟨h, -⟩ | ⟨-, Wm, h1, h2⟩
            · exact absurd YP.out.1 h
            · obtain rfl : Wm = Wn := by have := YP.out.2.1; omega
              rw [YP.out.2.2.1] at h2
              exact h2.l
          obtain ⟨t1, k1, t2, k2, t3, k3, t4, k4, t5, k5, hv8⟩ := wl_shape9 L8a
          subst hv8
          have LT : Hid (Wl w8 (.agg #[.int .i64 Y.turn, .int .i64 Y.next, .int .i64 Y.wide, .int .i64 Y.high, .slice t1 Y.gs.length k1, .slice t2 Y.os.length k2, .slice t3 Y.gold.length k3, .slice t4 Y.us.length k4, .slice t5 Y.qs.length k5]) Y) := L8a
          have B8 : Hid (Below w.heap.size w w8) := BB.out.trans (hb.mono BB.out.size)
          have X8 : Hid (Bw w8 w.heap.size X (.slice p1 X.gs.length q1) (.slice p2 X.os.length q2) (.slice p3 X.gold.length q3) (.slice p4 X.us.length q4) (.slice p5 X.qs.length q5)) := XR.out.below hb XR.out.lt
          have Y8 : Hid (Bw w8 by_ Y (.slice s1 Y.gs.length l1) (.slice s2 Y.os.length l2) (.slice s3 Y.gold.length l3) (.slice s4 Y.us.length l4) (.slice s5 Y.qs.length l5)) := YR.out.below hb YR.out.lt
          have L8 : Hid (Wl w8 (.agg #[.int .i64 Y.turn, .int .i64 Y.next, .int .i64 Y.wide, .int .i64 Y.high, .slice s1 Y.gs.length l1, .slice s2 Y.os.length l2, .slice s3 Y.gold.length l3, .slice s4 Y.us.length l4, .slice s5 Y.qs.length l5]) Y) := LR.out.below hb
          clear hr hy hb L8a y0 y1 y2 y3 y4 y5 y6 y7 y8 BR BB XR YR LR X7 Y7 L7 B7
          go_upto_region 33 with fail
          have BA : Hid (Below w8.heap.size w8 (w8.alloc (Obj.cells #[.int .i64 Y.turn, .int .i64 Y.next, .int .i64 Y.wide, .int .i64 Y.high, .slice t1 Y.gs.length k1, .slice t2 Y.os.length k2, .slice t3 Y.gold.length k3, .slice t4 Y.us.length k4, .slice t5 Y.qs.length k5] 29))) := (Below.refl _ _).alloc (Nat.le_refl _) _
          obtain ⟨bt, hbt⟩ : ∃ z, w8.heap.size = z := ⟨_, rfl⟩
          have T9 : Hid (Bw (w8.alloc (Obj.cells #[.int .i64 Y.turn, .int .i64 Y.next, .int .i64 Y.wide, .int .i64 Y.high, .slice t1 Y.gs.length k1, .slice t2 Y.os.length k2, .slice t3 Y.gold.length k3, .slice t4 Y.us.length k4, .slice t5 Y.qs.length k5] 29)) bt Y (.slice t1 Y.gs.length k1) (.slice t2 Y.os.length k2) (.slice t3 Y.gold.length k3) (.slice t4 Y.us.length k4) (.slice t5 Y.qs.length k5)) := Bw.mk' Y _ _ _ _ _ hbt
          rw [hbt]
          generalize (w8.alloc (Obj.cells #[.int .i64 Y.turn, .int .i64 Y.next, .int .i64 Y.wide, .int .i64 Y.high, .slice t1 Y.gs.length k1, .slice t2 Y.os.length k2, .slice t3 Y.gold.length k3, .slice t4 Y.us.length k4, .slice t5 Y.qs.length k5] 29)) = w9 at *
          have B9 : Hid (Below w.heap.size w w9) := B8.out.trans (BA.out.mono B8.out.size)
          have X9 : Hid (Bw w9 w.heap.size X (.slice p1 X.gs.length q1) (.slice p2 X.os.length q2) (.slice p3 X.gold.length q3) (.slice p4 X.us.length q4) (.slice p5 X.qs.length q5)) := X8.out.below BA.out X8.out.lt
          have Y9 : Hid (Bw w9 by_ Y (.slice s1 Y.gs.length l1) (.slice s2 Y.os.length l2) (.slice s3 Y.gold.length l3) (.slice s4 Y.us.length l4) (.slice s5 Y.qs.length l5)) := Y8.out.below BA.out Y8.out.lt
          have L9 : Hid (Wl w9 (.agg #[.int .i64 Y.turn, .int .i64 Y.next, .int .i64 Y.wide, .int .i64 Y.high, .slice s1 Y.gs.length l1, .slice s2 Y.os.length l2, .slice s3 Y.gold.length l3, .slice s4 Y.us.length l4, .slice s5 Y.qs.length l5]) Y ∧ Wl w9 (.agg #[.int .i64 Y.turn, .int .i64 Y.next, .int .i64 Y.wide, .int .i64 Y.high, .slice t1 Y.gs.length k1, .slice t2 Y.os.length k2, .slice t3 Y.gold.length k3, .slice t4 Y.us.length k4, .slice t5 Y.qs.length k5]) Y) := ⟨L8.out.below BA.out, LT.out.below BA.out⟩
          clear hbt BA B8 X8 Y8 L8 LT
          obtain ⟨y0, y1, y2, y3, y4, y5, y6, y7, y8⟩ := Y9.out
          obtain ⟨z0, z1, z2, z3, z4, z5, z6, z7, z8⟩ := T9.out
          go_wp2_with fail
          refine (worlds_like _ _ Y w9 L9.out.2 L9.out.1).mono ?_
          rintro e wa ⟨rfl, hb⟩
          have Ba : Hid (Below w.heap.size w wa) := B9.out.trans (hb.mono B9.out.size)
          have Xa : Hid (Bw wa w.heap.size X (.slice p1 X.gs.length q1) (.slice p2 X.os.length q2) (.slice p3 X.gold.length q3) (.slice p4 X.us.length q4) (.slice p5 X.qs.length q5)) := X9.out.below hb X9.out.lt
          have Ya : Hid (Bw wa by_ Y (.slice s1 Y.gs.length l1) (.slice s2 Y.os.length l2) (.slice s3 Y.gold.length l3) (.slice s4 Y.us.length l4) (.slice s5 Y.qs.length l5)) := Y9.out.below hb Y9.out.lt
          have La : Hid (Wl wa (.agg #[.int .i64 Y.turn, .int .i64 Y.next, .int .i64 Y.wide, .int .i64 Y.high, .slice s1 Y.gs.length l1, .slice s2 Y.os.length l2, .slice s3 Y.gold.length l3, .slice s4 Y.us.length l4, .slice s5 Y.qs.length l5]) Y) := L9.out.1.below hb
          clear hb y0 y1 y2 y3 y4 y5 y6 y7 y8 z0 z1 z2 z3 z4 z5 z6 z7 z8 B9 X9 Y9 L9 T9
          obtain ⟨x0, x1, x2, x3, x4, x5, x6, x7, x8⟩ := Xa.out
          go_wp2_with fail
          refine (Seen_any _ _ ks X p wa (K.out.1.below Ba.out) K.out.2 (H.out.below Ba.out)).mono ?_
          rintro e wb ⟨va, ra, rfl, hr, hy, hb⟩
          rw [FW.out] at hr
          obtain rfl := er_zero hr
          have SA0 : Bl wb va (seenL ks Wn X p) := seen_of hy FW.out GD.out.1
          obtain ⟨ta, tc, hva⟩ := SA0.len
          rw [seen_len] at hva
          subst hva
          have SAb : Hid (Bl wb (.slice ta X.gs.length tc) (seenL ks Wn X p)) := SA0
          have Bb' : Hid (Below w.heap.size w wb) := Ba.out.trans (hb.mono Ba.out.size)
          have Yb : Hid (Bw wb by_ Y (.slice s1 Y.gs.length l1) (.slice s2 Y.os.length l2) (.slice s3 Y.gold.length l3) (.slice s4 Y.us.length l4) (.slice s5 Y.qs.length l5)) := Ya.out.below hb Ya.out.lt
          have Lb : Hid (Wl wb (.agg #[.int .i64 Y.turn, .int .i64 Y.next, .int .i64 Y.wide, .int .i64 Y.high, .slice s1 Y.gs.length l1, .slice s2 Y.os.length l2, .slice s3 Y.gold.length l3, .slice s4 Y.us.length l4, .slice s5 Y.qs.length l5]) Y) := La.out.below hb
          clear hr hy hb SA0 x0 x1 x2 x3 x4 x5 x6 x7 x8 Ba Xa Ya La
          obtain ⟨y0, y1, y2, y3, y4, y5, y6, y7, y8⟩ := Yb.out
          go_wp2_with fail
          refine (Seen_any _ _ ks Y p wb (K.out.1.below Bb'.out) K.out.2 Lb.out).mono ?_
          rintro e wc' ⟨vb, rb, rfl, hr, hy, hb⟩
          rw [YP.out.1] at hr
          obtain rfl := er_zero hr
          have SB0 : Bl wc' vb (seenL ks Wn X p) := by rw [← YP.out.2.2.2.1]; exact seen_of hy YP.out.1 YP.out.2.1
          obtain ⟨tb, td, hvb⟩ := SB0.len
          rw [seen_len] at hvb
          subst hvb
          have SB : Hid (Bl wc' (.slice tb X.gs.length td) (seenL ks Wn X p)) := SB0
          have SA : Hid (Bl wc' (.slice ta X.gs.length tc) (seenL ks Wn X p)) := SAb.out.below hb
          have Bc : Hid (Below w.heap.size w wc') := Bb'.out.trans (hb.mono Bb'.out.size)
          clear hr hy hb SB0 SAb y0 y1 y2 y3 y4 y5 y6 y7 y8 Bb' Yb Lb
          go_upto_region 39 with fail
          go_loopw [26] (fun v26 V => ∃ n : Nat, v26 = .int .i64 (n : Nat) ∧ n ≤ X.gs.length ∧ Below wc'.heap.size wc' V) (fun v26 _ => X.gs.length - (intOf v26).toNat)
          case atStart => exact ⟨0, rfl, Nat.zero_le _, Below.refl _ _⟩
          case round =>
            obtain ⟨n, rfl, hn, hb⟩ := hrel
            have BR : Hid (Below wc'.heap.size wc' wr) := hb
            clear hb
            by_cases h0 : n = X.gs.length
            case neg =>
              have hnl : n < X.gs.length := by omega
              have hni : ((n : Nat) : Int) < (X.gs.length : Nat) := by omega
              have HN : Hid (n < X.gs.length) := hnl
              have WN : IntKind.i64.wrap ((n : Nat) + 1 : Int) = ((n : Nat) : Int) + 1 := by have := GD.out.2; rw [IntKind.wrap_i64]; omega
              have hd := seen_at ks Wn X p hnl
              obtain ⟨ta, tc, he, -, -, h⟩ := SA.out
              obtain ⟨xa, hxa, hal, hac⟩ := h (by intro h; rw [h] at hd; simp at hd)
              injection he with he1 he2 he3
              subst he1
              subst hxa
              obtain ⟨tb, td, he', -, -, h'⟩ := SB.out
              obtain ⟨xb, hxb, hbl, hbc⟩ := h' (by intro h; rw [h] at hd; simp at hd)
              injection he' with he1' he2' he3'
              subst he1'
              subst hxb
              have ca := hac n _ hd
              have cb := hbc n _ hd
              have ca' : wr.cell? (xa.add n) = some (.bool (seesP ks Wn X.gs X.us p n)) := by rw [BR.out.cell (p := xa.add n) (by rw [add_block]; exact hal)]; exact ca
              have cb' : wr.cell? (xb.add n) = some (.bool (seesP ks Wn X.gs X.us p n)) := by rw [BR.out.cell (p := xb.add n) (by rw [add_block]; exact hbl)]; exact cb
              obtain ⟨t, ht⟩ : ∃ t, seesP ks Wn X.gs X.us p n = t := ⟨_, rfl⟩
              rw [ht] at ca' cb'
              clear h h' he2 he3 he2' he3' hal hac hbl hbc ca cb hd ht
              cases t <;>
              · go_upto_region 41 with fail
                go_quiet (fail)
                go_wp2
                go_round
                case rel => exact ⟨n + 1, by go_num, by have := HN.out; omega, ⟨BR.out.os, BR.out.tape, BR.out.output, BR.out.size, BR.out.block⟩⟩
                case measure => simp [intOf]; omega
            subst h0
            have hnn : ¬ (((X.gs.length : Nat) : Int) < (X.gs.length : Nat)) := by omega
            have BB : Hid (Below w.heap.size w wr) := Bc.out.trans (BR.out.mono Bc.out.size)
            go_wp2
            go_ret
            exact ⟨rfl, BB.out⟩
end Go.Proofs.Ytagnjmellcibhaa.sightHides

