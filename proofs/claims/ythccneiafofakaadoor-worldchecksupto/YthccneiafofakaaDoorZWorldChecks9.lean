/- WorldChecks: the walk. -/
import Derived.Test.YthccneiafofakaaDoorZWorldChecks6
import Derived.Test.YthccneiafofakaaDoorZWorldChecks7
import Derived.Test.YthccneiafofakaaDoorZWorldChecks8
namespace Go.Proofs.YthccneiafofakaaDoor.worldChecks
open Go.RowKit
set_option linter.unusedVariables false

theorem enc_pos (X : WV) : 0 < (Wd.enc X).length := by
  have h := Wd.num_pos X.turn
  have : Wd.enc X = Wd.num X.turn ++ Wd.wr (Wd.nums X).tail := by simp [Wd.enc, Wd.nums, Wd.wr]
  rw [this, List.length_append]
  omega
set_option maxRecDepth 100000 in
set_option maxHeartbeats 16000000 in
theorem walk (v0 : Value) (ks : List KV) (v1 : Value) (X : WV) (id : Int) (w : World) (h0 : Kl w v0 ks ∧ ∀ k ∈ ks, k.b.size ≤ maxLen) (h1 : Wl w v1 X ∧ ∀ n ∈ Wd.nums X, Wd.In64 n) (hs : WSmall X) (h2 : (Lit.int .i64 id).wf = true) (hg : Et w) :
    Calls Tryd.prog 6 #[v0, v1, .int .i64 id] w fun e w' => e = .returned (.bool true) ∧ Below w.heap.size w w' := by
  have K : Hid (Kl w v0 ks ∧ ∀ k ∈ ks, k.b.size ≤ 9223372036854775807) := ⟨h0.1, fun k hk => by have := h0.2 k hk; unfold maxLen at this; omega⟩
  have H : Hid (Wl w v1 X) := h1.1
  have S : Hid (WSmall X ∧ ∀ n ∈ Wd.nums X, Wd.In64 n) := ⟨hs, h1.2⟩
  have HG : Hid (Et w) := hg
  obtain ⟨u1, u2, u3, u4, u5, rfl, r1, r2, r3, r4, r5⟩ := h1.1
  obtain ⟨p1, q1, rfl, -⟩ := r1
  obtain ⟨p2, q2, rfl, -⟩ := r2
  obtain ⟨p3, q3, rfl, -⟩ := r3
  obtain ⟨p4, q4, rfl, -⟩ := r4
  obtain ⟨p5, q5, rfl, -⟩ := r5
  clear h0 h1 hs hg h2
  go_enter Tryd.func6, Tryd.ntmps6
  go_wp2_with fail
  have B0 : Hid (Below w.heap.size w (w.alloc (Obj.cells #[.int .i64 X.turn, .int .i64 X.next, .int .i64 X.wide, .int .i64 X.high, .slice p1 X.gs.length q1, .slice p2 X.os.length q2, .slice p3 X.gold.length q3, .slice p4 X.us.length q4, .slice p5 X.qs.length q5] 49))) := (Below.refl _ _).alloc (Nat.le_refl _) _
  have X0 : Hid (Bw (w.alloc (Obj.cells #[.int .i64 X.turn, .int .i64 X.next, .int .i64 X.wide, .int .i64 X.high, .slice p1 X.gs.length q1, .slice p2 X.os.length q2, .slice p3 X.gold.length q3, .slice p4 X.us.length q4, .slice p5 X.qs.length q5] 49)) w.heap.size X (.slice p1 X.gs.length q1) (.slice p2 X.os.length q2) (.slice p3 X.gold.length q3) (.slice p4 X.us.length q4) (.slice p5 X.qs.length q5)) := Bw.mk' X _ _ _ _ _ rfl
  generalize (w.alloc (Obj.cells #[.int .i64 X.turn, .int .i64 X.next, .int .i64 X.wide, .int .i64 X.high, .slice p1 X.gs.length q1, .slice p2 X.os.length q2, .slice p3 X.gold.length q3, .slice p4 X.us.length q4, .slice p5 X.qs.length q5] 49)) = w0 at *
  obtain ⟨f, hf⟩ : ∃ f, Wd.wfault ks X = f := ⟨_, rfl⟩
  have HF : Hid (Wd.wfault ks X = f) := hf
  clear hf
  refine (rcheck_any _ _ ks X w0 (K.out.1.below B0.out) K.out.2 (H.out.below B0.out)).mono ?_
  rintro e w1 ⟨r, rfl, hr, hb⟩
  rw [HF.out] at hr
  subst hr
  have B1 : Hid (Below w.heap.size w w1) := B0.out.trans (hb.mono B0.out.size)
  have X1 : Hid (Bw w1 w.heap.size X (.slice p1 X.gs.length q1) (.slice p2 X.os.length q2) (.slice p3 X.gold.length q3) (.slice p4 X.us.length q4) (.slice p5 X.qs.length q5)) := X0.out.below hb X0.out.lt
  clear hb X0 B0
  obtain ⟨x0, x1, x2, x3, x4, x5, x6, x7, x8⟩ := X1.out
  go_wp2_with fail
  refine (wcheck_any _ _ ks X w1 (K.out.1.below B1.out) K.out.2 (H.out.below B1.out)).mono ?_
  rintro e w2 ⟨v, rfl, hv, hb⟩
  rw [HF.out] at hv
  have EV : Hid (Er v r) := hv
  clear hv x0 x1 x2 x3 x4 x5 x6 x7 x8
  have B2 : Hid (Below w.heap.size w w2) := B1.out.trans (hb.mono B1.out.size)
  have X2 : Hid (Bw w2 w.heap.size X (.slice p1 X.gs.length q1) (.slice p2 X.os.length q2) (.slice p3 X.gold.length q3) (.slice p4 X.us.length q4) (.slice p5 X.qs.length q5)) := X1.out.below hb X1.out.lt
  clear hb X1 B1
  obtain ⟨x0, x1, x2, x3, x4, x5, x6, x7, x8⟩ := X2.out
  go_wp2_with fail
  refine (er_same _ _ w2 EV.out (HG.out.below B2.out)).mono ?_
  rintro e w3 ⟨rfl, hb⟩
  clear x0 x1 x2 x3 x4 x5 x6 x7 x8
  have B3 : Hid (Below w.heap.size w w3) := B2.out.trans (hb.mono B2.out.size)
  have X3 : Hid (Bw w3 w.heap.size X (.slice p1 X.gs.length q1) (.slice p2 X.os.length q2) (.slice p3 X.gold.length q3) (.slice p4 X.us.length q4) (.slice p5 X.qs.length q5)) := X2.out.below hb X2.out.lt
  clear hb X2 B2
  obtain ⟨x0, x1, x2, x3, x4, x5, x6, x7, x8⟩ := X3.out
  go_wp2_with fail
  refine (encode_any _ X w3 (H.out.below B3.out) S.out.1 S.out.2).mono ?_
  rintro e w4 ⟨u, rfl, ho, hb⟩
  have O4 : Hid (By w4 u (Wd.enc X)) := ho.by_
  obtain ⟨g1, c1, rfl, -⟩ := ho.text (enc_pos X)
  clear ho x0 x1 x2 x3 x4 x5 x6 x7 x8
  have B4 : Hid (Below w.heap.size w w4) := B3.out.trans (hb.mono B3.out.size)
  have X4 : Hid (Bw w4 w.heap.size X (.slice p1 X.gs.length q1) (.slice p2 X.os.length q2) (.slice p3 X.gold.length q3) (.slice p4 X.us.length q4) (.slice p5 X.qs.length q5)) := X3.out.below hb X3.out.lt
  clear hb X3 B3
  obtain ⟨x0, x1, x2, x3, x4, x5, x6, x7, x8⟩ := X4.out
  go_wp2_with fail
  refine (rencode_any _ X w4 (H.out.below B4.out) S.out.1 S.out.2).mono ?_
  rintro e w5 ⟨u, rfl, ho, hb⟩
  have O5 : Hid (By w5 (.slice (some ⟨g1, 0, none⟩) (Wd.enc X).length c1) (Wd.enc X)) := O4.out.below hb
  have P5 : Hid (By w5 u (Wd.enc X)) := ho.by_
  obtain ⟨g2, c2, rfl, -⟩ := ho.text (enc_pos X)
  clear ho O4 x0 x1 x2 x3 x4 x5 x6 x7 x8
  have B5 : Hid (Below w.heap.size w w5) := B4.out.trans (hb.mono B4.out.size)
  have X5 : Hid (Bw w5 w.heap.size X (.slice p1 X.gs.length q1) (.slice p2 X.os.length q2) (.slice p3 X.gold.length q3) (.slice p4 X.us.length q4) (.slice p5 X.qs.length q5)) := X4.out.below hb X4.out.lt
  clear hb X4 B4
  obtain ⟨x0, x1, x2, x3, x4, x5, x6, x7, x8⟩ := X5.out
  go_wp2_with fail
  refine (sum_any _ X w5 (H.out.below B5.out) S.out.1 S.out.2).mono ?_
  rintro e w6 ⟨rfl, hb⟩
  have O6 : Hid (By w6 (.slice (some ⟨g1, 0, none⟩) (Wd.enc X).length c1) (Wd.enc X) ∧ By w6 (.slice (some ⟨g2, 0, none⟩) (Wd.enc X).length c2) (Wd.enc X)) := ⟨O5.out.below hb, P5.out.below hb⟩
  clear O5 P5 x0 x1 x2 x3 x4 x5 x6 x7 x8
  have B6 : Hid (Below w.heap.size w w6) := B5.out.trans (hb.mono B5.out.size)
  have X6 : Hid (Bw w6 w.heap.size X (.slice p1 X.gs.length q1) (.slice p2 X.os.length q2) (.slice p3 X.gold.length q3) (.slice p4 X.us.length q4) (.slice p5 X.qs.length q5)) := X5.out.below hb X5.out.lt
  clear hb X5 B5
  obtain ⟨x0, x1, x2, x3, x4, x5, x6, x7, x8⟩ := X6.out
  go_wp2_with fail
  refine (wfind_any _ X id w6 (H.out.below B6.out)).mono ?_
  rintro e w7 ⟨i, rfl, hi, hb⟩
  have FI : Hid (FstU (fun u => u.id == id) X.us i) := hi
  have O7 : Hid (By w7 (.slice (some ⟨g1, 0, none⟩) (Wd.enc X).length c1) (Wd.enc X) ∧ By w7 (.slice (some ⟨g2, 0, none⟩) (Wd.enc X).length c2) (Wd.enc X)) := ⟨O6.out.1.below hb, O6.out.2.below hb⟩
  clear O6 hi x0 x1 x2 x3 x4 x5 x6 x7 x8
  have B7 : Hid (Below w.heap.size w w7) := B6.out.trans (hb.mono B6.out.size)
  have X7 : Hid (Bw w7 w.heap.size X (.slice p1 X.gs.length q1) (.slice p2 X.os.length q2) (.slice p3 X.gold.length q3) (.slice p4 X.us.length q4) (.slice p5 X.qs.length q5)) := X6.out.below hb X6.out.lt
  clear hb X6 B6
  obtain ⟨x0, x1, x2, x3, x4, x5, x6, x7, x8⟩ := X7.out
  obtain ⟨E, hE⟩ : ∃ E, Wd.enc X = E := ⟨_, rfl⟩
  rw [hE] at O7 ⊢
  have cv1 := O7.out.1.conv
  have cv2 := O7.out.2.conv
  clear hE
  go_wp2_with fail
  refine (rsum_any _ E _ O7.out.2).mono ?_
  rintro e w8 ⟨rfl, rfl⟩
  clear cv1 cv2
  go_wp2_with fail
  refine (rfind_any _ X id _ (H.out.below B7.out)).mono ?_
  rintro e w9 ⟨r9, rfl, h9, hb9⟩
  obtain rfl := FstU.one FI.out h9
  have B9 : Hid (Below w.heap.size w w9) := B7.out.trans (hb9.mono B7.out.size)
  clear hb9 h9 x0 x1 x2 x3 x4 x5 x6 x7 x8
  go_wp2
  go_ret
  exact ⟨rfl, B9.out⟩
end Go.Proofs.YthccneiafofakaaDoor.worldChecks

