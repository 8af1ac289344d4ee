/- WorldPuts: the walk. -/
import Derived.Test.YtmhnidhcaceinaaZWorldPuts6
import Derived.Test.YtmhnidhcaceinaaZWorldPuts7
import Derived.BigQuiet
namespace Go.Proofs.Ytmhnidhcaceinaa.worldPuts
open Go.RowKit
set_option linter.unusedVariables false

theorem wl_shape {w : World} {v : Value} {X : WV} (h : Wl w v X) : ∃ p1 q1 p2 q2 p3 q3 p4 q4 p5 q5, v = .agg #[.int .i64 X.turn, .int .i64 X.next, .int .i64 X.wide, .int .i64 X.high, .slice p1 X.gs.length q1, .slice p2 X.os.length q2, .slice p3 X.gold.length q3, .slice p4 X.us.length q4, .slice p5 X.qs.length q5] := by
  obtain ⟨u1, u2, u3, u4, u5, rfl, ⟨p1, q1, rfl, -⟩, ⟨p2, q2, rfl, -⟩, ⟨p3, q3, rfl, -⟩, ⟨p4, q4, rfl, -⟩, ⟨p5, q5, rfl, -⟩⟩ := h
  exact ⟨_, _, _, _, _, _, _, _, _, _, rfl⟩
theorem below_drewN_any {B : Nat} {a w : World} (h : Below B a w) (q : Nat) : Below B a (w.drewN q) := ⟨h.os, h.tape, h.output, h.size, h.block⟩
theorem wl_us {w : World} {X : WV} {a b c d : Value} {s1 s2 s3 s4 s5 : Value} (h : Wl w (.agg #[a, b, c, d, s1, s2, s3, s4, s5]) X) : Unl w s4 X.us := by
  obtain ⟨u1, u2, u3, u4, u5, he, -, -, -, h4, -⟩ := h
  simp only [Value.agg.injEq, Array.mk.injEq, List.cons.injEq, and_true] at he
  obtain ⟨-, -, -, -, -, -, -, e, -⟩ := he
  rw [e]; exact h4
set_option maxRecDepth 100000 in
set_option maxHeartbeats 50000000 in
theorem walk (vk : Value) (ks : List KV) (vw : Value) (X : WV) (pl kd at_ : Int) (w : World)
    (h0 : Kl w vk ks ∧ ∀ k ∈ ks, k.b.size ≤ maxLen) (h1 : Wl w vw X ∧ ∀ n ∈ Wd.nums X, Wd.In64 n) (hs : WSmall X) (h2 : (Lit.int .i64 pl).wf = true) (h3 : (Lit.int .i64 kd).wf = true) (h4 : (Lit.int .i64 at_).wf = true) :
    Calls Try.prog 3 #[vk, vw, .int .i64 pl, .int .i64 kd, .int .i64 at_] w fun e w' => e = .returned (.bool true) ∧ Below w.heap.size w w' := by
  have K : Hid (Kl w vk ks ∧ ∀ k ∈ ks, k.b.size ≤ 9223372036854775807) := ⟨h0.1, fun k hk => by have := h0.2 k hk; unfold maxLen at this; omega⟩
  have H : Hid (Wl w vw X) := h1.1
  have S : Hid (WSmall X ∧ ∀ n ∈ Wd.nums X, Wd.In64 n) := ⟨hs, h1.2⟩
  obtain ⟨p1, q1, p2, q2, p3, q3, p4, q4, p5, q5, rfl⟩ := wl_shape h1.1
  obtain ⟨pk, qk, rfl, ck1, ck2, kc⟩ := h0.1
  have KC : Hid (ks ≠ [] → ∃ x, pk = some x ∧ x.block < w.heap.size ∧ ∀ (i : Nat) k, ks[i]? = some k → Kc w (x.add (i * 11)) k) := kc
  clear h0 h1 hs h2 h3 h4 kc
  go_enter Try.func3, Try.ntmps3
  go_upto_region 1 with fail
  have B0 : Hid (Below w.heap.size w (w.alloc (Obj.cells #[.int .i64 X.turn, .int .i64 X.next, .int .i64 X.wide, .int .i64 X.high, .slice p1 X.gs.length q1, .slice p2 X.os.length q2, .slice p3 X.gold.length q3, .slice p4 X.us.length q4, .slice p5 X.qs.length q5] 29))) := (Below.refl _ _).alloc (Nat.le_refl _) _
  have X0 : Hid (Bw (w.alloc (Obj.cells #[.int .i64 X.turn, .int .i64 X.next, .int .i64 X.wide, .int .i64 X.high, .slice p1 X.gs.length q1, .slice p2 X.os.length q2, .slice p3 X.gold.length q3, .slice p4 X.us.length q4, .slice p5 X.qs.length q5] 29)) w.heap.size X (.slice p1 X.gs.length q1) (.slice p2 X.os.length q2) (.slice p3 X.gold.length q3) (.slice p4 X.us.length q4) (.slice p5 X.qs.length q5)) := Bw.mk' X _ _ _ _ _ rfl
  generalize (w.alloc (Obj.cells #[.int .i64 X.turn, .int .i64 X.next, .int .i64 X.wide, .int .i64 X.high, .slice p1 X.gs.length q1, .slice p2 X.os.length q2, .slice p3 X.gold.length q3, .slice p4 X.us.length q4, .slice p5 X.qs.length q5] 29)) = w0 at *
  go_wp2_with fail
  refine (small_any w0).mono ?_
  rintro e w1 ⟨u, rfl, ho, hb⟩
  have B1 : Hid (Below w.heap.size w w1) := B0.out.trans (hb.mono B0.out.size)
  have X1 : Hid (Bw w1 w.heap.size X (.slice p1 X.gs.length q1) (.slice p2 X.os.length q2) (.slice p3 X.gold.length q3) (.slice p4 X.us.length q4) (.slice p5 X.qs.length q5)) := X0.out.below hb X0.out.lt
  obtain ⟨y1, y2, y3, y4, y5, rfl, o1, o2, o3, o4, o5⟩ := ho
  obtain ⟨m1, n1, rfl⟩ := o1.len
  obtain ⟨m2, n2, rfl⟩ := o2.len
  obtain ⟨m3, n3, rfl⟩ := o3.len
  have U1 : Hid (Unl w1 y4 S3.us) := o4.l
  obtain ⟨m4, n4, rfl⟩ := o4.len
  obtain ⟨m5, n5, rfl⟩ := o5.len
  obtain ⟨g1, g2, g3, g4, g5, g6, g7, g8, g9⟩ := s3_eqs
  simp only [g8] at U1
  simp only [g1, g2, g3, g4, g5, g6, g7, g8, g9]
  clear g1 g2 g3 g4 g5 g6 g7 g8 g9 hb o1 o2 o3 o4 o5 X0 B0
  obtain ⟨ua, uc, he, -, -, hu⟩ := U1.out
  obtain ⟨y, hy, hyl, hyc⟩ := hu (by simp [S3])
  injection he with he1 he2 he3
  subst he1
  subst hy
  have UC : Hid (Unc w1 (y.add 8) ⟨2, 0, 1, 1, 10, 0, 0, 0⟩ ∧ (y.add 8).block < w1.heap.size) := ⟨by have := hyc 1 ⟨2, 0, 1, 1, 10, 0, 0, 0⟩ rfl; simpa using this, by rw [add_block]; exact hyl⟩
  clear hu he2 he3 hyl hyc U1
  go_upto_region 2 with fail
  have BA : Hid (Below w1.heap.size w1 (w1.alloc (Obj.cells #[.int .i64 0, .int .i64 4, .int .i64 4, .int .i64 2, .slice m1 8 n1, .slice m2 8 n2, .slice m3 2 n3, .slice (some y) 3 n4, .slice m5 0 n5] 29))) := (Below.refl _ _).alloc (Nat.le_refl _) _
  have C2 : Hid ((w1.alloc (Obj.cells #[.int .i64 0, .int .i64 4, .int .i64 4, .int .i64 2, .slice m1 8 n1, .slice m2 8 n2, .slice m3 2 n3, .slice (some y) 3 n4, .slice m5 0 n5] 29)).cell? ⟨w1.heap.size, 1, none⟩ = some (.int .i64 4) ∧ (w1.alloc (Obj.cells #[.int .i64 0, .int .i64 4, .int .i64 4, .int .i64 2, .slice m1 8 n1, .slice m2 8 n2, .slice m3 2 n3, .slice (some y) 3 n4, .slice m5 0 n5] 29)).cell? ⟨w1.heap.size, 7, none⟩ = some (.slice (some y) 3 n4)) := ⟨by simp, by simp⟩
  generalize (w1.alloc (Obj.cells #[.int .i64 0, .int .i64 4, .int .i64 4, .int .i64 2, .slice m1 8 n1, .slice m2 8 n2, .slice m3 2 n3, .slice (some y) 3 n4, .slice m5 0 n5] 29)) = w2 at *
  have B2 : Hid (Below w.heap.size w w2) := B1.out.trans (BA.out.mono B1.out.size)
  have X2 : Hid (Bw w2 w.heap.size X (.slice p1 X.gs.length q1) (.slice p2 X.os.length q2) (.slice p3 X.gold.length q3) (.slice p4 X.us.length q4) (.slice p5 X.qs.length q5)) := X1.out.below BA.out X1.out.lt
  obtain ⟨e1, e7⟩ := C2.out
  obtain ⟨c0, -, -, -, -, -, -, -⟩ := UC.out.1.below BA.out UC.out.2
  have c8 : w2.cell? ⟨y.block, y.off + 8, none⟩ = some (.int .i64 2) := c0
  clear X1 B1 BA C2 UC c0
  obtain ⟨x0, x1, x2, x3, x4, x5, x6, x7, x8⟩ := X2.out
  go_wp2_with fail
  refine (sum_any _ X w2 (H.out.below B2.out) S.out.1 S.out.2).mono ?_
  rintro e w3 ⟨rfl, hb⟩
  obtain ⟨sm, hsm⟩ : ∃ n, Wd.sum (Wd.enc X) = n := ⟨_, rfl⟩
  have HSM : Hid (Wd.sum (Wd.enc X) = sm) := hsm
  rw [hsm]
  have B3 : Hid (Below w.heap.size w w3) := B2.out.trans (hb.mono B2.out.size)
  have X3 : Hid (Bw w3 w.heap.size X (.slice p1 X.gs.length q1) (.slice p2 X.os.length q2) (.slice p3 X.gold.length q3) (.slice p4 X.us.length q4) (.slice p5 X.qs.length q5)) := X2.out.below hb X2.out.lt
  clear hb hsm x0 x1 x2 x3 x4 x5 x6 x7 x8 e1 e7 c8 X2 B2
  obtain ⟨x0, x1, x2, x3, x4, x5, x6, x7, x8⟩ := X3.out
  go_wp2_with fail
  refine (place_any _ _ ks X pl kd at_ w3 (K.out.1.below B3.out) K.out.2 (H.out.below B3.out)).mono ?_
  rintro e w4 ⟨u, r, rfl, hr, ho, hb⟩
  obtain ⟨fp, hfp⟩ : ∃ f, Wd.putFault ks X pl kd at_ = f := ⟨_, rfl⟩
  have FP : Hid (Wd.putFault ks X pl kd at_ = fp) := hfp
  obtain ⟨T, hT⟩ : ∃ T, Wd.placed ks X pl kd at_ = T := ⟨_, rfl⟩
  have HT : Hid (Wd.placed ks X pl kd at_ = T) := hT
  rw [hfp] at hr
  rw [hT] at ho
  have ER : Hid (Er r fp) := hr
  have WL : Hid (Wl w4 u T) := ho.l
  obtain ⟨a1, b1, a2, b2, a3, b3, a4, b4, a5, b5, rfl⟩ := wl_shape ho.l
  have B4 : Hid (Below w.heap.size w w4) := B3.out.trans (hb.mono B3.out.size)
  have X4 : Hid (Bw w4 w.heap.size X (.slice p1 X.gs.length q1) (.slice p2 X.os.length q2) (.slice p3 X.gold.length q3) (.slice p4 X.us.length q4) (.slice p5 X.qs.length q5)) := X3.out.below hb X3.out.lt
  clear hb hr ho hfp hT x0 x1 x2 x3 x4 x5 x6 x7 x8 X3 B3
  go_upto_region 6 with fail
  have BA : Hid (Below w4.heap.size w4 (w4.alloc (Obj.cells #[.int .i64 T.turn, .int .i64 T.next, .int .i64 T.wide, .int .i64 T.high, .slice a1 T.gs.length b1, .slice a2 T.os.length b2, .slice a3 T.gold.length b3, .slice a4 T.us.length b4, .slice a5 T.qs.length b5] 29))) := (Below.refl _ _).alloc (Nat.le_refl _) _
  have V5 : Hid (Bw (w4.alloc (Obj.cells #[.int .i64 T.turn, .int .i64 T.next, .int .i64 T.wide, .int .i64 T.high, .slice a1 T.gs.length b1, .slice a2 T.os.length b2, .slice a3 T.gold.length b3, .slice a4 T.us.length b4, .slice a5 T.qs.length b5] 29)) w4.heap.size T (.slice a1 T.gs.length b1) (.slice a2 T.os.length b2) (.slice a3 T.gold.length b3) (.slice a4 T.us.length b4) (.slice a5 T.qs.length b5)) := Bw.mk' T _ _ _ _ _ rfl
  generalize (w4.alloc (Obj.cells #[.int .i64 T.turn, .int .i64 T.next, .int .i64 T.wide, .int .i64 T.high, .slice a1 T.gs.length b1, .slice a2 T.os.length b2, .slice a3 T.gold.length b3, .slice a4 T.us.length b4, .slice a5 T.qs.length b5] 29)) = w5 at *
  have B5 : Hid (Below w.heap.size w w5) := B4.out.trans (BA.out.mono B4.out.size)
  have X5 : Hid (Bw w5 w.heap.size X (.slice p1 X.gs.length q1) (.slice p2 X.os.length q2) (.slice p3 X.gold.length q3) (.slice p4 X.us.length q4) (.slice p5 X.qs.length q5)) := X4.out.below BA.out X4.out.lt
  have L5 : Hid (Wl w5 (.agg #[.int .i64 T.turn, .int .i64 T.next, .int .i64 T.wide, .int .i64 T.high, .slice a1 T.gs.length b1, .slice a2 T.os.length b2, .slice a3 T.gold.length b3, .slice a4 T.us.length b4, .slice a5 T.qs.length b5]) T) := WL.out.below BA.out
  obtain ⟨z, hz⟩ : ∃ z, w4.heap.size = z := ⟨_, rfl⟩
  rw [hz] at V5 ⊢
  clear X4 B4 BA WL hz
  obtain ⟨x0, x1, x2, x3, x4, x5, x6, x7, x8⟩ := X5.out
  go_wp2_with fail
  refine (sum_any _ X w5 (H.out.below B5.out) S.out.1 S.out.2).mono ?_
  rintro e w6 ⟨rfl, hb⟩
  rw [HSM.out]
  have B6 : Hid (Below w.heap.size w w6) := B5.out.trans (hb.mono B5.out.size)
  have X6 : Hid (Bw w6 w.heap.size X (.slice p1 X.gs.length q1) (.slice p2 X.os.length q2) (.slice p3 X.gold.length q3) (.slice p4 X.us.length q4) (.slice p5 X.qs.length q5)) := X5.out.below hb X5.out.lt
  have V6 : Hid (Bw w6 z T (.slice a1 T.gs.length b1) (.slice a2 T.os.length b2) (.slice a3 T.gold.length b3) (.slice a4 T.us.length b4) (.slice a5 T.qs.length b5)) := V5.out.below hb V5.out.lt
  have L6 : Hid (Wl w6 (.agg #[.int .i64 T.turn, .int .i64 T.next, .int .i64 T.wide, .int .i64 T.high, .slice a1 T.gs.length b1, .slice a2 T.os.length b2, .slice a3 T.gold.length b3, .slice a4 T.us.length b4, .slice a5 T.qs.length b5]) T) := L5.out.below hb
  clear hb x0 x1 x2 x3 x4 x5 x6 x7 x8 X5 B5 V5 L5
  rcases ER.out with ⟨hf, rfl⟩ | ⟨hf, rfl⟩
  case inr =>
    go_wp2
    go_ret
    exact ⟨rfl, B6.out⟩
  subst hf
  have PZ : Hid (WRight ks X ∧ Wd.placeFault ks X pl kd at_ = 0) := by
    have h := FP.out
    unfold Wd.putFault at h
    split at h
    · rename_i h0; exact ⟨wright_of h0, h⟩
    · rename_i h0; exact absurd h h0
  have TE : Hid (T = Wd.put ks X pl kd at_) := by rw [← HT.out]; exact placed_ok FP.out
  obtain ⟨x0, x1, x2, x3, x4, x5, x6, x7, x8⟩ := X6.out
  obtain ⟨h40, hpl, hat, kn, k, rfl, hkl, hkk, hop⟩ := pf_zero PZ.out.2
  have U40 : Hid (X.us.length < 40) := by unfold Hid; omega
  have KL : Hid (kn < ks.length ∧ ks.length ≤ 8) := ⟨hkl, kinds_len PZ.out.1.kinds⟩
  obtain ⟨n1, hn1⟩ : ∃ n1, X.us.length + 1 = n1 := ⟨_, rfl⟩
  have TU : Hid (T.us = X.us ++ [(⟨X.next, pl, (kn : Nat), at_, k.n0, 0, 0, 0⟩ : UnV)]) := by
    rw [TE.out]; show X.us ++ [Wd.newUnit ks X pl (kn : Nat) at_] = _; unfold Wd.newUnit; rw [Int.toNat_natCast, hkk]
  have TL : T.us.length = n1 := by rw [TU.out, List.length_append, ← hn1]; rfl
  rw [TL] at V6 L6 ⊢
  obtain ⟨ua, uc, he, hc1, hc2, hu⟩ := wl_us L6.out
  rw [TL] at he
  obtain ⟨y2, hy, hyl, hyc⟩ := hu (by rw [TU.out]; simp)
  injection he with he1 he2 he3
  subst he1
  subst hy
  obtain ⟨xk, hxk, hxl, hxc⟩ := KC.out (by intro h; subst h; simp at hkl)
  subst hxk
  have NU : Hid (Unc w6 (y2.add (X.us.length * 8)) (⟨X.next, pl, (kn : Nat), at_, k.n0, 0, 0, 0⟩ : UnV) ∧ y2.block < w6.heap.size) := ⟨hyc X.us.length _ (by rw [TU.out, List.getElem?_append_right (Nat.le_refl _)]; simp), hyl⟩
  have UC : Hid (∀ (i : Nat) u, X.us[i]? = some u → Unc w6 (y2.add (i * 8)) u) := fun i u hi => hyc i u (by rw [TU.out, List.getElem?_append_left (List.getElem?_eq_some_iff.1 hi).1]; exact hi)
  have KK : Hid (Kc w (xk.add (kn * 11)) k ∧ xk.block < w.heap.size) := ⟨hxc kn k hkk, hxl⟩
  have WN : IntKind.i64.wrap ((X.us.length : Nat) + 1 : Int) = (n1 : Nat) := by have := U40.out; rw [IntKind.wrap_i64]; omega
  have LN : X.us.length < n1 := by omega
  have L1 : Hid (n1 ≤ 40) := by have := U40.out; unfold Hid; omega
  clear hu he2 he3 hyl hyc hxl hxc hc1 hc2 h40 hpl hat hkk hop KC
  go_upto_region 12 with fail
  refine wp_region_two [(true, 0), (true, 1), (true, 2), (true, 3), (true, 4), (true, 5), (true, 6), (true, 7), (true, 8), (true, 9), (true, 10), (true, 11), (true, 12), (true, 13), (true, 14), (true, 15), (true, 16), (true, 17), (true, 18), (true, 19), (true, 20), (true, 21), (true, 22), (true, 23), (true, 24), (true, 25), (true, 26), (true, 27), (true, 28), (true, 29), (true, 30), (true, 31), (true, 32), (true, 33), (true, 34), (true, 35), (true, 36), (true, 37), (true, 38), (true, 39), (true, 40), (true, 41), (true, 42), (true, 43), (true, 44), (true, 45), (true, 46), (true, 47), (true, 48), (true, 49), (true, 50), (true, 51), (true, 52), (true, 53), (true, 54), (true, 55), (true, 56), (true, 57), (true, 58)] [(false, 59)] (fun V => V.cell? ⟨w.heap.size, 1, none⟩ = some (.int .i64 X.next) ∧ V.cell? ⟨z, 7, none⟩ = some (.slice (some y2) n1 b4) ∧ V.cell? (y2.add (X.us.length * 8)) = some (.int .i64 X.next) ∧ V.cell? ⟨(y2.add (X.us.length * 8)).block, (y2.add (X.us.length * 8)).off + 4, none⟩ = some (.int .i64 k.n0) ∧ V.cell? ⟨(y2.add (X.us.length * 8)).block, (y2.add (X.us.length * 8)).off + 6, none⟩ = some (.int .i64 0) ∧ V.cell? ⟨(y2.add (X.us.length * 8)).block, (y2.add (X.us.length * 8)).off + 3, none⟩ = some (.int .i64 at_) ∧ V.cell? ⟨(y2.add (X.us.length * 8)).block, (y2.add (X.us.length * 8)).off + 1, none⟩ = some (.int .i64 pl) ∧ V.cell? ⟨(xk.add (kn * 11)).block, (xk.add (kn * 11)).off + 1, none⟩ = some (.int .i64 k.n0)) (by kernel_rfl) (by kernel_rfl) (by kernel_rfl) (by decide +kernel) (by decide +kernel) ?_ ?_
  · obtain ⟨-, -, -, -, -, -, -, y7, -⟩ := V6.out
    have hN := NU.out.1
    have hK := KK.out.1.below B6.out (by rw [add_block]; exact KK.out.2)
    exact ⟨x1, y7, hN.c0, hN.c4, hN.c6, hN.c3, hN.c1, hK.c1⟩
  have X7 : Hid (Bw { w6 with drawn := w6.drawn + 1 } w.heap.size X (.slice p1 X.gs.length q1) (.slice p2 X.os.length q2) (.slice p3 X.gold.length q3) (.slice p4 X.us.length q4) (.slice p5 X.qs.length q5)) := X6.out.below ((Below.refl _ _).drew) X6.out.lt
  have V7 : Hid (Bw { w6 with drawn := w6.drawn + 1 } z T (.slice a1 T.gs.length b1) (.slice a2 T.os.length b2) (.slice a3 T.gold.length b3) (.slice (some y2) n1 b4) (.slice a5 T.qs.length b5)) := V6.out.below ((Below.refl _ _).drew) V6.out.lt
  have B7 : Hid (Below w.heap.size w { w6 with drawn := w6.drawn + 1 }) := B6.out.drew
  have D7 : Hid (Below w6.heap.size w6 { w6 with drawn := w6.drawn + 1 }) := (Below.refl _ _).drew
  generalize ({ w6 with drawn := w6.drawn + 1 } : World) = w7 at *
  have L7 : Hid (Wl w7 (.agg #[.int .i64 T.turn, .int .i64 T.next, .int .i64 T.wide, .int .i64 T.high, .slice a1 T.gs.length b1, .slice a2 T.os.length b2, .slice a3 T.gold.length b3, .slice (some y2) n1 b4, .slice a5 T.qs.length b5]) T) := L6.out.below D7.out
  have UC7 : Hid (∀ (i : Nat) u, X.us[i]? = some u → Unc w7 (y2.add (i * 8)) u) := fun i u hi => (UC.out i u hi).below D7.out (by rw [add_block]; exact NU.out.2)
  clear X6 V6 B6 D7 L6 UC NU x0 x1 x2 x3 x4 x5 x6 x7 x8
  refine headT_read rfl (.pointer (some ⟨z, 7, none⟩)) (by go_simp) (fun V hV => by go_simp) ?_
  go_simp
  refine headT_read rfl (.slice (some y2) n1 b4) (by go_simp) (fun V hV => by obtain ⟨f1, f7, c0, c4, c6, c3, c1, k1⟩ := hV; go_simp) ?_
  go_simp
  refine headT_read rfl (.int .i64 ((n1 : Nat) : Int)) (by go_simp) (fun V hV => by go_simp) ?_
  go_simp
  refine headT_read rfl (.int .i64 ((X.us.length : Nat) : Int)) (by go_simp) (fun V hV => by go_simp) ?_
  go_simp
  refine headT_read rfl (.int .i64 ((n1 : Nat) : Int)) (by go_simp) (fun V hV => by go_simp) ?_
  go_simp
  refine headT_read rfl (.bool false) (by go_simp) (fun V hV => by go_simp) ?_
  go_simp
  refine headT_read rfl (.bool false) (by go_simp) (fun V hV => by go_simp) ?_
  go_simp
  refine headT_read rfl (.pointer (some ⟨z, 7, none⟩)) (by go_simp) (fun V hV => by go_simp) ?_
  go_simp
  refine headT_read rfl (.slice (some y2) n1 b4) (by go_simp) (fun V hV => by obtain ⟨f1, f7, c0, c4, c6, c3, c1, k1⟩ := hV; go_simp) ?_
  go_simp
  refine headT_read rfl (.int .i64 ((X.us.length : Nat) : Int)) (by go_simp) (fun V hV => by go_simp) ?_
  go_simp
  refine headT_read rfl (.pointer (some (y2.add (X.us.length * 8)))) (by go_simp) (fun V hV => by go_simp) ?_
  go_simp
  refine headT_read rfl (.pointer (some (y2.add (X.us.length * 8)))) (by go_simp) (fun V hV => by go_simp) ?_
  go_simp
  refine headT_read rfl (.int .i64 X.next) (by go_simp) (fun V hV => by obtain ⟨f1, f7, c0, c4, c6, c3, c1, k1⟩ := hV; go_simp) ?_
  go_simp
  refine headT_read rfl (.pointer (some ⟨w.heap.size, 1, none⟩)) (by go_simp) (fun V hV => by go_simp) ?_
  go_simp
  refine headT_read rfl (.int .i64 X.next) (by go_simp) (fun V hV => by obtain ⟨f1, f7, c0, c4, c6, c3, c1, k1⟩ := hV; go_simp) ?_
  go_simp
  refine headT_read rfl (.bool false) (by go_simp) (fun V hV => by go_simp) ?_
  go_simp
  refine headT_read rfl (.bool false) (by go_simp) (fun V hV => by go_simp) ?_
  go_simp
  refine headT_read rfl (.bool false) (by go_simp) (fun V hV => by go_simp) ?_
  go_simp
  refine headT_read rfl (.pointer (some ⟨z, 7, none⟩)) (by go_simp) (fun V hV => by go_simp) ?_
  go_simp
  refine headT_read rfl (.slice (some y2) n1 b4) (by go_simp) (fun V hV => by obtain ⟨f1, f7, c0, c4, c6, c3, c1, k1⟩ := hV; go_simp) ?_
  go_simp
  refine headT_read rfl (.int .i64 ((X.us.length : Nat) : Int)) (by go_simp) (fun V hV => by go_simp) ?_
  go_simp
  refine headT_read rfl (.pointer (some (y2.add (X.us.length * 8)))) (by go_simp) (fun V hV => by go_simp) ?_
  go_simp
  refine headT_read rfl (.pointer (some ⟨(y2.add (X.us.length * 8)).block, (y2.add (X.us.length * 8)).off + 4, none⟩)) (by go_simp) (fun V hV => by go_simp) ?_
  go_simp
  refine headT_read rfl (.int .i64 k.n0) (by go_simp) (fun V hV => by obtain ⟨f1, f7, c0, c4, c6, c3, c1, k1⟩ := hV; go_simp) ?_
  go_simp
  refine headT_read rfl (.slice (some xk) ks.length qk) (by go_simp) (fun V hV => by go_simp) ?_
  go_simp
  refine headT_read rfl (.int .i64 (kn : Nat)) (by go_simp) (fun V hV => by go_simp) ?_
  go_simp
  refine headT_read rfl (.pointer (some (xk.add (kn * 11)))) (by go_simp) (fun V hV => by go_simp) ?_
  go_simp
  refine headT_read rfl (.pointer (some ⟨(xk.add (kn * 11)).block, (xk.add (kn * 11)).off + 1, none⟩)) (by go_simp) (fun V hV => by go_simp) ?_
  go_simp
  refine headT_read rfl (.int .i64 k.n0) (by go_simp) (fun V hV => by obtain ⟨f1, f7, c0, c4, c6, c3, c1, k1⟩ := hV; go_simp) ?_
  go_simp
  refine headT_read rfl (.bool false) (by go_simp) (fun V hV => by go_simp) ?_
  go_simp
  refine headT_read rfl (.bool false) (by go_simp) (fun V hV => by go_simp) ?_
  go_simp
  refine headT_read rfl (.bool false) (by go_simp) (fun V hV => by go_simp) ?_
  go_simp
  refine headT_read rfl (.pointer (some ⟨z, 7, none⟩)) (by go_simp) (fun V hV => by go_simp) ?_
  go_simp
  refine headT_read rfl (.slice (some y2) n1 b4) (by go_simp) (fun V hV => by obtain ⟨f1, f7, c0, c4, c6, c3, c1, k1⟩ := hV; go_simp) ?_
  go_simp
  refine headT_read rfl (.int .i64 ((X.us.length : Nat) : Int)) (by go_simp) (fun V hV => by go_simp) ?_
  go_simp
  refine headT_read rfl (.pointer (some (y2.add (X.us.length * 8)))) (by go_simp) (fun V hV => by go_simp) ?_
  go_simp
  refine headT_read rfl (.pointer (some ⟨(y2.add (X.us.length * 8)).block, (y2.add (X.us.length * 8)).off + 6, none⟩)) (by go_simp) (fun V hV => by go_simp) ?_
  go_simp
  refine headT_read rfl (.int .i64 0) (by go_simp) (fun V hV => by obtain ⟨f1, f7, c0, c4, c6, c3, c1, k1⟩ := hV; go_simp) ?_
  go_simp
  refine headT_read rfl (.bool false) (by go_simp) (fun V hV => by go_simp) ?_
  go_simp
  refine headT_read rfl (.bool false) (by go_simp) (fun V hV => by go_simp) ?_
  go_simp
  refine headT_read rfl (.bool false) (by go_simp) (fun V hV => by go_simp) ?_
  go_simp
  refine headT_read rfl (.pointer (some ⟨z, 7, none⟩)) (by go_simp) (fun V hV => by go_simp) ?_
  go_simp
  refine headT_read rfl (.slice (some y2) n1 b4) (by go_simp) (fun V hV => by obtain ⟨f1, f7, c0, c4, c6, c3, c1, k1⟩ := hV; go_simp) ?_
  go_simp
  refine headT_read rfl (.int .i64 ((X.us.length : Nat) : Int)) (by go_simp) (fun V hV => by go_simp) ?_
  go_simp
  refine headT_read rfl (.pointer (some (y2.add (X.us.length * 8)))) (by go_simp) (fun V hV => by go_simp) ?_
  go_simp
  refine headT_read rfl (.pointer (some ⟨(y2.add (X.us.length * 8)).block, (y2.add (X.us.length * 8)).off + 3, none⟩)) (by go_simp) (fun V hV => by go_simp) ?_
  go_simp
  refine headT_read rfl (.int .i64 at_) (by go_simp) (fun V hV => by obtain ⟨f1, f7, c0, c4, c6, c3, c1, k1⟩ := hV; go_simp) ?_
  go_simp
  refine headT_read rfl (.int .i64 at_) (by go_simp) (fun V hV => by go_simp) ?_
  go_simp
  refine headT_read rfl (.bool false) (by go_simp) (fun V hV => by go_simp) ?_
  go_simp
  refine headT_read rfl (.bool false) (by go_simp) (fun V hV => by go_simp) ?_
  go_simp
  refine headT_read rfl (.bool false) (by go_simp) (fun V hV => by go_simp) ?_
  go_simp
  refine headT_read rfl (.pointer (some ⟨z, 7, none⟩)) (by go_simp) (fun V hV => by go_simp) ?_
  go_simp
  refine headT_read rfl (.slice (some y2) n1 b4) (by go_simp) (fun V hV => by obtain ⟨f1, f7, c0, c4, c6, c3, c1, k1⟩ := hV; go_simp) ?_
  go_simp
  refine headT_read rfl (.int .i64 ((X.us.length : Nat) : Int)) (by go_simp) (fun V hV => by go_simp) ?_
  go_simp
  refine headT_read rfl (.pointer (some (y2.add (X.us.length * 8)))) (by go_simp) (fun V hV => by go_simp) ?_
  go_simp
  refine headT_read rfl (.pointer (some ⟨(y2.add (X.us.length * 8)).block, (y2.add (X.us.length * 8)).off + 1, none⟩)) (by go_simp) (fun V hV => by go_simp) ?_
  go_simp
  refine headT_read rfl (.int .i64 pl) (by go_simp) (fun V hV => by obtain ⟨f1, f7, c0, c4, c6, c3, c1, k1⟩ := hV; go_simp) ?_
  go_simp
  refine headT_read rfl (.int .i64 pl) (by go_simp) (fun V hV => by go_simp) ?_
  go_simp
  refine headT_read rfl (.bool false) (by go_simp) (fun V hV => by go_simp) ?_
  go_simp
  refine sched_value rfl (.bool false) w7 (by go_simp) (by go_simp) trivial ?_
  go_simp
  unfold wpSched
  go_wp2
  go_loopw [18] (fun i W' => ∃ m : Nat, m ≤ X.us.length ∧ i = .int .i64 (m : Nat) ∧ Bw W' w.heap.size X (.slice p1 X.gs.length q1) (.slice p2 X.os.length q2) (.slice p3 X.gold.length q3) (.slice p4 X.us.length q4) (.slice p5 X.qs.length q5) ∧ Bw W' z T (.slice a1 T.gs.length b1) (.slice a2 T.os.length b2) (.slice a3 T.gold.length b3) (.slice (some y2) n1 b4) (.slice a5 T.qs.length b5) ∧ Below w7.heap.size w7 W') (fun i _ => X.us.length - (intOf i).toNat)
  case atStart => exact ⟨0, Nat.zero_le _, rfl, X7.out, V7.out, Below.refl _ _⟩
  case round =>
    obtain ⟨m, hm, rfl, hX, hY, hB⟩ := hrel
    have XB : Hid (Bw wr w.heap.size X (.slice p1 X.gs.length q1) (.slice p2 X.os.length q2) (.slice p3 X.gold.length q3) (.slice p4 X.us.length q4) (.slice p5 X.qs.length q5)) := hX
    have YB : Hid (Bw wr z T (.slice a1 T.gs.length b1) (.slice a2 T.os.length b2) (.slice a3 T.gold.length b3) (.slice (some y2) n1 b4) (.slice a5 T.qs.length b5)) := hY
    have B : Hid (Below w7.heap.size w7 wr) := hB
    have BW : Hid (Below w.heap.size w wr) := B7.out.trans (hB.mono B7.out.size)
    clear hX hY hB X7 V7
    by_cases h0 : m = X.us.length
    · subst h0
      clear hm
      have LB : Hid (Wl wr (.agg #[.int .i64 T.turn, .int .i64 T.next, .int .i64 T.wide, .int .i64 T.high, .slice a1 T.gs.length b1, .slice a2 T.os.length b2, .slice a3 T.gold.length b3, .slice (some y2) n1 b4, .slice a5 T.qs.length b5]) T) := L7.out.below B.out
      clear L7 UC7 B B7
      obtain ⟨y0, y1, y2', y3, y4, y5, y6, y7, y8⟩ := YB.out
      go_wp2_with fail
      refine (place_any _ _ ks T pl (kn : Nat) at_ wr (K.out.1.below BW.out) K.out.2 LB.out).mono ?_
      rintro e w8 ⟨u, r, rfl, hr, ho, hb⟩
      have hr' : Er r (Wd.putFault ks T pl (kn : Nat) at_) := hr
      have hpt : Wd.putFault ks T pl (kn : Nat) at_ ≠ 0 := by rw [TE.out]; exact put_taken PZ.out.1 PZ.out.2
      obtain ⟨T2, hT2⟩ : ∃ T2, Wd.placed ks T pl (kn : Nat) at_ = T2 := ⟨_, rfl⟩
      rw [hT2] at ho
      obtain ⟨i1, j1, i2, j2, i3, j3, i4, j4, i5, j5, rfl⟩ := wl_shape ho.l
      have B8 : Hid (Below w.heap.size w w8) := BW.out.trans (hb.mono BW.out.size)
      have X8 : Hid (Bw w8 w.heap.size X (.slice p1 X.gs.length q1) (.slice p2 X.os.length q2) (.slice p3 X.gold.length q3) (.slice p4 X.us.length q4) (.slice p5 X.qs.length q5)) := XB.out.below hb XB.out.lt
      have V8 : Hid (Bw w8 z T (.slice a1 T.gs.length b1) (.slice a2 T.os.length b2) (.slice a3 T.gold.length b3) (.slice (some y2) n1 b4) (.slice a5 T.qs.length b5)) := YB.out.below hb YB.out.lt
      have L8 : Hid (Wl w8 (.agg #[.int .i64 T.turn, .int .i64 T.next, .int .i64 T.wide, .int .i64 T.high, .slice a1 T.gs.length b1, .slice a2 T.os.length b2, .slice a3 T.gold.length b3, .slice (some y2) n1 b4, .slice a5 T.qs.length b5]) T) := LB.out.below hb
      clear hb hr ho hT2 y0 y1 y2' y3 y4 y5 y6 y7 y8 XB YB BW LB
      go_upto_region 20 with fail
      have BA : Hid (Below w8.heap.size w8 (w8.alloc (Obj.cells #[.int .i64 T2.turn, .int .i64 T2.next, .int .i64 T2.wide, .int .i64 T2.high, .slice i1 T2.gs.length j1, .slice i2 T2.os.length j2, .slice i3 T2.gold.length j3, .slice i4 T2.us.length j4, .slice i5 T2.qs.length j5] 29))) := (Below.refl _ _).alloc (Nat.le_refl _) _
      generalize (w8.alloc (Obj.cells #[.int .i64 T2.turn, .int .i64 T2.next, .int .i64 T2.wide, .int .i64 T2.high, .slice i1 T2.gs.length j1, .slice i2 T2.os.length j2, .slice i3 T2.gold.length j3, .slice i4 T2.us.length j4, .slice i5 T2.qs.length j5] 29)) = w9 at *
      have B9 : Hid (Below w.heap.size w w9) := B8.out.trans (BA.out.mono B8.out.size)
      have X9 : Hid (Bw w9 w.heap.size X (.slice p1 X.gs.length q1) (.slice p2 X.os.length q2) (.slice p3 X.gold.length q3) (.slice p4 X.us.length q4) (.slice p5 X.qs.length q5)) := X8.out.below BA.out X8.out.lt
      have V9 : Hid (Bw w9 z T (.slice a1 T.gs.length b1) (.slice a2 T.os.length b2) (.slice a3 T.gold.length b3) (.slice (some y2) n1 b4) (.slice a5 T.qs.length b5)) := V8.out.below BA.out V8.out.lt
      have L9 : Hid (Wl w9 (.agg #[.int .i64 T.turn, .int .i64 T.next, .int .i64 T.wide, .int .i64 T.high, .slice a1 T.gs.length b1, .slice a2 T.os.length b2, .slice a3 T.gold.length b3, .slice (some y2) n1 b4, .slice a5 T.qs.length b5]) T) := L8.out.below BA.out
      clear BA B8 X8 V8 L8
      obtain ⟨y0, y1, y2', y3, y4, y5, y6, y7, y8⟩ := V9.out
      go_wp2_with fail
      refine (wcheck_any _ _ ks T w9 (K.out.1.below B9.out) K.out.2 L9.out).mono ?_
      rintro e w10 ⟨r2, rfl, hr2, hb⟩
      rw [TE.out, put_right PZ.out.1 PZ.out.2] at hr2
      obtain rfl := er_zero hr2
      have BX : Hid (Below w.heap.size w w10) := B9.out.trans (hb.mono B9.out.size)
      have XX : Hid (Bw w10 w.heap.size X (.slice p1 X.gs.length q1) (.slice p2 X.os.length q2) (.slice p3 X.gold.length q3) (.slice p4 X.us.length q4) (.slice p5 X.qs.length q5)) := X9.out.below hb X9.out.lt
      have VX : Hid (Bw w10 z T (.slice a1 T.gs.length b1) (.slice a2 T.os.length b2) (.slice a3 T.gold.length b3) (.slice (some y2) n1 b4) (.slice a5 T.qs.length b5)) := V9.out.below hb V9.out.lt
      have LX : Hid (Wl w10 (.agg #[.int .i64 T.turn, .int .i64 T.next, .int .i64 T.wide, .int .i64 T.high, .slice a1 T.gs.length b1, .slice a2 T.os.length b2, .slice a3 T.gold.length b3, .slice (some y2) n1 b4, .slice a5 T.qs.length b5]) T) := L9.out.below hb
      clear hb hr2 y0 y1 y2' y3 y4 y5 y6 y7 y8 B9 X9 V9 L9
      obtain ⟨y0, y1, y2', y3, y4, y5, y6, y7, y8⟩ := VX.out
      have x1 := XX.out.c1
      go_wp2_with fail
      refine (wfind_any _ T X.next w10 LX.out).mono ?_
      rintro e w11 ⟨r3, rfl, hf, hb⟩
      have hr3 : r3 = ((X.us.length : Nat) : Int) := by
        refine hf.one (.inr ⟨X.us.length, (⟨X.next, pl, (kn : Nat), at_, k.n0, 0, 0, 0⟩ : UnV), rfl, by rw [TU.out, List.getElem?_append_right (Nat.le_refl _)]; simp, by simp, ?_⟩)
        rw [TU.out, List.take_left, List.any_eq_false]
        intro u hu
        obtain ⟨i, hi⟩ := List.mem_iff_getElem?.1 hu
        obtain ⟨k0, fu⟩ := PZ.out.1.fine hi
        have := fu.id2
        simp only [beq_iff_eq]
        omega
      subst hr3
      have BY : Hid (Below w.heap.size w w11) := BX.out.trans (hb.mono BX.out.size)
      clear hb hf y0 y1 y2' y3 y4 y5 y6 y7 y8 x1 BX XX VX LX
      rcases hr' with ⟨hf, rfl⟩ | ⟨hf, rfl⟩
      · exact absurd hf hpt
      clear hpt hf
      go_wp2
      go_ret
      exact ⟨rfl, BY.out⟩
    · have hlt : m < X.us.length := by omega
      have hlti : ((m : Nat) : Int) < (X.us.length : Nat) := by omega
      have hltn : m < n1 := by omega
      have wm : IntKind.i64.wrap ((m : Nat) + 1 : Int) = ((m : Nat) : Int) + 1 := by have := U40.out; rw [IntKind.wrap_i64]; omega
      obtain ⟨o, ho⟩ : ∃ o, X.us[m]? = some o := ⟨_, List.getElem?_eq_getElem hlt⟩
      have hne : X.us ≠ [] := by intro e; rw [e] at hlt; simp at hlt
      obtain ⟨pa, pc, he, -, -, hu⟩ := wl_us H.out
      obtain ⟨x, hx, hxl, hxc⟩ := hu hne
      injection he with he1 he2 he3
      subst he1
      subst hx
      obtain ⟨q0', q1', q2', q3', q4', q5', q6', q7'⟩ := (hxc m o ho).below BW.out (by rw [add_block]; exact hxl)
      obtain ⟨r0, r1, r2, r3, r4, r5, r6, r7⟩ := (UC7.out m o ho).below B.out (UC7.out m o ho).lt
      have x7 := XB.out.c7
      have y7 := YB.out.c7
      clear hxc hne ho hxl hu he2 he3
      go_wp2
      go_quiet (fail)
      go_wp2
      have u40 : X.us.length < 40 := U40.out
      go_round
      case rel => exact ⟨m + 1, by omega, by go_num, XB.out.below (below_drewN_any (Below.refl _ _) _) XB.out.lt, YB.out.below (below_drewN_any (Below.refl _ _) _) YB.out.lt, below_drewN_any B.out _⟩
      case measure => simp [intOf]; omega
end Go.Proofs.Ytmhnidhcaceinaa.worldPuts

