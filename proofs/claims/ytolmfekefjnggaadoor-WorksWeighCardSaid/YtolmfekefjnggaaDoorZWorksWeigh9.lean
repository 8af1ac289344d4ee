/- WorksWeigh: the walk. -/
import Derived.Test.YtolmfekefjnggaaDoorZWorksWeigh8
import Derived.BigQuiet
namespace Go.Proofs.YtolmfekefjnggaaDoor.worksWeigh
open Go.RowKit
set_option linter.unusedVariables false

set_option maxRecDepth 100000 in
set_option maxHeartbeats 200000000 in
theorem walk (vk : Value) (ks : List KV) (vw : Value) (X : WV) (w : World)
    (h0 : Kl w vk ks ∧ ∀ k ∈ ks, k.b.size ≤ maxLen) (h1 : Wl w vw X ∧ ∀ n ∈ Wd.nums X, Wd.In64 n) (hsd : Sd w) :
    Calls Tryd.prog 3 #[vk, vw] w fun e w' => e = .returned (.bool true) ∧ Below w.heap.size w w' := by
  have K : Hid (Kl w vk ks ∧ ∀ k ∈ ks, k.b.size ≤ 9223372036854775807) := ⟨h0.1, fun k hk => by have := h0.2 k hk; unfold maxLen at this; omega⟩
  have H : Hid (Wl w vw X) := h1.1
  obtain ⟨p1, q1, p2, q2, p3, q3, p4, q4, p5, q5, rfl⟩ := wl_shape9 h1.1
  obtain ⟨pk, qk, rfl, ck1, ck2, kc⟩ := h0.1
  have KC : Hid (ks ≠ [] → ∃ x, pk = some x ∧ x.block < w.heap.size ∧ ∀ (i : Nat) k, ks[i]? = some k → Kc w (x.add (i * 11)) k) := kc
  have SD : Hid (Sd w) := hsd
  clear h0 h1 kc hsd
  go_enter Tryd.func3, Tryd.ntmps3
  go_upto_region 1 with fail
  have B0 : Hid (Below w.heap.size w (w.alloc (Obj.cells #[.int .i64 X.turn, .int .i64 X.next, .int .i64 X.wide, .int .i64 X.high, .slice p1 X.gs.length q1, .slice p2 X.os.length q2, .slice p3 X.gold.length q3, .slice p4 X.us.length q4, .slice p5 X.qs.length q5] 29))) := (Below.refl _ _).alloc (Nat.le_refl _) _
  have X0 : Hid (Bw (w.alloc (Obj.cells #[.int .i64 X.turn, .int .i64 X.next, .int .i64 X.wide, .int .i64 X.high, .slice p1 X.gs.length q1, .slice p2 X.os.length q2, .slice p3 X.gold.length q3, .slice p4 X.us.length q4, .slice p5 X.qs.length q5] 29)) w.heap.size X (.slice p1 X.gs.length q1) (.slice p2 X.os.length q2) (.slice p3 X.gold.length q3) (.slice p4 X.us.length q4) (.slice p5 X.qs.length q5)) := Bw.mk' X _ _ _ _ _ rfl
  generalize (w.alloc (Obj.cells #[.int .i64 X.turn, .int .i64 X.next, .int .i64 X.wide, .int .i64 X.high, .slice p1 X.gs.length q1, .slice p2 X.os.length q2, .slice p3 X.gold.length q3, .slice p4 X.us.length q4, .slice p5 X.qs.length q5] 29)) = w0 at *
  go_wp2_with fail
  refine (small_any w0).mono ?_
  rintro e w1 ⟨u, rfl, ho, hb⟩
  have B1 : Hid (Below w.heap.size w w1) := B0.out.trans (hb.mono B0.out.size)
  have X1 : Hid (Bw w1 w.heap.size X (.slice p1 X.gs.length q1) (.slice p2 X.os.length q2) (.slice p3 X.gold.length q3) (.slice p4 X.us.length q4) (.slice p5 X.qs.length q5)) := X0.out.below hb X0.out.lt
  obtain ⟨y1, y2, y3, y4, y5, rfl, o1, o2, o3, o4, o5⟩ := ho
  obtain ⟨m1, n1, rfl⟩ := o1.len
  obtain ⟨m2, n2, rfl⟩ := o2.len
  obtain ⟨m3, n3, rfl⟩ := o3.len
  obtain ⟨m5, n5, rfl⟩ := o5.len
  rcases o4.ub with ⟨-, h⟩ | ⟨g, n4, rest, rfl, hbg, hkc, hcm, hcl, hub⟩
  · cases h
  have OO : Hid (Ow w1 w0.heap.size (.slice m1 8 n1) SG ∧ Ow w1 w0.heap.size (.slice m2 8 n2) SO ∧ Ow w1 w0.heap.size (.slice m3 2 n3) [100, 100] ∧ Jbo w1 w0.heap.size (.slice m5 0 n5) [] ∧ Ub w1 g S3.us rest ∧ 3 ≤ n4 ∧ n4 ≤ maxLen ∧ 24 + rest.length = n4 * 8 ∧ w.heap.size < g) := ⟨o1, o2, o3, o5, hub, hkc, hcm, hcl, Nat.lt_of_lt_of_le X0.out.lt hbg⟩
  have hn4 : 3 ≤ n4 := hkc
  have hn4' : n4 ≤ 9223372036854775807 := by unfold maxLen at hcm; omega
  obtain ⟨g1, g2, g3, g4, g5, g6, g7, g8, g9⟩ := s3_eqs
  simp only [g1, g2, g3, g4, g5, g6, g7, g8, g9]
  clear g1 g2 g3 g4 g5 g6 g7 g8 g9 hb o1 o2 o3 o4 o5 X0 B0 hbg hkc hcm hcl hub
  go_upto_region 2 with fail
  have BA : Hid (Below w1.heap.size w1 (w1.alloc (Obj.cells #[.int .i64 0, .int .i64 4, .int .i64 4, .int .i64 2, .slice m1 8 n1, .slice m2 8 n2, .slice m3 2 n3, .slice (some ⟨g, 0, none⟩) 3 n4, .slice m5 0 n5] 29))) := (Below.refl _ _).alloc (Nat.le_refl _) _
  obtain ⟨z, hz⟩ : ∃ z, w1.heap.size = z := ⟨_, rfl⟩
  have W2 : Hid (Wx (w1.alloc (Obj.cells #[.int .i64 0, .int .i64 4, .int .i64 4, .int .i64 2, .slice m1 8 n1, .slice m2 8 n2, .slice m3 2 n3, .slice (some ⟨g, 0, none⟩) 3 n4, .slice m5 0 n5] 29)) z (.int .i64 0) (.int .i64 4) (.int .i64 4) (.int .i64 2) (.slice m1 8 n1) (.slice m2 8 n2) (.slice m3 2 n3) (.slice (some ⟨g, 0, none⟩) 3 n4) (.slice m5 0 n5)) := Wx.new (.int .i64 0) (.int .i64 4) (.int .i64 4) (.int .i64 2) (.slice m1 8 n1) (.slice m2 8 n2) (.slice m3 2 n3) (.slice (some ⟨g, 0, none⟩) 3 n4) (.slice m5 0 n5) hz
  rw [hz]
  generalize (w1.alloc (Obj.cells #[.int .i64 0, .int .i64 4, .int .i64 4, .int .i64 2, .slice m1 8 n1, .slice m2 8 n2, .slice m3 2 n3, .slice (some ⟨g, 0, none⟩) 3 n4, .slice m5 0 n5] 29)) = w2 at *
  have B2 : Hid (Below w.heap.size w w2) := B1.out.trans (BA.out.mono B1.out.size)
  have X2 : Hid (Bw w2 w.heap.size X (.slice p1 X.gs.length q1) (.slice p2 X.os.length q2) (.slice p3 X.gold.length q3) (.slice p4 X.us.length q4) (.slice p5 X.qs.length q5)) := X1.out.below BA.out X1.out.lt
  have UB : Hid (Ub w2 g S3.us rest) := OO.out.2.2.2.2.1.below BA.out OO.out.2.2.2.2.1.lt
  have ZG : Hid (g < z) := by rw [← hz]; exact OO.out.2.2.2.2.1.lt
  obtain ⟨-, -, -, -, -, -, -, x7, -⟩ := W2.out.cells
  have c3 : w2.cell? ⟨g, 14, none⟩ = some (.int .i64 0) := (UB.out.unc (i := 1) (o := ⟨2, 0, 1, 1, 10, 0, 0, 0⟩) rfl).c6
  have t3 := UB.out.thaw 14
  have UB0 : Hid (Ub (w2.setCell ⟨g, 14, none⟩ (.int .i64 2)) g [⟨1, 0, 0, 0, 50, 0, 0, 0⟩, ⟨2, 0, 1, 1, 10, 0, 2, 0⟩, ⟨3, 1, 2, 3, 20, 0, 0, 0⟩] rest) := UB.out.set6 (i := 1) (o := ⟨2, 0, 1, 1, 10, 0, 0, 0⟩) rfl 2
  have KS0 : Hid (Kp g w2 (w2.setCell ⟨g, 14, none⟩ (.int .i64 2))) := Kp.set _ _ _
  clear X1 B1 hz
  go_upto_region 5 with fail
  clear x7 c3 t3
  generalize (w2.setCell ⟨g, 14, none⟩ (.int .i64 2)) = wa2 at *
  have WS0 : Hid (Wx wa2 z (.int .i64 0) (.int .i64 4) (.int .i64 4) (.int .i64 2) (.slice m1 8 n1) (.slice m2 8 n2) (.slice m3 2 n3) (.slice (some ⟨g, 0, none⟩) 3 n4) (.slice m5 0 n5)) := W2.out.kp KS0.out (by have := ZG.out; omega)
  obtain ⟨-, -, -, -, -, -, -, x7, -⟩ := WS0.out.cells
  have c3 : wa2.cell? ⟨g, 11, none⟩ = some (.int .i64 1) := (UB0.out.unc (i := 1) (o := ⟨2, 0, 1, 1, 10, 0, 2, 0⟩) rfl).c3
  have t3 := UB0.out.thaw 11
  have UB1 : Hid (Ub (wa2.setCell ⟨g, 11, none⟩ (.int .i64 6)) g [⟨1, 0, 0, 0, 50, 0, 0, 0⟩, ⟨2, 0, 1, 6, 10, 0, 2, 0⟩, ⟨3, 1, 2, 3, 20, 0, 0, 0⟩] rest) := UB0.out.set3 (i := 1) (o := ⟨2, 0, 1, 1, 10, 0, 2, 0⟩) rfl 6
  have KS1 : Hid (Kp g wa2 (wa2.setCell ⟨g, 11, none⟩ (.int .i64 6))) := Kp.set _ _ _
  go_upto_region 6 with fail
  clear x7 c3 t3
  generalize (wa2.setCell ⟨g, 11, none⟩ (.int .i64 6)) = wb2 at *
  have WS1 : Hid (Wx wb2 z (.int .i64 0) (.int .i64 4) (.int .i64 4) (.int .i64 2) (.slice m1 8 n1) (.slice m2 8 n2) (.slice m3 2 n3) (.slice (some ⟨g, 0, none⟩) 3 n4) (.slice m5 0 n5)) := WS0.out.kp KS1.out (by have := ZG.out; omega)
  obtain ⟨-, -, -, -, -, -, -, x7, -⟩ := WS1.out.cells
  have c3 : wb2.cell? ⟨g, 15, none⟩ = some (.int .i64 0) := (UB1.out.unc (i := 1) (o := ⟨2, 0, 1, 6, 10, 0, 2, 0⟩) rfl).c7
  have t3 := UB1.out.thaw 15
  have UB2 : Hid (Ub (wb2.setCell ⟨g, 15, none⟩ (.int .i64 6)) g [⟨1, 0, 0, 0, 50, 0, 0, 0⟩, ⟨2, 0, 1, 6, 10, 0, 2, 6⟩, ⟨3, 1, 2, 3, 20, 0, 0, 0⟩] rest) := UB1.out.set7 (i := 1) (o := ⟨2, 0, 1, 6, 10, 0, 2, 0⟩) rfl 6
  have KS2 : Hid (Kp g wb2 (wb2.setCell ⟨g, 15, none⟩ (.int .i64 6))) := Kp.set _ _ _
  go_upto_region 7 with fail
  clear x7 c3 t3
  generalize (wb2.setCell ⟨g, 15, none⟩ (.int .i64 6)) = w3 at *
  have WS2 : Hid (Wx w3 z (.int .i64 0) (.int .i64 4) (.int .i64 4) (.int .i64 2) (.slice m1 8 n1) (.slice m2 8 n2) (.slice m3 2 n3) (.slice (some ⟨g, 0, none⟩) 3 n4) (.slice m5 0 n5)) := WS1.out.kp KS2.out (by have := ZG.out; omega)
  have K3 : Hid (Kp g w2 w3) := (KS0.out.trans KS1.out).trans KS2.out
  have W3 : Hid (Wx w3 z (.int .i64 0) (.int .i64 4) (.int .i64 4) (.int .i64 2) (.slice m1 8 n1) (.slice m2 8 n2) (.slice m3 2 n3) (.slice (some ⟨g, 0, none⟩) 3 n4) (.slice m5 0 n5)) := WS2.out
  have U3 : Hid (Ub w3 g SW.us rest) := UB2.out
  have X3 : Hid (Bw w3 w.heap.size X (.slice p1 X.gs.length q1) (.slice p2 X.os.length q2) (.slice p3 X.gold.length q3) (.slice p4 X.us.length q4) (.slice p5 X.qs.length q5)) := X2.out.kp9 K3.out (by have := OO.out.2.2.2.2.2.2.2.2; omega)
  have B3 : Hid (Below w.heap.size w w3) := K3.out.below B2.out B2.out.size (by have := OO.out.2.2.2.2.2.2.2.2; omega)
  have L3 : Hid (Wl w3 (.agg #[.int .i64 0, .int .i64 4, .int .i64 4, .int .i64 2, .slice m1 8 n1, .slice m2 8 n2, .slice m3 2 n3, .slice (some ⟨g, 0, none⟩) 3 n4, .slice m5 0 n5]) SW) := by
    obtain ⟨o1, o2, o3, o5, hub, hkc, hcm, hcl, hg⟩ := OO.out
    refine ⟨_, _, _, _, _, rfl, Ow.ro (own_gb (Ow.below o1 BA.out) (gb_kp K3.out) (own_ne (Ow.below o1 BA.out) UB.out (by decide))), Ow.ro (own_gb (Ow.below o2 BA.out) (gb_kp K3.out) (own_ne (Ow.below o2 BA.out) UB.out (by decide))), Ow.ro (own_gb (Ow.below o3 BA.out) (gb_kp K3.out) (own_ne (Ow.below o3 BA.out) UB.out (by decide))), ?_, Jbo.l (own_gb (Jbo.below o5 BA.out) (gb_kp K3.out) (own_ne (Jbo.below o5 BA.out) UB.out (by decide)))⟩
    exact (U3.out.uno (base := 0) (cap := n4) (Nat.zero_le _) hkc hcm hcl).l
  clear W2 X2 B2 K3 U3 UB BA OO KS0 KS1 KS2 WS0 WS1 WS2 UB0 UB1 UB2
  go_cut [7, 8, 9] (fun v7 v8 v9 V => v9 = .nilIface ∧ ∃ bf gf ge go h4 he h2, v7 = .pointer (some ⟨bf, 0, none⟩) ∧ v8 = .slice (some ⟨ge, 0, none⟩) 1 he ∧ 3 ≤ h4 ∧ V.cell? ⟨bf, 7, none⟩ = some (.slice (some ⟨gf, 0, none⟩) 3 h4) ∧ V.cell? ⟨gf, 13, none⟩ = some (.int .i64 10) ∧ V.cell? ⟨ge, 2, none⟩ = some (.int .i64 10) ∧ V.cell? ⟨bf, 5, none⟩ = some (.slice (some ⟨go, 0, none⟩) 8 h2) ∧ V.cell? ⟨go, 6, none⟩ = some (.int .i64 20) ∧ Below w.heap.size w V ∧ Bw V w.heap.size X (.slice p1 X.gs.length q1) (.slice p2 X.os.length q2) (.slice p3 X.gold.length q3) (.slice p4 X.us.length q4) (.slice p5 X.qs.length q5))
  case first =>
    refine wp_region_float 7 [(true, 1), (false, 0), (false, 2), (true, 3), (true, 4), (true, 5), (true, 6)] [(false, 8), (false, 9)] [(false, 10)] (fun V => V.cell? ⟨z, 0, none⟩ = some (.int .i64 0) ∧ V.cell? ⟨z, 1, none⟩ = some (.int .i64 4) ∧ V.cell? ⟨z, 2, none⟩ = some (.int .i64 4) ∧ V.cell? ⟨z, 3, none⟩ = some (.int .i64 2) ∧ V.cell? ⟨z, 4, none⟩ = some (.slice m1 8 n1) ∧ V.cell? ⟨z, 5, none⟩ = some (.slice m2 8 n2) ∧ V.cell? ⟨z, 6, none⟩ = some (.slice m3 2 n3) ∧ V.cell? ⟨z, 7, none⟩ = some (.slice (some ⟨g, 0, none⟩) 3 n4) ∧ V.cell? ⟨z, 8, none⟩ = some (.slice m5 0 n5)) (by kernel_rfl) (by kernel_rfl) (by kernel_rfl) (by decide +kernel) (by decide +kernel) W3.out.cells ?_
    have FB : Hid (∀ A B : World, (Below w.heap.size w A ∧ Bw A w.heap.size X (.slice p1 X.gs.length q1) (.slice p2 X.os.length q2) (.slice p3 X.gold.length q3) (.slice p4 X.us.length q4) (.slice p5 X.qs.length q5) ∧ (A.cell? ⟨z, 0, none⟩ = some (.int .i64 0) ∧ A.cell? ⟨z, 1, none⟩ = some (.int .i64 4) ∧ A.cell? ⟨z, 2, none⟩ = some (.int .i64 4) ∧ A.cell? ⟨z, 3, none⟩ = some (.int .i64 2) ∧ A.cell? ⟨z, 4, none⟩ = some (.slice m1 8 n1) ∧ A.cell? ⟨z, 5, none⟩ = some (.slice m2 8 n2) ∧ A.cell? ⟨z, 6, none⟩ = some (.slice m3 2 n3) ∧ A.cell? ⟨z, 7, none⟩ = some (.slice (some ⟨g, 0, none⟩) 3 n4) ∧ A.cell? ⟨z, 8, none⟩ = some (.slice m5 0 n5))) → Below A.heap.size A B → (Below w.heap.size w B ∧ Bw B w.heap.size X (.slice p1 X.gs.length q1) (.slice p2 X.os.length q2) (.slice p3 X.gold.length q3) (.slice p4 X.us.length q4) (.slice p5 X.qs.length q5) ∧ (B.cell? ⟨z, 0, none⟩ = some (.int .i64 0) ∧ B.cell? ⟨z, 1, none⟩ = some (.int .i64 4) ∧ B.cell? ⟨z, 2, none⟩ = some (.int .i64 4) ∧ B.cell? ⟨z, 3, none⟩ = some (.int .i64 2) ∧ B.cell? ⟨z, 4, none⟩ = some (.slice m1 8 n1) ∧ B.cell? ⟨z, 5, none⟩ = some (.slice m2 8 n2) ∧ B.cell? ⟨z, 6, none⟩ = some (.slice m3 2 n3) ∧ B.cell? ⟨z, 7, none⟩ = some (.slice (some ⟨g, 0, none⟩) 3 n4) ∧ B.cell? ⟨z, 8, none⟩ = some (.slice m5 0 n5)))) := fun A B h hb => by
      obtain ⟨a1, a2, a3⟩ := h
      have hz : z < A.heap.size := cell_lt a3.1
      exact ⟨a1.trans (hb.mono a1.size), a2.below hb a2.lt, by rw [hb.cell (p := ⟨z, 0, none⟩) hz]; exact a3.1, by rw [hb.cell (p := ⟨z, 1, none⟩) hz]; exact a3.2.1, by rw [hb.cell (p := ⟨z, 2, none⟩) hz]; exact a3.2.2.1, by rw [hb.cell (p := ⟨z, 3, none⟩) hz]; exact a3.2.2.2.1, by rw [hb.cell (p := ⟨z, 4, none⟩) hz]; exact a3.2.2.2.2.1, by rw [hb.cell (p := ⟨z, 5, none⟩) hz]; exact a3.2.2.2.2.2.1, by rw [hb.cell (p := ⟨z, 6, none⟩) hz]; exact a3.2.2.2.2.2.2.1, by rw [hb.cell (p := ⟨z, 7, none⟩) hz]; exact a3.2.2.2.2.2.2.2.1, by rw [hb.cell (p := ⟨z, 8, none⟩) hz]; exact a3.2.2.2.2.2.2.2.2⟩
    have D0 : Hid (Below w3.heap.size w3 { w3 with drawn := w3.drawn + 1 }) := (Below.refl _ _).drew
    generalize ({ w3 with drawn := w3.drawn + 1 } : World) = v0 at *
    have Fv0 : Hid (Below w.heap.size w v0 ∧ Bw v0 w.heap.size X (.slice p1 X.gs.length q1) (.slice p2 X.os.length q2) (.slice p3 X.gold.length q3) (.slice p4 X.us.length q4) (.slice p5 X.qs.length q5) ∧ (v0.cell? ⟨z, 0, none⟩ = some (.int .i64 0) ∧ v0.cell? ⟨z, 1, none⟩ = some (.int .i64 4) ∧ v0.cell? ⟨z, 2, none⟩ = some (.int .i64 4) ∧ v0.cell? ⟨z, 3, none⟩ = some (.int .i64 2) ∧ v0.cell? ⟨z, 4, none⟩ = some (.slice m1 8 n1) ∧ v0.cell? ⟨z, 5, none⟩ = some (.slice m2 8 n2) ∧ v0.cell? ⟨z, 6, none⟩ = some (.slice m3 2 n3) ∧ v0.cell? ⟨z, 7, none⟩ = some (.slice (some ⟨g, 0, none⟩) 3 n4) ∧ v0.cell? ⟨z, 8, none⟩ = some (.slice m5 0 n5))) := FB.out w3 v0 ⟨B3.out, X3.out, W3.out.cells⟩ D0.out
    have L0 : Hid (Wl v0 (.agg #[.int .i64 0, .int .i64 4, .int .i64 4, .int .i64 2, .slice m1 8 n1, .slice m2 8 n2, .slice m3 2 n3, .slice (some ⟨g, 0, none⟩) 3 n4, .slice m5 0 n5]) SW) := L3.out.below D0.out
    clear W3 X3 B3 L3 D0
    have NEW : Hid (∀ V : World, (Below w.heap.size w V ∧ Bw V w.heap.size X (.slice p1 X.gs.length q1) (.slice p2 X.os.length q2) (.slice p3 X.gold.length q3) (.slice p4 X.us.length q4) (.slice p5 X.qs.length q5) ∧ (V.cell? ⟨z, 0, none⟩ = some (.int .i64 0) ∧ V.cell? ⟨z, 1, none⟩ = some (.int .i64 4) ∧ V.cell? ⟨z, 2, none⟩ = some (.int .i64 4) ∧ V.cell? ⟨z, 3, none⟩ = some (.int .i64 2) ∧ V.cell? ⟨z, 4, none⟩ = some (.slice m1 8 n1) ∧ V.cell? ⟨z, 5, none⟩ = some (.slice m2 8 n2) ∧ V.cell? ⟨z, 6, none⟩ = some (.slice m3 2 n3) ∧ V.cell? ⟨z, 7, none⟩ = some (.slice (some ⟨g, 0, none⟩) 3 n4) ∧ V.cell? ⟨z, 8, none⟩ = some (.slice m5 0 n5))) → Wx (V.alloc (Obj.cells #[.int .i64 0, .int .i64 0, .int .i64 0, .int .i64 0, .slice none 0 0, .slice none 0 0, .slice none 0 0, .slice none 0 0, .slice none 0 0] 29)) V.heap.size (.int .i64 0) (.int .i64 0) (.int .i64 0) (.int .i64 0) (.slice none 0 0) (.slice none 0 0) (.slice none 0 0) (.slice none 0 0) (.slice none 0 0) ∧ w.heap.size < V.heap.size ∧ z < V.heap.size ∧ Below V.heap.size V (V.alloc (Obj.cells #[.int .i64 0, .int .i64 0, .int .i64 0, .int .i64 0, .slice none 0 0, .slice none 0 0, .slice none 0 0, .slice none 0 0, .slice none 0 0] 29)) ∧ (V.alloc (Obj.cells #[.int .i64 0, .int .i64 0, .int .i64 0, .int .i64 0, .slice none 0 0, .slice none 0 0, .slice none 0 0, .slice none 0 0, .slice none 0 0] 29)).heap.size = V.heap.size + 1) := fun V h => ⟨Wx.new (.int .i64 0) (.int .i64 0) (.int .i64 0) (.int .i64 0) (.slice none 0 0) (.slice none 0 0) (.slice none 0 0) (.slice none 0 0) (.slice none 0 0) rfl, h.2.1.lt, cell_lt h.2.2.1, (Below.refl _ _).alloc (Nat.le_refl _) _, by simp⟩
    refine headA_read rfl (.agg #[.int .i64 0, .int .i64 4, .int .i64 4, .int .i64 2, .slice m1 8 n1, .slice m2 8 n2, .slice m3 2 n3, .slice (some ⟨g, 0, none⟩) 3 n4, .slice m5 0 n5]) (by go_simp) (fun V hV => by obtain ⟨x0, x1, x2, x3, x4, x5, x6, x7, x8⟩ := hV; go_simp) ?_
    go_simp
    refine headA_call rfl 7 #[] (by go_simp) (by go_simp) ?_ rfl (.pointer (some ⟨v0.heap.size, 0, none⟩)) (v0.alloc (Obj.cells #[.int .i64 0, .int .i64 0, .int .i64 0, .int .i64 0, .slice none 0 0, .slice none 0 0, .slice none 0 0, .slice none 0 0, .slice none 0 0] 29)) (by go_simp) (by go_simp) (FB.out _ _ Fv0.out (NEW.out v0 Fv0.out).2.2.2.1).2.2 ?_
    · refine (sorts_any v0).mono ?_
      rintro e v1 ⟨ku, rfl, hk, hb⟩
      have KU : Hid (Kl v1 ku SK) := hk
      have Fv1 : Hid (Below w.heap.size w v1 ∧ Bw v1 w.heap.size X (.slice p1 X.gs.length q1) (.slice p2 X.os.length q2) (.slice p3 X.gold.length q3) (.slice p4 X.us.length q4) (.slice p5 X.qs.length q5) ∧ (v1.cell? ⟨z, 0, none⟩ = some (.int .i64 0) ∧ v1.cell? ⟨z, 1, none⟩ = some (.int .i64 4) ∧ v1.cell? ⟨z, 2, none⟩ = some (.int .i64 4) ∧ v1.cell? ⟨z, 3, none⟩ = some (.int .i64 2) ∧ v1.cell? ⟨z, 4, none⟩ = some (.slice m1 8 n1) ∧ v1.cell? ⟨z, 5, none⟩ = some (.slice m2 8 n2) ∧ v1.cell? ⟨z, 6, none⟩ = some (.slice m3 2 n3) ∧ v1.cell? ⟨z, 7, none⟩ = some (.slice (some ⟨g, 0, none⟩) 3 n4) ∧ v1.cell? ⟨z, 8, none⟩ = some (.slice m5 0 n5))) := FB.out v0 v1 Fv0.out hb
      have LA : Hid (Wl v1 (.agg #[.int .i64 0, .int .i64 4, .int .i64 4, .int .i64 2, .slice m1 8 n1, .slice m2 8 n2, .slice m3 2 n3, .slice (some ⟨g, 0, none⟩) 3 n4, .slice m5 0 n5]) SW) := L0.out.below hb
      refine ⟨_, rfl, Fv1.out.2.2, ?_⟩
      clear hk hb Fv0 L0
      go_simp
      refine headA_call rfl 6 #[ku, .agg #[.int .i64 0, .int .i64 4, .int .i64 4, .int .i64 2, .slice m1 8 n1, .slice m2 8 n2, .slice m3 2 n3, .slice (some ⟨g, 0, none⟩) 3 n4, .slice m5 0 n5]] (by go_simp) (by go_simp) ?_ rfl (.pointer (some ⟨v1.heap.size, 0, none⟩)) (v1.alloc (Obj.cells #[.int .i64 0, .int .i64 0, .int .i64 0, .int .i64 0, .slice none 0 0, .slice none 0 0, .slice none 0 0, .slice none 0 0, .slice none 0 0] 29)) (by go_simp) (by go_simp) (FB.out _ _ Fv1.out (NEW.out v1 Fv1.out).2.2.2.1).2.2 ?_
      · refine (Dig_any ku _ SK SW v1 KU.out sm_names LA.out (SD.out.below Fv1.out.1)).mono ?_
        rintro e v2 ⟨v, ev, r, rfl, hr, hf, hb⟩
        rw [sw_fault] at hr
        obtain rfl := er_zero hr
        obtain ⟨f1, h1, go, h2, f3, h3, gf, h4, f5, h5, ge, he, rfl, rfl, hgf, hge, hgo, h34, hc6, hc2, hc9⟩ := sm_dig hf
        have H4 : Hid (3 ≤ h4) := h34
        have CE : Hid (v2.cell? ⟨gf, 13, none⟩ = some (.int .i64 10) ∧ v2.cell? ⟨ge, 2, none⟩ = some (.int .i64 10) ∧ v2.cell? ⟨go, 6, none⟩ = some (.int .i64 20)) := ⟨hc6, hc2, hc9⟩
        have Fv2 : Hid (Below w.heap.size w v2 ∧ Bw v2 w.heap.size X (.slice p1 X.gs.length q1) (.slice p2 X.os.length q2) (.slice p3 X.gold.length q3) (.slice p4 X.us.length q4) (.slice p5 X.qs.length q5) ∧ (v2.cell? ⟨z, 0, none⟩ = some (.int .i64 0) ∧ v2.cell? ⟨z, 1, none⟩ = some (.int .i64 4) ∧ v2.cell? ⟨z, 2, none⟩ = some (.int .i64 4) ∧ v2.cell? ⟨z, 3, none⟩ = some (.int .i64 2) ∧ v2.cell? ⟨z, 4, none⟩ = some (.slice m1 8 n1) ∧ v2.cell? ⟨z, 5, none⟩ = some (.slice m2 8 n2) ∧ v2.cell? ⟨z, 6, none⟩ = some (.slice m3 2 n3) ∧ v2.cell? ⟨z, 7, none⟩ = some (.slice (some ⟨g, 0, none⟩) 3 n4) ∧ v2.cell? ⟨z, 8, none⟩ = some (.slice m5 0 n5))) := FB.out v1 v2 Fv1.out hb
        refine ⟨_, rfl, Fv2.out.2.2, ?_⟩
        obtain ⟨n1', n2', n3', n4', n5'⟩ := NEW.out v2 Fv2.out
        have GL : Hid (gf < v2.heap.size ∧ ge < v2.heap.size ∧ go < v2.heap.size) := ⟨cell_lt hc6, cell_lt hc2, cell_lt hc9⟩
        obtain ⟨bf, hbf⟩ : ∃ z, v2.heap.size = z := ⟨_, rfl⟩
        clear hgf hge hgo h34 hc6 hc2 hc9 hf hr hb LA KU Fv1
        go_simp
        refine headA_read rfl (.tuple #[.agg #[.int .i64 0, .int .i64 4, .int .i64 4, .int .i64 2, .slice f1 8 h1, .slice (some ⟨go, 0, none⟩) 8 h2, .slice f3 2 h3, .slice (some ⟨gf, 0, none⟩) 3 h4, .slice f5 0 h5], .slice (some ⟨ge, 0, none⟩) 1 he, .nilIface]) (by go_simp) (fun V hV => by go_simp) ?_
        go_simp
        refine headA_read rfl (.agg #[.int .i64 0, .int .i64 4, .int .i64 4, .int .i64 2, .slice f1 8 h1, .slice (some ⟨go, 0, none⟩) 8 h2, .slice f3 2 h3, .slice (some ⟨gf, 0, none⟩) 3 h4, .slice f5 0 h5]) (by go_simp) (fun V hV => by go_simp) ?_
        go_simp
        refine headA_read rfl (.slice (some ⟨ge, 0, none⟩) 1 he) (by go_simp) (fun V hV => by go_simp) ?_
        go_simp
        refine headA_read rfl (.nilIface) (by go_simp) (fun V hV => by go_simp) ?_
        go_simp
        refine headA_last rfl (.pointer (some ⟨v2.heap.size, 0, none⟩)) (v2.alloc (Obj.cells #[.int .i64 0, .int .i64 0, .int .i64 0, .int .i64 0, .slice none 0 0, .slice none 0 0, .slice none 0 0, .slice none 0 0, .slice none 0 0] 29)) (by go_simp) (by go_simp) (FB.out _ _ Fv2.out n4').2.2 ?_
        rw [hbf]
        go_simp
        have ZE : Hid (Wx (v2.alloc (Obj.cells #[.int .i64 0, .int .i64 0, .int .i64 0, .int .i64 0, .slice none 0 0, .slice none 0 0, .slice none 0 0, .slice none 0 0, .slice none 0 0] 29)) bf (.int .i64 0) (.int .i64 0) (.int .i64 0) (.int .i64 0) (.slice none 0 0) (.slice none 0 0) (.slice none 0 0) (.slice none 0 0) (.slice none 0 0)) := by rw [← hbf]; exact n1'
        have FE : Hid (Below w.heap.size w (v2.alloc (Obj.cells #[.int .i64 0, .int .i64 0, .int .i64 0, .int .i64 0, .slice none 0 0, .slice none 0 0, .slice none 0 0, .slice none 0 0, .slice none 0 0] 29)) ∧ Bw (v2.alloc (Obj.cells #[.int .i64 0, .int .i64 0, .int .i64 0, .int .i64 0, .slice none 0 0, .slice none 0 0, .slice none 0 0, .slice none 0 0, .slice none 0 0] 29)) w.heap.size X (.slice p1 X.gs.length q1) (.slice p2 X.os.length q2) (.slice p3 X.gold.length q3) (.slice p4 X.us.length q4) (.slice p5 X.qs.length q5) ∧ ((v2.alloc (Obj.cells #[.int .i64 0, .int .i64 0, .int .i64 0, .int .i64 0, .slice none 0 0, .slice none 0 0, .slice none 0 0, .slice none 0 0, .slice none 0 0] 29)).cell? ⟨z, 0, none⟩ = some (.int .i64 0) ∧ (v2.alloc (Obj.cells #[.int .i64 0, .int .i64 0, .int .i64 0, .int .i64 0, .slice none 0 0, .slice none 0 0, .slice none 0 0, .slice none 0 0, .slice none 0 0] 29)).cell? ⟨z, 1, none⟩ = some (.int .i64 4) ∧ (v2.alloc (Obj.cells #[.int .i64 0, .int .i64 0, .int .i64 0, .int .i64 0, .slice none 0 0, .slice none 0 0, .slice none 0 0, .slice none 0 0, .slice none 0 0] 29)).cell? ⟨z, 2, none⟩ = some (.int .i64 4) ∧ (v2.alloc (Obj.cells #[.int .i64 0, .int .i64 0, .int .i64 0, .int .i64 0, .slice none 0 0, .slice none 0 0, .slice none 0 0, .slice none 0 0, .slice none 0 0] 29)).cell? ⟨z, 3, none⟩ = some (.int .i64 2) ∧ (v2.alloc (Obj.cells #[.int .i64 0, .int .i64 0, .int .i64 0, .int .i64 0, .slice none 0 0, .slice none 0 0, .slice none 0 0, .slice none 0 0, .slice none 0 0] 29)).cell? ⟨z, 4, none⟩ = some (.slice m1 8 n1) ∧ (v2.alloc (Obj.cells #[.int .i64 0, .int .i64 0, .int .i64 0, .int .i64 0, .slice none 0 0, .slice none 0 0, .slice none 0 0, .slice none 0 0, .slice none 0 0] 29)).cell? ⟨z, 5, none⟩ = some (.slice m2 8 n2) ∧ (v2.alloc (Obj.cells #[.int .i64 0, .int .i64 0, .int .i64 0, .int .i64 0, .slice none 0 0, .slice none 0 0, .slice none 0 0, .slice none 0 0, .slice none 0 0] 29)).cell? ⟨z, 6, none⟩ = some (.slice m3 2 n3) ∧ (v2.alloc (Obj.cells #[.int .i64 0, .int .i64 0, .int .i64 0, .int .i64 0, .slice none 0 0, .slice none 0 0, .slice none 0 0, .slice none 0 0, .slice none 0 0] 29)).cell? ⟨z, 7, none⟩ = some (.slice (some ⟨g, 0, none⟩) 3 n4) ∧ (v2.alloc (Obj.cells #[.int .i64 0, .int .i64 0, .int .i64 0, .int .i64 0, .slice none 0 0, .slice none 0 0, .slice none 0 0, .slice none 0 0, .slice none 0 0] 29)).cell? ⟨z, 8, none⟩ = some (.slice m5 0 n5))) := FB.out _ _ Fv2.out n4'
        have CE2 : Hid ((v2.alloc (Obj.cells #[.int .i64 0, .int .i64 0, .int .i64 0, .int .i64 0, .slice none 0 0, .slice none 0 0, .slice none 0 0, .slice none 0 0, .slice none 0 0] 29)).cell? ⟨gf, 13, none⟩ = some (.int .i64 10) ∧ (v2.alloc (Obj.cells #[.int .i64 0, .int .i64 0, .int .i64 0, .int .i64 0, .slice none 0 0, .slice none 0 0, .slice none 0 0, .slice none 0 0, .slice none 0 0] 29)).cell? ⟨ge, 2, none⟩ = some (.int .i64 10) ∧ (v2.alloc (Obj.cells #[.int .i64 0, .int .i64 0, .int .i64 0, .int .i64 0, .slice none 0 0, .slice none 0 0, .slice none 0 0, .slice none 0 0, .slice none 0 0] 29)).cell? ⟨go, 6, none⟩ = some (.int .i64 20)) := ⟨by rw [n4'.cell (p := ⟨gf, 13, none⟩) GL.out.1]; exact CE.out.1, by rw [n4'.cell (p := ⟨ge, 2, none⟩) GL.out.2.1]; exact CE.out.2.1, by rw [n4'.cell (p := ⟨go, 6, none⟩) GL.out.2.2]; exact CE.out.2.2⟩
        have NB : Hid (w.heap.size < bf ∧ z ≠ bf ∧ gf ≠ bf ∧ ge ≠ bf ∧ go ≠ bf) := by have h5 := GL.out; exact ⟨by omega, by omega, by omega, by omega, by omega⟩
        clear n1' n2' n3' n4' n5' CE GL Fv2 hbf
        generalize (v2.alloc (Obj.cells #[.int .i64 0, .int .i64 0, .int .i64 0, .int .i64 0, .slice none 0 0, .slice none 0 0, .slice none 0 0, .slice none 0 0, .slice none 0 0] 29)) = v3 at *
        obtain ⟨z0, z1, z2, z3, z4, z5, z6, z7, z8⟩ := ZE.out.cells
        obtain ⟨t0, t1, t2, t3, t4, t5, t6, t7, t8⟩ := ZE.out.thaws
        have KZ : Hid (Kp bf v3 (((((((((v3.setCell ⟨bf, 0, none⟩ (.int .i64 0)).setCell ⟨bf, 1, none⟩ (.int .i64 4)).setCell ⟨bf, 2, none⟩ (.int .i64 4)).setCell ⟨bf, 3, none⟩ (.int .i64 2)).setCell ⟨bf, 4, none⟩ (.slice f1 8 h1)).setCell ⟨bf, 5, none⟩ (.slice (some ⟨go, 0, none⟩) 8 h2)).setCell ⟨bf, 6, none⟩ (.slice f3 2 h3)).setCell ⟨bf, 7, none⟩ (.slice (some ⟨gf, 0, none⟩) 3 h4)).setCell ⟨bf, 8, none⟩ (.slice f5 0 h5))) := put_kp _ _ _ _ _ _ _ _ _ _ _
        obtain ⟨-, -, -, -, -, w5', -, w7, -⟩ := (ZE.out.put (.int .i64 0) (.int .i64 4) (.int .i64 4) (.int .i64 2) (.slice f1 8 h1) (.slice (some ⟨go, 0, none⟩) 8 h2) (.slice f3 2 h3) (.slice (some ⟨gf, 0, none⟩) 3 h4) (.slice f5 0 h5)).cells
        have FS : Hid (Below w.heap.size w (((((((((v3.setCell ⟨bf, 0, none⟩ (.int .i64 0)).setCell ⟨bf, 1, none⟩ (.int .i64 4)).setCell ⟨bf, 2, none⟩ (.int .i64 4)).setCell ⟨bf, 3, none⟩ (.int .i64 2)).setCell ⟨bf, 4, none⟩ (.slice f1 8 h1)).setCell ⟨bf, 5, none⟩ (.slice (some ⟨go, 0, none⟩) 8 h2)).setCell ⟨bf, 6, none⟩ (.slice f3 2 h3)).setCell ⟨bf, 7, none⟩ (.slice (some ⟨gf, 0, none⟩) 3 h4)).setCell ⟨bf, 8, none⟩ (.slice f5 0 h5)) ∧ Bw (((((((((v3.setCell ⟨bf, 0, none⟩ (.int .i64 0)).setCell ⟨bf, 1, none⟩ (.int .i64 4)).setCell ⟨bf, 2, none⟩ (.int .i64 4)).setCell ⟨bf, 3, none⟩ (.int .i64 2)).setCell ⟨bf, 4, none⟩ (.slice f1 8 h1)).setCell ⟨bf, 5, none⟩ (.slice (some ⟨go, 0, none⟩) 8 h2)).setCell ⟨bf, 6, none⟩ (.slice f3 2 h3)).setCell ⟨bf, 7, none⟩ (.slice (some ⟨gf, 0, none⟩) 3 h4)).setCell ⟨bf, 8, none⟩ (.slice f5 0 h5)) w.heap.size X (.slice p1 X.gs.length q1) (.slice p2 X.os.length q2) (.slice p3 X.gold.length q3) (.slice p4 X.us.length q4) (.slice p5 X.qs.length q5) ∧ ((((((((((v3.setCell ⟨bf, 0, none⟩ (.int .i64 0)).setCell ⟨bf, 1, none⟩ (.int .i64 4)).setCell ⟨bf, 2, none⟩ (.int .i64 4)).setCell ⟨bf, 3, none⟩ (.int .i64 2)).setCell ⟨bf, 4, none⟩ (.slice f1 8 h1)).setCell ⟨bf, 5, none⟩ (.slice (some ⟨go, 0, none⟩) 8 h2)).setCell ⟨bf, 6, none⟩ (.slice f3 2 h3)).setCell ⟨bf, 7, none⟩ (.slice (some ⟨gf, 0, none⟩) 3 h4)).setCell ⟨bf, 8, none⟩ (.slice f5 0 h5)).cell? ⟨z, 0, none⟩ = some (.int .i64 0) ∧ (((((((((v3.setCell ⟨bf, 0, none⟩ (.int .i64 0)).setCell ⟨bf, 1, none⟩ (.int .i64 4)).setCell ⟨bf, 2, none⟩ (.int .i64 4)).setCell ⟨bf, 3, none⟩ (.int .i64 2)).setCell ⟨bf, 4, none⟩ (.slice f1 8 h1)).setCell ⟨bf, 5, none⟩ (.slice (some ⟨go, 0, none⟩) 8 h2)).setCell ⟨bf, 6, none⟩ (.slice f3 2 h3)).setCell ⟨bf, 7, none⟩ (.slice (some ⟨gf, 0, none⟩) 3 h4)).setCell ⟨bf, 8, none⟩ (.slice f5 0 h5)).cell? ⟨z, 1, none⟩ = some (.int .i64 4) ∧ (((((((((v3.setCell ⟨bf, 0, none⟩ (.int .i64 0)).setCell ⟨bf, 1, none⟩ (.int .i64 4)).setCell ⟨bf, 2, none⟩ (.int .i64 4)).setCell ⟨bf, 3, none⟩ (.int .i64 2)).setCell ⟨bf, 4, none⟩ (.slice f1 8 h1)).setCell ⟨bf, 5, none⟩ (.slice (some ⟨go, 0, none⟩) 8 h2)).setCell ⟨bf, 6, none⟩ (.slice f3 2 h3)).setCell ⟨bf, 7, none⟩ (.slice (some ⟨gf, 0, none⟩) 3 h4)).setCell ⟨bf, 8, none⟩ (.slice f5 0 h5)).cell? ⟨z, 2, none⟩ = some (.int .i64 4) ∧ (((((((((v3.setCell ⟨bf, 0, none⟩ (.int .i64 0)).setCell ⟨bf, 1, none⟩ (.int .i64 4)).setCell ⟨bf, 2, none⟩ (.int .i64 4)).setCell ⟨bf, 3, none⟩ (.int .i64 2)).setCell ⟨bf, 4, none⟩ (.slice f1 8 h1)).setCell ⟨bf, 5, none⟩ (.slice (some ⟨go, 0, none⟩) 8 h2)).setCell ⟨bf, 6, none⟩ (.slice f3 2 h3)).setCell ⟨bf, 7, none⟩ (.slice (some ⟨gf, 0, none⟩) 3 h4)).setCell ⟨bf, 8, none⟩ (.slice f5 0 h5)).cell? ⟨z, 3, none⟩ = some (.int .i64 2) ∧ (((((((((v3.setCell ⟨bf, 0, none⟩ (.int .i64 0)).setCell ⟨bf, 1, none⟩ (.int .i64 4)).setCell ⟨bf, 2, none⟩ (.int .i64 4)).setCell ⟨bf, 3, none⟩ (.int .i64 2)).setCell ⟨bf, 4, none⟩ (.slice f1 8 h1)).setCell ⟨bf, 5, none⟩ (.slice (some ⟨go, 0, none⟩) 8 h2)).setCell ⟨bf, 6, none⟩ (.slice f3 2 h3)).setCell ⟨bf, 7, none⟩ (.slice (some ⟨gf, 0, none⟩) 3 h4)).setCell ⟨bf, 8, none⟩ (.slice f5 0 h5)).cell? ⟨z, 4, none⟩ = some (.slice m1 8 n1) ∧ (((((((((v3.setCell ⟨bf, 0, none⟩ (.int .i64 0)).setCell ⟨bf, 1, none⟩ (.int .i64 4)).setCell ⟨bf, 2, none⟩ (.int .i64 4)).setCell ⟨bf, 3, none⟩ (.int .i64 2)).setCell ⟨bf, 4, none⟩ (.slice f1 8 h1)).setCell ⟨bf, 5, none⟩ (.slice (some ⟨go, 0, none⟩) 8 h2)).setCell ⟨bf, 6, none⟩ (.slice f3 2 h3)).setCell ⟨bf, 7, none⟩ (.slice (some ⟨gf, 0, none⟩) 3 h4)).setCell ⟨bf, 8, none⟩ (.slice f5 0 h5)).cell? ⟨z, 5, none⟩ = some (.slice m2 8 n2) ∧ (((((((((v3.setCell ⟨bf, 0, none⟩ (.int .i64 0)).setCell ⟨bf, 1, none⟩ (.int .i64 4)).setCell ⟨bf, 2, none⟩ (.int .i64 4)).setCell ⟨bf, 3, none⟩ (.int .i64 2)).setCell ⟨bf, 4, none⟩ (.slice f1 8 h1)).setCell ⟨bf, 5, none⟩ (.slice (some ⟨go, 0, none⟩) 8 h2)).setCell ⟨bf, 6, none⟩ (.slice f3 2 h3)).setCell ⟨bf, 7, none⟩ (.slice (some ⟨gf, 0, none⟩) 3 h4)).setCell ⟨bf, 8, none⟩ (.slice f5 0 h5)).cell? ⟨z, 6, none⟩ = some (.slice m3 2 n3) ∧ (((((((((v3.setCell ⟨bf, 0, none⟩ (.int .i64 0)).setCell ⟨bf, 1, none⟩ (.int .i64 4)).setCell ⟨bf, 2, none⟩ (.int .i64 4)).setCell ⟨bf, 3, none⟩ (.int .i64 2)).setCell ⟨bf, 4, none⟩ (.slice f1 8 h1)).setCell ⟨bf, 5, none⟩ (.slice (some ⟨go, 0, none⟩) 8 h2)).setCell ⟨bf, 6, none⟩ (.slice f3 2 h3)).setCell ⟨bf, 7, none⟩ (.slice (some ⟨gf, 0, none⟩) 3 h4)).setCell ⟨bf, 8, none⟩ (.slice f5 0 h5)).cell? ⟨z, 7, none⟩ = some (.slice (some ⟨g, 0, none⟩) 3 n4) ∧ (((((((((v3.setCell ⟨bf, 0, none⟩ (.int .i64 0)).setCell ⟨bf, 1, none⟩ (.int .i64 4)).setCell ⟨bf, 2, none⟩ (.int .i64 4)).setCell ⟨bf, 3, none⟩ (.int .i64 2)).setCell ⟨bf, 4, none⟩ (.slice f1 8 h1)).setCell ⟨bf, 5, none⟩ (.slice (some ⟨go, 0, none⟩) 8 h2)).setCell ⟨bf, 6, none⟩ (.slice f3 2 h3)).setCell ⟨bf, 7, none⟩ (.slice (some ⟨gf, 0, none⟩) 3 h4)).setCell ⟨bf, 8, none⟩ (.slice f5 0 h5)).cell? ⟨z, 8, none⟩ = some (.slice m5 0 n5))) := by
          obtain ⟨a1, a2, a3⟩ := FE.out
          have hz := NB.out.2.1
          exact ⟨KZ.out.below a1 a1.size (by have := NB.out.1; omega), a2.kp9 KZ.out (by have := NB.out.1; omega), cell_kp9 a3.1 KZ.out hz, cell_kp9 a3.2.1 KZ.out hz, cell_kp9 a3.2.2.1 KZ.out hz, cell_kp9 a3.2.2.2.1 KZ.out hz, cell_kp9 a3.2.2.2.2.1 KZ.out hz, cell_kp9 a3.2.2.2.2.2.1 KZ.out hz, cell_kp9 a3.2.2.2.2.2.2.1 KZ.out hz, cell_kp9 a3.2.2.2.2.2.2.2.1 KZ.out hz, cell_kp9 a3.2.2.2.2.2.2.2.2 KZ.out hz⟩
        have D7 : Hid ((((((((((v3.setCell ⟨bf, 0, none⟩ (.int .i64 0)).setCell ⟨bf, 1, none⟩ (.int .i64 4)).setCell ⟨bf, 2, none⟩ (.int .i64 4)).setCell ⟨bf, 3, none⟩ (.int .i64 2)).setCell ⟨bf, 4, none⟩ (.slice f1 8 h1)).setCell ⟨bf, 5, none⟩ (.slice (some ⟨go, 0, none⟩) 8 h2)).setCell ⟨bf, 6, none⟩ (.slice f3 2 h3)).setCell ⟨bf, 7, none⟩ (.slice (some ⟨gf, 0, none⟩) 3 h4)).setCell ⟨bf, 8, none⟩ (.slice f5 0 h5)).cell? ⟨bf, 7, none⟩ = some (.slice (some ⟨gf, 0, none⟩) 3 h4) ∧ (((((((((v3.setCell ⟨bf, 0, none⟩ (.int .i64 0)).setCell ⟨bf, 1, none⟩ (.int .i64 4)).setCell ⟨bf, 2, none⟩ (.int .i64 4)).setCell ⟨bf, 3, none⟩ (.int .i64 2)).setCell ⟨bf, 4, none⟩ (.slice f1 8 h1)).setCell ⟨bf, 5, none⟩ (.slice (some ⟨go, 0, none⟩) 8 h2)).setCell ⟨bf, 6, none⟩ (.slice f3 2 h3)).setCell ⟨bf, 7, none⟩ (.slice (some ⟨gf, 0, none⟩) 3 h4)).setCell ⟨bf, 8, none⟩ (.slice f5 0 h5)).cell? ⟨gf, 13, none⟩ = some (.int .i64 10) ∧ (((((((((v3.setCell ⟨bf, 0, none⟩ (.int .i64 0)).setCell ⟨bf, 1, none⟩ (.int .i64 4)).setCell ⟨bf, 2, none⟩ (.int .i64 4)).setCell ⟨bf, 3, none⟩ (.int .i64 2)).setCell ⟨bf, 4, none⟩ (.slice f1 8 h1)).setCell ⟨bf, 5, none⟩ (.slice (some ⟨go, 0, none⟩) 8 h2)).setCell ⟨bf, 6, none⟩ (.slice f3 2 h3)).setCell ⟨bf, 7, none⟩ (.slice (some ⟨gf, 0, none⟩) 3 h4)).setCell ⟨bf, 8, none⟩ (.slice f5 0 h5)).cell? ⟨ge, 2, none⟩ = some (.int .i64 10) ∧ (((((((((v3.setCell ⟨bf, 0, none⟩ (.int .i64 0)).setCell ⟨bf, 1, none⟩ (.int .i64 4)).setCell ⟨bf, 2, none⟩ (.int .i64 4)).setCell ⟨bf, 3, none⟩ (.int .i64 2)).setCell ⟨bf, 4, none⟩ (.slice f1 8 h1)).setCell ⟨bf, 5, none⟩ (.slice (some ⟨go, 0, none⟩) 8 h2)).setCell ⟨bf, 6, none⟩ (.slice f3 2 h3)).setCell ⟨bf, 7, none⟩ (.slice (some ⟨gf, 0, none⟩) 3 h4)).setCell ⟨bf, 8, none⟩ (.slice f5 0 h5)).cell? ⟨bf, 5, none⟩ = some (.slice (some ⟨go, 0, none⟩) 8 h2) ∧ (((((((((v3.setCell ⟨bf, 0, none⟩ (.int .i64 0)).setCell ⟨bf, 1, none⟩ (.int .i64 4)).setCell ⟨bf, 2, none⟩ (.int .i64 4)).setCell ⟨bf, 3, none⟩ (.int .i64 2)).setCell ⟨bf, 4, none⟩ (.slice f1 8 h1)).setCell ⟨bf, 5, none⟩ (.slice (some ⟨go, 0, none⟩) 8 h2)).setCell ⟨bf, 6, none⟩ (.slice f3 2 h3)).setCell ⟨bf, 7, none⟩ (.slice (some ⟨gf, 0, none⟩) 3 h4)).setCell ⟨bf, 8, none⟩ (.slice f5 0 h5)).cell? ⟨go, 6, none⟩ = some (.int .i64 20)) := ⟨w7, cell_kp9 CE2.out.1 KZ.out NB.out.2.2.1, cell_kp9 CE2.out.2.1 KZ.out NB.out.2.2.2.1, w5', cell_kp9 CE2.out.2.2 KZ.out NB.out.2.2.2.2⟩
        clear w7 w5'
        refine headT_skip rfl (((((((((v3.setCell ⟨bf, 0, none⟩ (.int .i64 0)).setCell ⟨bf, 1, none⟩ (.int .i64 4)).setCell ⟨bf, 2, none⟩ (.int .i64 4)).setCell ⟨bf, 3, none⟩ (.int .i64 2)).setCell ⟨bf, 4, none⟩ (.slice f1 8 h1)).setCell ⟨bf, 5, none⟩ (.slice (some ⟨go, 0, none⟩) 8 h2)).setCell ⟨bf, 6, none⟩ (.slice f3 2 h3)).setCell ⟨bf, 7, none⟩ (.slice (some ⟨gf, 0, none⟩) 3 h4)).setCell ⟨bf, 8, none⟩ (.slice f5 0 h5)) (by go_simp) (by go_simp) FS.out.2.2 ?_
        clear z0 z1 z2 z3 z4 z5 z6 z7 z8 t0 t1 t2 t3 t4 t5 t6 t7 t8 KZ ZE FE CE2
        generalize (((((((((v3.setCell ⟨bf, 0, none⟩ (.int .i64 0)).setCell ⟨bf, 1, none⟩ (.int .i64 4)).setCell ⟨bf, 2, none⟩ (.int .i64 4)).setCell ⟨bf, 3, none⟩ (.int .i64 2)).setCell ⟨bf, 4, none⟩ (.slice f1 8 h1)).setCell ⟨bf, 5, none⟩ (.slice (some ⟨go, 0, none⟩) 8 h2)).setCell ⟨bf, 6, none⟩ (.slice f3 2 h3)).setCell ⟨bf, 7, none⟩ (.slice (some ⟨gf, 0, none⟩) 3 h4)).setCell ⟨bf, 8, none⟩ (.slice f5 0 h5)) = wE at *
        go_simp
        refine headT_value rfl (.slice (some ⟨ge, 0, none⟩) 1 he) wE (by go_simp) (by go_simp) FS.out.2.2 ?_
        go_simp
        unfold wpHeadT
        refine sched_value rfl .nilIface wE (by go_simp) (by go_simp) trivial ?_
        go_simp
        unfold wpSched
        go_wp2_with fail
        go_meet
        case rel => exact ⟨rfl, bf, gf, ge, go, h4, he, h2, rfl, rfl, H4.out, D7.out.1, D7.out.2.1, D7.out.2.2.1, D7.out.2.2.2.1, D7.out.2.2.2.2, FS.out.1, FS.out.2.1⟩
      · obtain ⟨n1', n2', n3', n4', n5'⟩ := NEW.out v1 Fv1.out
        obtain ⟨bf, hbf⟩ : ∃ z, v1.heap.size = z := ⟨_, rfl⟩
        rw [hbf]
        go_simp
        have ZB : Hid (Wx (v1.alloc (Obj.cells #[.int .i64 0, .int .i64 0, .int .i64 0, .int .i64 0, .slice none 0 0, .slice none 0 0, .slice none 0 0, .slice none 0 0, .slice none 0 0] 29)) bf (.int .i64 0) (.int .i64 0) (.int .i64 0) (.int .i64 0) (.slice none 0 0) (.slice none 0 0) (.slice none 0 0) (.slice none 0 0) (.slice none 0 0)) := by rw [← hbf]; exact n1'
        have Fva : Hid (Below w.heap.size w (v1.alloc (Obj.cells #[.int .i64 0, .int .i64 0, .int .i64 0, .int .i64 0, .slice none 0 0, .slice none 0 0, .slice none 0 0, .slice none 0 0, .slice none 0 0] 29)) ∧ Bw (v1.alloc (Obj.cells #[.int .i64 0, .int .i64 0, .int .i64 0, .int .i64 0, .slice none 0 0, .slice none 0 0, .slice none 0 0, .slice none 0 0, .slice none 0 0] 29)) w.heap.size X (.slice p1 X.gs.length q1) (.slice p2 X.os.length q2) (.slice p3 X.gold.length q3) (.slice p4 X.us.length q4) (.slice p5 X.qs.length q5) ∧ ((v1.alloc (Obj.cells #[.int .i64 0, .int .i64 0, .int .i64 0, .int .i64 0, .slice none 0 0, .slice none 0 0, .slice none 0 0, .slice none 0 0, .slice none 0 0] 29)).cell? ⟨z, 0, none⟩ = some (.int .i64 0) ∧ (v1.alloc (Obj.cells #[.int .i64 0, .int .i64 0, .int .i64 0, .int .i64 0, .slice none 0 0, .slice none 0 0, .slice none 0 0, .slice none 0 0, .slice none 0 0] 29)).cell? ⟨z, 1, none⟩ = some (.int .i64 4) ∧ (v1.alloc (Obj.cells #[.int .i64 0, .int .i64 0, .int .i64 0, .int .i64 0, .slice none 0 0, .slice none 0 0, .slice none 0 0, .slice none 0 0, .slice none 0 0] 29)).cell? ⟨z, 2, none⟩ = some (.int .i64 4) ∧ (v1.alloc (Obj.cells #[.int .i64 0, .int .i64 0, .int .i64 0, .int .i64 0, .slice none 0 0, .slice none 0 0, .slice none 0 0, .slice none 0 0, .slice none 0 0] 29)).cell? ⟨z, 3, none⟩ = some (.int .i64 2) ∧ (v1.alloc (Obj.cells #[.int .i64 0, .int .i64 0, .int .i64 0, .int .i64 0, .slice none 0 0, .slice none 0 0, .slice none 0 0, .slice none 0 0, .slice none 0 0] 29)).cell? ⟨z, 4, none⟩ = some (.slice m1 8 n1) ∧ (v1.alloc (Obj.cells #[.int .i64 0, .int .i64 0, .int .i64 0, .int .i64 0, .slice none 0 0, .slice none 0 0, .slice none 0 0, .slice none 0 0, .slice none 0 0] 29)).cell? ⟨z, 5, none⟩ = some (.slice m2 8 n2) ∧ (v1.alloc (Obj.cells #[.int .i64 0, .int .i64 0, .int .i64 0, .int .i64 0, .slice none 0 0, .slice none 0 0, .slice none 0 0, .slice none 0 0, .slice none 0 0] 29)).cell? ⟨z, 6, none⟩ = some (.slice m3 2 n3) ∧ (v1.alloc (Obj.cells #[.int .i64 0, .int .i64 0, .int .i64 0, .int .i64 0, .slice none 0 0, .slice none 0 0, .slice none 0 0, .slice none 0 0, .slice none 0 0] 29)).cell? ⟨z, 7, none⟩ = some (.slice (some ⟨g, 0, none⟩) 3 n4) ∧ (v1.alloc (Obj.cells #[.int .i64 0, .int .i64 0, .int .i64 0, .int .i64 0, .slice none 0 0, .slice none 0 0, .slice none 0 0, .slice none 0 0, .slice none 0 0] 29)).cell? ⟨z, 8, none⟩ = some (.slice m5 0 n5))) := FB.out _ _ Fv1.out n4'
        have LB : Hid (Wl (v1.alloc (Obj.cells #[.int .i64 0, .int .i64 0, .int .i64 0, .int .i64 0, .slice none 0 0, .slice none 0 0, .slice none 0 0, .slice none 0 0, .slice none 0 0] 29)) (.agg #[.int .i64 0, .int .i64 4, .int .i64 4, .int .i64 2, .slice m1 8 n1, .slice m2 8 n2, .slice m3 2 n3, .slice (some ⟨g, 0, none⟩) 3 n4, .slice m5 0 n5]) SW) := LA.out.below n4'
        have KB : Hid (Kl (v1.alloc (Obj.cells #[.int .i64 0, .int .i64 0, .int .i64 0, .int .i64 0, .slice none 0 0, .slice none 0 0, .slice none 0 0, .slice none 0 0, .slice none 0 0] 29)) ku SK) := KU.out.below n4'
        have N0 : Hid (w.heap.size < bf ∧ z ≠ bf ∧ bf < (v1.alloc (Obj.cells #[.int .i64 0, .int .i64 0, .int .i64 0, .int .i64 0, .slice none 0 0, .slice none 0 0, .slice none 0 0, .slice none 0 0, .slice none 0 0] 29)).heap.size) := ⟨by omega, by omega, by omega⟩
        clear n1' n2' n3' n4' n5' LA KU Fv1 hbf
        generalize (v1.alloc (Obj.cells #[.int .i64 0, .int .i64 0, .int .i64 0, .int .i64 0, .slice none 0 0, .slice none 0 0, .slice none 0 0, .slice none 0 0, .slice none 0 0] 29)) = va at *
        refine headT_call rfl 6 #[ku, .agg #[.int .i64 0, .int .i64 4, .int .i64 4, .int .i64 2, .slice m1 8 n1, .slice m2 8 n2, .slice m3 2 n3, .slice (some ⟨g, 0, none⟩) 3 n4, .slice m5 0 n5]] (by go_simp) (by go_simp) ?_
        refine (Dig_any ku _ SK SW va KB.out sm_names LB.out (SD.out.below Fva.out.1)).mono ?_
        rintro e v2 ⟨v, ev, r, rfl, hr, hf, hb⟩
        rw [sw_fault] at hr
        obtain rfl := er_zero hr
        obtain ⟨f1, h1, go, h2, f3, h3, gf, h4, f5, h5, ge, he, rfl, rfl, hgf, hge, hgo, h34, hc6, hc2, hc9⟩ := sm_dig hf
        have H4 : Hid (3 ≤ h4) := h34
        have CE : Hid (v2.cell? ⟨gf, 13, none⟩ = some (.int .i64 10) ∧ v2.cell? ⟨ge, 2, none⟩ = some (.int .i64 10) ∧ v2.cell? ⟨go, 6, none⟩ = some (.int .i64 20)) := ⟨hc6, hc2, hc9⟩
        have Fv2 : Hid (Below w.heap.size w v2 ∧ Bw v2 w.heap.size X (.slice p1 X.gs.length q1) (.slice p2 X.os.length q2) (.slice p3 X.gold.length q3) (.slice p4 X.us.length q4) (.slice p5 X.qs.length q5) ∧ (v2.cell? ⟨z, 0, none⟩ = some (.int .i64 0) ∧ v2.cell? ⟨z, 1, none⟩ = some (.int .i64 4) ∧ v2.cell? ⟨z, 2, none⟩ = some (.int .i64 4) ∧ v2.cell? ⟨z, 3, none⟩ = some (.int .i64 2) ∧ v2.cell? ⟨z, 4, none⟩ = some (.slice m1 8 n1) ∧ v2.cell? ⟨z, 5, none⟩ = some (.slice m2 8 n2) ∧ v2.cell? ⟨z, 6, none⟩ = some (.slice m3 2 n3) ∧ v2.cell? ⟨z, 7, none⟩ = some (.slice (some ⟨g, 0, none⟩) 3 n4) ∧ v2.cell? ⟨z, 8, none⟩ = some (.slice m5 0 n5))) := FB.out va v2 Fva.out hb
        have NB : Hid (w.heap.size < bf ∧ z ≠ bf ∧ gf ≠ bf ∧ ge ≠ bf ∧ go ≠ bf) := by have h5 := N0.out; exact ⟨h5.1, h5.2.1, by omega, by omega, by omega⟩
        have ZE : Hid (Wx v2 bf (.int .i64 0) (.int .i64 0) (.int .i64 0) (.int .i64 0) (.slice none 0 0) (.slice none 0 0) (.slice none 0 0) (.slice none 0 0) (.slice none 0 0)) := ZB.out.below hb N0.out.2.2
        refine ⟨_, rfl, Fv2.out.2.2, ?_⟩
        clear hgf hge hgo h34 hc6 hc2 hc9 hf hr hb LB KB Fva ZB N0
        go_simp
        refine headT_read rfl (.tuple #[.agg #[.int .i64 0, .int .i64 4, .int .i64 4, .int .i64 2, .slice f1 8 h1, .slice (some ⟨go, 0, none⟩) 8 h2, .slice f3 2 h3, .slice (some ⟨gf, 0, none⟩) 3 h4, .slice f5 0 h5], .slice (some ⟨ge, 0, none⟩) 1 he, .nilIface]) (by go_simp) (fun V hV => by go_simp) ?_
        go_simp
        refine headT_read rfl (.agg #[.int .i64 0, .int .i64 4, .int .i64 4, .int .i64 2, .slice f1 8 h1, .slice (some ⟨go, 0, none⟩) 8 h2, .slice f3 2 h3, .slice (some ⟨gf, 0, none⟩) 3 h4, .slice f5 0 h5]) (by go_simp) (fun V hV => by go_simp) ?_
        go_simp
        refine headT_read rfl (.slice (some ⟨ge, 0, none⟩) 1 he) (by go_simp) (fun V hV => by go_simp) ?_
        go_simp
        refine headT_read rfl (.nilIface) (by go_simp) (fun V hV => by go_simp) ?_
        go_simp
        obtain ⟨z0, z1, z2, z3, z4, z5, z6, z7, z8⟩ := ZE.out.cells
        obtain ⟨t0, t1, t2, t3, t4, t5, t6, t7, t8⟩ := ZE.out.thaws
        have KZ : Hid (Kp bf v2 (((((((((v2.setCell ⟨bf, 0, none⟩ (.int .i64 0)).setCell ⟨bf, 1, none⟩ (.int .i64 4)).setCell ⟨bf, 2, none⟩ (.int .i64 4)).setCell ⟨bf, 3, none⟩ (.int .i64 2)).setCell ⟨bf, 4, none⟩ (.slice f1 8 h1)).setCell ⟨bf, 5, none⟩ (.slice (some ⟨go, 0, none⟩) 8 h2)).setCell ⟨bf, 6, none⟩ (.slice f3 2 h3)).setCell ⟨bf, 7, none⟩ (.slice (some ⟨gf, 0, none⟩) 3 h4)).setCell ⟨bf, 8, none⟩ (.slice f5 0 h5))) := put_kp _ _ _ _ _ _ _ _ _ _ _
        obtain ⟨-, -, -, -, -, w5', -, w7, -⟩ := (ZE.out.put (.int .i64 0) (.int .i64 4) (.int .i64 4) (.int .i64 2) (.slice f1 8 h1) (.slice (some ⟨go, 0, none⟩) 8 h2) (.slice f3 2 h3) (.slice (some ⟨gf, 0, none⟩) 3 h4) (.slice f5 0 h5)).cells
        have FS : Hid (Below w.heap.size w (((((((((v2.setCell ⟨bf, 0, none⟩ (.int .i64 0)).setCell ⟨bf, 1, none⟩ (.int .i64 4)).setCell ⟨bf, 2, none⟩ (.int .i64 4)).setCell ⟨bf, 3, none⟩ (.int .i64 2)).setCell ⟨bf, 4, none⟩ (.slice f1 8 h1)).setCell ⟨bf, 5, none⟩ (.slice (some ⟨go, 0, none⟩) 8 h2)).setCell ⟨bf, 6, none⟩ (.slice f3 2 h3)).setCell ⟨bf, 7, none⟩ (.slice (some ⟨gf, 0, none⟩) 3 h4)).setCell ⟨bf, 8, none⟩ (.slice f5 0 h5)) ∧ Bw (((((((((v2.setCell ⟨bf, 0, none⟩ (.int .i64 0)).setCell ⟨bf, 1, none⟩ (.int .i64 4)).setCell ⟨bf, 2, none⟩ (.int .i64 4)).setCell ⟨bf, 3, none⟩ (.int .i64 2)).setCell ⟨bf, 4, none⟩ (.slice f1 8 h1)).setCell ⟨bf, 5, none⟩ (.slice (some ⟨go, 0, none⟩) 8 h2)).setCell ⟨bf, 6, none⟩ (.slice f3 2 h3)).setCell ⟨bf, 7, none⟩ (.slice (some ⟨gf, 0, none⟩) 3 h4)).setCell ⟨bf, 8, none⟩ (.slice f5 0 h5)) w.heap.size X (.slice p1 X.gs.length q1) (.slice p2 X.os.length q2) (.slice p3 X.gold.length q3) (.slice p4 X.us.length q4) (.slice p5 X.qs.length q5) ∧ ((((((((((v2.setCell ⟨bf, 0, none⟩ (.int .i64 0)).setCell ⟨bf, 1, none⟩ (.int .i64 4)).setCell ⟨bf, 2, none⟩ (.int .i64 4)).setCell ⟨bf, 3, none⟩ (.int .i64 2)).setCell ⟨bf, 4, none⟩ (.slice f1 8 h1)).setCell ⟨bf, 5, none⟩ (.slice (some ⟨go, 0, none⟩) 8 h2)).setCell ⟨bf, 6, none⟩ (.slice f3 2 h3)).setCell ⟨bf, 7, none⟩ (.slice (some ⟨gf, 0, none⟩) 3 h4)).setCell ⟨bf, 8, none⟩ (.slice f5 0 h5)).cell? ⟨z, 0, none⟩ = some (.int .i64 0) ∧ (((((((((v2.setCell ⟨bf, 0, none⟩ (.int .i64 0)).setCell ⟨bf, 1, none⟩ (.int .i64 4)).setCell ⟨bf, 2, none⟩ (.int .i64 4)).setCell ⟨bf, 3, none⟩ (.int .i64 2)).setCell ⟨bf, 4, none⟩ (.slice f1 8 h1)).setCell ⟨bf, 5, none⟩ (.slice (some ⟨go, 0, none⟩) 8 h2)).setCell ⟨bf, 6, none⟩ (.slice f3 2 h3)).setCell ⟨bf, 7, none⟩ (.slice (some ⟨gf, 0, none⟩) 3 h4)).setCell ⟨bf, 8, none⟩ (.slice f5 0 h5)).cell? ⟨z, 1, none⟩ = some (.int .i64 4) ∧ (((((((((v2.setCell ⟨bf, 0, none⟩ (.int .i64 0)).setCell ⟨bf, 1, none⟩ (.int .i64 4)).setCell ⟨bf, 2, none⟩ (.int .i64 4)).setCell ⟨bf, 3, none⟩ (.int .i64 2)).setCell ⟨bf, 4, none⟩ (.slice f1 8 h1)).setCell ⟨bf, 5, none⟩ (.slice (some ⟨go, 0, none⟩) 8 h2)).setCell ⟨bf, 6, none⟩ (.slice f3 2 h3)).setCell ⟨bf, 7, none⟩ (.slice (some ⟨gf, 0, none⟩) 3 h4)).setCell ⟨bf, 8, none⟩ (.slice f5 0 h5)).cell? ⟨z, 2, none⟩ = some (.int .i64 4) ∧ (((((((((v2.setCell ⟨bf, 0, none⟩ (.int .i64 0)).setCell ⟨bf, 1, none⟩ (.int .i64 4)).setCell ⟨bf, 2, none⟩ (.int .i64 4)).setCell ⟨bf, 3, none⟩ (.int .i64 2)).setCell ⟨bf, 4, none⟩ (.slice f1 8 h1)).setCell ⟨bf, 5, none⟩ (.slice (some ⟨go, 0, none⟩) 8 h2)).setCell ⟨bf, 6, none⟩ (.slice f3 2 h3)).setCell ⟨bf, 7, none⟩ (.slice (some ⟨gf, 0, none⟩) 3 h4)).setCell ⟨bf, 8, none⟩ (.slice f5 0 h5)).cell? ⟨z, 3, none⟩ = some (.int .i64 2) ∧ (((((((((v2.setCell ⟨bf, 0, none⟩ (.int .i64 0)).setCell ⟨bf, 1, none⟩ (.int .i64 4)).setCell ⟨bf, 2, none⟩ (.int .i64 4)).setCell ⟨bf, 3, none⟩ (.int .i64 2)).setCell ⟨bf, 4, none⟩ (.slice f1 8 h1)).setCell ⟨bf, 5, none⟩ (.slice (some ⟨go, 0, none⟩) 8 h2)).setCell ⟨bf, 6, none⟩ (.slice f3 2 h3)).setCell ⟨bf, 7, none⟩ (.slice (some ⟨gf, 0, none⟩) 3 h4)).setCell ⟨bf, 8, none⟩ (.slice f5 0 h5)).cell? ⟨z, 4, none⟩ = some (.slice m1 8 n1) ∧ (((((((((v2.setCell ⟨bf, 0, none⟩ (.int .i64 0)).setCell ⟨bf, 1, none⟩ (.int .i64 4)).setCell ⟨bf, 2, none⟩ (.int .i64 4)).setCell ⟨bf, 3, none⟩ (.int .i64 2)).setCell ⟨bf, 4, none⟩ (.slice f1 8 h1)).setCell ⟨bf, 5, none⟩ (.slice (some ⟨go, 0, none⟩) 8 h2)).setCell ⟨bf, 6, none⟩ (.slice f3 2 h3)).setCell ⟨bf, 7, none⟩ (.slice (some ⟨gf, 0, none⟩) 3 h4)).setCell ⟨bf, 8, none⟩ (.slice f5 0 h5)).cell? ⟨z, 5, none⟩ = some (.slice m2 8 n2) ∧ (((((((((v2.setCell ⟨bf, 0, none⟩ (.int .i64 0)).setCell ⟨bf, 1, none⟩ (.int .i64 4)).setCell ⟨bf, 2, none⟩ (.int .i64 4)).setCell ⟨bf, 3, none⟩ (.int .i64 2)).setCell ⟨bf, 4, none⟩ (.slice f1 8 h1)).setCell ⟨bf, 5, none⟩ (.slice (some ⟨go, 0, none⟩) 8 h2)).setCell ⟨bf, 6, none⟩ (.slice f3 2 h3)).setCell ⟨bf, 7, none⟩ (.slice (some ⟨gf, 0, none⟩) 3 h4)).setCell ⟨bf, 8, none⟩ (.slice f5 0 h5)).cell? ⟨z, 6, none⟩ = some (.slice m3 2 n3) ∧ (((((((((v2.setCell ⟨bf, 0, none⟩ (.int .i64 0)).setCell ⟨bf, 1, none⟩ (.int .i64 4)).setCell ⟨bf, 2, none⟩ (.int .i64 4)).setCell ⟨bf, 3, none⟩ (.int .i64 2)).setCell ⟨bf, 4, none⟩ (.slice f1 8 h1)).setCell ⟨bf, 5, none⟩ (.slice (some ⟨go, 0, none⟩) 8 h2)).setCell ⟨bf, 6, none⟩ (.slice f3 2 h3)).setCell ⟨bf, 7, none⟩ (.slice (some ⟨gf, 0, none⟩) 3 h4)).setCell ⟨bf, 8, none⟩ (.slice f5 0 h5)).cell? ⟨z, 7, none⟩ = some (.slice (some ⟨g, 0, none⟩) 3 n4) ∧ (((((((((v2.setCell ⟨bf, 0, none⟩ (.int .i64 0)).setCell ⟨bf, 1, none⟩ (.int .i64 4)).setCell ⟨bf, 2, none⟩ (.int .i64 4)).setCell ⟨bf, 3, none⟩ (.int .i64 2)).setCell ⟨bf, 4, none⟩ (.slice f1 8 h1)).setCell ⟨bf, 5, none⟩ (.slice (some ⟨go, 0, none⟩) 8 h2)).setCell ⟨bf, 6, none⟩ (.slice f3 2 h3)).setCell ⟨bf, 7, none⟩ (.slice (some ⟨gf, 0, none⟩) 3 h4)).setCell ⟨bf, 8, none⟩ (.slice f5 0 h5)).cell? ⟨z, 8, none⟩ = some (.slice m5 0 n5))) := by
          obtain ⟨a1, a2, a3⟩ := Fv2.out
          have hz := NB.out.2.1
          exact ⟨KZ.out.below a1 a1.size (by have := NB.out.1; omega), a2.kp9 KZ.out (by have := NB.out.1; omega), cell_kp9 a3.1 KZ.out hz, cell_kp9 a3.2.1 KZ.out hz, cell_kp9 a3.2.2.1 KZ.out hz, cell_kp9 a3.2.2.2.1 KZ.out hz, cell_kp9 a3.2.2.2.2.1 KZ.out hz, cell_kp9 a3.2.2.2.2.2.1 KZ.out hz, cell_kp9 a3.2.2.2.2.2.2.1 KZ.out hz, cell_kp9 a3.2.2.2.2.2.2.2.1 KZ.out hz, cell_kp9 a3.2.2.2.2.2.2.2.2 KZ.out hz⟩
        have D7 : Hid ((((((((((v2.setCell ⟨bf, 0, none⟩ (.int .i64 0)).setCell ⟨bf, 1, none⟩ (.int .i64 4)).setCell ⟨bf, 2, none⟩ (.int .i64 4)).setCell ⟨bf, 3, none⟩ (.int .i64 2)).setCell ⟨bf, 4, none⟩ (.slice f1 8 h1)).setCell ⟨bf, 5, none⟩ (.slice (some ⟨go, 0, none⟩) 8 h2)).setCell ⟨bf, 6, none⟩ (.slice f3 2 h3)).setCell ⟨bf, 7, none⟩ (.slice (some ⟨gf, 0, none⟩) 3 h4)).setCell ⟨bf, 8, none⟩ (.slice f5 0 h5)).cell? ⟨bf, 7, none⟩ = some (.slice (some ⟨gf, 0, none⟩) 3 h4) ∧ (((((((((v2.setCell ⟨bf, 0, none⟩ (.int .i64 0)).setCell ⟨bf, 1, none⟩ (.int .i64 4)).setCell ⟨bf, 2, none⟩ (.int .i64 4)).setCell ⟨bf, 3, none⟩ (.int .i64 2)).setCell ⟨bf, 4, none⟩ (.slice f1 8 h1)).setCell ⟨bf, 5, none⟩ (.slice (some ⟨go, 0, none⟩) 8 h2)).setCell ⟨bf, 6, none⟩ (.slice f3 2 h3)).setCell ⟨bf, 7, none⟩ (.slice (some ⟨gf, 0, none⟩) 3 h4)).setCell ⟨bf, 8, none⟩ (.slice f5 0 h5)).cell? ⟨gf, 13, none⟩ = some (.int .i64 10) ∧ (((((((((v2.setCell ⟨bf, 0, none⟩ (.int .i64 0)).setCell ⟨bf, 1, none⟩ (.int .i64 4)).setCell ⟨bf, 2, none⟩ (.int .i64 4)).setCell ⟨bf, 3, none⟩ (.int .i64 2)).setCell ⟨bf, 4, none⟩ (.slice f1 8 h1)).setCell ⟨bf, 5, none⟩ (.slice (some ⟨go, 0, none⟩) 8 h2)).setCell ⟨bf, 6, none⟩ (.slice f3 2 h3)).setCell ⟨bf, 7, none⟩ (.slice (some ⟨gf, 0, none⟩) 3 h4)).setCell ⟨bf, 8, none⟩ (.slice f5 0 h5)).cell? ⟨ge, 2, none⟩ = some (.int .i64 10) ∧ (((((((((v2.setCell ⟨bf, 0, none⟩ (.int .i64 0)).setCell ⟨bf, 1, none⟩ (.int .i64 4)).setCell ⟨bf, 2, none⟩ (.int .i64 4)).setCell ⟨bf, 3, none⟩ (.int .i64 2)).setCell ⟨bf, 4, none⟩ (.slice f1 8 h1)).setCell ⟨bf, 5, none⟩ (.slice (some ⟨go, 0, none⟩) 8 h2)).setCell ⟨bf, 6, none⟩ (.slice f3 2 h3)).setCell ⟨bf, 7, none⟩ (.slice (some ⟨gf, 0, none⟩) 3 h4)).setCell ⟨bf, 8, none⟩ (.slice f5 0 h5)).cell? ⟨bf, 5, none⟩ = some (.slice (some ⟨go, 0, none⟩) 8 h2) ∧ (((((((((v2.setCell ⟨bf, 0, none⟩ (.int .i64 0)).setCell ⟨bf, 1, none⟩ (.int .i64 4)).setCell ⟨bf, 2, none⟩ (.int .i64 4)).setCell ⟨bf, 3, none⟩ (.int .i64 2)).setCell ⟨bf, 4, none⟩ (.slice f1 8 h1)).setCell ⟨bf, 5, none⟩ (.slice (some ⟨go, 0, none⟩) 8 h2)).setCell ⟨bf, 6, none⟩ (.slice f3 2 h3)).setCell ⟨bf, 7, none⟩ (.slice (some ⟨gf, 0, none⟩) 3 h4)).setCell ⟨bf, 8, none⟩ (.slice f5 0 h5)).cell? ⟨go, 6, none⟩ = some (.int .i64 20)) := ⟨w7, cell_kp9 CE.out.1 KZ.out NB.out.2.2.1, cell_kp9 CE.out.2.1 KZ.out NB.out.2.2.2.1, w5', cell_kp9 CE.out.2.2 KZ.out NB.out.2.2.2.2⟩
        clear w7 w5'
        refine headT_skip rfl (((((((((v2.setCell ⟨bf, 0, none⟩ (.int .i64 0)).setCell ⟨bf, 1, none⟩ (.int .i64 4)).setCell ⟨bf, 2, none⟩ (.int .i64 4)).setCell ⟨bf, 3, none⟩ (.int .i64 2)).setCell ⟨bf, 4, none⟩ (.slice f1 8 h1)).setCell ⟨bf, 5, none⟩ (.slice (some ⟨go, 0, none⟩) 8 h2)).setCell ⟨bf, 6, none⟩ (.slice f3 2 h3)).setCell ⟨bf, 7, none⟩ (.slice (some ⟨gf, 0, none⟩) 3 h4)).setCell ⟨bf, 8, none⟩ (.slice f5 0 h5)) (by go_simp) (by go_simp) FS.out.2.2 ?_
        clear z0 z1 z2 z3 z4 z5 z6 z7 z8 t0 t1 t2 t3 t4 t5 t6 t7 t8 KZ ZE Fv2 CE
        generalize (((((((((v2.setCell ⟨bf, 0, none⟩ (.int .i64 0)).setCell ⟨bf, 1, none⟩ (.int .i64 4)).setCell ⟨bf, 2, none⟩ (.int .i64 4)).setCell ⟨bf, 3, none⟩ (.int .i64 2)).setCell ⟨bf, 4, none⟩ (.slice f1 8 h1)).setCell ⟨bf, 5, none⟩ (.slice (some ⟨go, 0, none⟩) 8 h2)).setCell ⟨bf, 6, none⟩ (.slice f3 2 h3)).setCell ⟨bf, 7, none⟩ (.slice (some ⟨gf, 0, none⟩) 3 h4)).setCell ⟨bf, 8, none⟩ (.slice f5 0 h5)) = wE at *
        go_simp
        refine headT_value rfl (.slice (some ⟨ge, 0, none⟩) 1 he) wE (by go_simp) (by go_simp) FS.out.2.2 ?_
        go_simp
        unfold wpHeadT
        refine sched_value rfl .nilIface wE (by go_simp) (by go_simp) trivial ?_
        go_simp
        unfold wpSched
        go_wp2_with fail
        go_meet
        case rel => exact ⟨rfl, bf, gf, ge, go, h4, he, h2, rfl, rfl, H4.out, D7.out.1, D7.out.2.1, D7.out.2.2.1, D7.out.2.2.2.1, D7.out.2.2.2.2, FS.out.1, FS.out.2.1⟩
    · obtain ⟨n1', n2', n3', n4', n5'⟩ := NEW.out v0 Fv0.out
      obtain ⟨bf, hbf⟩ : ∃ z, v0.heap.size = z := ⟨_, rfl⟩
      rw [hbf]
      go_simp
      have ZB : Hid (Wx (v0.alloc (Obj.cells #[.int .i64 0, .int .i64 0, .int .i64 0, .int .i64 0, .slice none 0 0, .slice none 0 0, .slice none 0 0, .slice none 0 0, .slice none 0 0] 29)) bf (.int .i64 0) (.int .i64 0) (.int .i64 0) (.int .i64 0) (.slice none 0 0) (.slice none 0 0) (.slice none 0 0) (.slice none 0 0) (.slice none 0 0)) := by rw [← hbf]; exact n1'
      have Fva : Hid (Below w.heap.size w (v0.alloc (Obj.cells #[.int .i64 0, .int .i64 0, .int .i64 0, .int .i64 0, .slice none 0 0, .slice none 0 0, .slice none 0 0, .slice none 0 0, .slice none 0 0] 29)) ∧ Bw (v0.alloc (Obj.cells #[.int .i64 0, .int .i64 0, .int .i64 0, .int .i64 0, .slice none 0 0, .slice none 0 0, .slice none 0 0, .slice none 0 0, .slice none 0 0] 29)) w.heap.size X (.slice p1 X.gs.length q1) (.slice p2 X.os.length q2) (.slice p3 X.gold.length q3) (.slice p4 X.us.length q4) (.slice p5 X.qs.length q5) ∧ ((v0.alloc (Obj.cells #[.int .i64 0, .int .i64 0, .int .i64 0, .int .i64 0, .slice none 0 0, .slice none 0 0, .slice none 0 0, .slice none 0 0, .slice none 0 0] 29)).cell? ⟨z, 0, none⟩ = some (.int .i64 0) ∧ (v0.alloc (Obj.cells #[.int .i64 0, .int .i64 0, .int .i64 0, .int .i64 0, .slice none 0 0, .slice none 0 0, .slice none 0 0, .slice none 0 0, .slice none 0 0] 29)).cell? ⟨z, 1, none⟩ = some (.int .i64 4) ∧ (v0.alloc (Obj.cells #[.int .i64 0, .int .i64 0, .int .i64 0, .int .i64 0, .slice none 0 0, .slice none 0 0, .slice none 0 0, .slice none 0 0, .slice none 0 0] 29)).cell? ⟨z, 2, none⟩ = some (.int .i64 4) ∧ (v0.alloc (Obj.cells #[.int .i64 0, .int .i64 0, .int .i64 0, .int .i64 0, .slice none 0 0, .slice none 0 0, .slice none 0 0, .slice none 0 0, .slice none 0 0] 29)).cell? ⟨z, 3, none⟩ = some (.int .i64 2) ∧ (v0.alloc (Obj.cells #[.int .i64 0, .int .i64 0, .int .i64 0, .int .i64 0, .slice none 0 0, .slice none 0 0, .slice none 0 0, .slice none 0 0, .slice none 0 0] 29)).cell? ⟨z, 4, none⟩ = some (.slice m1 8 n1) ∧ (v0.alloc (Obj.cells #[.int .i64 0, .int .i64 0, .int .i64 0, .int .i64 0, .slice none 0 0, .slice none 0 0, .slice none 0 0, .slice none 0 0, .slice none 0 0] 29)).cell? ⟨z, 5, none⟩ = some (.slice m2 8 n2) ∧ (v0.alloc (Obj.cells #[.int .i64 0, .int .i64 0, .int .i64 0, .int .i64 0, .slice none 0 0, .slice none 0 0, .slice none 0 0, .slice none 0 0, .slice none 0 0] 29)).cell? ⟨z, 6, none⟩ = some (.slice m3 2 n3) ∧ (v0.alloc (Obj.cells #[.int .i64 0, .int .i64 0, .int .i64 0, .int .i64 0, .slice none 0 0, .slice none 0 0, .slice none 0 0, .slice none 0 0, .slice none 0 0] 29)).cell? ⟨z, 7, none⟩ = some (.slice (some ⟨g, 0, none⟩) 3 n4) ∧ (v0.alloc (Obj.cells #[.int .i64 0, .int .i64 0, .int .i64 0, .int .i64 0, .slice none 0 0, .slice none 0 0, .slice none 0 0, .slice none 0 0, .slice none 0 0] 29)).cell? ⟨z, 8, none⟩ = some (.slice m5 0 n5))) := FB.out _ _ Fv0.out n4'
      have LB : Hid (Wl (v0.alloc (Obj.cells #[.int .i64 0, .int .i64 0, .int .i64 0, .int .i64 0, .slice none 0 0, .slice none 0 0, .slice none 0 0, .slice none 0 0, .slice none 0 0] 29)) (.agg #[.int .i64 0, .int .i64 4, .int .i64 4, .int .i64 2, .slice m1 8 n1, .slice m2 8 n2, .slice m3 2 n3, .slice (some ⟨g, 0, none⟩) 3 n4, .slice m5 0 n5]) SW) := L0.out.below n4'
      have N0 : Hid (w.heap.size < bf ∧ z ≠ bf ∧ bf < (v0.alloc (Obj.cells #[.int .i64 0, .int .i64 0, .int .i64 0, .int .i64 0, .slice none 0 0, .slice none 0 0, .slice none 0 0, .slice none 0 0, .slice none 0 0] 29)).heap.size) := ⟨by omega, by omega, by omega⟩
      clear n1' n2' n3' n4' n5' L0 Fv0 hbf
      generalize (v0.alloc (Obj.cells #[.int .i64 0, .int .i64 0, .int .i64 0, .int .i64 0, .slice none 0 0, .slice none 0 0, .slice none 0 0, .slice none 0 0, .slice none 0 0] 29)) = va at *
      refine headT_call rfl 7 #[] (by go_simp) (by go_simp) ?_
      refine (sorts_any va).mono ?_
      rintro e vb ⟨ku, rfl, hk, hb⟩
      have KU : Hid (Kl vb ku SK) := hk
      have Fvb : Hid (Below w.heap.size w vb ∧ Bw vb w.heap.size X (.slice p1 X.gs.length q1) (.slice p2 X.os.length q2) (.slice p3 X.gold.length q3) (.slice p4 X.us.length q4) (.slice p5 X.qs.length q5) ∧ (vb.cell? ⟨z, 0, none⟩ = some (.int .i64 0) ∧ vb.cell? ⟨z, 1, none⟩ = some (.int .i64 4) ∧ vb.cell? ⟨z, 2, none⟩ = some (.int .i64 4) ∧ vb.cell? ⟨z, 3, none⟩ = some (.int .i64 2) ∧ vb.cell? ⟨z, 4, none⟩ = some (.slice m1 8 n1) ∧ vb.cell? ⟨z, 5, none⟩ = some (.slice m2 8 n2) ∧ vb.cell? ⟨z, 6, none⟩ = some (.slice m3 2 n3) ∧ vb.cell? ⟨z, 7, none⟩ = some (.slice (some ⟨g, 0, none⟩) 3 n4) ∧ vb.cell? ⟨z, 8, none⟩ = some (.slice m5 0 n5))) := FB.out va vb Fva.out hb
      have LA : Hid (Wl vb (.agg #[.int .i64 0, .int .i64 4, .int .i64 4, .int .i64 2, .slice m1 8 n1, .slice m2 8 n2, .slice m3 2 n3, .slice (some ⟨g, 0, none⟩) 3 n4, .slice m5 0 n5]) SW) := LB.out.below hb
      have ZC : Hid (Wx vb bf (.int .i64 0) (.int .i64 0) (.int .i64 0) (.int .i64 0) (.slice none 0 0) (.slice none 0 0) (.slice none 0 0) (.slice none 0 0) (.slice none 0 0)) := ZB.out.below hb N0.out.2.2
      have N1 : Hid (w.heap.size < bf ∧ z ≠ bf ∧ bf < vb.heap.size) := ⟨N0.out.1, N0.out.2.1, Nat.lt_of_lt_of_le N0.out.2.2 hb.size⟩
      refine ⟨_, rfl, Fvb.out.2.2, ?_⟩
      clear hk hb Fva LB ZB N0
      go_simp
      refine headT_call rfl 6 #[ku, .agg #[.int .i64 0, .int .i64 4, .int .i64 4, .int .i64 2, .slice m1 8 n1, .slice m2 8 n2, .slice m3 2 n3, .slice (some ⟨g, 0, none⟩) 3 n4, .slice m5 0 n5]] (by go_simp) (by go_simp) ?_
      refine (Dig_any ku _ SK SW vb KU.out sm_names LA.out (SD.out.below Fvb.out.1)).mono ?_
      rintro e v2 ⟨v, ev, r, rfl, hr, hf, hb⟩
      rw [sw_fault] at hr
      obtain rfl := er_zero hr
      obtain ⟨f1, h1, go, h2, f3, h3, gf, h4, f5, h5, ge, he, rfl, rfl, hgf, hge, hgo, h34, hc6, hc2, hc9⟩ := sm_dig hf
      have H4 : Hid (3 ≤ h4) := h34
      have CE : Hid (v2.cell? ⟨gf, 13, none⟩ = some (.int .i64 10) ∧ v2.cell? ⟨ge, 2, none⟩ = some (.int .i64 10) ∧ v2.cell? ⟨go, 6, none⟩ = some (.int .i64 20)) := ⟨hc6, hc2, hc9⟩
      have Fv2 : Hid (Below w.heap.size w v2 ∧ Bw v2 w.heap.size X (.slice p1 X.gs.length q1) (.slice p2 X.os.length q2) (.slice p3 X.gold.length q3) (.slice p4 X.us.length q4) (.slice p5 X.qs.length q5) ∧ (v2.cell? ⟨z, 0, none⟩ = some (.int .i64 0) ∧ v2.cell? ⟨z, 1, none⟩ = some (.int .i64 4) ∧ v2.cell? ⟨z, 2, none⟩ = some (.int .i64 4) ∧ v2.cell? ⟨z, 3, none⟩ = some (.int .i64 2) ∧ v2.cell? ⟨z, 4, none⟩ = some (.slice m1 8 n1) ∧ v2.cell? ⟨z, 5, none⟩ = some (.slice m2 8 n2) ∧ v2.cell? ⟨z, 6, none⟩ = some (.slice m3 2 n3) ∧ v2.cell? ⟨z, 7, none⟩ = some (.slice (some ⟨g, 0, none⟩) 3 n4) ∧ v2.cell? ⟨z, 8, none⟩ = some (.slice m5 0 n5))) := FB.out vb v2 Fvb.out hb
      have NB : Hid (w.heap.size < bf ∧ z ≠ bf ∧ gf ≠ bf ∧ ge ≠ bf ∧ go ≠ bf) := by have h5 := N1.out; exact ⟨h5.1, h5.2.1, by omega, by omega, by omega⟩
      have ZE : Hid (Wx v2 bf (.int .i64 0) (.int .i64 0) (.int .i64 0) (.int .i64 0) (.slice none 0 0) (.slice none 0 0) (.slice none 0 0) (.slice none 0 0) (.slice none 0 0)) := ZC.out.below hb N1.out.2.2
      refine ⟨_, rfl, Fv2.out.2.2, ?_⟩
      clear hgf hge hgo h34 hc6 hc2 hc9 hf hr hb LA KU Fvb ZC N1
      go_simp
      refine headT_read rfl (.tuple #[.agg #[.int .i64 0, .int .i64 4, .int .i64 4, .int .i64 2, .slice f1 8 h1, .slice (some ⟨go, 0, none⟩) 8 h2, .slice f3 2 h3, .slice (some ⟨gf, 0, none⟩) 3 h4, .slice f5 0 h5], .slice (some ⟨ge, 0, none⟩) 1 he, .nilIface]) (by go_simp) (fun V hV => by go_simp) ?_
      go_simp
      refine headT_read rfl (.agg #[.int .i64 0, .int .i64 4, .int .i64 4, .int .i64 2, .slice f1 8 h1, .slice (some ⟨go, 0, none⟩) 8 h2, .slice f3 2 h3, .slice (some ⟨gf, 0, none⟩) 3 h4, .slice f5 0 h5]) (by go_simp) (fun V hV => by go_simp) ?_
      go_simp
      refine headT_read rfl (.slice (some ⟨ge, 0, none⟩) 1 he) (by go_simp) (fun V hV => by go_simp) ?_
      go_simp
      refine headT_read rfl (.nilIface) (by go_simp) (fun V hV => by go_simp) ?_
      go_simp
      obtain ⟨z0, z1, z2, z3, z4, z5, z6, z7, z8⟩ := ZE.out.cells
      obtain ⟨t0, t1, t2, t3, t4, t5, t6, t7, t8⟩ := ZE.out.thaws
      have KZ : Hid (Kp bf v2 (((((((((v2.setCell ⟨bf, 0, none⟩ (.int .i64 0)).setCell ⟨bf, 1, none⟩ (.int .i64 4)).setCell ⟨bf, 2, none⟩ (.int .i64 4)).setCell ⟨bf, 3, none⟩ (.int .i64 2)).setCell ⟨bf, 4, none⟩ (.slice f1 8 h1)).setCell ⟨bf, 5, none⟩ (.slice (some ⟨go, 0, none⟩) 8 h2)).setCell ⟨bf, 6, none⟩ (.slice f3 2 h3)).setCell ⟨bf, 7, none⟩ (.slice (some ⟨gf, 0, none⟩) 3 h4)).setCell ⟨bf, 8, none⟩ (.slice f5 0 h5))) := put_kp _ _ _ _ _ _ _ _ _ _ _
      obtain ⟨-, -, -, -, -, w5', -, w7, -⟩ := (ZE.out.put (.int .i64 0) (.int .i64 4) (.int .i64 4) (.int .i64 2) (.slice f1 8 h1) (.slice (some ⟨go, 0, none⟩) 8 h2) (.slice f3 2 h3) (.slice (some ⟨gf, 0, none⟩) 3 h4) (.slice f5 0 h5)).cells
      have FS : Hid (Below w.heap.size w (((((((((v2.setCell ⟨bf, 0, none⟩ (.int .i64 0)).setCell ⟨bf, 1, none⟩ (.int .i64 4)).setCell ⟨bf, 2, none⟩ (.int .i64 4)).setCell ⟨bf, 3, none⟩ (.int .i64 2)).setCell ⟨bf, 4, none⟩ (.slice f1 8 h1)).setCell ⟨bf, 5, none⟩ (.slice (some ⟨go, 0, none⟩) 8 h2)).setCell ⟨bf, 6, none⟩ (.slice f3 2 h3)).setCell ⟨bf, 7, none⟩ (.slice (some ⟨gf, 0, none⟩) 3 h4)).setCell ⟨bf, 8, none⟩ (.slice f5 0 h5)) ∧ Bw (((((((((v2.setCell ⟨bf, 0, none⟩ (.int .i64 0)).setCell ⟨bf, 1, none⟩ (.int .i64 4)).setCell ⟨bf, 2, none⟩ (.int .i64 4)).setCell ⟨bf, 3, none⟩ (.int .i64 2)).setCell ⟨bf, 4, none⟩ (.slice f1 8 h1)).setCell ⟨bf, 5, none⟩ (.slice (some ⟨go, 0, none⟩) 8 h2)).setCell ⟨bf, 6, none⟩ (.slice f3 2 h3)).setCell ⟨bf, 7, none⟩ (.slice (some ⟨gf, 0, none⟩) 3 h4)).setCell ⟨bf, 8, none⟩ (.slice f5 0 h5)) w.heap.size X (.slice p1 X.gs.length q1) (.slice p2 X.os.length q2) (.slice p3 X.gold.length q3) (.slice p4 X.us.length q4) (.slice p5 X.qs.length q5) ∧ ((((((((((v2.setCell ⟨bf, 0, none⟩ (.int .i64 0)).setCell ⟨bf, 1, none⟩ (.int .i64 4)).setCell ⟨bf, 2, none⟩ (.int .i64 4)).setCell ⟨bf, 3, none⟩ (.int .i64 2)).setCell ⟨bf, 4, none⟩ (.slice f1 8 h1)).setCell ⟨bf, 5, none⟩ (.slice (some ⟨go, 0, none⟩) 8 h2)).setCell ⟨bf, 6, none⟩ (.slice f3 2 h3)).setCell ⟨bf, 7, none⟩ (.slice (some ⟨gf, 0, none⟩) 3 h4)).setCell ⟨bf, 8, none⟩ (.slice f5 0 h5)).cell? ⟨z, 0, none⟩ = some (.int .i64 0) ∧ (((((((((v2.setCell ⟨bf, 0, none⟩ (.int .i64 0)).setCell ⟨bf, 1, none⟩ (.int .i64 4)).setCell ⟨bf, 2, none⟩ (.int .i64 4)).setCell ⟨bf, 3, none⟩ (.int .i64 2)).setCell ⟨bf, 4, none⟩ (.slice f1 8 h1)).setCell ⟨bf, 5, none⟩ (.slice (some ⟨go, 0, none⟩) 8 h2)).setCell ⟨bf, 6, none⟩ (.slice f3 2 h3)).setCell ⟨bf, 7, none⟩ (.slice (some ⟨gf, 0, none⟩) 3 h4)).setCell ⟨bf, 8, none⟩ (.slice f5 0 h5)).cell? ⟨z, 1, none⟩ = some (.int .i64 4) ∧ (((((((((v2.setCell ⟨bf, 0, none⟩ (.int .i64 0)).setCell ⟨bf, 1, none⟩ (.int .i64 4)).setCell ⟨bf, 2, none⟩ (.int .i64 4)).setCell ⟨bf, 3, none⟩ (.int .i64 2)).setCell ⟨bf, 4, none⟩ (.slice f1 8 h1)).setCell ⟨bf, 5, none⟩ (.slice (some ⟨go, 0, none⟩) 8 h2)).setCell ⟨bf, 6, none⟩ (.slice f3 2 h3)).setCell ⟨bf, 7, none⟩ (.slice (some ⟨gf, 0, none⟩) 3 h4)).setCell ⟨bf, 8, none⟩ (.slice f5 0 h5)).cell? ⟨z, 2, none⟩ = some (.int .i64 4) ∧ (((((((((v2.setCell ⟨bf, 0, none⟩ (.int .i64 0)).setCell ⟨bf, 1, none⟩ (.int .i64 4)).setCell ⟨bf, 2, none⟩ (.int .i64 4)).setCell ⟨bf, 3, none⟩ (.int .i64 2)).setCell ⟨bf, 4, none⟩ (.slice f1 8 h1)).setCell ⟨bf, 5, none⟩ (.slice (some ⟨go, 0, none⟩) 8 h2)).setCell ⟨bf, 6, none⟩ (.slice f3 2 h3)).setCell ⟨bf, 7, none⟩ (.slice (some ⟨gf, 0, none⟩) 3 h4)).setCell ⟨bf, 8, none⟩ (.slice f5 0 h5)).cell? ⟨z, 3, none⟩ = some (.int .i64 2) ∧ (((((((((v2.setCell ⟨bf, 0, none⟩ (.int .i64 0)).setCell ⟨bf, 1, none⟩ (.int .i64 4)).setCell ⟨bf, 2, none⟩ (.int .i64 4)).setCell ⟨bf, 3, none⟩ (.int .i64 2)).setCell ⟨bf, 4, none⟩ (.slice f1 8 h1)).setCell ⟨bf, 5, none⟩ (.slice (some ⟨go, 0, none⟩) 8 h2)).setCell ⟨bf, 6, none⟩ (.slice f3 2 h3)).setCell ⟨bf, 7, none⟩ (.slice (some ⟨gf, 0, none⟩) 3 h4)).setCell ⟨bf, 8, none⟩ (.slice f5 0 h5)).cell? ⟨z, 4, none⟩ = some (.slice m1 8 n1) ∧ (((((((((v2.setCell ⟨bf, 0, none⟩ (.int .i64 0)).setCell ⟨bf, 1, none⟩ (.int .i64 4)).setCell ⟨bf, 2, none⟩ (.int .i64 4)).setCell ⟨bf, 3, none⟩ (.int .i64 2)).setCell ⟨bf, 4, none⟩ (.slice f1 8 h1)).setCell ⟨bf, 5, none⟩ (.slice (some ⟨go, 0, none⟩) 8 h2)).setCell ⟨bf, 6, none⟩ (.slice f3 2 h3)).setCell ⟨bf, 7, none⟩ (.slice (some ⟨gf, 0, none⟩) 3 h4)).setCell ⟨bf, 8, none⟩ (.slice f5 0 h5)).cell? ⟨z, 5, none⟩ = some (.slice m2 8 n2) ∧ (((((((((v2.setCell ⟨bf, 0, none⟩ (.int .i64 0)).setCell ⟨bf, 1, none⟩ (.int .i64 4)).setCell ⟨bf, 2, none⟩ (.int .i64 4)).setCell ⟨bf, 3, none⟩ (.int .i64 2)).setCell ⟨bf, 4, none⟩ (.slice f1 8 h1)).setCell ⟨bf, 5, none⟩ (.slice (some ⟨go, 0, none⟩) 8 h2)).setCell ⟨bf, 6, none⟩ (.slice f3 2 h3)).setCell ⟨bf, 7, none⟩ (.slice (some ⟨gf, 0, none⟩) 3 h4)).setCell ⟨bf, 8, none⟩ (.slice f5 0 h5)).cell? ⟨z, 6, none⟩ = some (.slice m3 2 n3) ∧ (((((((((v2.setCell ⟨bf, 0, none⟩ (.int .i64 0)).setCell ⟨bf, 1, none⟩ (.int .i64 4)).setCell ⟨bf, 2, none⟩ (.int .i64 4)).setCell ⟨bf, 3, none⟩ (.int .i64 2)).setCell ⟨bf, 4, none⟩ (.slice f1 8 h1)).setCell ⟨bf, 5, none⟩ (.slice (some ⟨go, 0, none⟩) 8 h2)).setCell ⟨bf, 6, none⟩ (.slice f3 2 h3)).setCell ⟨bf, 7, none⟩ (.slice (some ⟨gf, 0, none⟩) 3 h4)).setCell ⟨bf, 8, none⟩ (.slice f5 0 h5)).cell? ⟨z, 7, none⟩ = some (.slice (some ⟨g, 0, none⟩) 3 n4) ∧ (((((((((v2.setCell ⟨bf, 0, none⟩ (.int .i64 0)).setCell ⟨bf, 1, none⟩ (.int .i64 4)).setCell ⟨bf, 2, none⟩ (.int .i64 4)).setCell ⟨bf, 3, none⟩ (.int .i64 2)).setCell ⟨bf, 4, none⟩ (.slice f1 8 h1)).setCell ⟨bf, 5, none⟩ (.slice (some ⟨go, 0, none⟩) 8 h2)).setCell ⟨bf, 6, none⟩ (.slice f3 2 h3)).setCell ⟨bf, 7, none⟩ (.slice (some ⟨gf, 0, none⟩) 3 h4)).setCell ⟨bf, 8, none⟩ (.slice f5 0 h5)).cell? ⟨z, 8, none⟩ = some (.slice m5 0 n5))) := by
        obtain ⟨a1, a2, a3⟩ := Fv2.out
        have hz := NB.out.2.1
        exact ⟨KZ.out.below a1 a1.size (by have := NB.out.1; omega), a2.kp9 KZ.out (by have := NB.out.1; omega), cell_kp9 a3.1 KZ.out hz, cell_kp9 a3.2.1 KZ.out hz, cell_kp9 a3.2.2.1 KZ.out hz, cell_kp9 a3.2.2.2.1 KZ.out hz, cell_kp9 a3.2.2.2.2.1 KZ.out hz, cell_kp9 a3.2.2.2.2.2.1 KZ.out hz, cell_kp9 a3.2.2.2.2.2.2.1 KZ.out hz, cell_kp9 a3.2.2.2.2.2.2.2.1 KZ.out hz, cell_kp9 a3.2.2.2.2.2.2.2.2 KZ.out hz⟩
      have D7 : Hid ((((((((((v2.setCell ⟨bf, 0, none⟩ (.int .i64 0)).setCell ⟨bf, 1, none⟩ (.int .i64 4)).setCell ⟨bf, 2, none⟩ (.int .i64 4)).setCell ⟨bf, 3, none⟩ (.int .i64 2)).setCell ⟨bf, 4, none⟩ (.slice f1 8 h1)).setCell ⟨bf, 5, none⟩ (.slice (some ⟨go, 0, none⟩) 8 h2)).setCell ⟨bf, 6, none⟩ (.slice f3 2 h3)).setCell ⟨bf, 7, none⟩ (.slice (some ⟨gf, 0, none⟩) 3 h4)).setCell ⟨bf, 8, none⟩ (.slice f5 0 h5)).cell? ⟨bf, 7, none⟩ = some (.slice (some ⟨gf, 0, none⟩) 3 h4) ∧ (((((((((v2.setCell ⟨bf, 0, none⟩ (.int .i64 0)).setCell ⟨bf, 1, none⟩ (.int .i64 4)).setCell ⟨bf, 2, none⟩ (.int .i64 4)).setCell ⟨bf, 3, none⟩ (.int .i64 2)).setCell ⟨bf, 4, none⟩ (.slice f1 8 h1)).setCell ⟨bf, 5, none⟩ (.slice (some ⟨go, 0, none⟩) 8 h2)).setCell ⟨bf, 6, none⟩ (.slice f3 2 h3)).setCell ⟨bf, 7, none⟩ (.slice (some ⟨gf, 0, none⟩) 3 h4)).setCell ⟨bf, 8, none⟩ (.slice f5 0 h5)).cell? ⟨gf, 13, none⟩ = some (.int .i64 10) ∧ (((((((((v2.setCell ⟨bf, 0, none⟩ (.int .i64 0)).setCell ⟨bf, 1, none⟩ (.int .i64 4)).setCell ⟨bf, 2, none⟩ (.int .i64 4)).setCell ⟨bf, 3, none⟩ (.int .i64 2)).setCell ⟨bf, 4, none⟩ (.slice f1 8 h1)).setCell ⟨bf, 5, none⟩ (.slice (some ⟨go, 0, none⟩) 8 h2)).setCell ⟨bf, 6, none⟩ (.slice f3 2 h3)).setCell ⟨bf, 7, none⟩ (.slice (some ⟨gf, 0, none⟩) 3 h4)).setCell ⟨bf, 8, none⟩ (.slice f5 0 h5)).cell? ⟨ge, 2, none⟩ = some (.int .i64 10) ∧ (((((((((v2.setCell ⟨bf, 0, none⟩ (.int .i64 0)).setCell ⟨bf, 1, none⟩ (.int .i64 4)).setCell ⟨bf, 2, none⟩ (.int .i64 4)).setCell ⟨bf, 3, none⟩ (.int .i64 2)).setCell ⟨bf, 4, none⟩ (.slice f1 8 h1)).setCell ⟨bf, 5, none⟩ (.slice (some ⟨go, 0, none⟩) 8 h2)).setCell ⟨bf, 6, none⟩ (.slice f3 2 h3)).setCell ⟨bf, 7, none⟩ (.slice (some ⟨gf, 0, none⟩) 3 h4)).setCell ⟨bf, 8, none⟩ (.slice f5 0 h5)).cell? ⟨bf, 5, none⟩ = some (.slice (some ⟨go, 0, none⟩) 8 h2) ∧ (((((((((v2.setCell ⟨bf, 0, none⟩ (.int .i64 0)).setCell ⟨bf, 1, none⟩ (.int .i64 4)).setCell ⟨bf, 2, none⟩ (.int .i64 4)).setCell ⟨bf, 3, none⟩ (.int .i64 2)).setCell ⟨bf, 4, none⟩ (.slice f1 8 h1)).setCell ⟨bf, 5, none⟩ (.slice (some ⟨go, 0, none⟩) 8 h2)).setCell ⟨bf, 6, none⟩ (.slice f3 2 h3)).setCell ⟨bf, 7, none⟩ (.slice (some ⟨gf, 0, none⟩) 3 h4)).setCell ⟨bf, 8, none⟩ (.slice f5 0 h5)).cell? ⟨go, 6, none⟩ = some (.int .i64 20)) := ⟨w7, cell_kp9 CE.out.1 KZ.out NB.out.2.2.1, cell_kp9 CE.out.2.1 KZ.out NB.out.2.2.2.1, w5', cell_kp9 CE.out.2.2 KZ.out NB.out.2.2.2.2⟩
      clear w7 w5'
      refine headT_skip rfl (((((((((v2.setCell ⟨bf, 0, none⟩ (.int .i64 0)).setCell ⟨bf, 1, none⟩ (.int .i64 4)).setCell ⟨bf, 2, none⟩ (.int .i64 4)).setCell ⟨bf, 3, none⟩ (.int .i64 2)).setCell ⟨bf, 4, none⟩ (.slice f1 8 h1)).setCell ⟨bf, 5, none⟩ (.slice (some ⟨go, 0, none⟩) 8 h2)).setCell ⟨bf, 6, none⟩ (.slice f3 2 h3)).setCell ⟨bf, 7, none⟩ (.slice (some ⟨gf, 0, none⟩) 3 h4)).setCell ⟨bf, 8, none⟩ (.slice f5 0 h5)) (by go_simp) (by go_simp) FS.out.2.2 ?_
      clear z0 z1 z2 z3 z4 z5 z6 z7 z8 t0 t1 t2 t3 t4 t5 t6 t7 t8 KZ ZE Fv2 CE
      generalize (((((((((v2.setCell ⟨bf, 0, none⟩ (.int .i64 0)).setCell ⟨bf, 1, none⟩ (.int .i64 4)).setCell ⟨bf, 2, none⟩ (.int .i64 4)).setCell ⟨bf, 3, none⟩ (.int .i64 2)).setCell ⟨bf, 4, none⟩ (.slice f1 8 h1)).setCell ⟨bf, 5, none⟩ (.slice (some ⟨go, 0, none⟩) 8 h2)).setCell ⟨bf, 6, none⟩ (.slice f3 2 h3)).setCell ⟨bf, 7, none⟩ (.slice (some ⟨gf, 0, none⟩) 3 h4)).setCell ⟨bf, 8, none⟩ (.slice f5 0 h5)) = wE at *
      go_simp
      refine headT_value rfl (.slice (some ⟨ge, 0, none⟩) 1 he) wE (by go_simp) (by go_simp) FS.out.2.2 ?_
      go_simp
      unfold wpHeadT
      refine sched_value rfl .nilIface wE (by go_simp) (by go_simp) trivial ?_
      go_simp
      unfold wpSched
      go_wp2_with fail
      go_meet
      case rel => exact ⟨rfl, bf, gf, ge, go, h4, he, h2, rfl, rfl, H4.out, D7.out.1, D7.out.2.1, D7.out.2.2.1, D7.out.2.2.2.1, D7.out.2.2.2.2, FS.out.1, FS.out.2.1⟩
  case rest => as_aux_lemma =>
    obtain ⟨rfl, bf, gf, ge, go, h4, he, h2, rfl, rfl, hh4, fx7, fc13, fe2, fx5, fo6, hB, hX⟩ := hcut
    have B4 : Hid (Below w.heap.size w wc) := hB
    have X4 : Hid (Bw wc w.heap.size X (.slice p1 X.gs.length q1) (.slice p2 X.os.length q2) (.slice p3 X.gold.length q3) (.slice p4 X.us.length q4) (.slice p5 X.qs.length q5)) := hX
    clear hB hX
    generalize wc = w4 at *
    go_upto_region 10 with fail
    clear fx7 fc13 fe2 fx5 fo6
    obtain ⟨x0, x1, x2, x3, x4, x5, x6, x7, x8⟩ := X4.out
    go_wp2_with fail
    refine (Dig_any _ _ ks X w4 (K.out.1.below B4.out) K.out.2 (H.out.below B4.out) (SD.out.below B4.out)).mono ?_
    rintro e w5 ⟨v, ev, r, rfl, hr, hd, hb⟩
    have B5 : Hid (Below w.heap.size w w5) := B4.out.trans (hb.mono B4.out.size)
    have X5 : Hid (Bw w5 w.heap.size X (.slice p1 X.gs.length q1) (.slice p2 X.os.length q2) (.slice p3 X.gold.length q3) (.slice p4 X.us.length q4) (.slice p5 X.qs.length q5)) := X4.out.below hb X4.out.lt
    obtain ⟨fx, hfx⟩ : ∃ f, Wd.wfault ks X = f := ⟨_, rfl⟩
    have FX : Hid (Wd.wfault ks X = fx) := hfx
    rw [hfx] at hr
    clear hb hfx x0 x1 x2 x3 x4 x5 x6 x7 x8 X4 B4
    rcases hr with ⟨rfl, rfl⟩ | ⟨hf, rfl⟩
    case inr =>
      have HF : Hid (fx ≠ 0) := hf
      rcases hd with ⟨-, rfl, rfl⟩ | ⟨h, -⟩
      case inr => rw [FX.out] at h; exact absurd h hf
      clear hf
      go_wp2
      go_ret
      exact ⟨rfl, B5.out.alloc B5.out.size _⟩
    rcases hd with ⟨h, -⟩ | ⟨-, Wn, Hn, -, -, -, ho, hev⟩
    case inl => exact absurd FX.out h
    have WR : Hid (WRight ks X) := wright_of FX.out
    have DF0 : Hid (DugF ks X (dug ks Wn Hn X) (dugEv ks Wn Hn X)) := dugf_of WR.out
    obtain ⟨Y, hY⟩ : ∃ Y, dug ks Wn Hn X = Y := ⟨_, rfl⟩
    obtain ⟨es, hes⟩ : ∃ es, dugEv ks Wn Hn X = es := ⟨_, rfl⟩
    rw [hY] at ho DF0
    rw [hes] at hev DF0
    have DF : Hid (DugF ks X Y es) := DF0.out
    clear hY hes DF0
    obtain ⟨k1, k2, k3, k4, k5, rfl, o1, o2, o3, o4, o5⟩ := ho
    obtain ⟨s1, r1, rfl⟩ := o1.len
    obtain ⟨s2, r2, rfl⟩ := o2.len
    obtain ⟨s3, r3, rfl⟩ := o3.len
    obtain ⟨s4, r4, rfl⟩ := o4.len
    obtain ⟨s5, r5, rfl⟩ := o5.len
    obtain ⟨se, re, rfl⟩ := hev.len
    have OY : Hid (Ro w5 (.slice s2 Y.os.length r2) Y.os ∧ Ro w5 (.slice s3 Y.gold.length r3) Y.gold ∧ Unl w5 (.slice s4 Y.us.length r4) Y.us ∧ Evl w5 (.slice se es.length re) es ∧ Wl w5 (.agg #[.int .i64 Y.turn, .int .i64 Y.next, .int .i64 Y.wide, .int .i64 Y.high, .slice s1 Y.gs.length r1, .slice s2 Y.os.length r2, .slice s3 Y.gold.length r3, .slice s4 Y.us.length r4, .slice s5 Y.qs.length r5]) Y) := ⟨o2.ro, o3.ro, o4.l, hev.l, ⟨_, _, _, _, _, rfl, o1.ro, o2.ro, o3.ro, o4.l, o5.l⟩⟩
    have SX : Hid (SB X) := sb_of WR.out
    have SY : Hid (SB Y) := sb_of DF.out.r
    clear o1 o2 o3 o4 o5 hev
    obtain ⟨bx, hbx⟩ : ∃ b, w5.heap.size = b := ⟨_, rfl⟩
    have BA : Hid (Below w5.heap.size w5 (w5.alloc (Obj.cells #[.int .i64 Y.turn, .int .i64 Y.next, .int .i64 Y.wide, .int .i64 Y.high, .slice s1 Y.gs.length r1, .slice s2 Y.os.length r2, .slice s3 Y.gold.length r3, .slice s4 Y.us.length r4, .slice s5 Y.qs.length r5] 29))) := (Below.refl _ _).alloc (Nat.le_refl _) _
    have YA6 : Hid (Bw (w5.alloc (Obj.cells #[.int .i64 Y.turn, .int .i64 Y.next, .int .i64 Y.wide, .int .i64 Y.high, .slice s1 Y.gs.length r1, .slice s2 Y.os.length r2, .slice s3 Y.gold.length r3, .slice s4 Y.us.length r4, .slice s5 Y.qs.length r5] 29)) bx Y (.slice s1 Y.gs.length r1) (.slice s2 Y.os.length r2) (.slice s3 Y.gold.length r3) (.slice s4 Y.us.length r4) (.slice s5 Y.qs.length r5)) := Bw.mk' (w := w5) Y _ _ _ _ _ hbx
    go_upto_region 13 with fail
    (try rw [hbx])
    clear hbx
    generalize (w5.alloc (Obj.cells #[.int .i64 Y.turn, .int .i64 Y.next, .int .i64 Y.wide, .int .i64 Y.high, .slice s1 Y.gs.length r1, .slice s2 Y.os.length r2, .slice s3 Y.gold.length r3, .slice s4 Y.us.length r4, .slice s5 Y.qs.length r5] 29)) = w6 at *
    have CV : Hid (∀ V, Below w6.heap.size w6 V → Below w.heap.size w V ∧ Bw V w.heap.size X (.slice p1 X.gs.length q1) (.slice p2 X.os.length q2) (.slice p3 X.gold.length q3) (.slice p4 X.us.length q4) (.slice p5 X.qs.length q5) ∧ Bw V bx Y (.slice s1 Y.gs.length r1) (.slice s2 Y.os.length r2) (.slice s3 Y.gold.length r3) (.slice s4 Y.us.length r4) (.slice s5 Y.qs.length r5) ∧ Ro V (.slice s2 Y.os.length r2) Y.os ∧ Ro V (.slice s3 Y.gold.length r3) Y.gold ∧ Unl V (.slice s4 Y.us.length r4) Y.us ∧ Evl V (.slice se es.length re) es ∧ Wl V (.agg #[.int .i64 Y.turn, .int .i64 Y.next, .int .i64 Y.wide, .int .i64 Y.high, .slice s1 Y.gs.length r1, .slice s2 Y.os.length r2, .slice s3 Y.gold.length r3, .slice s4 Y.us.length r4, .slice s5 Y.qs.length r5]) Y) := fun V hV => by
      have b5 : Below w5.heap.size w5 V := BA.out.trans (hV.mono BA.out.size)
      exact ⟨B5.out.trans (b5.mono B5.out.size), X5.out.below b5 X5.out.lt, YA6.out.below hV YA6.out.lt, OY.out.1.below b5, OY.out.2.1.below b5, OY.out.2.2.1.below b5, OY.out.2.2.2.1.below b5, OY.out.2.2.2.2.below b5⟩
    have x5 := (CV.out w6 (Below.refl _ _)).2.1.c5
    clear BA X5 B5 YA6 OY
    go_wp2_with fail
    clear x5
    go_loopw [12, 13] (fun v12 j V => ∃ n : Nat, n ≤ X.os.length ∧ j = .int .i64 (n : Nat) ∧ (∃ S : Int, v12 = .int .i64 S ∧ S = sm (X.os.take n) - sm (Y.os.take n)) ∧ Below w6.heap.size w6 V) (fun _ j _ => X.os.length - (intOf j).toNat)
    case atStart => exact ⟨0, Nat.zero_le _, rfl, ⟨0, rfl, by simp [sm]⟩, Below.refl _ _⟩
    case round =>
    obtain ⟨n, hn, rfl, ⟨S, rfl, hS⟩, hB⟩ := hrel
    have SH : Hid (S = sm (X.os.take n) - sm (Y.os.take n)) := hS
    have BV : Hid (Below w6.heap.size w6 wr) := hB
    have sb : -200000000 ≤ S ∧ S ≤ 200000000 := by have h1 := SX.out.os n; have h2 := SY.out.os n; omega
    have x5 := (CV.out wr hB).2.1.c5
    clear hS hB
    by_cases hne : n = X.os.length
    case neg =>
      have hnl : n < X.os.length := by omega
      have hlen := SX.out.ol
      have hnl' : (n : Int) < (X.os.length : Int) := by omega
      have hnm : n < Y.os.length := by rw [DF.out.ol]; exact hnl
      have hnm' : (n : Int) < (Y.os.length : Int) := by omega
      obtain ⟨x, hx⟩ : ∃ x, X.os[n]? = some x := ⟨_, List.getElem?_eq_getElem hnl⟩
      obtain ⟨y, hy⟩ : ∃ y, Y.os[n]? = some y := ⟨_, List.getElem?_eq_getElem hnm⟩
      have bx' := SX.out.o1 x (List.mem_of_getElem? hx)
      have by' := SY.out.o1 y (List.mem_of_getElem? hy)
      have NX : Hid (S + x - y = sm (X.os.take (n + 1)) - sm (Y.os.take (n + 1))) := by unfold Hid; rw [sm_next hx, sm_next hy]; have := SH.out; omega
      have y5 := (CV.out wr BV.out).2.2.1.c5
      obtain ⟨a', c', e', -, -, hz⟩ := (H.out.below (CV.out wr BV.out).1).slices.2.1
      injection e' with e1 e2 e3
      subst e1 e3
      obtain ⟨xo, rfl, -, hz⟩ := hz (by rintro hn; rw [hn] at hnl; simp at hnl)
      have cx := hz n x hx
      obtain ⟨a', c', e', -, -, hw⟩ := (CV.out wr BV.out).2.2.2.1
      injection e' with e1 e2' e3
      subst e1 e3
      obtain ⟨yo, rfl, -, hw⟩ := hw (by rintro hn; rw [hn] at hnm; simp at hnm)
      have cy := hw n y hy
      have wr1 : IntKind.i64.wrap (S + x) = S + x := by rw [IntKind.wrap_i64]; omega
      have wr2 : IntKind.i64.wrap (S + x - y) = S + x - y := by rw [IntKind.wrap_i64]; omega
      clear hz hw hx hy e2 e2'
      go_upto_region 17 with fail
      go_quiet (fail)
      have D6 : Hid (Below wr.heap.size wr (wr.drewN nq)) := ⟨rfl, rfl, rfl, Nat.le_refl _, fun _ _ => rfl⟩
      generalize wr.drewN nq = wn at *
      go_wp2
      go_round
      case rel => exact ⟨n + 1, by omega, by go_num, ⟨_, rfl, NX.out⟩, BV.out.trans (D6.out.mono BV.out.size)⟩
      case measure => simp [intOf]; omega
    have S1 : Hid (S = sm X.os - sm Y.os) := by
      have h9 := SH.out
      rw [hne, List.take_of_length_le (Nat.le_refl _), ← DF.out.ol, List.take_of_length_le (Nat.le_refl _)] at h9
      exact h9
    subst hne
    clear SH
    generalize wr = w7 at *
    have x7 := (CV.out w7 BV.out).2.1.c7
    go_wp2_with fail
    clear x5 x7
    go_loopw [12, 14] (fun v12 j V => ∃ n : Nat, n ≤ X.us.length ∧ j = .int .i64 (n : Nat) ∧ (∃ T : Int, v12 = .int .i64 T ∧ T = S + sm ((loads X).take n) - sm ((loads Y).take n)) ∧ Below w6.heap.size w6 V) (fun _ j _ => X.us.length - (intOf j).toNat)
    case atStart => exact ⟨0, Nat.zero_le _, rfl, ⟨S, rfl, by simp [sm]⟩, BV.out⟩
    case round =>
    obtain ⟨n, hn, rfl, ⟨T, rfl, hT⟩, hB⟩ := hrel
    have TH : Hid (T = S + sm ((loads X).take n) - sm ((loads Y).take n)) := hT
    have BT : Hid (Below w6.heap.size w6 wr) := hB
    have tb : -300000000 ≤ T ∧ T ≤ 300000000 := by have h1 := SX.out.ls n; have h2 := SY.out.ls n; omega
    have x7 := (CV.out wr hB).2.1.c7
    clear hT hB
    by_cases hne : n = X.us.length
    case neg =>
      have hnl : n < X.us.length := by omega
      have hlen := SX.out.ul
      have hnl' : (n : Int) < (X.us.length : Int) := by omega
      have hnm : n < Y.us.length := by rw [DF.out.ul]; exact hnl
      have hnm' : (n : Int) < (Y.us.length : Int) := by omega
      obtain ⟨x, hx⟩ : ∃ x, X.us[n]? = some x := ⟨_, List.getElem?_eq_getElem hnl⟩
      obtain ⟨y, hy⟩ : ∃ y, Y.us[n]? = some y := ⟨_, List.getElem?_eq_getElem hnm⟩
      have hx' : (loads X)[n]? = some x.load := by unfold loads; rw [List.getElem?_map, hx]; rfl
      have hy' : (loads Y)[n]? = some y.load := by unfold loads; rw [List.getElem?_map, hy]; rfl
      have bx' := SX.out.l1 _ (List.mem_of_getElem? hx')
      have by' := SY.out.l1 _ (List.mem_of_getElem? hy')
      have NX : Hid (T + x.load - y.load = S + sm ((loads X).take (n + 1)) - sm ((loads Y).take (n + 1))) := by unfold Hid; rw [sm_next hx', sm_next hy']; have := TH.out; omega
      have y7 := (CV.out wr BT.out).2.2.1.c7
      obtain ⟨a', c', e', -, -, hz⟩ := (H.out.below (CV.out wr BT.out).1).slices.2.2.2.1
      injection e' with e1 e2 e3
      subst e1 e3
      obtain ⟨xo, rfl, -, hz⟩ := hz (by rintro hn; rw [hn] at hnl; simp at hnl)
      have cx := (hz n x hx).c5
      obtain ⟨a', c', e', -, -, hw⟩ := (CV.out wr BT.out).2.2.2.2.2.1
      injection e' with e1 e2' e3
      subst e1 e3
      obtain ⟨yo, rfl, -, hw⟩ := hw (by rintro hn; rw [hn] at hnm; simp at hnm)
      have cy := (hw n y hy).c5
      generalize x.load = xl at *
      generalize y.load = yl at *
      have wr1 : IntKind.i64.wrap (T + xl) = T + xl := by rw [IntKind.wrap_i64]; omega
      have wr2 : IntKind.i64.wrap (T + xl - yl) = T + xl - yl := by rw [IntKind.wrap_i64]; omega
      clear hz hw hx hy hx' hy' e2 e2'
      go_upto_region 21 with fail
      go_quiet (fail)
      have D6 : Hid (Below wr.heap.size wr (wr.drewN nq)) := ⟨rfl, rfl, rfl, Nat.le_refl _, fun _ _ => rfl⟩
      generalize wr.drewN nq = wn at *
      go_wp2
      go_round
      case rel => exact ⟨n + 1, by omega, by go_num, ⟨_, rfl, NX.out⟩, BT.out.trans (D6.out.mono BT.out.size)⟩
      case measure => simp [intOf]; omega
    have T1 : Hid (T = sm X.os - sm Y.os + sm (loads X) - sm (loads Y)) := by
      have h9 := TH.out
      have l1 : (loads X).length = n := by unfold loads; rw [List.length_map]; exact hne.symm
      have l2 : (loads Y).length = n := by unfold loads; rw [List.length_map, DF.out.ul]; exact hne.symm
      rw [List.take_of_length_le (by omega), List.take_of_length_le (by omega), S1.out] at h9
      exact h9
    subst hne
    clear TH S1 BV sb
    generalize wr = w8 at *
    have x6 := (CV.out w8 BT.out).2.1.c6
    go_wp2_with fail
    clear x7 x6
    go_loopw [12, 15, 16] (fun v12 v15 j V => ∃ n : Nat, n ≤ X.gold.length ∧ j = .int .i64 (n : Nat) ∧ (∃ R : Int, v12 = .int .i64 R ∧ R = T + sm (X.gold.take n) - sm (Y.gold.take n)) ∧ (∃ fb : Bool, v15 = .bool fb ∧ fb = (Y.gold.take n).any (· == 1000000)) ∧ Below w6.heap.size w6 V) (fun _ _ j _ => X.gold.length - (intOf j).toNat)
    case atStart => exact ⟨0, Nat.zero_le _, rfl, ⟨T, rfl, by simp [sm]⟩, ⟨false, rfl, by simp⟩, BT.out⟩
    case round =>
    obtain ⟨n, hn, rfl, ⟨R, rfl, hR⟩, ⟨fb, rfl, hfb⟩, hB⟩ := hrel
    have RH : Hid (R = T + sm (X.gold.take n) - sm (Y.gold.take n)) := hR
    have FB : Hid (fb = (Y.gold.take n).any (· == 1000000)) := hfb
    have BR : Hid (Below w6.heap.size w6 wr) := hB
    have rb : -400000000 ≤ R ∧ R ≤ 400000000 := by have h1 := SX.out.gs n; have h2 := SY.out.gs n; omega
    have x6 := (CV.out wr hB).2.1.c6
    clear hR hB hfb
    by_cases hne : n = X.gold.length
    case neg =>
      have hnl : n < X.gold.length := by omega
      have hlen := SX.out.gl
      have hnl' : (n : Int) < (X.gold.length : Int) := by omega
      have hnm : n < Y.gold.length := by rw [DF.out.gl]; exact hnl
      have hnm' : (n : Int) < (Y.gold.length : Int) := by omega
      obtain ⟨x, hx⟩ : ∃ x, X.gold[n]? = some x := ⟨_, List.getElem?_eq_getElem hnl⟩
      obtain ⟨y, hy⟩ : ∃ y, Y.gold[n]? = some y := ⟨_, List.getElem?_eq_getElem hnm⟩
      have bx' := SX.out.g1 x (List.mem_of_getElem? hx)
      have by' := SY.out.g1 y (List.mem_of_getElem? hy)
      have NX : Hid (R + x - y = T + sm (X.gold.take (n + 1)) - sm (Y.gold.take (n + 1))) := by unfold Hid; rw [sm_next hx, sm_next hy]; have := RH.out; omega
      have FN : Hid ((Y.gold.take (n + 1)).any (· == 1000000) = (fb || (y == 1000000))) := by unfold Hid; rw [List.take_add_one, hy, List.any_append, ← FB.out]; simp
      obtain ⟨a', c', e', -, -, hz⟩ := (H.out.below (CV.out wr BR.out).1).slices.2.2.1
      injection e' with e1 e2 e3
      subst e1 e3
      obtain ⟨xo, rfl, hxl, hz⟩ := hz (by rintro hn; rw [hn] at hnl; simp at hnl)
      have cx := hz n x hx
      obtain ⟨a', c', e', -, -, hw⟩ := (CV.out wr BR.out).2.2.2.2.1
      injection e' with e1 e2' e3
      subst e1 e3
      obtain ⟨yo, rfl, hyl, hw⟩ := hw (by rintro hn; rw [hn] at hnm; simp at hnm)
      have cy := hw n y hy
      have y6 := (CV.out wr BR.out).2.2.1.c6
      have KY : Hid (wr.cell? (yo.add n) = some (.int .i64 y) ∧ wr.cell? ⟨bx, 6, none⟩ = some (.slice (some yo) Y.gold.length r3)) := ⟨cy, y6⟩
      have wr1 : IntKind.i64.wrap (R + x) = R + x := by rw [IntKind.wrap_i64]; omega
      have wr2 : IntKind.i64.wrap (R + x - y) = R + x - y := by rw [IntKind.wrap_i64]; omega
      clear hz hw hx hy e2 e2' hxl hyl
      go_upto_region 26 with fail
      go_quiet (fail)
      have D6 : Hid (Below wr.heap.size wr (wr.drewN nq)) := ⟨rfl, rfl, rfl, Nat.le_refl _, fun _ _ => rfl⟩
      generalize wr.drewN nq = wn at *
      clear x6 cx cy y6 wr1 wr2
      have cy : wn.cell? (yo.add n) = some (.int .i64 y) := by rw [D6.out.cell (cell_lt KY.out.1)]; exact KY.out.1
      have y6 : wn.cell? ⟨bx, 6, none⟩ = some (.slice (some yo) Y.gold.length r3) := by rw [D6.out.cell (p := ⟨bx, 6, none⟩) (cell_lt KY.out.2)]; exact KY.out.2
      have BN : Hid (Below w6.heap.size w6 wn) := BR.out.trans (D6.out.mono BR.out.size)
      have DD : fb = true ∨ (fb = false ∧ y = 1000000) ∨ (fb = false ∧ y ≠ 1000000) := by
        cases fb
        · by_cases h : y = 1000000
          · exact .inr (.inl ⟨rfl, h⟩)
          · exact .inr (.inr ⟨rfl, h⟩)
        · exact .inl rfl
      rcases DD with rfl | ⟨rfl, rfl⟩ | ⟨rfl, hy9⟩
      · have N1 : Hid ((Y.gold.take (n + 1)).any (· == 1000000) = true) := by unfold Hid; rw [FN.out]; rfl
        go_wp2
        go_round
        case rel => exact ⟨n + 1, by omega, by go_num, ⟨_, rfl, NX.out⟩, ⟨_, rfl, N1.out.symm⟩, BN.out⟩
        case measure => simp [intOf]; omega
      · have N1 : Hid ((Y.gold.take (n + 1)).any (· == 1000000) = true) := by unfold Hid; rw [FN.out]; rfl
        go_wp2
        go_round
        case rel => exact ⟨n + 1, by omega, by go_num, ⟨_, rfl, NX.out⟩, ⟨_, rfl, by rw [N1.out]; try rfl⟩, BN.out⟩
        case measure => simp [intOf]; omega
      · have N1 : Hid ((Y.gold.take (n + 1)).any (· == 1000000) = false) := by unfold Hid; rw [FN.out, beq_eq_false_iff_ne.2 hy9]; rfl
        have hyb : (y == 1000000) = false := beq_eq_false_iff_ne.2 hy9
        go_wp2
        go_round
        case rel => exact ⟨n + 1, by omega, by go_num, ⟨_, rfl, NX.out⟩, ⟨_, rfl, by rw [N1.out]; try rfl⟩, BN.out⟩
        case measure => simp [intOf]; omega
    have R1 : Hid (R = tot X - tot Y) := by
      have h9 := RH.out
      have h8 := T1.out
      rw [hne, List.take_of_length_le (Nat.le_refl _), ← DF.out.gl, List.take_of_length_le (Nat.le_refl _)] at h9
      unfold Hid tot
      omega
    have FE : Hid (Full Y → fb = true) := fun h => by
      obtain ⟨g, hg, rfl⟩ := h
      rw [FB.out, List.take_of_length_le (by rw [DF.out.gl]; omega)]
      rw [List.any_eq_true]
      exact ⟨_, hg, rfl⟩
    have RR : 0 ≤ R ∧ (R = 0 ∨ fb = true) := by
      have h1 := DF.out.le
      have h2 := R1.out
      refine ⟨by omega, ?_⟩
      rcases DF.out.eq with h | h
      · left; omega
      · right; exact FE.out h
    subst hne
    clear RH T1 BT tb FB FE R1 rb
    generalize wr = w9 at *
    obtain ⟨y0, y1, y2, y3, y4, y5, y6, y7, y8⟩ := (CV.out w9 BR.out).2.2.1
    go_wp2_with fail
    clear x6 y0 y1 y2 y3 y4 y5 y6 y7 y8
    refine (right_fw _ _ ks Y w9 (K.out.1.below (CV.out w9 BR.out).1) K.out.2 (CV.out w9 BR.out).2.2.2.2.2.2.2 DF.out.r.zero).mono ?_
    rintro e w10 ⟨rfl, b10⟩
    have B10 : Hid (Below w6.heap.size w6 w10) := BR.out.trans (b10.mono BR.out.size)
    clear b10 BR
    obtain ⟨R0, RR⟩ := RR
    have GO : Hid (R = 0 ∨ (R ≠ 0 ∧ fb = true)) := by
      unfold Hid
      by_cases h : R = 0
      · exact .inl h
      · exact .inr ⟨h, RR.resolve_left h⟩
    clear RR
    go_upto_region 29 with fail
    go_cut [174] (fun v174 V => v174 = .bool false ∧ V = w10)
    case first =>
      rcases GO.out with rfl | ⟨h0, rfl⟩
      · go_wp2_with fail
        go_meet
        case rel => exact ⟨rfl, rfl⟩
      · have h0b : (R == 0) = false := beq_eq_false_iff_ne.2 h0
        have h1 : ¬ R < 0 := by omega
        go_wp2_with fail
        go_meet
        case rel => exact ⟨rfl, rfl⟩
    case rest =>
    obtain ⟨rfl, hwc⟩ := hcut
    have B11 : Hid (Below w6.heap.size w6 wc) := by rw [hwc]; exact B10.out
    clear hwc B10 GO R0
    generalize wc = w11 at *
    go_wp2_with fail
    go_loopw [18] (fun j V => ∃ n : Nat, n ≤ es.length ∧ j = .int .i64 (n : Nat) ∧ Below w6.heap.size w6 V) (fun j _ => es.length - (intOf j).toNat)
    case atStart => exact ⟨0, Nat.zero_le _, rfl, B11.out⟩
    case round =>
    obtain ⟨n, hn, rfl, hB⟩ := hrel
    have BE : Hid (Below w6.heap.size w6 wr) := hB
    clear hB
    by_cases hne : n = es.length
    case neg =>
      have hnl : n < es.length := by omega
      have hlen := DF.out.el
      have hnl' : (n : Int) < (es.length : Int) := by omega
      obtain ⟨d, hd⟩ : ∃ d, es[n]? = some d := ⟨_, List.getElem?_eq_getElem hnl⟩
      obtain ⟨e1, e2⟩ := DF.out.ev d (List.mem_of_getElem? hd)
      obtain ⟨a', c', e', -, -, hw⟩ := (CV.out wr BE.out).2.2.2.2.2.2.1
      injection e' with f1 f2 f3
      subst f1 f3
      obtain ⟨xe, rfl, -, hw⟩ := hw (by rintro hn; rw [hn] at hnl; simp at hnl)
      obtain ⟨d0, d1, d2⟩ := hw n d hd
      have e1' : ¬ d.arg < 1 := by omega
      clear hw hd f2
      rcases e2 with e2 | e2
      · rw [e2] at d0
        clear e2
        go_wp2
        go_round
        case rel => exact ⟨n + 1, by omega, by go_num, BE.out⟩
        case measure => simp [intOf]; omega
      · rw [e2] at d0
        clear e2
        go_wp2
        go_round
        case rel => exact ⟨n + 1, by omega, by go_num, BE.out⟩
        case measure => simp [intOf]; omega
    subst hne
    generalize wr = w12 at *
    have B12 : Hid (Below w.heap.size w w12) := (CV.out w12 BE.out).1
    have X12 : Hid (Bw w12 w.heap.size X (.slice p1 X.gs.length q1) (.slice p2 X.os.length q2) (.slice p3 X.gold.length q3) (.slice p4 X.us.length q4) (.slice p5 X.qs.length q5)) := (CV.out w12 BE.out).2.1
    clear CV BE B11
    obtain ⟨x0, x1, x2, x3, x4, x5, x6, x7, x8⟩ := X12.out
    go_wp2_with fail
    refine (Train_any _ _ ks X w12 (K.out.1.below B12.out) K.out.2 (H.out.below B12.out) (SD.out.below B12.out)).mono ?_
    rintro e w13 ⟨v, ev, r, rfl, hr, hd, hb⟩
    have B13 : Hid (Below w.heap.size w w13) := B12.out.trans (hb.mono B12.out.size)
    have X13 : Hid (Bw w13 w.heap.size X (.slice p1 X.gs.length q1) (.slice p2 X.os.length q2) (.slice p3 X.gold.length q3) (.slice p4 X.us.length q4) (.slice p5 X.qs.length q5)) := X12.out.below hb X12.out.lt
    rw [FX.out] at hr
    obtain rfl := er_zero hr
    clear hb hr x0 x1 x2 x3 x4 x5 x6 x7 x8 X12 B12
    rcases hd with ⟨h, -⟩ | ⟨-, Y2, es2, qs2, ht, ho, hev⟩
    case inl => exact absurd FX.out h
    obtain ⟨Z, hZ⟩ : ∃ Z, ({ Y2 with qs := qs2 } : WV) = Z := ⟨_, rfl⟩
    have ZF : Hid (Wd.wfault ks Z = 0) := by unfold Hid; rw [← hZ]; exact tr_right WR.out ht
    have ZC : Hid (Z.us.length = X.us.length + es2.length ∧ Z.next = X.next + (es2.length : Int) ∧ Z.qs.length + es2.length = X.qs.length) := by
      obtain ⟨c1, c2, c3⟩ := ht.count
      unfold Hid
      rw [← hZ]
      exact ⟨c1, c2, c3⟩
    rw [hZ] at ho
    clear hZ ht
    obtain ⟨k1, k2, k3, k4, k5, rfl, o1, o2, o3, o4, o5⟩ := ho
    obtain ⟨t1, y1, rfl⟩ := o1.len
    obtain ⟨t2, y2, rfl⟩ := o2.len
    obtain ⟨t3, y3, rfl⟩ := o3.len
    obtain ⟨t4, y4, rfl⟩ := o4.len
    obtain ⟨t5, y5, rfl⟩ := o5.len
    obtain ⟨te, ye, rfl⟩ := hev.len
    have WZ : Hid (Wl w13 (.agg #[.int .i64 Z.turn, .int .i64 Z.next, .int .i64 Z.wide, .int .i64 Z.high, .slice t1 Z.gs.length y1, .slice t2 Z.os.length y2, .slice t3 Z.gold.length y3, .slice t4 Z.us.length y4, .slice t5 Z.qs.length y5]) Z) := ⟨_, _, _, _, _, rfl, o1.ro, o2.ro, o3.ro, o4.l, o5.l⟩
    clear o1 o2 o3 o4 o5 hev
    obtain ⟨bz, hbz⟩ : ∃ b, w13.heap.size = b := ⟨_, rfl⟩
    have BA : Hid (Below w13.heap.size w13 (w13.alloc (Obj.cells #[.int .i64 Z.turn, .int .i64 Z.next, .int .i64 Z.wide, .int .i64 Z.high, .slice t1 Z.gs.length y1, .slice t2 Z.os.length y2, .slice t3 Z.gold.length y3, .slice t4 Z.us.length y4, .slice t5 Z.qs.length y5] 29))) := (Below.refl _ _).alloc (Nat.le_refl _) _
    have ZA6 : Hid (Bw (w13.alloc (Obj.cells #[.int .i64 Z.turn, .int .i64 Z.next, .int .i64 Z.wide, .int .i64 Z.high, .slice t1 Z.gs.length y1, .slice t2 Z.os.length y2, .slice t3 Z.gold.length y3, .slice t4 Z.us.length y4, .slice t5 Z.qs.length y5] 29)) bz Z (.slice t1 Z.gs.length y1) (.slice t2 Z.os.length y2) (.slice t3 Z.gold.length y3) (.slice t4 Z.us.length y4) (.slice t5 Z.qs.length y5)) := Bw.mk' (w := w13) Z _ _ _ _ _ hbz
    go_upto_region 39 with fail
    (try rw [hbz])
    clear hbz
    generalize (w13.alloc (Obj.cells #[.int .i64 Z.turn, .int .i64 Z.next, .int .i64 Z.wide, .int .i64 Z.high, .slice t1 Z.gs.length y1, .slice t2 Z.os.length y2, .slice t3 Z.gold.length y3, .slice t4 Z.us.length y4, .slice t5 Z.qs.length y5] 29)) = w14 at *
    have B14 : Hid (Below w.heap.size w w14) := B13.out.trans (BA.out.mono B13.out.size)
    have X14 : Hid (Bw w14 w.heap.size X (.slice p1 X.gs.length q1) (.slice p2 X.os.length q2) (.slice p3 X.gold.length q3) (.slice p4 X.us.length q4) (.slice p5 X.qs.length q5)) := X13.out.below BA.out X13.out.lt
    have W14 : Hid (Wl w14 (.agg #[.int .i64 Z.turn, .int .i64 Z.next, .int .i64 Z.wide, .int .i64 Z.high, .slice t1 Z.gs.length y1, .slice t2 Z.os.length y2, .slice t3 Z.gold.length y3, .slice t4 Z.us.length y4, .slice t5 Z.qs.length y5]) Z) := WZ.out.below BA.out
    clear BA B13 X13 WZ
    obtain ⟨x0, x1, x2, x3, x4, x5, x6, x7, x8⟩ := ZA6.out
    go_wp2_with fail
    refine (right_fw _ _ ks Z w14 (K.out.1.below B14.out) K.out.2 W14.out ZF.out).mono ?_
    rintro e w15 ⟨rfl, b15⟩
    have B15 : Hid (Below w.heap.size w w15) := B14.out.trans (b15.mono B14.out.size)
    have X15 : Hid (Bw w15 w.heap.size X (.slice p1 X.gs.length q1) (.slice p2 X.os.length q2) (.slice p3 X.gold.length q3) (.slice p4 X.us.length q4) (.slice p5 X.qs.length q5)) := X14.out.below b15 X14.out.lt
    have Z15 : Hid (Bw w15 bz Z (.slice t1 Z.gs.length y1) (.slice t2 Z.os.length y2) (.slice t3 Z.gold.length y3) (.slice t4 Z.us.length y4) (.slice t5 Z.qs.length y5)) := ZA6.out.below b15 ZA6.out.lt
    clear b15 x0 x1 x2 x3 x4 x5 x6 x7 x8 X14 B14 ZA6 W14
    obtain ⟨x0, x1, x2, x3, x4, x5, x6, x7, x8⟩ := X15.out
    obtain ⟨z0, z1, z2, z3, z4, z5, z6, z7, z8⟩ := Z15.out
    obtain ⟨c1, c2, c3⟩ := ZC.out
    have ul := SX.out.ul
    have ql := SX.out.ql
    have nb : 0 ≤ X.next ∧ X.next ≤ 1000000 := by have h9 := (nums_ok WR.out.nums).1; unfold Wd.off at h9; simp at h9; omega
    have v1 : IntKind.i64.wrap ((Z.us.length : Int) - (X.us.length : Int)) = (es2.length : Int) := by rw [IntKind.wrap_i64]; omega
    have v2 : IntKind.i64.wrap ((X.qs.length : Int) - (Z.qs.length : Int)) = (es2.length : Int) := by rw [IntKind.wrap_i64]; omega
    have v3 : IntKind.i64.wrap (Z.next - X.next) = (es2.length : Int) := by rw [IntKind.wrap_i64]; omega
    clear c1 c2 c3
    go_wp2
    go_ret
    exact ⟨rfl, B15.out⟩
end Go.Proofs.YtolmfekefjnggaaDoor.worksWeigh

