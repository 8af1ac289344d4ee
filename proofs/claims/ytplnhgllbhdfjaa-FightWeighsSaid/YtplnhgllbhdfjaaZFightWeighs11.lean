/- FightWeighs: the walk. -/
import Derived.Test.YtplnhgllbhdfjaaZFightWeighs10
import Derived.BigQuiet
namespace Go.Proofs.Ytplnhgllbhdfjaa.fightWeighs
open Go.RowKit
set_option linter.unusedVariables false

/-- what the fact's fight tells. -/
theorem sm_fight {w w' : World} {v ev : Value} (h : FightSays SK SF w w' v ev) : ∃ f1 h1 f2 h2 f3 h3 gf h4 f5 h5 ge he, v = .agg #[.int .i64 0, .int .i64 4, .int .i64 4, .int .i64 2, .slice f1 8 h1, .slice f2 8 h2, .slice f3 2 h3, .slice (some ⟨gf, 0, none⟩) 3 h4, .slice f5 0 h5] ∧ ev = .slice (some ⟨ge, 0, none⟩) 1 he ∧ w.heap.size ≤ gf ∧ w.heap.size ≤ ge ∧ 3 ≤ h4 ∧ w'.cell? ⟨gf, 12, none⟩ = some (.int .i64 6) ∧ w'.cell? ⟨ge, 2, none⟩ = some (.int .i64 2) := by
  rcases h with ⟨h, -⟩ | ⟨-, Wn, hW, -, -, ho, he⟩
  · exact absurd sf_fault h
  · obtain rfl : Wn = 4 := by
      have : (4 : Int) = (Wn : Nat) := hW
      omega
    rw [sf_fought] at ho
    rw [sf_events] at he
    obtain ⟨u1, u2, u3, u4, u5, rfl, o1, o2, o3, o4, o5⟩ := ho
    obtain ⟨f1, h1, rfl⟩ := o1.len
    obtain ⟨f2, h2, rfl⟩ := o2.len
    obtain ⟨f3, h3, rfl⟩ := o3.len
    obtain ⟨f5, h5, rfl⟩ := o5.len
    have o4' : Uno w' w.heap.size u4 SFu := o4
    rcases o4'.ub with ⟨-, h⟩ | ⟨gf, h4, rest, rfl, hgf, hc, -, -, hub⟩
    · cases h
    rcases he.2 with ⟨-, h⟩ | ⟨ge, ce, cur, rfl, hge, hcur, -, -, -, htk⟩
    · cases h
    refine ⟨f1, h1, f2, h2, f3, h3, gf, h4, f5, h5, ge, ce, rfl, rfl, hgf, hge, hc, (hub.unc (i := 1) (o := ⟨2, 0, 1, 1, 6, 0, 0, 0⟩) rfl).c4, ?_⟩
    have hl := he.l
    obtain ⟨a, c, hv, -, -, hh⟩ := hl
    obtain ⟨x, hx, -, hc⟩ := hh (by simp)
    injection hv with hv
    rw [← hv] at hx
    injection hx with hx
    have := (hc 0 _ rfl).c2
    rw [← hx] at this
    simpa [Addr.add] using this

set_option maxRecDepth 100000 in
set_option maxHeartbeats 50000000 in
theorem walk (vk : Value) (ks : List KV) (vw : Value) (X : WV) (w : World)
    (h0 : Kl w vk ks ∧ ∀ k ∈ ks, k.b.size ≤ maxLen) (h1 : Wl w vw X ∧ ∀ n ∈ Wd.nums X, Wd.In64 n) :
    Calls Try.prog 4 #[vk, vw] w fun e w' => e = .returned (.bool true) ∧ Below w.heap.size w w' := by
  have K : Hid (Kl w vk ks ∧ ∀ k ∈ ks, k.b.size ≤ 9223372036854775807) := ⟨h0.1, fun k hk => by have := h0.2 k hk; unfold maxLen at this; omega⟩
  have H : Hid (Wl w vw X) := h1.1
  obtain ⟨p1, q1, p2, q2, p3, q3, p4, q4, p5, q5, rfl⟩ := wl_shape9 h1.1
  obtain ⟨pk, qk, rfl, ck1, ck2, kc⟩ := h0.1
  have KC : Hid (ks ≠ [] → ∃ x, pk = some x ∧ x.block < w.heap.size ∧ ∀ (i : Nat) k, ks[i]? = some k → Kc w (x.add (i * 11)) k) := kc
  clear h0 h1 kc
  go_enter Try.func4, Try.ntmps4
  go_upto_region 1 with fail
  have B0 : Hid (Below w.heap.size w (w.alloc (Obj.cells #[.int .i64 X.turn, .int .i64 X.next, .int .i64 X.wide, .int .i64 X.high, .slice p1 X.gs.length q1, .slice p2 X.os.length q2, .slice p3 X.gold.length q3, .slice p4 X.us.length q4, .slice p5 X.qs.length q5] 29))) := (Below.refl _ _).alloc (Nat.le_refl _) _
  have X0 : Hid (Bw (w.alloc (Obj.cells #[.int .i64 X.turn, .int .i64 X.next, .int .i64 X.wide, .int .i64 X.high, .slice p1 X.gs.length q1, .slice p2 X.os.length q2, .slice p3 X.gold.length q3, .slice p4 X.us.length q4, .slice p5 X.qs.length q5] 29)) w.heap.size X (.slice p1 X.gs.length q1) (.slice p2 X.os.length q2) (.slice p3 X.gold.length q3) (.slice p4 X.us.length q4) (.slice p5 X.qs.length q5)) := Bw.mk' X _ _ _ _ _ rfl
  generalize (w.alloc (Obj.cells #[.int .i64 X.turn, .int .i64 X.next, .int .i64 X.wide, .int .i64 X.high, .slice p1 X.gs.length q1, .slice p2 X.os.length q2, .slice p3 X.gold.length q3, .slice p4 X.us.length q4, .slice p5 X.qs.length q5] 29)) = w0 at *
  go_wp2_with fail
  refine (small_any w0).mono ?_
  rintro e w1 ⟨u, rfl, ho, hb⟩
  have B1 : Hid (Below w.heap.size w w1) := B0.out.trans (hb.mono B0.out.size)
  have X1 : Hid (Bw w1 w.heap.size X (.slice p1 X.gs.length q1) (.slice p2 X.os.length q2) (.slice p3 X.gold.length q3) (.slice p4 X.us.length q4) (.slice p5 X.qs.length q5)) := X0.out.below hb X0.out.lt
  obtain ⟨y1, y2, y3, y4, y5, rfl, o1, o2, o3, o4, o5⟩ := ho
  obtain ⟨m1, n1, rfl⟩ := o1.len
  obtain ⟨m2, n2, rfl⟩ := o2.len
  obtain ⟨m3, n3, rfl⟩ := o3.len
  obtain ⟨m5, n5, rfl⟩ := o5.len
  rcases o4.ub with ⟨-, h⟩ | ⟨g, n4, rest, rfl, hbg, hkc, hcm, hcl, hub⟩
  · cases h
  have OO : Hid (Ow w1 w0.heap.size (.slice m1 8 n1) SG ∧ Ow w1 w0.heap.size (.slice m2 8 n2) SO ∧ Ow w1 w0.heap.size (.slice m3 2 n3) [100, 100] ∧ Jbo w1 w0.heap.size (.slice m5 0 n5) [] ∧ Ub w1 g S3.us rest ∧ 3 ≤ n4 ∧ n4 ≤ maxLen ∧ 24 + rest.length = n4 * 8 ∧ w.heap.size < g) := ⟨o1, o2, o3, o5, hub, hkc, hcm, hcl, Nat.lt_of_lt_of_le X0.out.lt hbg⟩
  have hn4 : 3 ≤ n4 := hkc
  have hn4' : n4 ≤ 9223372036854775807 := by unfold maxLen at hcm; omega
  obtain ⟨g1, g2, g3, g4, g5, g6, g7, g8, g9⟩ := s3_eqs
  simp only [g1, g2, g3, g4, g5, g6, g7, g8, g9]
  clear g1 g2 g3 g4 g5 g6 g7 g8 g9 hb o1 o2 o3 o4 o5 X0 B0 hbg hkc hcm hcl hub
  go_upto_region 2 with fail
  have BA : Hid (Below w1.heap.size w1 (w1.alloc (Obj.cells #[.int .i64 0, .int .i64 4, .int .i64 4, .int .i64 2, .slice m1 8 n1, .slice m2 8 n2, .slice m3 2 n3, .slice (some ⟨g, 0, none⟩) 3 n4, .slice m5 0 n5] 29))) := (Below.refl _ _).alloc (Nat.le_refl _) _
  obtain ⟨z, hz⟩ : ∃ z, w1.heap.size = z := ⟨_, rfl⟩
  have W2 : Hid (Wx (w1.alloc (Obj.cells #[.int .i64 0, .int .i64 4, .int .i64 4, .int .i64 2, .slice m1 8 n1, .slice m2 8 n2, .slice m3 2 n3, .slice (some ⟨g, 0, none⟩) 3 n4, .slice m5 0 n5] 29)) z (.int .i64 0) (.int .i64 4) (.int .i64 4) (.int .i64 2) (.slice m1 8 n1) (.slice m2 8 n2) (.slice m3 2 n3) (.slice (some ⟨g, 0, none⟩) 3 n4) (.slice m5 0 n5)) := Wx.new (.int .i64 0) (.int .i64 4) (.int .i64 4) (.int .i64 2) (.slice m1 8 n1) (.slice m2 8 n2) (.slice m3 2 n3) (.slice (some ⟨g, 0, none⟩) 3 n4) (.slice m5 0 n5) hz
  rw [hz]
  generalize (w1.alloc (Obj.cells #[.int .i64 0, .int .i64 4, .int .i64 4, .int .i64 2, .slice m1 8 n1, .slice m2 8 n2, .slice m3 2 n3, .slice (some ⟨g, 0, none⟩) 3 n4, .slice m5 0 n5] 29)) = w2 at *
  have B2 : Hid (Below w.heap.size w w2) := B1.out.trans (BA.out.mono B1.out.size)
  have X2 : Hid (Bw w2 w.heap.size X (.slice p1 X.gs.length q1) (.slice p2 X.os.length q2) (.slice p3 X.gold.length q3) (.slice p4 X.us.length q4) (.slice p5 X.qs.length q5)) := X1.out.below BA.out X1.out.lt
  have UB : Hid (Ub w2 g S3.us rest) := OO.out.2.2.2.2.1.below BA.out OO.out.2.2.2.2.1.lt
  have ZG : Hid (g < z) := by rw [← hz]; exact OO.out.2.2.2.2.1.lt
  obtain ⟨-, -, -, -, -, -, -, x7, -⟩ := W2.out.cells
  have c3 : w2.cell? ⟨g, 19, none⟩ = some (.int .i64 3) := (UB.out.unc (i := 2) (o := ⟨3, 1, 2, 3, 20, 0, 0, 0⟩) rfl).c3
  have t3 := UB.out.thaw 19
  have U3 : Hid (Ub (w2.setCell ⟨g, 19, none⟩ (.int .i64 2)) g SF.us rest) := UB.out.set3 (i := 2) (o := ⟨3, 1, 2, 3, 20, 0, 0, 0⟩) rfl 2
  have K3 : Hid (Kp g w2 (w2.setCell ⟨g, 19, none⟩ (.int .i64 2))) := Kp.set _ _ _
  clear X1 B1 hz
  go_upto_region 5 with fail
  clear x7 c3 t3
  generalize (w2.setCell ⟨g, 19, none⟩ (.int .i64 2)) = w3 at *
  have W3 : Hid (Wx w3 z (.int .i64 0) (.int .i64 4) (.int .i64 4) (.int .i64 2) (.slice m1 8 n1) (.slice m2 8 n2) (.slice m3 2 n3) (.slice (some ⟨g, 0, none⟩) 3 n4) (.slice m5 0 n5)) := W2.out.kp K3.out (by have := ZG.out; omega)
  have X3 : Hid (Bw w3 w.heap.size X (.slice p1 X.gs.length q1) (.slice p2 X.os.length q2) (.slice p3 X.gold.length q3) (.slice p4 X.us.length q4) (.slice p5 X.qs.length q5)) := X2.out.kp9 K3.out (by have := OO.out.2.2.2.2.2.2.2.2; omega)
  have B3 : Hid (Below w.heap.size w w3) := K3.out.below B2.out B2.out.size (by have := OO.out.2.2.2.2.2.2.2.2; omega)
  have L3 : Hid (Wl w3 (.agg #[.int .i64 0, .int .i64 4, .int .i64 4, .int .i64 2, .slice m1 8 n1, .slice m2 8 n2, .slice m3 2 n3, .slice (some ⟨g, 0, none⟩) 3 n4, .slice m5 0 n5]) SF) := by
    obtain ⟨o1, o2, o3, o5, hub, hkc, hcm, hcl, hg⟩ := OO.out
    refine ⟨_, _, _, _, _, rfl, Ow.ro (own_gb (Ow.below o1 BA.out) (gb_kp K3.out) (own_ne (Ow.below o1 BA.out) UB.out (by decide))), Ow.ro (own_gb (Ow.below o2 BA.out) (gb_kp K3.out) (own_ne (Ow.below o2 BA.out) UB.out (by decide))), Ow.ro (own_gb (Ow.below o3 BA.out) (gb_kp K3.out) (own_ne (Ow.below o3 BA.out) UB.out (by decide))), ?_, Jbo.l (own_gb (Jbo.below o5 BA.out) (gb_kp K3.out) (own_ne (Jbo.below o5 BA.out) UB.out (by decide)))⟩
    exact (U3.out.uno (base := 0) (cap := n4) (Nat.zero_le _) hkc hcm hcl).l
  clear W2 X2 B2 K3 U3 UB BA OO
  go_cut [7, 8, 9] (fun v7 v8 v9 V => v9 = .nilIface ∧ ∃ bf gf ge h4 he, v7 = .pointer (some ⟨bf, 0, none⟩) ∧ v8 = .slice (some ⟨ge, 0, none⟩) 1 he ∧ 3 ≤ h4 ∧ V.cell? ⟨bf, 7, none⟩ = some (.slice (some ⟨gf, 0, none⟩) 3 h4) ∧ V.cell? ⟨gf, 12, none⟩ = some (.int .i64 6) ∧ V.cell? ⟨ge, 2, none⟩ = some (.int .i64 2) ∧ Below w.heap.size w V ∧ Bw V w.heap.size X (.slice p1 X.gs.length q1) (.slice p2 X.os.length q2) (.slice p3 X.gold.length q3) (.slice p4 X.us.length q4) (.slice p5 X.qs.length q5))
  case first =>
    refine wp_region_float 7 [(true, 1), (false, 0), (false, 2), (true, 3), (true, 4), (true, 5), (true, 6)] [(false, 8), (false, 9)] [(false, 10)] (fun V => V.cell? ⟨z, 0, none⟩ = some (.int .i64 0) ∧ V.cell? ⟨z, 1, none⟩ = some (.int .i64 4) ∧ V.cell? ⟨z, 2, none⟩ = some (.int .i64 4) ∧ V.cell? ⟨z, 3, none⟩ = some (.int .i64 2) ∧ V.cell? ⟨z, 4, none⟩ = some (.slice m1 8 n1) ∧ V.cell? ⟨z, 5, none⟩ = some (.slice m2 8 n2) ∧ V.cell? ⟨z, 6, none⟩ = some (.slice m3 2 n3) ∧ V.cell? ⟨z, 7, none⟩ = some (.slice (some ⟨g, 0, none⟩) 3 n4) ∧ V.cell? ⟨z, 8, none⟩ = some (.slice m5 0 n5)) (by kernel_rfl) (by kernel_rfl) (by kernel_rfl) (by decide +kernel) (by decide +kernel) W3.out.cells ?_
    have FB : Hid (∀ A B : World, (Below w.heap.size w A ∧ Bw A w.heap.size X (.slice p1 X.gs.length q1) (.slice p2 X.os.length q2) (.slice p3 X.gold.length q3) (.slice p4 X.us.length q4) (.slice p5 X.qs.length q5) ∧ (A.cell? ⟨z, 0, none⟩ = some (.int .i64 0) ∧ A.cell? ⟨z, 1, none⟩ = some (.int .i64 4) ∧ A.cell? ⟨z, 2, none⟩ = some (.int .i64 4) ∧ A.cell? ⟨z, 3, none⟩ = some (.int .i64 2) ∧ A.cell? ⟨z, 4, none⟩ = some (.slice m1 8 n1) ∧ A.cell? ⟨z, 5, none⟩ = some (.slice m2 8 n2) ∧ A.cell? ⟨z, 6, none⟩ = some (.slice m3 2 n3) ∧ A.cell? ⟨z, 7, none⟩ = some (.slice (some ⟨g, 0, none⟩) 3 n4) ∧ A.cell? ⟨z, 8, none⟩ = some (.slice m5 0 n5))) → Below A.heap.size A B → (Below w.heap.size w B ∧ Bw B w.heap.size X (.slice p1 X.gs.length q1) (.slice p2 X.os.length q2) (.slice p3 X.gold.length q3) (.slice p4 X.us.length q4) (.slice p5 X.qs.length q5) ∧ (B.cell? ⟨z, 0, none⟩ = some (.int .i64 0) ∧ B.cell? ⟨z, 1, none⟩ = some (.int .i64 4) ∧ B.cell? ⟨z, 2, none⟩ = some (.int .i64 4) ∧ B.cell? ⟨z, 3, none⟩ = some (.int .i64 2) ∧ B.cell? ⟨z, 4, none⟩ = some (.slice m1 8 n1) ∧ B.cell? ⟨z, 5, none⟩ = some (.slice m2 8 n2) ∧ B.cell? ⟨z, 6, none⟩ = some (.slice m3 2 n3) ∧ B.cell? ⟨z, 7, none⟩ = some (.slice (some ⟨g, 0, none⟩) 3 n4) ∧ B.cell? ⟨z, 8, none⟩ = some (.slice m5 0 n5)))) := fun A B h hb => by
      obtain ⟨a1, a2, a3⟩ := h
      have hz : z < A.heap.size := cell_lt a3.1
      exact ⟨a1.trans (hb.mono a1.size), a2.below hb a2.lt, by rw [hb.cell (p := ⟨z, 0, none⟩) hz]; exact a3.1, by rw [hb.cell (p := ⟨z, 1, none⟩) hz]; exact a3.2.1, by rw [hb.cell (p := ⟨z, 2, none⟩) hz]; exact a3.2.2.1, by rw [hb.cell (p := ⟨z, 3, none⟩) hz]; exact a3.2.2.2.1, by rw [hb.cell (p := ⟨z, 4, none⟩) hz]; exact a3.2.2.2.2.1, by rw [hb.cell (p := ⟨z, 5, none⟩) hz]; exact a3.2.2.2.2.2.1, by rw [hb.cell (p := ⟨z, 6, none⟩) hz]; exact a3.2.2.2.2.2.2.1, by rw [hb.cell (p := ⟨z, 7, none⟩) hz]; exact a3.2.2.2.2.2.2.2.1, by rw [hb.cell (p := ⟨z, 8, none⟩) hz]; exact a3.2.2.2.2.2.2.2.2⟩
    have D0 : Hid (Below w3.heap.size w3 { w3 with drawn := w3.drawn + 1 }) := (Below.refl _ _).drew
    generalize ({ w3 with drawn := w3.drawn + 1 } : World) = v0 at *
    have Fv0 : Hid (Below w.heap.size w v0 ∧ Bw v0 w.heap.size X (.slice p1 X.gs.length q1) (.slice p2 X.os.length q2) (.slice p3 X.gold.length q3) (.slice p4 X.us.length q4) (.slice p5 X.qs.length q5) ∧ (v0.cell? ⟨z, 0, none⟩ = some (.int .i64 0) ∧ v0.cell? ⟨z, 1, none⟩ = some (.int .i64 4) ∧ v0.cell? ⟨z, 2, none⟩ = some (.int .i64 4) ∧ v0.cell? ⟨z, 3, none⟩ = some (.int .i64 2) ∧ v0.cell? ⟨z, 4, none⟩ = some (.slice m1 8 n1) ∧ v0.cell? ⟨z, 5, none⟩ = some (.slice m2 8 n2) ∧ v0.cell? ⟨z, 6, none⟩ = some (.slice m3 2 n3) ∧ v0.cell? ⟨z, 7, none⟩ = some (.slice (some ⟨g, 0, none⟩) 3 n4) ∧ v0.cell? ⟨z, 8, none⟩ = some (.slice m5 0 n5))) := FB.out w3 v0 ⟨B3.out, X3.out, W3.out.cells⟩ D0.out
    have L0 : Hid (Wl v0 (.agg #[.int .i64 0, .int .i64 4, .int .i64 4, .int .i64 2, .slice m1 8 n1, .slice m2 8 n2, .slice m3 2 n3, .slice (some ⟨g, 0, none⟩) 3 n4, .slice m5 0 n5]) SF) := L3.out.below D0.out
    clear W3 X3 B3 L3 D0
    have NEW : Hid (∀ V : World, (Below w.heap.size w V ∧ Bw V w.heap.size X (.slice p1 X.gs.length q1) (.slice p2 X.os.length q2) (.slice p3 X.gold.length q3) (.slice p4 X.us.length q4) (.slice p5 X.qs.length q5) ∧ (V.cell? ⟨z, 0, none⟩ = some (.int .i64 0) ∧ V.cell? ⟨z, 1, none⟩ = some (.int .i64 4) ∧ V.cell? ⟨z, 2, none⟩ = some (.int .i64 4) ∧ V.cell? ⟨z, 3, none⟩ = some (.int .i64 2) ∧ V.cell? ⟨z, 4, none⟩ = some (.slice m1 8 n1) ∧ V.cell? ⟨z, 5, none⟩ = some (.slice m2 8 n2) ∧ V.cell? ⟨z, 6, none⟩ = some (.slice m3 2 n3) ∧ V.cell? ⟨z, 7, none⟩ = some (.slice (some ⟨g, 0, none⟩) 3 n4) ∧ V.cell? ⟨z, 8, none⟩ = some (.slice m5 0 n5))) → Wx (V.alloc (Obj.cells #[.int .i64 0, .int .i64 0, .int .i64 0, .int .i64 0, .slice none 0 0, .slice none 0 0, .slice none 0 0, .slice none 0 0, .slice none 0 0] 29)) V.heap.size (.int .i64 0) (.int .i64 0) (.int .i64 0) (.int .i64 0) (.slice none 0 0) (.slice none 0 0) (.slice none 0 0) (.slice none 0 0) (.slice none 0 0) ∧ w.heap.size < V.heap.size ∧ z < V.heap.size ∧ Below V.heap.size V (V.alloc (Obj.cells #[.int .i64 0, .int .i64 0, .int .i64 0, .int .i64 0, .slice none 0 0, .slice none 0 0, .slice none 0 0, .slice none 0 0, .slice none 0 0] 29)) ∧ (V.alloc (Obj.cells #[.int .i64 0, .int .i64 0, .int .i64 0, .int .i64 0, .slice none 0 0, .slice none 0 0, .slice none 0 0, .slice none 0 0, .slice none 0 0] 29)).heap.size = V.heap.size + 1) := fun V h => ⟨Wx.new (.int .i64 0) (.int .i64 0) (.int .i64 0) (.int .i64 0) (.slice none 0 0) (.slice none 0 0) (.slice none 0 0) (.slice none 0 0) (.slice none 0 0) rfl, h.2.1.lt, cell_lt h.2.2.1, (Below.refl _ _).alloc (Nat.le_refl _) _, by simp⟩
    refine headA_read rfl (.agg #[.int .i64 0, .int .i64 4, .int .i64 4, .int .i64 2, .slice m1 8 n1, .slice m2 8 n2, .slice m3 2 n3, .slice (some ⟨g, 0, none⟩) 3 n4, .slice m5 0 n5]) (by go_simp) (fun V hV => by obtain ⟨x0, x1, x2, x3, x4, x5, x6, x7, x8⟩ := hV; go_simp) ?_
    go_simp
    refine headA_call rfl 12 #[] (by go_simp) (by go_simp) ?_ rfl (.pointer (some ⟨v0.heap.size, 0, none⟩)) (v0.alloc (Obj.cells #[.int .i64 0, .int .i64 0, .int .i64 0, .int .i64 0, .slice none 0 0, .slice none 0 0, .slice none 0 0, .slice none 0 0, .slice none 0 0] 29)) (by go_simp) (by go_simp) (FB.out _ _ Fv0.out (NEW.out v0 Fv0.out).2.2.2.1).2.2 ?_
    · refine (sorts_any v0).mono ?_
      rintro e v1 ⟨ku, rfl, hk, hb⟩
      have KU : Hid (Kl v1 ku SK) := hk
      have Fv1 : Hid (Below w.heap.size w v1 ∧ Bw v1 w.heap.size X (.slice p1 X.gs.length q1) (.slice p2 X.os.length q2) (.slice p3 X.gold.length q3) (.slice p4 X.us.length q4) (.slice p5 X.qs.length q5) ∧ (v1.cell? ⟨z, 0, none⟩ = some (.int .i64 0) ∧ v1.cell? ⟨z, 1, none⟩ = some (.int .i64 4) ∧ v1.cell? ⟨z, 2, none⟩ = some (.int .i64 4) ∧ v1.cell? ⟨z, 3, none⟩ = some (.int .i64 2) ∧ v1.cell? ⟨z, 4, none⟩ = some (.slice m1 8 n1) ∧ v1.cell? ⟨z, 5, none⟩ = some (.slice m2 8 n2) ∧ v1.cell? ⟨z, 6, none⟩ = some (.slice m3 2 n3) ∧ v1.cell? ⟨z, 7, none⟩ = some (.slice (some ⟨g, 0, none⟩) 3 n4) ∧ v1.cell? ⟨z, 8, none⟩ = some (.slice m5 0 n5))) := FB.out v0 v1 Fv0.out hb
      have LA : Hid (Wl v1 (.agg #[.int .i64 0, .int .i64 4, .int .i64 4, .int .i64 2, .slice m1 8 n1, .slice m2 8 n2, .slice m3 2 n3, .slice (some ⟨g, 0, none⟩) 3 n4, .slice m5 0 n5]) SF) := L0.out.below hb
      refine ⟨_, rfl, Fv1.out.2.2, ?_⟩
      clear hk hb Fv0 L0
      go_simp
      refine headA_call rfl 11 #[ku, .agg #[.int .i64 0, .int .i64 4, .int .i64 4, .int .i64 2, .slice m1 8 n1, .slice m2 8 n2, .slice m3 2 n3, .slice (some ⟨g, 0, none⟩) 3 n4, .slice m5 0 n5]] (by go_simp) (by go_simp) ?_ rfl (.pointer (some ⟨v1.heap.size, 0, none⟩)) (v1.alloc (Obj.cells #[.int .i64 0, .int .i64 0, .int .i64 0, .int .i64 0, .slice none 0 0, .slice none 0 0, .slice none 0 0, .slice none 0 0, .slice none 0 0] 29)) (by go_simp) (by go_simp) (FB.out _ _ Fv1.out (NEW.out v1 Fv1.out).2.2.2.1).2.2 ?_
      · refine (Fight_any ku _ SK SF v1 KU.out sm_names LA.out).mono ?_
        rintro e v2 ⟨v, ev, r, rfl, hr, hf, hb⟩
        rw [sf_fault] at hr
        obtain rfl := er_zero hr
        obtain ⟨f1, h1, f2, h2, f3, h3, gf, h4, f5, h5, ge, he, rfl, rfl, hgf, hge, h34, hc6, hc2⟩ := sm_fight hf
        have H4 : Hid (3 ≤ h4) := h34
        have CE : Hid (v2.cell? ⟨gf, 12, none⟩ = some (.int .i64 6) ∧ v2.cell? ⟨ge, 2, none⟩ = some (.int .i64 2)) := ⟨hc6, hc2⟩
        have Fv2 : Hid (Below w.heap.size w v2 ∧ Bw v2 w.heap.size X (.slice p1 X.gs.length q1) (.slice p2 X.os.length q2) (.slice p3 X.gold.length q3) (.slice p4 X.us.length q4) (.slice p5 X.qs.length q5) ∧ (v2.cell? ⟨z, 0, none⟩ = some (.int .i64 0) ∧ v2.cell? ⟨z, 1, none⟩ = some (.int .i64 4) ∧ v2.cell? ⟨z, 2, none⟩ = some (.int .i64 4) ∧ v2.cell? ⟨z, 3, none⟩ = some (.int .i64 2) ∧ v2.cell? ⟨z, 4, none⟩ = some (.slice m1 8 n1) ∧ v2.cell? ⟨z, 5, none⟩ = some (.slice m2 8 n2) ∧ v2.cell? ⟨z, 6, none⟩ = some (.slice m3 2 n3) ∧ v2.cell? ⟨z, 7, none⟩ = some (.slice (some ⟨g, 0, none⟩) 3 n4) ∧ v2.cell? ⟨z, 8, none⟩ = some (.slice m5 0 n5))) := FB.out v1 v2 Fv1.out hb
        refine ⟨_, rfl, Fv2.out.2.2, ?_⟩
        obtain ⟨n1', n2', n3', n4', n5'⟩ := NEW.out v2 Fv2.out
        have GL : Hid (gf < v2.heap.size ∧ ge < v2.heap.size) := ⟨cell_lt hc6, cell_lt hc2⟩
        obtain ⟨bf, hbf⟩ : ∃ z, v2.heap.size = z := ⟨_, rfl⟩
        clear hgf hge h34 hc6 hc2 hf hr hb LA KU Fv1
        go_simp
        refine headA_read rfl (.tuple #[.agg #[.int .i64 0, .int .i64 4, .int .i64 4, .int .i64 2, .slice f1 8 h1, .slice f2 8 h2, .slice f3 2 h3, .slice (some ⟨gf, 0, none⟩) 3 h4, .slice f5 0 h5], .slice (some ⟨ge, 0, none⟩) 1 he, .nilIface]) (by go_simp) (fun V hV => by go_simp) ?_
        go_simp
        refine headA_read rfl (.agg #[.int .i64 0, .int .i64 4, .int .i64 4, .int .i64 2, .slice f1 8 h1, .slice f2 8 h2, .slice f3 2 h3, .slice (some ⟨gf, 0, none⟩) 3 h4, .slice f5 0 h5]) (by go_simp) (fun V hV => by go_simp) ?_
        go_simp
        refine headA_read rfl (.slice (some ⟨ge, 0, none⟩) 1 he) (by go_simp) (fun V hV => by go_simp) ?_
        go_simp
        refine headA_read rfl (.nilIface) (by go_simp) (fun V hV => by go_simp) ?_
        go_simp
        refine headA_last rfl (.pointer (some ⟨v2.heap.size, 0, none⟩)) (v2.alloc (Obj.cells #[.int .i64 0, .int .i64 0, .int .i64 0, .int .i64 0, .slice none 0 0, .slice none 0 0, .slice none 0 0, .slice none 0 0, .slice none 0 0] 29)) (by go_simp) (by go_simp) (FB.out _ _ Fv2.out n4').2.2 ?_
        rw [hbf]
        go_simp
        have ZE : Hid (Wx (v2.alloc (Obj.cells #[.int .i64 0, .int .i64 0, .int .i64 0, .int .i64 0, .slice none 0 0, .slice none 0 0, .slice none 0 0, .slice none 0 0, .slice none 0 0] 29)) bf (.int .i64 0) (.int .i64 0) (.int .i64 0) (.int .i64 0) (.slice none 0 0) (.slice none 0 0) (.slice none 0 0) (.slice none 0 0) (.slice none 0 0)) := by rw [← hbf]; exact n1'
        have FE : Hid (Below w.heap.size w (v2.alloc (Obj.cells #[.int .i64 0, .int .i64 0, .int .i64 0, .int .i64 0, .slice none 0 0, .slice none 0 0, .slice none 0 0, .slice none 0 0, .slice none 0 0] 29)) ∧ Bw (v2.alloc (Obj.cells #[.int .i64 0, .int .i64 0, .int .i64 0, .int .i64 0, .slice none 0 0, .slice none 0 0, .slice none 0 0, .slice none 0 0, .slice none 0 0] 29)) w.heap.size X (.slice p1 X.gs.length q1) (.slice p2 X.os.length q2) (.slice p3 X.gold.length q3) (.slice p4 X.us.length q4) (.slice p5 X.qs.length q5) ∧ ((v2.alloc (Obj.cells #[.int .i64 0, .int .i64 0, .int .i64 0, .int .i64 0, .slice none 0 0, .slice none 0 0, .slice none 0 0, .slice none 0 0, .slice none 0 0] 29)).cell? ⟨z, 0, none⟩ = some (.int .i64 0) ∧ (v2.alloc (Obj.cells #[.int .i64 0, .int .i64 0, .int .i64 0, .int .i64 0, .slice none 0 0, .slice none 0 0, .slice none 0 0, .slice none 0 0, .slice none 0 0] 29)).cell? ⟨z, 1, none⟩ = some (.int .i64 4) ∧ (v2.alloc (Obj.cells #[.int .i64 0, .int .i64 0, .int .i64 0, .int .i64 0, .slice none 0 0, .slice none 0 0, .slice none 0 0, .slice none 0 0, .slice none 0 0] 29)).cell? ⟨z, 2, none⟩ = some (.int .i64 4) ∧ (v2.alloc (Obj.cells #[.int .i64 0, .int .i64 0, .int .i64 0, .int .i64 0, .slice none 0 0, .slice none 0 0, .slice none 0 0, .slice none 0 0, .slice none 0 0] 29)).cell? ⟨z, 3, none⟩ = some (.int .i64 2) ∧ (v2.alloc (Obj.cells #[.int .i64 0, .int .i64 0, .int .i64 0, .int .i64 0, .slice none 0 0, .slice none 0 0, .slice none 0 0, .slice none 0 0, .slice none 0 0] 29)).cell? ⟨z, 4, none⟩ = some (.slice m1 8 n1) ∧ (v2.alloc (Obj.cells #[.int .i64 0, .int .i64 0, .int .i64 0, .int .i64 0, .slice none 0 0, .slice none 0 0, .slice none 0 0, .slice none 0 0, .slice none 0 0] 29)).cell? ⟨z, 5, none⟩ = some (.slice m2 8 n2) ∧ (v2.alloc (Obj.cells #[.int .i64 0, .int .i64 0, .int .i64 0, .int .i64 0, .slice none 0 0, .slice none 0 0, .slice none 0 0, .slice none 0 0, .slice none 0 0] 29)).cell? ⟨z, 6, none⟩ = some (.slice m3 2 n3) ∧ (v2.alloc (Obj.cells #[.int .i64 0, .int .i64 0, .int .i64 0, .int .i64 0, .slice none 0 0, .slice none 0 0, .slice none 0 0, .slice none 0 0, .slice none 0 0] 29)).cell? ⟨z, 7, none⟩ = some (.slice (some ⟨g, 0, none⟩) 3 n4) ∧ (v2.alloc (Obj.cells #[.int .i64 0, .int .i64 0, .int .i64 0, .int .i64 0, .slice none 0 0, .slice none 0 0, .slice none 0 0, .slice none 0 0, .slice none 0 0] 29)).cell? ⟨z, 8, none⟩ = some (.slice m5 0 n5))) := FB.out _ _ Fv2.out n4'
        have CE2 : Hid ((v2.alloc (Obj.cells #[.int .i64 0, .int .i64 0, .int .i64 0, .int .i64 0, .slice none 0 0, .slice none 0 0, .slice none 0 0, .slice none 0 0, .slice none 0 0] 29)).cell? ⟨gf, 12, none⟩ = some (.int .i64 6) ∧ (v2.alloc (Obj.cells #[.int .i64 0, .int .i64 0, .int .i64 0, .int .i64 0, .slice none 0 0, .slice none 0 0, .slice none 0 0, .slice none 0 0, .slice none 0 0] 29)).cell? ⟨ge, 2, none⟩ = some (.int .i64 2)) := ⟨by rw [n4'.cell (p := ⟨gf, 12, none⟩) GL.out.1]; exact CE.out.1, by rw [n4'.cell (p := ⟨ge, 2, none⟩) GL.out.2]; exact CE.out.2⟩
        have NB : Hid (w.heap.size < bf ∧ z ≠ bf ∧ gf ≠ bf ∧ ge ≠ bf) := by have h5 := GL.out; exact ⟨by omega, by omega, by omega, by omega⟩
        clear n1' n2' n3' n4' n5' CE GL Fv2 hbf
        generalize (v2.alloc (Obj.cells #[.int .i64 0, .int .i64 0, .int .i64 0, .int .i64 0, .slice none 0 0, .slice none 0 0, .slice none 0 0, .slice none 0 0, .slice none 0 0] 29)) = v3 at *
        obtain ⟨z0, z1, z2, z3, z4, z5, z6, z7, z8⟩ := ZE.out.cells
        obtain ⟨t0, t1, t2, t3, t4, t5, t6, t7, t8⟩ := ZE.out.thaws
        have KZ : Hid (Kp bf v3 (((((((((v3.setCell ⟨bf, 0, none⟩ (.int .i64 0)).setCell ⟨bf, 1, none⟩ (.int .i64 4)).setCell ⟨bf, 2, none⟩ (.int .i64 4)).setCell ⟨bf, 3, none⟩ (.int .i64 2)).setCell ⟨bf, 4, none⟩ (.slice f1 8 h1)).setCell ⟨bf, 5, none⟩ (.slice f2 8 h2)).setCell ⟨bf, 6, none⟩ (.slice f3 2 h3)).setCell ⟨bf, 7, none⟩ (.slice (some ⟨gf, 0, none⟩) 3 h4)).setCell ⟨bf, 8, none⟩ (.slice f5 0 h5))) := put_kp _ _ _ _ _ _ _ _ _ _ _
        obtain ⟨-, -, -, -, -, -, -, w7, -⟩ := (ZE.out.put (.int .i64 0) (.int .i64 4) (.int .i64 4) (.int .i64 2) (.slice f1 8 h1) (.slice f2 8 h2) (.slice f3 2 h3) (.slice (some ⟨gf, 0, none⟩) 3 h4) (.slice f5 0 h5)).cells
        have FS : Hid (Below w.heap.size w (((((((((v3.setCell ⟨bf, 0, none⟩ (.int .i64 0)).setCell ⟨bf, 1, none⟩ (.int .i64 4)).setCell ⟨bf, 2, none⟩ (.int .i64 4)).setCell ⟨bf, 3, none⟩ (.int .i64 2)).setCell ⟨bf, 4, none⟩ (.slice f1 8 h1)).setCell ⟨bf, 5, none⟩ (.slice f2 8 h2)).setCell ⟨bf, 6, none⟩ (.slice f3 2 h3)).setCell ⟨bf, 7, none⟩ (.slice (some ⟨gf, 0, none⟩) 3 h4)).setCell ⟨bf, 8, none⟩ (.slice f5 0 h5)) ∧ Bw (((((((((v3.setCell ⟨bf, 0, none⟩ (.int .i64 0)).setCell ⟨bf, 1, none⟩ (.int .i64 4)).setCell ⟨bf, 2, none⟩ (.int .i64 4)).setCell ⟨bf, 3, none⟩ (.int .i64 2)).setCell ⟨bf, 4, none⟩ (.slice f1 8 h1)).setCell ⟨bf, 5, none⟩ (.slice f2 8 h2)).setCell ⟨bf, 6, none⟩ (.slice f3 2 h3)).setCell ⟨bf, 7, none⟩ (.slice (some ⟨gf, 0, none⟩) 3 h4)).setCell ⟨bf, 8, none⟩ (.slice f5 0 h5)) w.heap.size X (.slice p1 X.gs.length q1) (.slice p2 X.os.length q2) (.slice p3 X.gold.length q3) (.slice p4 X.us.length q4) (.slice p5 X.qs.length q5) ∧ ((((((((((v3.setCell ⟨bf, 0, none⟩ (.int .i64 0)).setCell ⟨bf, 1, none⟩ (.int .i64 4)).setCell ⟨bf, 2, none⟩ (.int .i64 4)).setCell ⟨bf, 3, none⟩ (.int .i64 2)).setCell ⟨bf, 4, none⟩ (.slice f1 8 h1)).setCell ⟨bf, 5, none⟩ (.slice f2 8 h2)).setCell ⟨bf, 6, none⟩ (.slice f3 2 h3)).setCell ⟨bf, 7, none⟩ (.slice (some ⟨gf, 0, none⟩) 3 h4)).setCell ⟨bf, 8, none⟩ (.slice f5 0 h5)).cell? ⟨z, 0, none⟩ = some (.int .i64 0) ∧ (((((((((v3.setCell ⟨bf, 0, none⟩ (.int .i64 0)).setCell ⟨bf, 1, none⟩ (.int .i64 4)).setCell ⟨bf, 2, none⟩ (.int .i64 4)).setCell ⟨bf, 3, none⟩ (.int .i64 2)).setCell ⟨bf, 4, none⟩ (.slice f1 8 h1)).setCell ⟨bf, 5, none⟩ (.slice f2 8 h2)).setCell ⟨bf, 6, none⟩ (.slice f3 2 h3)).setCell ⟨bf, 7, none⟩ (.slice (some ⟨gf, 0, none⟩) 3 h4)).setCell ⟨bf, 8, none⟩ (.slice f5 0 h5)).cell? ⟨z, 1, none⟩ = some (.int .i64 4) ∧ (((((((((v3.setCell ⟨bf, 0, none⟩ (.int .i64 0)).setCell ⟨bf, 1, none⟩ (.int .i64 4)).setCell ⟨bf, 2, none⟩ (.int .i64 4)).setCell ⟨bf, 3, none⟩ (.int .i64 2)).setCell ⟨bf, 4, none⟩ (.slice f1 8 h1)).setCell ⟨bf, 5, none⟩ (.slice f2 8 h2)).setCell ⟨bf, 6, none⟩ (.slice f3 2 h3)).setCell ⟨bf, 7, none⟩ (.slice (some ⟨gf, 0, none⟩) 3 h4)).setCell ⟨bf, 8, none⟩ (.slice f5 0 h5)).cell? ⟨z, 2, none⟩ = some (.int .i64 4) ∧ (((((((((v3.setCell ⟨bf, 0, none⟩ (.int .i64 0)).setCell ⟨bf, 1, none⟩ (.int .i64 4)).setCell ⟨bf, 2, none⟩ (.int .i64 4)).setCell ⟨bf, 3, none⟩ (.int .i64 2)).setCell ⟨bf, 4, none⟩ (.slice f1 8 h1)).setCell ⟨bf, 5, none⟩ (.slice f2 8 h2)).setCell ⟨bf, 6, none⟩ (.slice f3 2 h3)).setCell ⟨bf, 7, none⟩ (.slice (some ⟨gf, 0, none⟩) 3 h4)).setCell ⟨bf, 8, none⟩ (.slice f5 0 h5)).cell? ⟨z, 3, none⟩ = some (.int .i64 2) ∧ (((((((((v3.setCell ⟨bf, 0, none⟩ (.int .i64 0)).setCell ⟨bf, 1, none⟩ (.int .i64 4)).setCell ⟨bf, 2, none⟩ (.int .i64 4)).setCell ⟨bf, 3, none⟩ (.int .i64 2)).setCell ⟨bf, 4, none⟩ (.slice f1 8 h1)).setCell ⟨bf, 5, none⟩ (.slice f2 8 h2)).setCell ⟨bf, 6, none⟩ (.slice f3 2 h3)).setCell ⟨bf, 7, none⟩ (.slice (some ⟨gf, 0, none⟩) 3 h4)).setCell ⟨bf, 8, none⟩ (.slice f5 0 h5)).cell? ⟨z, 4, none⟩ = some (.slice m1 8 n1) ∧ (((((((((v3.setCell ⟨bf, 0, none⟩ (.int .i64 0)).setCell ⟨bf, 1, none⟩ (.int .i64 4)).setCell ⟨bf, 2, none⟩ (.int .i64 4)).setCell ⟨bf, 3, none⟩ (.int .i64 2)).setCell ⟨bf, 4, none⟩ (.slice f1 8 h1)).setCell ⟨bf, 5, none⟩ (.slice f2 8 h2)).setCell ⟨bf, 6, none⟩ (.slice f3 2 h3)).setCell ⟨bf, 7, none⟩ (.slice (some ⟨gf, 0, none⟩) 3 h4)).setCell ⟨bf, 8, none⟩ (.slice f5 0 h5)).cell? ⟨z, 5, none⟩ = some (.slice m2 8 n2) ∧ (((((((((v3.setCell ⟨bf, 0, none⟩ (.int .i64 0)).setCell ⟨bf, 1, none⟩ (.int .i64 4)).setCell ⟨bf, 2, none⟩ (.int .i64 4)).setCell ⟨bf, 3, none⟩ (.int .i64 2)).setCell ⟨bf, 4, none⟩ (.slice f1 8 h1)).setCell ⟨bf, 5, none⟩ (.slice f2 8 h2)).setCell ⟨bf, 6, none⟩ (.slice f3 2 h3)).setCell ⟨bf, 7, none⟩ (.slice (some ⟨gf, 0, none⟩) 3 h4)).setCell ⟨bf, 8, none⟩ (.slice f5 0 h5)).cell? ⟨z, 6, none⟩ = some (.slice m3 2 n3) ∧ (((((((((v3.setCell ⟨bf, 0, none⟩ (.int .i64 0)).setCell ⟨bf, 1, none⟩ (.int .i64 4)).setCell ⟨bf, 2, none⟩ (.int .i64 4)).setCell ⟨bf, 3, none⟩ (.int .i64 2)).setCell ⟨bf, 4, none⟩ (.slice f1 8 h1)).setCell ⟨bf, 5, none⟩ (.slice f2 8 h2)).setCell ⟨bf, 6, none⟩ (.slice f3 2 h3)).setCell ⟨bf, 7, none⟩ (.slice (some ⟨gf, 0, none⟩) 3 h4)).setCell ⟨bf, 8, none⟩ (.slice f5 0 h5)).cell? ⟨z, 7, none⟩ = some (.slice (some ⟨g, 0, none⟩) 3 n4) ∧ (((((((((v3.setCell ⟨bf, 0, none⟩ (.int .i64 0)).setCell ⟨bf, 1, none⟩ (.int .i64 4)).setCell ⟨bf, 2, none⟩ (.int .i64 4)).setCell ⟨bf, 3, none⟩ (.int .i64 2)).setCell ⟨bf, 4, none⟩ (.slice f1 8 h1)).setCell ⟨bf, 5, none⟩ (.slice f2 8 h2)).setCell ⟨bf, 6, none⟩ (.slice f3 2 h3)).setCell ⟨bf, 7, none⟩ (.slice (some ⟨gf, 0, none⟩) 3 h4)).setCell ⟨bf, 8, none⟩ (.slice f5 0 h5)).cell? ⟨z, 8, none⟩ = some (.slice m5 0 n5))) := by
          obtain ⟨a1, a2, a3⟩ := FE.out
          have hz := NB.out.2.1
          exact ⟨KZ.out.below a1 a1.size (by have := NB.out.1; omega), a2.kp9 KZ.out (by have := NB.out.1; omega), cell_kp9 a3.1 KZ.out hz, cell_kp9 a3.2.1 KZ.out hz, cell_kp9 a3.2.2.1 KZ.out hz, cell_kp9 a3.2.2.2.1 KZ.out hz, cell_kp9 a3.2.2.2.2.1 KZ.out hz, cell_kp9 a3.2.2.2.2.2.1 KZ.out hz, cell_kp9 a3.2.2.2.2.2.2.1 KZ.out hz, cell_kp9 a3.2.2.2.2.2.2.2.1 KZ.out hz, cell_kp9 a3.2.2.2.2.2.2.2.2 KZ.out hz⟩
        have D7 : Hid ((((((((((v3.setCell ⟨bf, 0, none⟩ (.int .i64 0)).setCell ⟨bf, 1, none⟩ (.int .i64 4)).setCell ⟨bf, 2, none⟩ (.int .i64 4)).setCell ⟨bf, 3, none⟩ (.int .i64 2)).setCell ⟨bf, 4, none⟩ (.slice f1 8 h1)).setCell ⟨bf, 5, none⟩ (.slice f2 8 h2)).setCell ⟨bf, 6, none⟩ (.slice f3 2 h3)).setCell ⟨bf, 7, none⟩ (.slice (some ⟨gf, 0, none⟩) 3 h4)).setCell ⟨bf, 8, none⟩ (.slice f5 0 h5)).cell? ⟨bf, 7, none⟩ = some (.slice (some ⟨gf, 0, none⟩) 3 h4) ∧ (((((((((v3.setCell ⟨bf, 0, none⟩ (.int .i64 0)).setCell ⟨bf, 1, none⟩ (.int .i64 4)).setCell ⟨bf, 2, none⟩ (.int .i64 4)).setCell ⟨bf, 3, none⟩ (.int .i64 2)).setCell ⟨bf, 4, none⟩ (.slice f1 8 h1)).setCell ⟨bf, 5, none⟩ (.slice f2 8 h2)).setCell ⟨bf, 6, none⟩ (.slice f3 2 h3)).setCell ⟨bf, 7, none⟩ (.slice (some ⟨gf, 0, none⟩) 3 h4)).setCell ⟨bf, 8, none⟩ (.slice f5 0 h5)).cell? ⟨gf, 12, none⟩ = some (.int .i64 6) ∧ (((((((((v3.setCell ⟨bf, 0, none⟩ (.int .i64 0)).setCell ⟨bf, 1, none⟩ (.int .i64 4)).setCell ⟨bf, 2, none⟩ (.int .i64 4)).setCell ⟨bf, 3, none⟩ (.int .i64 2)).setCell ⟨bf, 4, none⟩ (.slice f1 8 h1)).setCell ⟨bf, 5, none⟩ (.slice f2 8 h2)).setCell ⟨bf, 6, none⟩ (.slice f3 2 h3)).setCell ⟨bf, 7, none⟩ (.slice (some ⟨gf, 0, none⟩) 3 h4)).setCell ⟨bf, 8, none⟩ (.slice f5 0 h5)).cell? ⟨ge, 2, none⟩ = some (.int .i64 2)) := ⟨w7, cell_kp9 CE2.out.1 KZ.out NB.out.2.2.1, cell_kp9 CE2.out.2 KZ.out NB.out.2.2.2⟩
        clear w7
        refine headT_skip rfl (((((((((v3.setCell ⟨bf, 0, none⟩ (.int .i64 0)).setCell ⟨bf, 1, none⟩ (.int .i64 4)).setCell ⟨bf, 2, none⟩ (.int .i64 4)).setCell ⟨bf, 3, none⟩ (.int .i64 2)).setCell ⟨bf, 4, none⟩ (.slice f1 8 h1)).setCell ⟨bf, 5, none⟩ (.slice f2 8 h2)).setCell ⟨bf, 6, none⟩ (.slice f3 2 h3)).setCell ⟨bf, 7, none⟩ (.slice (some ⟨gf, 0, none⟩) 3 h4)).setCell ⟨bf, 8, none⟩ (.slice f5 0 h5)) (by go_simp) (by go_simp) FS.out.2.2 ?_
        clear z0 z1 z2 z3 z4 z5 z6 z7 z8 t0 t1 t2 t3 t4 t5 t6 t7 t8 KZ ZE FE CE2
        generalize (((((((((v3.setCell ⟨bf, 0, none⟩ (.int .i64 0)).setCell ⟨bf, 1, none⟩ (.int .i64 4)).setCell ⟨bf, 2, none⟩ (.int .i64 4)).setCell ⟨bf, 3, none⟩ (.int .i64 2)).setCell ⟨bf, 4, none⟩ (.slice f1 8 h1)).setCell ⟨bf, 5, none⟩ (.slice f2 8 h2)).setCell ⟨bf, 6, none⟩ (.slice f3 2 h3)).setCell ⟨bf, 7, none⟩ (.slice (some ⟨gf, 0, none⟩) 3 h4)).setCell ⟨bf, 8, none⟩ (.slice f5 0 h5)) = wE at *
        go_simp
        refine headT_value rfl (.slice (some ⟨ge, 0, none⟩) 1 he) wE (by go_simp) (by go_simp) FS.out.2.2 ?_
        go_simp
        unfold wpHeadT
        refine sched_value rfl .nilIface wE (by go_simp) (by go_simp) trivial ?_
        go_simp
        unfold wpSched
        go_wp2_with fail
        go_meet
        case rel => exact ⟨rfl, bf, gf, ge, h4, he, rfl, rfl, H4.out, D7.out.1, D7.out.2.1, D7.out.2.2, FS.out.1, FS.out.2.1⟩
      · obtain ⟨n1', n2', n3', n4', n5'⟩ := NEW.out v1 Fv1.out
        obtain ⟨bf, hbf⟩ : ∃ z, v1.heap.size = z := ⟨_, rfl⟩
        rw [hbf]
        go_simp
        have ZB : Hid (Wx (v1.alloc (Obj.cells #[.int .i64 0, .int .i64 0, .int .i64 0, .int .i64 0, .slice none 0 0, .slice none 0 0, .slice none 0 0, .slice none 0 0, .slice none 0 0] 29)) bf (.int .i64 0) (.int .i64 0) (.int .i64 0) (.int .i64 0) (.slice none 0 0) (.slice none 0 0) (.slice none 0 0) (.slice none 0 0) (.slice none 0 0)) := by rw [← hbf]; exact n1'
        have Fva : Hid (Below w.heap.size w (v1.alloc (Obj.cells #[.int .i64 0, .int .i64 0, .int .i64 0, .int .i64 0, .slice none 0 0, .slice none 0 0, .slice none 0 0, .slice none 0 0, .slice none 0 0] 29)) ∧ Bw (v1.alloc (Obj.cells #[.int .i64 0, .int .i64 0, .int .i64 0, .int .i64 0, .slice none 0 0, .slice none 0 0, .slice none 0 0, .slice none 0 0, .slice none 0 0] 29)) w.heap.size X (.slice p1 X.gs.length q1) (.slice p2 X.os.length q2) (.slice p3 X.gold.length q3) (.slice p4 X.us.length q4) (.slice p5 X.qs.length q5) ∧ ((v1.alloc (Obj.cells #[.int .i64 0, .int .i64 0, .int .i64 0, .int .i64 0, .slice none 0 0, .slice none 0 0, .slice none 0 0, .slice none 0 0, .slice none 0 0] 29)).cell? ⟨z, 0, none⟩ = some (.int .i64 0) ∧ (v1.alloc (Obj.cells #[.int .i64 0, .int .i64 0, .int .i64 0, .int .i64 0, .slice none 0 0, .slice none 0 0, .slice none 0 0, .slice none 0 0, .slice none 0 0] 29)).cell? ⟨z, 1, none⟩ = some (.int .i64 4) ∧ (v1.alloc (Obj.cells #[.int .i64 0, .int .i64 0, .int .i64 0, .int .i64 0, .slice none 0 0, .slice none 0 0, .slice none 0 0, .slice none 0 0, .slice none 0 0] 29)).cell? ⟨z, 2, none⟩ = some (.int .i64 4) ∧ (v1.alloc (Obj.cells #[.int .i64 0, .int .i64 0, .int .i64 0, .int .i64 0, .slice none 0 0, .slice none 0 0, .slice none 0 0, .slice none 0 0, .slice none 0 0] 29)).cell? ⟨z, 3, none⟩ = some (.int .i64 2) ∧ (v1.alloc (Obj.cells #[.int .i64 0, .int .i64 0, .int .i64 0, .int .i64 0, .slice none 0 0, .slice none 0 0, .slice none 0 0, .slice none 0 0, .slice none 0 0] 29)).cell? ⟨z, 4, none⟩ = some (.slice m1 8 n1) ∧ (v1.alloc (Obj.cells #[.int .i64 0, .int .i64 0, .int .i64 0, .int .i64 0, .slice none 0 0, .slice none 0 0, .slice none 0 0, .slice none 0 0, .slice none 0 0] 29)).cell? ⟨z, 5, none⟩ = some (.slice m2 8 n2) ∧ (v1.alloc (Obj.cells #[.int .i64 0, .int .i64 0, .int .i64 0, .int .i64 0, .slice none 0 0, .slice none 0 0, .slice none 0 0, .slice none 0 0, .slice none 0 0] 29)).cell? ⟨z, 6, none⟩ = some (.slice m3 2 n3) ∧ (v1.alloc (Obj.cells #[.int .i64 0, .int .i64 0, .int .i64 0, .int .i64 0, .slice none 0 0, .slice none 0 0, .slice none 0 0, .slice none 0 0, .slice none 0 0] 29)).cell? ⟨z, 7, none⟩ = some (.slice (some ⟨g, 0, none⟩) 3 n4) ∧ (v1.alloc (Obj.cells #[.int .i64 0, .int .i64 0, .int .i64 0, .int .i64 0, .slice none 0 0, .slice none 0 0, .slice none 0 0, .slice none 0 0, .slice none 0 0] 29)).cell? ⟨z, 8, none⟩ = some (.slice m5 0 n5))) := FB.out _ _ Fv1.out n4'
        have LB : Hid (Wl (v1.alloc (Obj.cells #[.int .i64 0, .int .i64 0, .int .i64 0, .int .i64 0, .slice none 0 0, .slice none 0 0, .slice none 0 0, .slice none 0 0, .slice none 0 0] 29)) (.agg #[.int .i64 0, .int .i64 4, .int .i64 4, .int .i64 2, .slice m1 8 n1, .slice m2 8 n2, .slice m3 2 n3, .slice (some ⟨g, 0, none⟩) 3 n4, .slice m5 0 n5]) SF) := LA.out.below n4'
        have KB : Hid (Kl (v1.alloc (Obj.cells #[.int .i64 0, .int .i64 0, .int .i64 0, .int .i64 0, .slice none 0 0, .slice none 0 0, .slice none 0 0, .slice none 0 0, .slice none 0 0] 29)) ku SK) := KU.out.below n4'
        have N0 : Hid (w.heap.size < bf ∧ z ≠ bf ∧ bf < (v1.alloc (Obj.cells #[.int .i64 0, .int .i64 0, .int .i64 0, .int .i64 0, .slice none 0 0, .slice none 0 0, .slice none 0 0, .slice none 0 0, .slice none 0 0] 29)).heap.size) := ⟨by omega, by omega, by omega⟩
        clear n1' n2' n3' n4' n5' LA KU Fv1 hbf
        generalize (v1.alloc (Obj.cells #[.int .i64 0, .int .i64 0, .int .i64 0, .int .i64 0, .slice none 0 0, .slice none 0 0, .slice none 0 0, .slice none 0 0, .slice none 0 0] 29)) = va at *
        refine headT_call rfl 11 #[ku, .agg #[.int .i64 0, .int .i64 4, .int .i64 4, .int .i64 2, .slice m1 8 n1, .slice m2 8 n2, .slice m3 2 n3, .slice (some ⟨g, 0, none⟩) 3 n4, .slice m5 0 n5]] (by go_simp) (by go_simp) ?_
        refine (Fight_any ku _ SK SF va KB.out sm_names LB.out).mono ?_
        rintro e v2 ⟨v, ev, r, rfl, hr, hf, hb⟩
        rw [sf_fault] at hr
        obtain rfl := er_zero hr
        obtain ⟨f1, h1, f2, h2, f3, h3, gf, h4, f5, h5, ge, he, rfl, rfl, hgf, hge, h34, hc6, hc2⟩ := sm_fight hf
        have H4 : Hid (3 ≤ h4) := h34
        have CE : Hid (v2.cell? ⟨gf, 12, none⟩ = some (.int .i64 6) ∧ v2.cell? ⟨ge, 2, none⟩ = some (.int .i64 2)) := ⟨hc6, hc2⟩
        have Fv2 : Hid (Below w.heap.size w v2 ∧ Bw v2 w.heap.size X (.slice p1 X.gs.length q1) (.slice p2 X.os.length q2) (.slice p3 X.gold.length q3) (.slice p4 X.us.length q4) (.slice p5 X.qs.length q5) ∧ (v2.cell? ⟨z, 0, none⟩ = some (.int .i64 0) ∧ v2.cell? ⟨z, 1, none⟩ = some (.int .i64 4) ∧ v2.cell? ⟨z, 2, none⟩ = some (.int .i64 4) ∧ v2.cell? ⟨z, 3, none⟩ = some (.int .i64 2) ∧ v2.cell? ⟨z, 4, none⟩ = some (.slice m1 8 n1) ∧ v2.cell? ⟨z, 5, none⟩ = some (.slice m2 8 n2) ∧ v2.cell? ⟨z, 6, none⟩ = some (.slice m3 2 n3) ∧ v2.cell? ⟨z, 7, none⟩ = some (.slice (some ⟨g, 0, none⟩) 3 n4) ∧ v2.cell? ⟨z, 8, none⟩ = some (.slice m5 0 n5))) := FB.out va v2 Fva.out hb
        have NB : Hid (w.heap.size < bf ∧ z ≠ bf ∧ gf ≠ bf ∧ ge ≠ bf) := by have h5 := N0.out; exact ⟨h5.1, h5.2.1, by omega, by omega⟩
        have ZE : Hid (Wx v2 bf (.int .i64 0) (.int .i64 0) (.int .i64 0) (.int .i64 0) (.slice none 0 0) (.slice none 0 0) (.slice none 0 0) (.slice none 0 0) (.slice none 0 0)) := ZB.out.below hb N0.out.2.2
        refine ⟨_, rfl, Fv2.out.2.2, ?_⟩
        clear hgf hge h34 hc6 hc2 hf hr hb LB KB Fva ZB N0
        go_simp
        refine headT_read rfl (.tuple #[.agg #[.int .i64 0, .int .i64 4, .int .i64 4, .int .i64 2, .slice f1 8 h1, .slice f2 8 h2, .slice f3 2 h3, .slice (some ⟨gf, 0, none⟩) 3 h4, .slice f5 0 h5], .slice (some ⟨ge, 0, none⟩) 1 he, .nilIface]) (by go_simp) (fun V hV => by go_simp) ?_
        go_simp
        refine headT_read rfl (.agg #[.int .i64 0, .int .i64 4, .int .i64 4, .int .i64 2, .slice f1 8 h1, .slice f2 8 h2, .slice f3 2 h3, .slice (some ⟨gf, 0, none⟩) 3 h4, .slice f5 0 h5]) (by go_simp) (fun V hV => by go_simp) ?_
        go_simp
        refine headT_read rfl (.slice (some ⟨ge, 0, none⟩) 1 he) (by go_simp) (fun V hV => by go_simp) ?_
        go_simp
        refine headT_read rfl (.nilIface) (by go_simp) (fun V hV => by go_simp) ?_
        go_simp
        obtain ⟨z0, z1, z2, z3, z4, z5, z6, z7, z8⟩ := ZE.out.cells
        obtain ⟨t0, t1, t2, t3, t4, t5, t6, t7, t8⟩ := ZE.out.thaws
        have KZ : Hid (Kp bf v2 (((((((((v2.setCell ⟨bf, 0, none⟩ (.int .i64 0)).setCell ⟨bf, 1, none⟩ (.int .i64 4)).setCell ⟨bf, 2, none⟩ (.int .i64 4)).setCell ⟨bf, 3, none⟩ (.int .i64 2)).setCell ⟨bf, 4, none⟩ (.slice f1 8 h1)).setCell ⟨bf, 5, none⟩ (.slice f2 8 h2)).setCell ⟨bf, 6, none⟩ (.slice f3 2 h3)).setCell ⟨bf, 7, none⟩ (.slice (some ⟨gf, 0, none⟩) 3 h4)).setCell ⟨bf, 8, none⟩ (.slice f5 0 h5))) := put_kp _ _ _ _ _ _ _ _ _ _ _
        obtain ⟨-, -, -, -, -, -, -, w7, -⟩ := (ZE.out.put (.int .i64 0) (.int .i64 4) (.int .i64 4) (.int .i64 2) (.slice f1 8 h1) (.slice f2 8 h2) (.slice f3 2 h3) (.slice (some ⟨gf, 0, none⟩) 3 h4) (.slice f5 0 h5)).cells
        have FS : Hid (Below w.heap.size w (((((((((v2.setCell ⟨bf, 0, none⟩ (.int .i64 0)).setCell ⟨bf, 1, none⟩ (.int .i64 4)).setCell ⟨bf, 2, none⟩ (.int .i64 4)).setCell ⟨bf, 3, none⟩ (.int .i64 2)).setCell ⟨bf, 4, none⟩ (.slice f1 8 h1)).setCell ⟨bf, 5, none⟩ (.slice f2 8 h2)).setCell ⟨bf, 6, none⟩ (.slice f3 2 h3)).setCell ⟨bf, 7, none⟩ (.slice (some ⟨gf, 0, none⟩) 3 h4)).setCell ⟨bf, 8, none⟩ (.slice f5 0 h5)) ∧ Bw (((((((((v2.setCell ⟨bf, 0, none⟩ (.int .i64 0)).setCell ⟨bf, 1, none⟩ (.int .i64 4)).setCell ⟨bf, 2, none⟩ (.int .i64 4)).setCell ⟨bf, 3, none⟩ (.int .i64 2)).setCell ⟨bf, 4, none⟩ (.slice f1 8 h1)).setCell ⟨bf, 5, none⟩ (.slice f2 8 h2)).setCell ⟨bf, 6, none⟩ (.slice f3 2 h3)).setCell ⟨bf, 7, none⟩ (.slice (some ⟨gf, 0, none⟩) 3 h4)).setCell ⟨bf, 8, none⟩ (.slice f5 0 h5)) w.heap.size X (.slice p1 X.gs.length q1) (.slice p2 X.os.length q2) (.slice p3 X.gold.length q3) (.slice p4 X.us.length q4) (.slice p5 X.qs.length q5) ∧ ((((((((((v2.setCell ⟨bf, 0, none⟩ (.int .i64 0)).setCell ⟨bf, 1, none⟩ (.int .i64 4)).setCell ⟨bf, 2, none⟩ (.int .i64 4)).setCell ⟨bf, 3, none⟩ (.int .i64 2)).setCell ⟨bf, 4, none⟩ (.slice f1 8 h1)).setCell ⟨bf, 5, none⟩ (.slice f2 8 h2)).setCell ⟨bf, 6, none⟩ (.slice f3 2 h3)).setCell ⟨bf, 7, none⟩ (.slice (some ⟨gf, 0, none⟩) 3 h4)).setCell ⟨bf, 8, none⟩ (.slice f5 0 h5)).cell? ⟨z, 0, none⟩ = some (.int .i64 0) ∧ (((((((((v2.setCell ⟨bf, 0, none⟩ (.int .i64 0)).setCell ⟨bf, 1, none⟩ (.int .i64 4)).setCell ⟨bf, 2, none⟩ (.int .i64 4)).setCell ⟨bf, 3, none⟩ (.int .i64 2)).setCell ⟨bf, 4, none⟩ (.slice f1 8 h1)).setCell ⟨bf, 5, none⟩ (.slice f2 8 h2)).setCell ⟨bf, 6, none⟩ (.slice f3 2 h3)).setCell ⟨bf, 7, none⟩ (.slice (some ⟨gf, 0, none⟩) 3 h4)).setCell ⟨bf, 8, none⟩ (.slice f5 0 h5)).cell? ⟨z, 1, none⟩ = some (.int .i64 4) ∧ (((((((((v2.setCell ⟨bf, 0, none⟩ (.int .i64 0)).setCell ⟨bf, 1, none⟩ (.int .i64 4)).setCell ⟨bf, 2, none⟩ (.int .i64 4)).setCell ⟨bf, 3, none⟩ (.int .i64 2)).setCell ⟨bf, 4, none⟩ (.slice f1 8 h1)).setCell ⟨bf, 5, none⟩ (.slice f2 8 h2)).setCell ⟨bf, 6, none⟩ (.slice f3 2 h3)).setCell ⟨bf, 7, none⟩ (.slice (some ⟨gf, 0, none⟩) 3 h4)).setCell ⟨bf, 8, none⟩ (.slice f5 0 h5)).cell? ⟨z, 2, none⟩ = some (.int .i64 4) ∧ (((((((((v2.setCell ⟨bf, 0, none⟩ (.int .i64 0)).setCell ⟨bf, 1, none⟩ (.int .i64 4)).setCell ⟨bf, 2, none⟩ (.int .i64 4)).setCell ⟨bf, 3, none⟩ (.int .i64 2)).setCell ⟨bf, 4, none⟩ (.slice f1 8 h1)).setCell ⟨bf, 5, none⟩ (.slice f2 8 h2)).setCell ⟨bf, 6, none⟩ (.slice f3 2 h3)).setCell ⟨bf, 7, none⟩ (.slice (some ⟨gf, 0, none⟩) 3 h4)).setCell ⟨bf, 8, none⟩ (.slice f5 0 h5)).cell? ⟨z, 3, none⟩ = some (.int .i64 2) ∧ (((((((((v2.setCell ⟨bf, 0, none⟩ (.int .i64 0)).setCell ⟨bf, 1, none⟩ (.int .i64 4)).setCell ⟨bf, 2, none⟩ (.int .i64 4)).setCell ⟨bf, 3, none⟩ (.int .i64 2)).setCell ⟨bf, 4, none⟩ (.slice f1 8 h1)).setCell ⟨bf, 5, none⟩ (.slice f2 8 h2)).setCell ⟨bf, 6, none⟩ (.slice f3 2 h3)).setCell ⟨bf, 7, none⟩ (.slice (some ⟨gf, 0, none⟩) 3 h4)).setCell ⟨bf, 8, none⟩ (.slice f5 0 h5)).cell? ⟨z, 4, none⟩ = some (.slice m1 8 n1) ∧ (((((((((v2.setCell ⟨bf, 0, none⟩ (.int .i64 0)).setCell ⟨bf, 1, none⟩ (.int .i64 4)).setCell ⟨bf, 2, none⟩ (.int .i64 4)).setCell ⟨bf, 3, none⟩ (.int .i64 2)).setCell ⟨bf, 4, none⟩ (.slice f1 8 h1)).setCell ⟨bf, 5, none⟩ (.slice f2 8 h2)).setCell ⟨bf, 6, none⟩ (.slice f3 2 h3)).setCell ⟨bf, 7, none⟩ (.slice (some ⟨gf, 0, none⟩) 3 h4)).setCell ⟨bf, 8, none⟩ (.slice f5 0 h5)).cell? ⟨z, 5, none⟩ = some (.slice m2 8 n2) ∧ (((((((((v2.setCell ⟨bf, 0, none⟩ (.int .i64 0)).setCell ⟨bf, 1, none⟩ (.int .i64 4)).setCell ⟨bf, 2, none⟩ (.int .i64 4)).setCell ⟨bf, 3, none⟩ (.int .i64 2)).setCell ⟨bf, 4, none⟩ (.slice f1 8 h1)).setCell ⟨bf, 5, none⟩ (.slice f2 8 h2)).setCell ⟨bf, 6, none⟩ (.slice f3 2 h3)).setCell ⟨bf, 7, none⟩ (.slice (some ⟨gf, 0, none⟩) 3 h4)).setCell ⟨bf, 8, none⟩ (.slice f5 0 h5)).cell? ⟨z, 6, none⟩ = some (.slice m3 2 n3) ∧ (((((((((v2.setCell ⟨bf, 0, none⟩ (.int .i64 0)).setCell ⟨bf, 1, none⟩ (.int .i64 4)).setCell ⟨bf, 2, none⟩ (.int .i64 4)).setCell ⟨bf, 3, none⟩ (.int .i64 2)).setCell ⟨bf, 4, none⟩ (.slice f1 8 h1)).setCell ⟨bf, 5, none⟩ (.slice f2 8 h2)).setCell ⟨bf, 6, none⟩ (.slice f3 2 h3)).setCell ⟨bf, 7, none⟩ (.slice (some ⟨gf, 0, none⟩) 3 h4)).setCell ⟨bf, 8, none⟩ (.slice f5 0 h5)).cell? ⟨z, 7, none⟩ = some (.slice (some ⟨g, 0, none⟩) 3 n4) ∧ (((((((((v2.setCell ⟨bf, 0, none⟩ (.int .i64 0)).setCell ⟨bf, 1, none⟩ (.int .i64 4)).setCell ⟨bf, 2, none⟩ (.int .i64 4)).setCell ⟨bf, 3, none⟩ (.int .i64 2)).setCell ⟨bf, 4, none⟩ (.slice f1 8 h1)).setCell ⟨bf, 5, none⟩ (.slice f2 8 h2)).setCell ⟨bf, 6, none⟩ (.slice f3 2 h3)).setCell ⟨bf, 7, none⟩ (.slice (some ⟨gf, 0, none⟩) 3 h4)).setCell ⟨bf, 8, none⟩ (.slice f5 0 h5)).cell? ⟨z, 8, none⟩ = some (.slice m5 0 n5))) := by
          obtain ⟨a1, a2, a3⟩ := Fv2.out
          have hz := NB.out.2.1
          exact ⟨KZ.out.below a1 a1.size (by have := NB.out.1; omega), a2.kp9 KZ.out (by have := NB.out.1; omega), cell_kp9 a3.1 KZ.out hz, cell_kp9 a3.2.1 KZ.out hz, cell_kp9 a3.2.2.1 KZ.out hz, cell_kp9 a3.2.2.2.1 KZ.out hz, cell_kp9 a3.2.2.2.2.1 KZ.out hz, cell_kp9 a3.2.2.2.2.2.1 KZ.out hz, cell_kp9 a3.2.2.2.2.2.2.1 KZ.out hz, cell_kp9 a3.2.2.2.2.2.2.2.1 KZ.out hz, cell_kp9 a3.2.2.2.2.2.2.2.2 KZ.out hz⟩
        have D7 : Hid ((((((((((v2.setCell ⟨bf, 0, none⟩ (.int .i64 0)).setCell ⟨bf, 1, none⟩ (.int .i64 4)).setCell ⟨bf, 2, none⟩ (.int .i64 4)).setCell ⟨bf, 3, none⟩ (.int .i64 2)).setCell ⟨bf, 4, none⟩ (.slice f1 8 h1)).setCell ⟨bf, 5, none⟩ (.slice f2 8 h2)).setCell ⟨bf, 6, none⟩ (.slice f3 2 h3)).setCell ⟨bf, 7, none⟩ (.slice (some ⟨gf, 0, none⟩) 3 h4)).setCell ⟨bf, 8, none⟩ (.slice f5 0 h5)).cell? ⟨bf, 7, none⟩ = some (.slice (some ⟨gf, 0, none⟩) 3 h4) ∧ (((((((((v2.setCell ⟨bf, 0, none⟩ (.int .i64 0)).setCell ⟨bf, 1, none⟩ (.int .i64 4)).setCell ⟨bf, 2, none⟩ (.int .i64 4)).setCell ⟨bf, 3, none⟩ (.int .i64 2)).setCell ⟨bf, 4, none⟩ (.slice f1 8 h1)).setCell ⟨bf, 5, none⟩ (.slice f2 8 h2)).setCell ⟨bf, 6, none⟩ (.slice f3 2 h3)).setCell ⟨bf, 7, none⟩ (.slice (some ⟨gf, 0, none⟩) 3 h4)).setCell ⟨bf, 8, none⟩ (.slice f5 0 h5)).cell? ⟨gf, 12, none⟩ = some (.int .i64 6) ∧ (((((((((v2.setCell ⟨bf, 0, none⟩ (.int .i64 0)).setCell ⟨bf, 1, none⟩ (.int .i64 4)).setCell ⟨bf, 2, none⟩ (.int .i64 4)).setCell ⟨bf, 3, none⟩ (.int .i64 2)).setCell ⟨bf, 4, none⟩ (.slice f1 8 h1)).setCell ⟨bf, 5, none⟩ (.slice f2 8 h2)).setCell ⟨bf, 6, none⟩ (.slice f3 2 h3)).setCell ⟨bf, 7, none⟩ (.slice (some ⟨gf, 0, none⟩) 3 h4)).setCell ⟨bf, 8, none⟩ (.slice f5 0 h5)).cell? ⟨ge, 2, none⟩ = some (.int .i64 2)) := ⟨w7, cell_kp9 CE.out.1 KZ.out NB.out.2.2.1, cell_kp9 CE.out.2 KZ.out NB.out.2.2.2⟩
        clear w7
        refine headT_skip rfl (((((((((v2.setCell ⟨bf, 0, none⟩ (.int .i64 0)).setCell ⟨bf, 1, none⟩ (.int .i64 4)).setCell ⟨bf, 2, none⟩ (.int .i64 4)).setCell ⟨bf, 3, none⟩ (.int .i64 2)).setCell ⟨bf, 4, none⟩ (.slice f1 8 h1)).setCell ⟨bf, 5, none⟩ (.slice f2 8 h2)).setCell ⟨bf, 6, none⟩ (.slice f3 2 h3)).setCell ⟨bf, 7, none⟩ (.slice (some ⟨gf, 0, none⟩) 3 h4)).setCell ⟨bf, 8, none⟩ (.slice f5 0 h5)) (by go_simp) (by go_simp) FS.out.2.2 ?_
        clear z0 z1 z2 z3 z4 z5 z6 z7 z8 t0 t1 t2 t3 t4 t5 t6 t7 t8 KZ ZE Fv2 CE
        generalize (((((((((v2.setCell ⟨bf, 0, none⟩ (.int .i64 0)).setCell ⟨bf, 1, none⟩ (.int .i64 4)).setCell ⟨bf, 2, none⟩ (.int .i64 4)).setCell ⟨bf, 3, none⟩ (.int .i64 2)).setCell ⟨bf, 4, none⟩ (.slice f1 8 h1)).setCell ⟨bf, 5, none⟩ (.slice f2 8 h2)).setCell ⟨bf, 6, none⟩ (.slice f3 2 h3)).setCell ⟨bf, 7, none⟩ (.slice (some ⟨gf, 0, none⟩) 3 h4)).setCell ⟨bf, 8, none⟩ (.slice f5 0 h5)) = wE at *
        go_simp
        refine headT_value rfl (.slice (some ⟨ge, 0, none⟩) 1 he) wE (by go_simp) (by go_simp) FS.out.2.2 ?_
        go_simp
        unfold wpHeadT
        refine sched_value rfl .nilIface wE (by go_simp) (by go_simp) trivial ?_
        go_simp
        unfold wpSched
        go_wp2_with fail
        go_meet
        case rel => exact ⟨rfl, bf, gf, ge, h4, he, rfl, rfl, H4.out, D7.out.1, D7.out.2.1, D7.out.2.2, FS.out.1, FS.out.2.1⟩
    · obtain ⟨n1', n2', n3', n4', n5'⟩ := NEW.out v0 Fv0.out
      obtain ⟨bf, hbf⟩ : ∃ z, v0.heap.size = z := ⟨_, rfl⟩
      rw [hbf]
      go_simp
      have ZB : Hid (Wx (v0.alloc (Obj.cells #[.int .i64 0, .int .i64 0, .int .i64 0, .int .i64 0, .slice none 0 0, .slice none 0 0, .slice none 0 0, .slice none 0 0, .slice none 0 0] 29)) bf (.int .i64 0) (.int .i64 0) (.int .i64 0) (.int .i64 0) (.slice none 0 0) (.slice none 0 0) (.slice none 0 0) (.slice none 0 0) (.slice none 0 0)) := by rw [← hbf]; exact n1'
      have Fva : Hid (Below w.heap.size w (v0.alloc (Obj.cells #[.int .i64 0, .int .i64 0, .int .i64 0, .int .i64 0, .slice none 0 0, .slice none 0 0, .slice none 0 0, .slice none 0 0, .slice none 0 0] 29)) ∧ Bw (v0.alloc (Obj.cells #[.int .i64 0, .int .i64 0, .int .i64 0, .int .i64 0, .slice none 0 0, .slice none 0 0, .slice none 0 0, .slice none 0 0, .slice none 0 0] 29)) w.heap.size X (.slice p1 X.gs.length q1) (.slice p2 X.os.length q2) (.slice p3 X.gold.length q3) (.slice p4 X.us.length q4) (.slice p5 X.qs.length q5) ∧ ((v0.alloc (Obj.cells #[.int .i64 0, .int .i64 0, .int .i64 0, .int .i64 0, .slice none 0 0, .slice none 0 0, .slice none 0 0, .slice none 0 0, .slice none 0 0] 29)).cell? ⟨z, 0, none⟩ = some (.int .i64 0) ∧ (v0.alloc (Obj.cells #[.int .i64 0, .int .i64 0, .int .i64 0, .int .i64 0, .slice none 0 0, .slice none 0 0, .slice none 0 0, .slice none 0 0, .slice none 0 0] 29)).cell? ⟨z, 1, none⟩ = some (.int .i64 4) ∧ (v0.alloc (Obj.cells #[.int .i64 0, .int .i64 0, .int .i64 0, .int .i64 0, .slice none 0 0, .slice none 0 0, .slice none 0 0, .slice none 0 0, .slice none 0 0] 29)).cell? ⟨z, 2, none⟩ = some (.int .i64 4) ∧ (v0.alloc (Obj.cells #[.int .i64 0, .int .i64 0, .int .i64 0, .int .i64 0, .slice none 0 0, .slice none 0 0, .slice none 0 0, .slice none 0 0, .slice none 0 0] 29)).cell? ⟨z, 3, none⟩ = some (.int .i64 2) ∧ (v0.alloc (Obj.cells #[.int .i64 0, .int .i64 0, .int .i64 0, .int .i64 0, .slice none 0 0, .slice none 0 0, .slice none 0 0, .slice none 0 0, .slice none 0 0] 29)).cell? ⟨z, 4, none⟩ = some (.slice m1 8 n1) ∧ (v0.alloc (Obj.cells #[.int .i64 0, .int .i64 0, .int .i64 0, .int .i64 0, .slice none 0 0, .slice none 0 0, .slice none 0 0, .slice none 0 0, .slice none 0 0] 29)).cell? ⟨z, 5, none⟩ = some (.slice m2 8 n2) ∧ (v0.alloc (Obj.cells #[.int .i64 0, .int .i64 0, .int .i64 0, .int .i64 0, .slice none 0 0, .slice none 0 0, .slice none 0 0, .slice none 0 0, .slice none 0 0] 29)).cell? ⟨z, 6, none⟩ = some (.slice m3 2 n3) ∧ (v0.alloc (Obj.cells #[.int .i64 0, .int .i64 0, .int .i64 0, .int .i64 0, .slice none 0 0, .slice none 0 0, .slice none 0 0, .slice none 0 0, .slice none 0 0] 29)).cell? ⟨z, 7, none⟩ = some (.slice (some ⟨g, 0, none⟩) 3 n4) ∧ (v0.alloc (Obj.cells #[.int .i64 0, .int .i64 0, .int .i64 0, .int .i64 0, .slice none 0 0, .slice none 0 0, .slice none 0 0, .slice none 0 0, .slice none 0 0] 29)).cell? ⟨z, 8, none⟩ = some (.slice m5 0 n5))) := FB.out _ _ Fv0.out n4'
      have LB : Hid (Wl (v0.alloc (Obj.cells #[.int .i64 0, .int .i64 0, .int .i64 0, .int .i64 0, .slice none 0 0, .slice none 0 0, .slice none 0 0, .slice none 0 0, .slice none 0 0] 29)) (.agg #[.int .i64 0, .int .i64 4, .int .i64 4, .int .i64 2, .slice m1 8 n1, .slice m2 8 n2, .slice m3 2 n3, .slice (some ⟨g, 0, none⟩) 3 n4, .slice m5 0 n5]) SF) := L0.out.below n4'
      have N0 : Hid (w.heap.size < bf ∧ z ≠ bf ∧ bf < (v0.alloc (Obj.cells #[.int .i64 0, .int .i64 0, .int .i64 0, .int .i64 0, .slice none 0 0, .slice none 0 0, .slice none 0 0, .slice none 0 0, .slice none 0 0] 29)).heap.size) := ⟨by omega, by omega, by omega⟩
      clear n1' n2' n3' n4' n5' L0 Fv0 hbf
      generalize (v0.alloc (Obj.cells #[.int .i64 0, .int .i64 0, .int .i64 0, .int .i64 0, .slice none 0 0, .slice none 0 0, .slice none 0 0, .slice none 0 0, .slice none 0 0] 29)) = va at *
      refine headT_call rfl 12 #[] (by go_simp) (by go_simp) ?_
      refine (sorts_any va).mono ?_
      rintro e vb ⟨ku, rfl, hk, hb⟩
      have KU : Hid (Kl vb ku SK) := hk
      have Fvb : Hid (Below w.heap.size w vb ∧ Bw vb w.heap.size X (.slice p1 X.gs.length q1) (.slice p2 X.os.length q2) (.slice p3 X.gold.length q3) (.slice p4 X.us.length q4) (.slice p5 X.qs.length q5) ∧ (vb.cell? ⟨z, 0, none⟩ = some (.int .i64 0) ∧ vb.cell? ⟨z, 1, none⟩ = some (.int .i64 4) ∧ vb.cell? ⟨z, 2, none⟩ = some (.int .i64 4) ∧ vb.cell? ⟨z, 3, none⟩ = some (.int .i64 2) ∧ vb.cell? ⟨z, 4, none⟩ = some (.slice m1 8 n1) ∧ vb.cell? ⟨z, 5, none⟩ = some (.slice m2 8 n2) ∧ vb.cell? ⟨z, 6, none⟩ = some (.slice m3 2 n3) ∧ vb.cell? ⟨z, 7, none⟩ = some (.slice (some ⟨g, 0, none⟩) 3 n4) ∧ vb.cell? ⟨z, 8, none⟩ = some (.slice m5 0 n5))) := FB.out va vb Fva.out hb
      have LA : Hid (Wl vb (.agg #[.int .i64 0, .int .i64 4, .int .i64 4, .int .i64 2, .slice m1 8 n1, .slice m2 8 n2, .slice m3 2 n3, .slice (some ⟨g, 0, none⟩) 3 n4, .slice m5 0 n5]) SF) := LB.out.below hb
      have ZC : Hid (Wx vb bf (.int .i64 0) (.int .i64 0) (.int .i64 0) (.int .i64 0) (.slice none 0 0) (.slice none 0 0) (.slice none 0 0) (.slice none 0 0) (.slice none 0 0)) := ZB.out.below hb N0.out.2.2
      have N1 : Hid (w.heap.size < bf ∧ z ≠ bf ∧ bf < vb.heap.size) := ⟨N0.out.1, N0.out.2.1, Nat.lt_of_lt_of_le N0.out.2.2 hb.size⟩
      refine ⟨_, rfl, Fvb.out.2.2, ?_⟩
      clear hk hb Fva LB ZB N0
      go_simp
      refine headT_call rfl 11 #[ku, .agg #[.int .i64 0, .int .i64 4, .int .i64 4, .int .i64 2, .slice m1 8 n1, .slice m2 8 n2, .slice m3 2 n3, .slice (some ⟨g, 0, none⟩) 3 n4, .slice m5 0 n5]] (by go_simp) (by go_simp) ?_
      refine (Fight_any ku _ SK SF vb KU.out sm_names LA.out).mono ?_
      rintro e v2 ⟨v, ev, r, rfl, hr, hf, hb⟩
      rw [sf_fault] at hr
      obtain rfl := er_zero hr
      obtain ⟨f1, h1, f2, h2, f3, h3, gf, h4, f5, h5, ge, he, rfl, rfl, hgf, hge, h34, hc6, hc2⟩ := sm_fight hf
      have H4 : Hid (3 ≤ h4) := h34
      have CE : Hid (v2.cell? ⟨gf, 12, none⟩ = some (.int .i64 6) ∧ v2.cell? ⟨ge, 2, none⟩ = some (.int .i64 2)) := ⟨hc6, hc2⟩
      have Fv2 : Hid (Below w.heap.size w v2 ∧ Bw v2 w.heap.size X (.slice p1 X.gs.length q1) (.slice p2 X.os.length q2) (.slice p3 X.gold.length q3) (.slice p4 X.us.length q4) (.slice p5 X.qs.length q5) ∧ (v2.cell? ⟨z, 0, none⟩ = some (.int .i64 0) ∧ v2.cell? ⟨z, 1, none⟩ = some (.int .i64 4) ∧ v2.cell? ⟨z, 2, none⟩ = some (.int .i64 4) ∧ v2.cell? ⟨z, 3, none⟩ = some (.int .i64 2) ∧ v2.cell? ⟨z, 4, none⟩ = some (.slice m1 8 n1) ∧ v2.cell? ⟨z, 5, none⟩ = some (.slice m2 8 n2) ∧ v2.cell? ⟨z, 6, none⟩ = some (.slice m3 2 n3) ∧ v2.cell? ⟨z, 7, none⟩ = some (.slice (some ⟨g, 0, none⟩) 3 n4) ∧ v2.cell? ⟨z, 8, none⟩ = some (.slice m5 0 n5))) := FB.out vb v2 Fvb.out hb
      have NB : Hid (w.heap.size < bf ∧ z ≠ bf ∧ gf ≠ bf ∧ ge ≠ bf) := by have h5 := N1.out; exact ⟨h5.1, h5.2.1, by omega, by omega⟩
      have ZE : Hid (Wx v2 bf (.int .i64 0) (.int .i64 0) (.int .i64 0) (.int .i64 0) (.slice none 0 0) (.slice none 0 0) (.slice none 0 0) (.slice none 0 0) (.slice none 0 0)) := ZC.out.below hb N1.out.2.2
      refine ⟨_, rfl, Fv2.out.2.2, ?_⟩
      clear hgf hge h34 hc6 hc2 hf hr hb LA KU Fvb ZC N1
      go_simp
      refine headT_read rfl (.tuple #[.agg #[.int .i64 0, .int .i64 4, .int .i64 4, .int .i64 2, .slice f1 8 h1, .slice f2 8 h2, .slice f3 2 h3, .slice (some ⟨gf, 0, none⟩) 3 h4, .slice f5 0 h5], .slice (some ⟨ge, 0, none⟩) 1 he, .nilIface]) (by go_simp) (fun V hV => by go_simp) ?_
      go_simp
      refine headT_read rfl (.agg #[.int .i64 0, .int .i64 4, .int .i64 4, .int .i64 2, .slice f1 8 h1, .slice f2 8 h2, .slice f3 2 h3, .slice (some ⟨gf, 0, none⟩) 3 h4, .slice f5 0 h5]) (by go_simp) (fun V hV => by go_simp) ?_
      go_simp
      refine headT_read rfl (.slice (some ⟨ge, 0, none⟩) 1 he) (by go_simp) (fun V hV => by go_simp) ?_
      go_simp
      refine headT_read rfl (.nilIface) (by go_simp) (fun V hV => by go_simp) ?_
      go_simp
      obtain ⟨z0, z1, z2, z3, z4, z5, z6, z7, z8⟩ := ZE.out.cells
      obtain ⟨t0, t1, t2, t3, t4, t5, t6, t7, t8⟩ := ZE.out.thaws
      have KZ : Hid (Kp bf v2 (((((((((v2.setCell ⟨bf, 0, none⟩ (.int .i64 0)).setCell ⟨bf, 1, none⟩ (.int .i64 4)).setCell ⟨bf, 2, none⟩ (.int .i64 4)).setCell ⟨bf, 3, none⟩ (.int .i64 2)).setCell ⟨bf, 4, none⟩ (.slice f1 8 h1)).setCell ⟨bf, 5, none⟩ (.slice f2 8 h2)).setCell ⟨bf, 6, none⟩ (.slice f3 2 h3)).setCell ⟨bf, 7, none⟩ (.slice (some ⟨gf, 0, none⟩) 3 h4)).setCell ⟨bf, 8, none⟩ (.slice f5 0 h5))) := put_kp _ _ _ _ _ _ _ _ _ _ _
      obtain ⟨-, -, -, -, -, -, -, w7, -⟩ := (ZE.out.put (.int .i64 0) (.int .i64 4) (.int .i64 4) (.int .i64 2) (.slice f1 8 h1) (.slice f2 8 h2) (.slice f3 2 h3) (.slice (some ⟨gf, 0, none⟩) 3 h4) (.slice f5 0 h5)).cells
      have FS : Hid (Below w.heap.size w (((((((((v2.setCell ⟨bf, 0, none⟩ (.int .i64 0)).setCell ⟨bf, 1, none⟩ (.int .i64 4)).setCell ⟨bf, 2, none⟩ (.int .i64 4)).setCell ⟨bf, 3, none⟩ (.int .i64 2)).setCell ⟨bf, 4, none⟩ (.slice f1 8 h1)).setCell ⟨bf, 5, none⟩ (.slice f2 8 h2)).setCell ⟨bf, 6, none⟩ (.slice f3 2 h3)).setCell ⟨bf, 7, none⟩ (.slice (some ⟨gf, 0, none⟩) 3 h4)).setCell ⟨bf, 8, none⟩ (.slice f5 0 h5)) ∧ Bw (((((((((v2.setCell ⟨bf, 0, none⟩ (.int .i64 0)).setCell ⟨bf, 1, none⟩ (.int .i64 4)).setCell ⟨bf, 2, none⟩ (.int .i64 4)).setCell ⟨bf, 3, none⟩ (.int .i64 2)).setCell ⟨bf, 4, none⟩ (.slice f1 8 h1)).setCell ⟨bf, 5, none⟩ (.slice f2 8 h2)).setCell ⟨bf, 6, none⟩ (.slice f3 2 h3)).setCell ⟨bf, 7, none⟩ (.slice (some ⟨gf, 0, none⟩) 3 h4)).setCell ⟨bf, 8, none⟩ (.slice f5 0 h5)) w.heap.size X (.slice p1 X.gs.length q1) (.slice p2 X.os.length q2) (.slice p3 X.gold.length q3) (.slice p4 X.us.length q4) (.slice p5 X.qs.length q5) ∧ ((((((((((v2.setCell ⟨bf, 0, none⟩ (.int .i64 0)).setCell ⟨bf, 1, none⟩ (.int .i64 4)).setCell ⟨bf, 2, none⟩ (.int .i64 4)).setCell ⟨bf, 3, none⟩ (.int .i64 2)).setCell ⟨bf, 4, none⟩ (.slice f1 8 h1)).setCell ⟨bf, 5, none⟩ (.slice f2 8 h2)).setCell ⟨bf, 6, none⟩ (.slice f3 2 h3)).setCell ⟨bf, 7, none⟩ (.slice (some ⟨gf, 0, none⟩) 3 h4)).setCell ⟨bf, 8, none⟩ (.slice f5 0 h5)).cell? ⟨z, 0, none⟩ = some (.int .i64 0) ∧ (((((((((v2.setCell ⟨bf, 0, none⟩ (.int .i64 0)).setCell ⟨bf, 1, none⟩ (.int .i64 4)).setCell ⟨bf, 2, none⟩ (.int .i64 4)).setCell ⟨bf, 3, none⟩ (.int .i64 2)).setCell ⟨bf, 4, none⟩ (.slice f1 8 h1)).setCell ⟨bf, 5, none⟩ (.slice f2 8 h2)).setCell ⟨bf, 6, none⟩ (.slice f3 2 h3)).setCell ⟨bf, 7, none⟩ (.slice (some ⟨gf, 0, none⟩) 3 h4)).setCell ⟨bf, 8, none⟩ (.slice f5 0 h5)).cell? ⟨z, 1, none⟩ = some (.int .i64 4) ∧ (((((((((v2.setCell ⟨bf, 0, none⟩ (.int .i64 0)).setCell ⟨bf, 1, none⟩ (.int .i64 4)).setCell ⟨bf, 2, none⟩ (.int .i64 4)).setCell ⟨bf, 3, none⟩ (.int .i64 2)).setCell ⟨bf, 4, none⟩ (.slice f1 8 h1)).setCell ⟨bf, 5, none⟩ (.slice f2 8 h2)).setCell ⟨bf, 6, none⟩ (.slice f3 2 h3)).setCell ⟨bf, 7, none⟩ (.slice (some ⟨gf, 0, none⟩) 3 h4)).setCell ⟨bf, 8, none⟩ (.slice f5 0 h5)).cell? ⟨z, 2, none⟩ = some (.int .i64 4) ∧ (((((((((v2.setCell ⟨bf, 0, none⟩ (.int .i64 0)).setCell ⟨bf, 1, none⟩ (.int .i64 4)).setCell ⟨bf, 2, none⟩ (.int .i64 4)).setCell ⟨bf, 3, none⟩ (.int .i64 2)).setCell ⟨bf, 4, none⟩ (.slice f1 8 h1)).setCell ⟨bf, 5, none⟩ (.slice f2 8 h2)).setCell ⟨bf, 6, none⟩ (.slice f3 2 h3)).setCell ⟨bf, 7, none⟩ (.slice (some ⟨gf, 0, none⟩) 3 h4)).setCell ⟨bf, 8, none⟩ (.slice f5 0 h5)).cell? ⟨z, 3, none⟩ = some (.int .i64 2) ∧ (((((((((v2.setCell ⟨bf, 0, none⟩ (.int .i64 0)).setCell ⟨bf, 1, none⟩ (.int .i64 4)).setCell ⟨bf, 2, none⟩ (.int .i64 4)).setCell ⟨bf, 3, none⟩ (.int .i64 2)).setCell ⟨bf, 4, none⟩ (.slice f1 8 h1)).setCell ⟨bf, 5, none⟩ (.slice f2 8 h2)).setCell ⟨bf, 6, none⟩ (.slice f3 2 h3)).setCell ⟨bf, 7, none⟩ (.slice (some ⟨gf, 0, none⟩) 3 h4)).setCell ⟨bf, 8, none⟩ (.slice f5 0 h5)).cell? ⟨z, 4, none⟩ = some (.slice m1 8 n1) ∧ (((((((((v2.setCell ⟨bf, 0, none⟩ (.int .i64 0)).setCell ⟨bf, 1, none⟩ (.int .i64 4)).setCell ⟨bf, 2, none⟩ (.int .i64 4)).setCell ⟨bf, 3, none⟩ (.int .i64 2)).setCell ⟨bf, 4, none⟩ (.slice f1 8 h1)).setCell ⟨bf, 5, none⟩ (.slice f2 8 h2)).setCell ⟨bf, 6, none⟩ (.slice f3 2 h3)).setCell ⟨bf, 7, none⟩ (.slice (some ⟨gf, 0, none⟩) 3 h4)).setCell ⟨bf, 8, none⟩ (.slice f5 0 h5)).cell? ⟨z, 5, none⟩ = some (.slice m2 8 n2) ∧ (((((((((v2.setCell ⟨bf, 0, none⟩ (.int .i64 0)).setCell ⟨bf, 1, none⟩ (.int .i64 4)).setCell ⟨bf, 2, none⟩ (.int .i64 4)).setCell ⟨bf, 3, none⟩ (.int .i64 2)).setCell ⟨bf, 4, none⟩ (.slice f1 8 h1)).setCell ⟨bf, 5, none⟩ (.slice f2 8 h2)).setCell ⟨bf, 6, none⟩ (.slice f3 2 h3)).setCell ⟨bf, 7, none⟩ (.slice (some ⟨gf, 0, none⟩) 3 h4)).setCell ⟨bf, 8, none⟩ (.slice f5 0 h5)).cell? ⟨z, 6, none⟩ = some (.slice m3 2 n3) ∧ (((((((((v2.setCell ⟨bf, 0, none⟩ (.int .i64 0)).setCell ⟨bf, 1, none⟩ (.int .i64 4)).setCell ⟨bf, 2, none⟩ (.int .i64 4)).setCell ⟨bf, 3, none⟩ (.int .i64 2)).setCell ⟨bf, 4, none⟩ (.slice f1 8 h1)).setCell ⟨bf, 5, none⟩ (.slice f2 8 h2)).setCell ⟨bf, 6, none⟩ (.slice f3 2 h3)).setCell ⟨bf, 7, none⟩ (.slice (some ⟨gf, 0, none⟩) 3 h4)).setCell ⟨bf, 8, none⟩ (.slice f5 0 h5)).cell? ⟨z, 7, none⟩ = some (.slice (some ⟨g, 0, none⟩) 3 n4) ∧ (((((((((v2.setCell ⟨bf, 0, none⟩ (.int .i64 0)).setCell ⟨bf, 1, none⟩ (.int .i64 4)).setCell ⟨bf, 2, none⟩ (.int .i64 4)).setCell ⟨bf, 3, none⟩ (.int .i64 2)).setCell ⟨bf, 4, none⟩ (.slice f1 8 h1)).setCell ⟨bf, 5, none⟩ (.slice f2 8 h2)).setCell ⟨bf, 6, none⟩ (.slice f3 2 h3)).setCell ⟨bf, 7, none⟩ (.slice (some ⟨gf, 0, none⟩) 3 h4)).setCell ⟨bf, 8, none⟩ (.slice f5 0 h5)).cell? ⟨z, 8, none⟩ = some (.slice m5 0 n5))) := by
        obtain ⟨a1, a2, a3⟩ := Fv2.out
        have hz := NB.out.2.1
        exact ⟨KZ.out.below a1 a1.size (by have := NB.out.1; omega), a2.kp9 KZ.out (by have := NB.out.1; omega), cell_kp9 a3.1 KZ.out hz, cell_kp9 a3.2.1 KZ.out hz, cell_kp9 a3.2.2.1 KZ.out hz, cell_kp9 a3.2.2.2.1 KZ.out hz, cell_kp9 a3.2.2.2.2.1 KZ.out hz, cell_kp9 a3.2.2.2.2.2.1 KZ.out hz, cell_kp9 a3.2.2.2.2.2.2.1 KZ.out hz, cell_kp9 a3.2.2.2.2.2.2.2.1 KZ.out hz, cell_kp9 a3.2.2.2.2.2.2.2.2 KZ.out hz⟩
      have D7 : Hid ((((((((((v2.setCell ⟨bf, 0, none⟩ (.int .i64 0)).setCell ⟨bf, 1, none⟩ (.int .i64 4)).setCell ⟨bf, 2, none⟩ (.int .i64 4)).setCell ⟨bf, 3, none⟩ (.int .i64 2)).setCell ⟨bf, 4, none⟩ (.slice f1 8 h1)).setCell ⟨bf, 5, none⟩ (.slice f2 8 h2)).setCell ⟨bf, 6, none⟩ (.slice f3 2 h3)).setCell ⟨bf, 7, none⟩ (.slice (some ⟨gf, 0, none⟩) 3 h4)).setCell ⟨bf, 8, none⟩ (.slice f5 0 h5)).cell? ⟨bf, 7, none⟩ = some (.slice (some ⟨gf, 0, none⟩) 3 h4) ∧ (((((((((v2.setCell ⟨bf, 0, none⟩ (.int .i64 0)).setCell ⟨bf, 1, none⟩ (.int .i64 4)).setCell ⟨bf, 2, none⟩ (.int .i64 4)).setCell ⟨bf, 3, none⟩ (.int .i64 2)).setCell ⟨bf, 4, none⟩ (.slice f1 8 h1)).setCell ⟨bf, 5, none⟩ (.slice f2 8 h2)).setCell ⟨bf, 6, none⟩ (.slice f3 2 h3)).setCell ⟨bf, 7, none⟩ (.slice (some ⟨gf, 0, none⟩) 3 h4)).setCell ⟨bf, 8, none⟩ (.slice f5 0 h5)).cell? ⟨gf, 12, none⟩ = some (.int .i64 6) ∧ (((((((((v2.setCell ⟨bf, 0, none⟩ (.int .i64 0)).setCell ⟨bf, 1, none⟩ (.int .i64 4)).setCell ⟨bf, 2, none⟩ (.int .i64 4)).setCell ⟨bf, 3, none⟩ (.int .i64 2)).setCell ⟨bf, 4, none⟩ (.slice f1 8 h1)).setCell ⟨bf, 5, none⟩ (.slice f2 8 h2)).setCell ⟨bf, 6, none⟩ (.slice f3 2 h3)).setCell ⟨bf, 7, none⟩ (.slice (some ⟨gf, 0, none⟩) 3 h4)).setCell ⟨bf, 8, none⟩ (.slice f5 0 h5)).cell? ⟨ge, 2, none⟩ = some (.int .i64 2)) := ⟨w7, cell_kp9 CE.out.1 KZ.out NB.out.2.2.1, cell_kp9 CE.out.2 KZ.out NB.out.2.2.2⟩
      clear w7
      refine headT_skip rfl (((((((((v2.setCell ⟨bf, 0, none⟩ (.int .i64 0)).setCell ⟨bf, 1, none⟩ (.int .i64 4)).setCell ⟨bf, 2, none⟩ (.int .i64 4)).setCell ⟨bf, 3, none⟩ (.int .i64 2)).setCell ⟨bf, 4, none⟩ (.slice f1 8 h1)).setCell ⟨bf, 5, none⟩ (.slice f2 8 h2)).setCell ⟨bf, 6, none⟩ (.slice f3 2 h3)).setCell ⟨bf, 7, none⟩ (.slice (some ⟨gf, 0, none⟩) 3 h4)).setCell ⟨bf, 8, none⟩ (.slice f5 0 h5)) (by go_simp) (by go_simp) FS.out.2.2 ?_
      clear z0 z1 z2 z3 z4 z5 z6 z7 z8 t0 t1 t2 t3 t4 t5 t6 t7 t8 KZ ZE Fv2 CE
      generalize (((((((((v2.setCell ⟨bf, 0, none⟩ (.int .i64 0)).setCell ⟨bf, 1, none⟩ (.int .i64 4)).setCell ⟨bf, 2, none⟩ (.int .i64 4)).setCell ⟨bf, 3, none⟩ (.int .i64 2)).setCell ⟨bf, 4, none⟩ (.slice f1 8 h1)).setCell ⟨bf, 5, none⟩ (.slice f2 8 h2)).setCell ⟨bf, 6, none⟩ (.slice f3 2 h3)).setCell ⟨bf, 7, none⟩ (.slice (some ⟨gf, 0, none⟩) 3 h4)).setCell ⟨bf, 8, none⟩ (.slice f5 0 h5)) = wE at *
      go_simp
      refine headT_value rfl (.slice (some ⟨ge, 0, none⟩) 1 he) wE (by go_simp) (by go_simp) FS.out.2.2 ?_
      go_simp
      unfold wpHeadT
      refine sched_value rfl .nilIface wE (by go_simp) (by go_simp) trivial ?_
      go_simp
      unfold wpSched
      go_wp2_with fail
      go_meet
      case rel => exact ⟨rfl, bf, gf, ge, h4, he, rfl, rfl, H4.out, D7.out.1, D7.out.2.1, D7.out.2.2, FS.out.1, FS.out.2.1⟩
  case rest =>
    obtain ⟨rfl, bf, gf, ge, h4, he, rfl, rfl, hh4, fx7, fc6, fc2, hB, hX⟩ := hcut
    have B4 : Hid (Below w.heap.size w wc) := hB
    have X4 : Hid (Bw wc w.heap.size X (.slice p1 X.gs.length q1) (.slice p2 X.os.length q2) (.slice p3 X.gold.length q3) (.slice p4 X.us.length q4) (.slice p5 X.qs.length q5)) := hX
    clear hB hX
    obtain ⟨x0, x1, x2, x3, x4, x5, x6, x7, x8⟩ := X4.out
    go_wp2_with fail
    refine (Fight_any _ _ ks X wc (K.out.1.below B4.out) K.out.2 (H.out.below B4.out)).mono ?_
    rintro e w5 ⟨v, ev, r, rfl, hr, hf, hb⟩
    have B5 : Hid (Below w.heap.size w w5) := B4.out.trans (hb.mono B4.out.size)
    have X5 : Hid (Bw w5 w.heap.size X (.slice p1 X.gs.length q1) (.slice p2 X.os.length q2) (.slice p3 X.gold.length q3) (.slice p4 X.us.length q4) (.slice p5 X.qs.length q5)) := X4.out.below hb X4.out.lt
    clear hb x0 x1 x2 x3 x4 x5 x6 x7 x8 fx7 fc6 fc2 hh4 X4 B4
    rcases hf with ⟨hf, rfl, rfl⟩ | ⟨WZ, Wn, hWn, hW1, hW2, ho, hev⟩
    · rcases hr with ⟨h, -⟩ | ⟨-, rfl⟩
      · exact absurd h hf
      have BZ : Hid (Below w.heap.size w (w5.alloc (Obj.cells #[.int .i64 0, .int .i64 0, .int .i64 0, .int .i64 0, .slice none 0 0, .slice none 0 0, .slice none 0 0, .slice none 0 0, .slice none 0 0] 29))) := B5.out.alloc B5.out.size _
      clear hf
      go_wp2
      go_ret
      exact ⟨rfl, BZ.out⟩
    rw [WZ] at hr
    obtain rfl := er_zero hr
    have WR : Hid (WRight ks X) := wright_of WZ
    obtain ⟨Y, hY⟩ : ∃ Y, fought ks Wn X = Y := ⟨_, rfl⟩
    obtain ⟨es, hes⟩ : ∃ l, fevents ks Wn X = l := ⟨_, rfl⟩
    have YW : Hid (Wd.wfault ks Y = 0 ∧ Y.us = stays ks Wn X ∧ Y.us.length ≤ X.us.length) := by
      refine ⟨by rw [← hY]; exact fought_right WR.out, by rw [← hY]; rfl, ?_⟩
      rw [← hY]
      show (stays ks Wn X).length ≤ _
      have h1 : (stays ks Wn X).length ≤ (struck ks Wn X).length := List.length_filter_le _ _
      have h2 : (struck ks Wn X).length = X.us.length := by unfold struck; exact hurt_len strikes_len'
      omega
    have EV : Hid (hitsOf ks X.us es = (strikes ks Wn X.us X.us).1 ∧ (∀ e ∈ es, EvOk ks X.us e)) := by rw [← hes]; exact hitsOf_all WR.out
    have ESL : Hid (es.length ≤ 80) := by
      rw [← hes]
      unfold Hid fevents
      have h1 := strikes_evlen (ks := ks) (W := Wn) (us := X.us) X.us (List.replicate X.us.length 0, [])
      have h2 : ((struck ks Wn X).filter fallenU).length ≤ (struck ks Wn X).length := List.length_filter_le _ _
      have h3 : (struck ks Wn X).length = X.us.length := by unfold struck; exact hurt_len strikes_len'
      have h4 := WR.out.ul
      rw [List.length_append, List.length_map]
      unfold strikes
      simp at h1
      omega
    rw [hY] at ho
    rw [hes] at hev
    have LY0 := ho.l
    obtain ⟨y1, y2, y3, y4, y5, rfl, o1, o2, o3, o4, o5⟩ := ho
    obtain ⟨s1, r1, rfl⟩ := o1.len
    obtain ⟨s2, r2, rfl⟩ := o2.len
    obtain ⟨s3, r3, rfl⟩ := o3.len
    obtain ⟨s4, r4, rfl⟩ := o4.len
    obtain ⟨s5, r5, rfl⟩ := o5.len
    have LY : Hid (Wl w5 (.agg #[.int .i64 Y.turn, .int .i64 Y.next, .int .i64 Y.wide, .int .i64 Y.high, .slice s1 Y.gs.length r1, .slice s2 Y.os.length r2, .slice s3 Y.gold.length r3, .slice s4 Y.us.length r4, .slice s5 Y.qs.length r5]) Y) := LY0
    obtain ⟨ae, ce, rfl⟩ := hev.len
    have EL : Hid (Evl w5 (.slice ae es.length ce) es) := hev.l
    have hce : es.length ≤ ce ∧ ce ≤ 9223372036854775807 := by
      obtain ⟨a9, c9, h9, h8, h7, -⟩ := hev.l
      injection h9 with _ _ h9
      subst h9
      exact ⟨h8, h7⟩
    obtain ⟨hce1, hce2⟩ := hce
    have hxl : X.us.length ≤ 40 := WR.out.ul
    have hyl : Y.us.length ≤ X.us.length := YW.out.2.2
    have hel : es.length ≤ 80 := ESL.out
    clear hY hes LY0 o1 o2 o3 o4 o5 hev hr WZ hWn hW1 hW2
    go_upto_region 9 with fail
    have BA : Hid (Below w5.heap.size w5 (w5.alloc (Obj.cells #[.int .i64 Y.turn, .int .i64 Y.next, .int .i64 Y.wide, .int .i64 Y.high, .slice s1 Y.gs.length r1, .slice s2 Y.os.length r2, .slice s3 Y.gold.length r3, .slice s4 Y.us.length r4, .slice s5 Y.qs.length r5] 29))) := (Below.refl _ _).alloc (Nat.le_refl _) _
    obtain ⟨bx, hbx⟩ : ∃ z, w5.heap.size = z := ⟨_, rfl⟩
    have Y6 : Hid (Bw (w5.alloc (Obj.cells #[.int .i64 Y.turn, .int .i64 Y.next, .int .i64 Y.wide, .int .i64 Y.high, .slice s1 Y.gs.length r1, .slice s2 Y.os.length r2, .slice s3 Y.gold.length r3, .slice s4 Y.us.length r4, .slice s5 Y.qs.length r5] 29)) bx Y (.slice s1 Y.gs.length r1) (.slice s2 Y.os.length r2) (.slice s3 Y.gold.length r3) (.slice s4 Y.us.length r4) (.slice s5 Y.qs.length r5)) := Bw.mk' Y _ _ _ _ _ hbx
    rw [hbx]
    generalize (w5.alloc (Obj.cells #[.int .i64 Y.turn, .int .i64 Y.next, .int .i64 Y.wide, .int .i64 Y.high, .slice s1 Y.gs.length r1, .slice s2 Y.os.length r2, .slice s3 Y.gold.length r3, .slice s4 Y.us.length r4, .slice s5 Y.qs.length r5] 29)) = w6 at *
    have B6 : Hid (Below w.heap.size w w6) := B5.out.trans (BA.out.mono B5.out.size)
    have X6 : Hid (Bw w6 w.heap.size X (.slice p1 X.gs.length q1) (.slice p2 X.os.length q2) (.slice p3 X.gold.length q3) (.slice p4 X.us.length q4) (.slice p5 X.qs.length q5)) := X5.out.below BA.out X5.out.lt
    clear hbx X5
    obtain ⟨x0, x1, x2, x3, x4, x5, x6, x7, x8⟩ := Y6.out
    go_wp2_with fail
    refine (right_fw _ _ ks Y w6 (K.out.1.below B6.out) K.out.2 (LY.out.below BA.out) YW.out.1).mono ?_
    rintro e w7 ⟨rfl, hb⟩
    have B57 : Hid (Below w5.heap.size w5 w7) := BA.out.trans (hb.mono BA.out.size)
    have B7 : Hid (Below w.heap.size w w7) := B6.out.trans (hb.mono B6.out.size)
    have X7 : Hid (Bw w7 w.heap.size X (.slice p1 X.gs.length q1) (.slice p2 X.os.length q2) (.slice p3 X.gold.length q3) (.slice p4 X.us.length q4) (.slice p5 X.qs.length q5)) := X6.out.below hb X6.out.lt
    have Y7 : Hid (Bw w7 bx Y (.slice s1 Y.gs.length r1) (.slice s2 Y.os.length r2) (.slice s3 Y.gold.length r3) (.slice s4 Y.us.length r4) (.slice s5 Y.qs.length r5)) := Y6.out.below hb Y6.out.lt
    clear hb x0 x1 x2 x3 x4 x5 x6 x7 x8 X6 Y6 B6 BA
    have x7 := X7.out.c7
    obtain ⟨w8, hmk, hbk, hb8, hs8⟩ := makeI X.us.length w7 (by omega)
    go_upto_region 15 with fail
    obtain ⟨hk, hhk⟩ : ∃ z, w7.heap.size = z := ⟨_, rfl⟩
    rw [hhk] at hbk hs8 ⊢
    have HB : Hid (Bk w8 hk (List.replicate X.us.length 0) #[]) := hbk
    have B58 : Hid (Below w5.heap.size w5 w8) := B57.out.trans (hb8.mono B57.out.size)
    have B8 : Hid (Below w.heap.size w w8) := B7.out.trans (hb8.mono B7.out.size)
    have X8 : Hid (Bw w8 w.heap.size X (.slice p1 X.gs.length q1) (.slice p2 X.os.length q2) (.slice p3 X.gold.length q3) (.slice p4 X.us.length q4) (.slice p5 X.qs.length q5)) := X7.out.below hb8 X7.out.lt
    have Y8 : Hid (Bw w8 bx Y (.slice s1 Y.gs.length r1) (.slice s2 Y.os.length r2) (.slice s3 Y.gold.length r3) (.slice s4 Y.us.length r4) (.slice s5 Y.qs.length r5)) := Y7.out.below hb8 Y7.out.lt
    have HK : Hid (w.heap.size < hk ∧ bx < hk ∧ w5.heap.size ≤ hk ∧ w8.heap.size = hk + 1) := ⟨by rw [← hhk]; exact X7.out.lt, by rw [← hhk]; exact Y7.out.lt, by rw [← hhk]; exact B57.out.size, hs8⟩
    clear x7 hmk hbk hb8 hs8 hhk X7 Y7 B7 B57
    go_upto_region 16 with fail
    go_loopw [14] (fun v14 V => ∃ n : Nat, v14 = .int .i64 (n : Nat) ∧ n ≤ es.length ∧ Bk V hk (hitsOf ks X.us (es.take n)) #[] ∧ Kp hk w8 V) (fun v14 _ => es.length - (intOf v14).toNat)
    case atStart => exact ⟨0, rfl, Nat.zero_le _, HB.out, Kp.refl _ _⟩
    case round =>
      obtain ⟨n, rfl, hn, hbk, hkp⟩ := hrel
      have HR : Hid (Bk wr hk (hitsOf ks X.us (es.take n)) #[]) := hbk
      have KP : Hid (Kp hk w8 wr) := hkp
      have BL : Hid (Below hk w8 wr) := hkp.below (Below.refl _ _) (by have := HK.out; omega) (Nat.le_refl _)
      have BR : Hid (Below w.heap.size w wr) := B8.out.trans (BL.out.mono (by have := HK.out; omega))
      have B5R : Hid (Below w5.heap.size w5 wr) := B58.out.trans (BL.out.mono HK.out.2.2.1)
      have XR : Hid (Bw wr w.heap.size X (.slice p1 X.gs.length q1) (.slice p2 X.os.length q2) (.slice p3 X.gold.length q3) (.slice p4 X.us.length q4) (.slice p5 X.qs.length q5)) := X8.out.below BL.out HK.out.1
      clear hbk hkp HB
      by_cases h0 : n = es.length
      · subst h0
        have hnl : ¬ (((es.length : Nat) : Int) < (es.length : Nat)) := by omega
        rw [List.take_of_length_le (Nat.le_refl _)] at HR
        obtain ⟨ls, hls⟩ : ∃ l, (strikes ks Wn X.us X.us).1 = l := ⟨_, rfl⟩
        have LS : Hid (ls.length = X.us.length ∧ (strikes ks Wn X.us X.us).1 = ls ∧ Upto 40000 ls) := ⟨by rw [← hls]; exact strikes_len', hls, by rw [← hls]; exact lost_upto WR.out⟩
        rw [EV.out.1, hls] at HR
        have YR : Hid (Bw wr bx Y (.slice s1 Y.gs.length r1) (.slice s2 Y.os.length r2) (.slice s3 Y.gold.length r3) (.slice s4 Y.us.length r4) (.slice s5 Y.qs.length r5)) := Y8.out.below BL.out HK.out.2.1
        clear hls KP BL
        generalize wr = wz at *
        go_upto_region 27 with fail
        go_loopw [17] (fun v17 V => ∃ n : Nat, v17 = .int .i64 (n : Nat) ∧ n ≤ X.us.length ∧ Below wz.heap.size wz V) (fun v17 _ => X.us.length - (intOf v17).toNat)
        case atStart => exact ⟨0, rfl, Nat.zero_le _, Below.refl _ _⟩
        case round =>
          obtain ⟨n, rfl, hn', hbb⟩ := hrel
          have BZ : Hid (Below wz.heap.size wz wr) := hbb
          have BQ : Hid (Below w.heap.size w wr) := BR.out.trans (hbb.mono BR.out.size)
          have B5Q : Hid (Below w5.heap.size w5 wr) := B5R.out.trans (hbb.mono B5R.out.size)
          have XQ : Hid (Bw wr w.heap.size X (.slice p1 X.gs.length q1) (.slice p2 X.os.length q2) (.slice p3 X.gold.length q3) (.slice p4 X.us.length q4) (.slice p5 X.qs.length q5)) := XR.out.below hbb XR.out.lt
          have YQ : Hid (Bw wr bx Y (.slice s1 Y.gs.length r1) (.slice s2 Y.os.length r2) (.slice s3 Y.gold.length r3) (.slice s4 Y.us.length r4) (.slice s5 Y.qs.length r5)) := YR.out.below hbb YR.out.lt
          have HQ : Hid (Bk wr hk ls #[]) := HR.out.below hbb
          clear hbb
          have x7 := XQ.out.c7
          by_cases h0 : n = X.us.length
          · subst h0
            have hnl : ¬ (((X.us.length : Nat) : Int) < (X.us.length : Nat)) := by omega
            have y7 := YQ.out.c7
            have hyl' : ((Y.us.length : Nat) : Int) ≤ (X.us.length : Nat) := by omega
            go_wp2
            go_ret
            exact ⟨rfl, BQ.out⟩
          · have hnl : n < X.us.length := by omega
            have hni : ((n : Nat) : Int) < (X.us.length : Nat) := by omega
            obtain ⟨u, hu⟩ : ∃ u, X.us[n]? = some u := ⟨_, List.getElem?_eq_getElem hnl⟩
            obtain ⟨x, hx⟩ : ∃ x, ls[n]? = some x := ⟨_, List.getElem?_eq_getElem (by rw [LS.out.1]; exact hnl)⟩
            have UX' : Hid (X.us[n]? = some u ∧ ls[n]? = some x ∧ (strikes ks Wn X.us X.us).1[n]? = some x) := ⟨hu, hx, by rw [LS.out.2.1]; exact hx⟩
            have xb := LS.out.2.2 x (List.mem_of_getElem? hx)
            have ub := (right_fit WR.out u (List.mem_of_getElem? hu)).2
            have WN : IntKind.i64.wrap ((n : Nat) + 1 : Int) = ((n : Nat) : Int) + 1 := by rw [IntKind.wrap_i64]; omega
            have wsub : IntKind.i64.wrap (u.life - x) = u.life - x := by rw [IntKind.wrap_i64]; omega
            obtain ⟨pa', pc', he', -, -, huc⟩ := H.out.slices.2.2.2.1
            obtain ⟨xu, hxu, hxul, hxuc⟩ := huc (by intro h; rw [h] at hnl; simp at hnl)
            injection he' with he1 he2 he3
            subst he1
            subst hxu
            have UN : Hid (Unc w (xu.add (n * 8)) u ∧ (xu.add (n * 8)).block < w.heap.size) := ⟨hxuc n u hu, by rw [add_block]; exact hxul⟩
            clear huc he2 he3 hxul hxuc xb ub hu hx x7
            have x7 := XQ.out.c7
            go_upto_region 29 with fail
            clear x7
            have C2 : Hid (∀ V, Below w.heap.size w V → Bw V bx Y (.slice s1 Y.gs.length r1) (.slice s2 Y.os.length r2) (.slice s3 Y.gold.length r3) (.slice s4 Y.us.length r4) (.slice s5 Y.qs.length r5) → Bw V w.heap.size X (.slice p1 X.gs.length q1) (.slice p2 X.os.length q2) (.slice p3 X.gold.length q3) (.slice (some xu) X.us.length q4) (.slice p5 X.qs.length q5) → (Bw V bx Y (.slice s1 Y.gs.length r1) (.slice s2 Y.os.length r2) (.slice s3 Y.gold.length r3) (.slice s4 Y.us.length r4) (.slice s5 Y.qs.length r5) ∧ V.cell? ⟨w.heap.size, 7, none⟩ = some (.slice (some xu) X.us.length q4) ∧ V.cell? (xu.add (n * 8)) = some (.int .i64 u.id))) := fun V hb hy hx => ⟨hy, hx.c7, (UN.out.1.below hb UN.out.2).c0⟩
            refine wp_region_two [(true, 0), (true, 1), (true, 2), (true, 3), (true, 4), (true, 5), (true, 6), (false, 7)] [(false, 8)] (fun V => Bw V bx Y (.slice s1 Y.gs.length r1) (.slice s2 Y.os.length r2) (.slice s3 Y.gold.length r3) (.slice s4 Y.us.length r4) (.slice s5 Y.qs.length r5) ∧ V.cell? ⟨w.heap.size, 7, none⟩ = some (.slice (some xu) X.us.length q4) ∧ V.cell? (xu.add (n * 8)) = some (.int .i64 u.id)) (by kernel_rfl) (by kernel_rfl) (by kernel_rfl) (by decide +kernel) (by decide +kernel) (C2.out _ BQ.out.drew (YQ.out.below ((Below.refl _ _).drew) YQ.out.lt) (XQ.out.below ((Below.refl _ _).drew) XQ.out.lt)) ?_
            have D1 : Hid (Below wr.heap.size wr { wr with drawn := wr.drawn + 1 }) := (Below.refl _ _).drew
            generalize ({ wr with drawn := wr.drawn + 1 } : World) = v1 at *
            have BZ1 : Hid (Below wz.heap.size wz v1) := BZ.out.trans (D1.out.mono BZ.out.size)
            have BQ1 : Hid (Below w.heap.size w v1) := BQ.out.trans (D1.out.mono BQ.out.size)
            have B51 : Hid (Below w5.heap.size w5 v1) := B5Q.out.trans (D1.out.mono B5Q.out.size)
            have X1 : Hid (Bw v1 w.heap.size X (.slice p1 X.gs.length q1) (.slice p2 X.os.length q2) (.slice p3 X.gold.length q3) (.slice (some xu) X.us.length q4) (.slice p5 X.qs.length q5)) := XQ.out.below D1.out XQ.out.lt
            have Y1 : Hid (Bw v1 bx Y (.slice s1 Y.gs.length r1) (.slice s2 Y.os.length r2) (.slice s3 Y.gold.length r3) (.slice s4 Y.us.length r4) (.slice s5 Y.qs.length r5)) := YQ.out.below D1.out YQ.out.lt
            have H1 : Hid (Bk v1 hk ls #[]) := HQ.out.below D1.out
            clear BZ BQ B5Q XQ YQ HQ D1
            refine headT_read rfl (.agg #[.int .i64 Y.turn, .int .i64 Y.next, .int .i64 Y.wide, .int .i64 Y.high, .slice s1 Y.gs.length r1, .slice s2 Y.os.length r2, .slice s3 Y.gold.length r3, .slice s4 Y.us.length r4, .slice s5 Y.qs.length r5]) (by go_simp) (fun V hV => by obtain ⟨⟨x0, x1, x2, x3, x4, x5, x6, x7, x8⟩, d1, d2⟩ := hV; go_simp) ?_
            go_simp
            refine headT_read rfl (.pointer (some ⟨w.heap.size, 7, none⟩)) (by go_simp) (fun V hV => by go_simp) ?_
            go_simp
            refine headT_read rfl (.slice (some xu) X.us.length q4) (by go_simp) (fun V hV => by obtain ⟨⟨x0, x1, x2, x3, x4, x5, x6, x7, x8⟩, d1, d2⟩ := hV; go_simp) ?_
            go_simp
            refine headT_read rfl (.int .i64 (n : Nat)) (by go_simp) (fun V hV => by go_simp) ?_
            go_simp
            refine headT_read rfl (.pointer (some (xu.add (n * 8)))) (by go_simp) (fun V hV => by go_simp) ?_
            go_simp
            refine headT_read rfl (.pointer (some (xu.add (n * 8)))) (by go_simp) (fun V hV => by go_simp) ?_
            go_simp
            refine headT_read rfl (.int .i64 u.id) (by go_simp) (fun V hV => by obtain ⟨⟨x0, x1, x2, x3, x4, x5, x6, x7, x8⟩, d1, d2⟩ := hV; go_simp) ?_
            go_simp
            refine headT_call rfl 14 #[.agg #[.int .i64 Y.turn, .int .i64 Y.next, .int .i64 Y.wide, .int .i64 Y.high, .slice s1 Y.gs.length r1, .slice s2 Y.os.length r2, .slice s3 Y.gold.length r3, .slice s4 Y.us.length r4, .slice s5 Y.qs.length r5], .int .i64 u.id] (by go_simp) (by go_simp) ?_
            refine (rfind_any _ Y u.id v1 (LY.out.below B51.out)).mono ?_
            rintro e' v2 ⟨r, rfl, hf, hb⟩
            rw [YW.out.2.1] at hf
            have SF' := stay_find WR.out UX'.out.1 UX'.out.2.2 hf
            have BZ2 : Hid (Below wz.heap.size wz v2) := BZ1.out.trans (hb.mono BZ1.out.size)
            have BQ2 : Hid (Below w.heap.size w v2) := BQ1.out.trans (hb.mono BQ1.out.size)
            have B52 : Hid (Below w5.heap.size w5 v2) := B51.out.trans (hb.mono B51.out.size)
            have X2 : Hid (Bw v2 w.heap.size X (.slice p1 X.gs.length q1) (.slice p2 X.os.length q2) (.slice p3 X.gold.length q3) (.slice (some xu) X.us.length q4) (.slice p5 X.qs.length q5)) := X1.out.below hb X1.out.lt
            have Y2 : Hid (Bw v2 bx Y (.slice s1 Y.gs.length r1) (.slice s2 Y.os.length r2) (.slice s3 Y.gold.length r3) (.slice s4 Y.us.length r4) (.slice s5 Y.qs.length r5)) := Y1.out.below hb Y1.out.lt
            have H2 : Hid (Bk v2 hk ls #[]) := H1.out.below hb
            refine ⟨_, rfl, C2.out _ BQ2.out Y2.out X2.out, ?_⟩
            clear hb hf BZ1 BQ1 B51 X1 Y1 H1 C2
            go_simp
            refine sched_value rfl (.int .i64 r) v2 (by go_simp) (by go_simp) trivial ?_
            go_simp
            unfold wpSched
            have x7 := X2.out.c7
            have hc := H2.out.cell UX'.out.2.1
            obtain ⟨d0, d1, d2, d3, d4, d5, d6, d7⟩ := UN.out.1.below BQ2.out UN.out.2
            rcases SF' with ⟨rfl, hle⟩ | ⟨k, rfl, hk', hlf⟩
            · have hlt : ¬ x < u.life := by omega
              go_upto_region 31 with fail
              go_quiet (fail)
              go_wp2
              go_round
              case rel => exact ⟨n + 1, by go_num, by omega, ⟨BZ2.out.os, BZ2.out.tape, BZ2.out.output, BZ2.out.size, BZ2.out.block⟩⟩
              case measure => simp [intOf]; omega
            · have hk0 : ¬ ((k : Nat) : Int) < 0 := by omega
              have hkl : k < Y.us.length := by rw [YW.out.2.1]; exact (List.getElem?_eq_some_iff.1 hk').1
              have HKU : Hid (Y.us[k]? = some { u with life := u.life - x } ∧ 1 ≤ u.life - x) := ⟨by rw [YW.out.2.1]; exact hk', hlf⟩
              clear hk' hlf
              go_upto_region 34 with fail
              have BA : Hid (Below v2.heap.size v2 (v2.alloc (Obj.cells #[.int .i64 u.id, .int .i64 u.player, .int .i64 u.kind, .int .i64 u.at_, .int .i64 u.life, .int .i64 u.load, .int .i64 u.task, .int .i64 u.goal] 38))) := (Below.refl _ _).alloc (Nat.le_refl _) _
              obtain ⟨bz, hbz⟩ : ∃ z, v2.heap.size = z := ⟨_, rfl⟩
              have U3 : Hid (Ub (v2.alloc (Obj.cells #[.int .i64 u.id, .int .i64 u.player, .int .i64 u.kind, .int .i64 u.at_, .int .i64 u.life, .int .i64 u.load, .int .i64 u.task, .int .i64 u.goal] 38)) bz [u] []) := ub_one u hbz
              have NB : Hid (hk < bz ∧ wz.heap.size ≤ bz ∧ w.heap.size < bz ∧ bx < bz ∧ w5.heap.size ≤ bz) := by
                rw [← hbz]
                exact ⟨H2.out.lt, BZ2.out.size, X2.out.lt, Y2.out.lt, B52.out.size⟩
              rw [hbz]
              generalize (v2.alloc (Obj.cells #[.int .i64 u.id, .int .i64 u.player, .int .i64 u.kind, .int .i64 u.at_, .int .i64 u.life, .int .i64 u.load, .int .i64 u.task, .int .i64 u.goal] 38)) = v3 at *
              have BZ3 : Hid (Below wz.heap.size wz v3) := BZ2.out.trans (BA.out.mono BZ2.out.size)
              have BQ3 : Hid (Below w.heap.size w v3) := BQ2.out.trans (BA.out.mono BQ2.out.size)
              have B53 : Hid (Below w5.heap.size w5 v3) := B52.out.trans (BA.out.mono B52.out.size)
              have Y3 : Hid (Bw v3 bx Y (.slice s1 Y.gs.length r1) (.slice s2 Y.os.length r2) (.slice s3 Y.gold.length r3) (.slice s4 Y.us.length r4) (.slice s5 Y.qs.length r5)) := Y2.out.below BA.out Y2.out.lt
              have H3 : Hid (Bk v3 hk ls #[]) := H2.out.below BA.out
              clear x7 hc d0 d1 d2 d3 d4 d5 d6 d7 hbz BA BZ2 BQ2 B52 X2 Y2 H2
              have C3 : Hid (∀ V, Bk V hk ls #[] → Ub V bz [u] [] → (V.cell? ⟨bz, 4, none⟩ = some (.int .i64 u.life) ∧ V.cell? ⟨hk, n, none⟩ = some (.int .i64 x))) := fun V hl hu => ⟨by have := (hu.unc (i := 0) (o := u) rfl).c4; rw [Nat.zero_mul, Nat.zero_add] at this; exact this, hl.cell UX'.out.2.1⟩
              refine wp_region_two [(true, 0), (true, 1), (true, 2), (true, 3), (true, 4), (true, 5), (true, 6), (true, 7)] [(false, 8)] (fun V => V.cell? ⟨bz, 4, none⟩ = some (.int .i64 u.life) ∧ V.cell? ⟨hk, n, none⟩ = some (.int .i64 x)) (by kernel_rfl) (by kernel_rfl) (by kernel_rfl) (by decide +kernel) (by decide +kernel) (C3.out _ (H3.out.below ((Below.refl _ _).drew)) (U3.out.below ((Below.refl _ _).drew) U3.out.lt)) ?_
              have D1 : Hid (Below v3.heap.size v3 { v3 with drawn := v3.drawn + 1 }) := (Below.refl _ _).drew
              generalize ({ v3 with drawn := v3.drawn + 1 } : World) = v4 at *
              have BZ4 : Hid (Below wz.heap.size wz v4) := BZ3.out.trans (D1.out.mono BZ3.out.size)
              have B54 : Hid (Below w5.heap.size w5 v4) := B53.out.trans (D1.out.mono B53.out.size)
              have Y4 : Hid (Bw v4 bx Y (.slice s1 Y.gs.length r1) (.slice s2 Y.os.length r2) (.slice s3 Y.gold.length r3) (.slice s4 Y.us.length r4) (.slice s5 Y.qs.length r5)) := Y3.out.below D1.out Y3.out.lt
              have U4 : Hid (Ub v4 bz [u] []) := U3.out.below D1.out U3.out.lt
              clear BZ3 BQ3 B53 Y3 H3 U3 D1 C3
              refine headT_read rfl (.pointer (some ⟨bz, 4, none⟩)) (by go_simp) (fun V hV => by go_simp) ?_
              go_simp
              refine headT_read rfl (.int .i64 u.life) (by go_simp) (fun V hV => by obtain ⟨d1, d2⟩ := hV; go_simp) ?_
              go_simp
              refine headT_read rfl (.slice (some ⟨hk, 0, none⟩) X.us.length X.us.length) (by go_simp) (fun V hV => by go_simp) ?_
              go_simp
              refine headT_read rfl (.int .i64 (n : Nat)) (by go_simp) (fun V hV => by go_simp) ?_
              go_simp
              refine headT_read rfl (.pointer (some ⟨hk, n, none⟩)) (by go_simp) (fun V hV => by go_simp) ?_
              go_simp
              refine headT_read rfl (.int .i64 x) (by go_simp) (fun V hV => by obtain ⟨d1, d2⟩ := hV; go_simp) ?_
              go_simp
              refine headT_read rfl (.int .i64 (u.life - x)) (by go_simp) (fun V hV => by go_simp) ?_
              go_simp
              refine headT_read rfl (.pointer (some ⟨bz, 4, none⟩)) (by go_simp) (fun V hV => by go_simp) ?_
              go_simp
              unfold wpHeadT
              have t4 := U4.out.thaw 4
              have c4 : v4.cell? ⟨bz, 4, none⟩ = some (.int .i64 u.life) := by have := (U4.out.unc (i := 0) (o := u) rfl).c4; rw [Nat.zero_mul, Nat.zero_add] at this; exact this
              have U5 : Hid (Ub (v4.setCell ⟨bz, 4, none⟩ (.int .i64 (u.life - x))) bz [{ u with life := u.life - x }] []) := by
                have := U4.out.set4 (i := 0) (o := u) rfl (u.life - x)
                rw [Nat.zero_mul, Nat.zero_add] at this
                exact this
              have K5 : Hid (Kp bz v4 (v4.setCell ⟨bz, 4, none⟩ (.int .i64 (u.life - x)))) := Kp.set _ _ _
              refine sched_skip rfl (v4.setCell ⟨bz, 4, none⟩ (.int .i64 (u.life - x))) (by go_simp) (by go_simp) trivial ?_
              go_simp
              clear t4 c4
              generalize (v4.setCell ⟨bz, 4, none⟩ (.int .i64 (u.life - x))) = v5 at *
              unfold wpSched
              have BZ5 : Hid (Below wz.heap.size wz v5) := K5.out.below BZ4.out BZ4.out.size NB.out.2.1
              have B55 : Hid (Below w5.heap.size w5 v5) := K5.out.below B54.out B54.out.size NB.out.2.2.2.2
              have y7 := (Y4.out.kp9 K5.out (by have := NB.out.2.2.2.1; omega)).c7
              obtain ⟨m, hm⟩ : ∃ m : UnV, { u with life := u.life - x } = m := ⟨_, rfl⟩
              have hml : m.life = u.life - x := by rw [← hm]
              have hm1 : ¬ m.life < 1 := by have := HKU.out.2; omega
              rw [hm] at U5 HKU
              obtain ⟨a9, c9, h9, -, -, hyc⟩ := (LY.out.below B55.out).slices.2.2.2.1
              obtain ⟨xy, hxy, hxyl, hxyc⟩ := hyc (by intro h; rw [h] at hkl; simp at hkl)
              injection h9 with h91 h92 h93
              subst h91
              subst hxy
              obtain ⟨d0, d1, d2, d3, d4, d5, d6, d7⟩ := hxyc k m HKU.out.1
              obtain ⟨q0, q1, q2, q3, q4', q5', q6, q7⟩ := U5.out.unc (i := 0) (o := m) rfl
              simp only [Nat.zero_mul, Nat.zero_add] at q0 q1 q2 q3 q4' q5' q6 q7
              clear hyc h92 h93 hxyl hxyc hm hml BZ4 B54 Y4 U4 K5
              have hki : ((k : Nat) : Int) < (Y.us.length : Nat) := by omega
              go_upto_region 35 with fail
              go_quiet (fail)
              go_wp2
              go_round
              case rel => exact ⟨n + 1, by go_num, by omega, ⟨BZ5.out.os, BZ5.out.tape, BZ5.out.output, BZ5.out.size, BZ5.out.block⟩⟩
              case measure => simp [intOf]; omega
      · have hnl : n < es.length := by omega
        have hni : ((n : Nat) : Int) < (es.length : Nat) := by omega
        obtain ⟨e, he⟩ : ∃ e, es[n]? = some e := ⟨_, List.getElem?_eq_getElem hnl⟩
        have EK := EV.out.2 e (List.mem_of_getElem? he)
        have NX : Hid (hitsOf ks X.us (es.take (n + 1)) = evHit ks X.us (hitsOf ks X.us (es.take n)) e) := hitsOf_next he
        have WN : IntKind.i64.wrap ((n : Nat) + 1 : Int) = ((n : Nat) : Int) + 1 := by rw [IntKind.wrap_i64]; omega
        obtain ⟨a9, c9, h9, -, -, hec⟩ := EL.out
        obtain ⟨xe, hxe, hxel, hxec⟩ := hec (by intro h; rw [h] at hnl; simp at hnl)
        injection h9 with h91 h92 h93
        subst h91
        subst hxe
        have EC : Hid (Evc w5 (xe.add (n * 3)) e ∧ (xe.add (n * 3)).block < w5.heap.size) := ⟨hxec n e he, by rw [add_block]; exact hxel⟩
        clear hec h92 h93 hxel hxec he
        obtain ⟨i, u, hui, hue⟩ : ∃ (i : Nat) (u : UnV), X.us[i]? = some u ∧ u.id = e.unit := by
          rcases EK with ⟨-, i, j, u, x, k, h1, -, h2, -⟩ | ⟨-, i, u, h1, h2⟩
          · exact ⟨i, u, h1, h2⟩
          · exact ⟨i, u, h1, h2⟩
        have UI : Hid (X.us[i]? = some u ∧ u.id = e.unit) := ⟨hui, hue⟩
        have hil : i < X.us.length := (List.getElem?_eq_some_iff.1 hui).1
        obtain ⟨pa', pc', he', -, -, hu⟩ := H.out.slices.2.2.2.1
        obtain ⟨xu, hxu, hxul, hxuc⟩ := hu (by intro h; rw [h] at hil; simp at hil)
        injection he' with he1 he2 he3
        subst he1
        subst hxu
        have UC : Hid ((∀ (i : Nat) k, X.us[i]? = some k → Unc w (xu.add (i * 8)) k) ∧ xu.block < w.heap.size) := ⟨hxuc, hxul⟩
        have EKH : Hid (EvOk ks X.us e) := EK
        clear hu he2 he3 hxul hxuc EK hui hue
        have CE : Hid (∀ V, Below w.heap.size w V → Below w5.heap.size w5 V → Bw V w.heap.size X (.slice p1 X.gs.length q1) (.slice p2 X.os.length q2) (.slice p3 X.gold.length q3) (.slice (some xu) X.us.length q4) (.slice p5 X.qs.length q5) → (Bw V w.heap.size X (.slice p1 X.gs.length q1) (.slice p2 X.os.length q2) (.slice p3 X.gold.length q3) (.slice (some xu) X.us.length q4) (.slice p5 X.qs.length q5) ∧ Evc V (xe.add (n * 3)) e)) := fun V _ h5 hx => ⟨hx, EC.out.1.below h5 EC.out.2⟩
        go_upto_region 18 with fail
        refine wp_region_two [(true, 0), (true, 1), (true, 2), (true, 3), (true, 4), (true, 5), (false, 6)] [(false, 7)] (fun V => Bw V w.heap.size X (.slice p1 X.gs.length q1) (.slice p2 X.os.length q2) (.slice p3 X.gold.length q3) (.slice (some xu) X.us.length q4) (.slice p5 X.qs.length q5) ∧ Evc V (xe.add (n * 3)) e) (by kernel_rfl) (by kernel_rfl) (by kernel_rfl) (by decide +kernel) (by decide +kernel) (CE.out _ BR.out.drew B5R.out.drew (XR.out.below ((Below.refl _ _).drew) XR.out.lt)) ?_
        have D1 : Hid (Below wr.heap.size wr { wr with drawn := wr.drawn + 1 }) := (Below.refl _ _).drew
        generalize ({ wr with drawn := wr.drawn + 1 } : World) = v1 at *
        have BR1 : Hid (Below w.heap.size w v1) := BR.out.trans (D1.out.mono BR.out.size)
        have B51 : Hid (Below w5.heap.size w5 v1) := B5R.out.trans (D1.out.mono B5R.out.size)
        have X1 : Hid (Bw v1 w.heap.size X (.slice p1 X.gs.length q1) (.slice p2 X.os.length q2) (.slice p3 X.gold.length q3) (.slice (some xu) X.us.length q4) (.slice p5 X.qs.length q5)) := XR.out.below D1.out XR.out.lt
        have H1 : Hid (Bk v1 hk (hitsOf ks X.us (es.take n)) #[]) := HR.out.below D1.out
        have P1 : Hid (Kp hk w8 v1) := KP.out.trans (Kp.of D1.out)
        clear BR B5R XR HR KP D1 BL
        refine headT_read rfl (.agg #[.int .i64 X.turn, .int .i64 X.next, .int .i64 X.wide, .int .i64 X.high, .slice p1 X.gs.length q1, .slice p2 X.os.length q2, .slice p3 X.gold.length q3, .slice (some xu) X.us.length q4, .slice p5 X.qs.length q5]) (by go_simp) (fun V hV => by obtain ⟨⟨x0, x1, x2, x3, x4, x5, x6, x7, x8⟩, ⟨y0, y1, y2⟩⟩ := hV; go_simp) ?_
        go_simp
        refine headT_read rfl (.slice (some xe) es.length ce) (by go_simp) (fun V hV => by go_simp) ?_
        go_simp
        refine headT_read rfl (.int .i64 (n : Nat)) (by go_simp) (fun V hV => by go_simp) ?_
        go_simp
        refine headT_read rfl (.pointer (some (xe.add (n * 3)))) (by go_simp) (fun V hV => by go_simp) ?_
        go_simp
        refine headT_read rfl (.pointer (some ⟨(xe.add (n * 3)).block, (xe.add (n * 3)).off + 1, none⟩)) (by go_simp) (fun V hV => by go_simp) ?_
        go_simp
        refine headT_read rfl (.int .i64 e.unit) (by go_simp) (fun V hV => by obtain ⟨⟨x0, x1, x2, x3, x4, x5, x6, x7, x8⟩, ⟨y0, y1, y2⟩⟩ := hV; go_simp) ?_
        go_simp
        refine headT_call rfl 14 #[.agg #[.int .i64 X.turn, .int .i64 X.next, .int .i64 X.wide, .int .i64 X.high, .slice p1 X.gs.length q1, .slice p2 X.os.length q2, .slice p3 X.gold.length q3, .slice (some xu) X.us.length q4, .slice p5 X.qs.length q5], .int .i64 e.unit] (by go_simp) (by go_simp) ?_
        refine (rfind_any _ X e.unit v1 (H.out.below BR1.out)).mono ?_
        rintro e' v2 ⟨r, rfl, hf, hb⟩
        obtain rfl := fst_is WR.out UI.out.1 UI.out.2 hf
        have BR2 : Hid (Below w.heap.size w v2) := BR1.out.trans (hb.mono BR1.out.size)
        have B52 : Hid (Below w5.heap.size w5 v2) := B51.out.trans (hb.mono B51.out.size)
        have X2 : Hid (Bw v2 w.heap.size X (.slice p1 X.gs.length q1) (.slice p2 X.os.length q2) (.slice p3 X.gold.length q3) (.slice (some xu) X.us.length q4) (.slice p5 X.qs.length q5)) := X1.out.below hb X1.out.lt
        have H2 : Hid (Bk v2 hk (hitsOf ks X.us (es.take n)) #[]) := H1.out.below hb
        have P2 : Hid (Kp hk w8 v2) := P1.out.trans (Kp.of hb)
        refine ⟨_, rfl, CE.out _ BR2.out B52.out X2.out, ?_⟩
        clear hb hf BR1 B51 X1 H1 P1
        go_simp
        refine sched_value rfl (.int .i64 (i : Nat)) v2 (by go_simp) (by go_simp) trivial ?_
        go_simp
        unfold wpSched
        have hi0 : ¬ ((i : Nat) : Int) < 0 := by omega
        have ew := (EC.out.1.below B52.out EC.out.2).c0
        rcases EKH.out with ⟨hw2, i', j, u', x, k, hu', hxj, hu'', hxi, hpp, hkk, hk1⟩ | ⟨hw3, -⟩
        case inr =>
          have SAME : Hid (hitsOf ks X.us (es.take (n + 1)) = hitsOf ks X.us (es.take n)) := by
            unfold Hid
            rw [NX.out]
            unfold evHit
            rw [if_neg (by rw [hw3]; decide)]
          have hwn : (e.what == 2) = false := by rw [hw3]; rfl
          rw [hw3] at ew
          clear hw3
          go_wp2
          go_round
          case rel => exact ⟨n + 1, by go_num, by omega, by rw [SAME.out]; exact H2.out, P2.out⟩
          case measure => simp [intOf]; omega
        obtain rfl : i = i' := id_one WR.out UI.out.1 hu' (by rw [UI.out.2, hu''])
        obtain rfl : u = u' := by have h := UI.out.1; rw [hu'] at h; injection h with h; exact h.symm
        have hjl : j < X.us.length := (List.getElem?_eq_some_iff.1 hxj).1
        obtain ⟨k9, fu⟩ := WR.out.fine hu'
        obtain ⟨kn, hkn⟩ : ∃ n : Nat, u.kind = n := ⟨u.kind.toNat, by have := fu.k0.1; omega⟩
        have hkk' : ks[kn]? = some k := by have := hkk; rw [hkn, Int.toNat_natCast] at this; exact this
        have hkl : kn < ks.length := (List.getElem?_eq_some_iff.1 hkk').1
        obtain ⟨xk, hxk, hxl', hxc⟩ := KC.out (by intro h; subst h; simp at hkl)
        subst hxk
        have KK : Hid (Kc w (xk.add (kn * 11)) k ∧ (xk.add (kn * 11)).block < w.heap.size) := ⟨hxc kn k hkk', by rw [add_block]; exact hxl'⟩
        have NZ : Hid (hitsOf ks X.us (es.take (n + 1)) = (hitsOf ks X.us (es.take n)).set j ((hitsOf ks X.us (es.take n)).getD j 0 + k.n1)) := by unfold Hid; rw [NX.out]; exact hit_at WR.out hw2 hu' hxj hu'' hxi hkk
        have XJ : Hid (X.us[j]? = some x ∧ x.id = e.arg ∧ u.kind = (kn : Nat)) := ⟨hxj, hxi, hkn⟩
        have hkb := kind_nums WR.out.kinds (List.mem_of_getElem? hkk)
        rw [hw2] at ew
        clear fu hu' hu'' hkk hkk' hxl' hxc NX hxj hxi hkn
        go_upto_region 22 with fail
        clear ew
        refine wp_region_two [(true, 0), (true, 1), (true, 2), (true, 3), (true, 4), (true, 5), (false, 6)] [(false, 7)] (fun V => Bw V w.heap.size X (.slice p1 X.gs.length q1) (.slice p2 X.os.length q2) (.slice p3 X.gold.length q3) (.slice (some xu) X.us.length q4) (.slice p5 X.qs.length q5) ∧ Evc V (xe.add (n * 3)) e) (by kernel_rfl) (by kernel_rfl) (by kernel_rfl) (by decide +kernel) (by decide +kernel) (CE.out _ BR2.out.drew B52.out.drew (X2.out.below ((Below.refl _ _).drew) X2.out.lt)) ?_
        have D1 : Hid (Below v2.heap.size v2 { v2 with drawn := v2.drawn + 1 }) := (Below.refl _ _).drew
        generalize ({ v2 with drawn := v2.drawn + 1 } : World) = v3 at *
        have BR3 : Hid (Below w.heap.size w v3) := BR2.out.trans (D1.out.mono BR2.out.size)
        have B53 : Hid (Below w5.heap.size w5 v3) := B52.out.trans (D1.out.mono B52.out.size)
        have X3 : Hid (Bw v3 w.heap.size X (.slice p1 X.gs.length q1) (.slice p2 X.os.length q2) (.slice p3 X.gold.length q3) (.slice (some xu) X.us.length q4) (.slice p5 X.qs.length q5)) := X2.out.below D1.out X2.out.lt
        have H3 : Hid (Bk v3 hk (hitsOf ks X.us (es.take n)) #[]) := H2.out.below D1.out
        have P3 : Hid (Kp hk w8 v3) := P2.out.trans (Kp.of D1.out)
        clear BR2 B52 X2 H2 P2 D1
        refine headT_read rfl (.agg #[.int .i64 X.turn, .int .i64 X.next, .int .i64 X.wide, .int .i64 X.high, .slice p1 X.gs.length q1, .slice p2 X.os.length q2, .slice p3 X.gold.length q3, .slice (some xu) X.us.length q4, .slice p5 X.qs.length q5]) (by go_simp) (fun V hV => by obtain ⟨⟨x0, x1, x2, x3, x4, x5, x6, x7, x8⟩, ⟨y0, y1, y2⟩⟩ := hV; go_simp) ?_
        go_simp
        refine headT_read rfl (.slice (some xe) es.length ce) (by go_simp) (fun V hV => by go_simp) ?_
        go_simp
        refine headT_read rfl (.int .i64 (n : Nat)) (by go_simp) (fun V hV => by go_simp) ?_
        go_simp
        refine headT_read rfl (.pointer (some (xe.add (n * 3)))) (by go_simp) (fun V hV => by go_simp) ?_
        go_simp
        refine headT_read rfl (.pointer (some ⟨(xe.add (n * 3)).block, (xe.add (n * 3)).off + 2, none⟩)) (by go_simp) (fun V hV => by go_simp) ?_
        go_simp
        refine headT_read rfl (.int .i64 e.arg) (by go_simp) (fun V hV => by obtain ⟨⟨x0, x1, x2, x3, x4, x5, x6, x7, x8⟩, ⟨y0, y1, y2⟩⟩ := hV; go_simp) ?_
        go_simp
        refine headT_call rfl 14 #[.agg #[.int .i64 X.turn, .int .i64 X.next, .int .i64 X.wide, .int .i64 X.high, .slice p1 X.gs.length q1, .slice p2 X.os.length q2, .slice p3 X.gold.length q3, .slice (some xu) X.us.length q4, .slice p5 X.qs.length q5], .int .i64 e.arg] (by go_simp) (by go_simp) ?_
        refine (rfind_any _ X e.arg v3 (H.out.below BR3.out)).mono ?_
        rintro e' v4 ⟨r, rfl, hf, hb⟩
        obtain rfl := fst_is WR.out XJ.out.1 XJ.out.2.1 hf
        have BR4 : Hid (Below w.heap.size w v4) := BR3.out.trans (hb.mono BR3.out.size)
        have B54 : Hid (Below w5.heap.size w5 v4) := B53.out.trans (hb.mono B53.out.size)
        have X4 : Hid (Bw v4 w.heap.size X (.slice p1 X.gs.length q1) (.slice p2 X.os.length q2) (.slice p3 X.gold.length q3) (.slice (some xu) X.us.length q4) (.slice p5 X.qs.length q5)) := X3.out.below hb X3.out.lt
        have H4 : Hid (Bk v4 hk (hitsOf ks X.us (es.take n)) #[]) := H3.out.below hb
        have P4 : Hid (Kp hk w8 v4) := P3.out.trans (Kp.of hb)
        refine ⟨_, rfl, CE.out _ BR4.out B54.out X4.out, ?_⟩
        clear hb hf BR3 B53 X3 H3 P3 CE
        go_simp
        refine sched_value rfl (.int .i64 (j : Nat)) v4 (by go_simp) (by go_simp) trivial ?_
        go_simp
        unfold wpSched
        have hj0 : ¬ ((j : Nat) : Int) < 0 := by omega
        have hpb : (u.player == x.player) = false := by rw [beq_eq_false_iff_ne]; exact hpp
        have hk1' : ¬ k.n1 < 1 := by omega
        go_upto_region 23 with fail
        have C2 : Hid (∀ V, Below w.heap.size w V → Bw V w.heap.size X (.slice p1 X.gs.length q1) (.slice p2 X.os.length q2) (.slice p3 X.gold.length q3) (.slice (some xu) X.us.length q4) (.slice p5 X.qs.length q5) → (V.cell? ⟨w.heap.size, 7, none⟩ = some (.slice (some xu) X.us.length q4) ∧ V.cell? ⟨(xu.add (i * 8)).block, (xu.add (i * 8)).off + 1, none⟩ = some (.int .i64 u.player) ∧ V.cell? ⟨(xu.add (j * 8)).block, (xu.add (j * 8)).off + 1, none⟩ = some (.int .i64 x.player) ∧ V.cell? ⟨(xu.add (i * 8)).block, (xu.add (i * 8)).off + 2, none⟩ = some (.int .i64 (kn : Nat)) ∧ V.cell? ⟨(xk.add (kn * 11)).block, (xk.add (kn * 11)).off + 2, none⟩ = some (.int .i64 k.n1))) := fun V hb hx => ⟨hx.c7, ((UC.out.1 i u UI.out.1).below hb (by rw [add_block]; exact UC.out.2)).c1, ((UC.out.1 j x XJ.out.1).below hb (by rw [add_block]; exact UC.out.2)).c1, by have := ((UC.out.1 i u UI.out.1).below hb (by rw [add_block]; exact UC.out.2)).c2; rw [XJ.out.2.2] at this; exact this, (KK.out.1.below hb KK.out.2).c2⟩
        refine wp_region_two [(true, 0), (true, 1), (true, 2), (true, 3), (true, 4), (true, 5), (true, 6), (true, 7), (true, 8), (true, 9), (true, 10), (true, 11), (true, 12), (true, 13), (true, 14), (true, 15), (true, 16), (true, 17), (true, 18), (true, 19), (true, 20), (true, 21), (true, 22), (true, 23), (true, 24), (true, 25), (true, 26), (true, 27), (true, 28)] [(false, 29)] (fun V => V.cell? ⟨w.heap.size, 7, none⟩ = some (.slice (some xu) X.us.length q4) ∧ V.cell? ⟨(xu.add (i * 8)).block, (xu.add (i * 8)).off + 1, none⟩ = some (.int .i64 u.player) ∧ V.cell? ⟨(xu.add (j * 8)).block, (xu.add (j * 8)).off + 1, none⟩ = some (.int .i64 x.player) ∧ V.cell? ⟨(xu.add (i * 8)).block, (xu.add (i * 8)).off + 2, none⟩ = some (.int .i64 (kn : Nat)) ∧ V.cell? ⟨(xk.add (kn * 11)).block, (xk.add (kn * 11)).off + 2, none⟩ = some (.int .i64 k.n1)) (by kernel_rfl) (by kernel_rfl) (by kernel_rfl) (by decide +kernel) (by decide +kernel) (C2.out _ BR4.out.drew (X4.out.below ((Below.refl _ _).drew) X4.out.lt)) ?_
        have D1 : Hid (Below v4.heap.size v4 { v4 with drawn := v4.drawn + 1 }) := (Below.refl _ _).drew
        generalize ({ v4 with drawn := v4.drawn + 1 } : World) = v5 at *
        have BR5 : Hid (Below w.heap.size w v5) := BR4.out.trans (D1.out.mono BR4.out.size)
        have X5 : Hid (Bw v5 w.heap.size X (.slice p1 X.gs.length q1) (.slice p2 X.os.length q2) (.slice p3 X.gold.length q3) (.slice (some xu) X.us.length q4) (.slice p5 X.qs.length q5)) := X4.out.below D1.out X4.out.lt
        have H5 : Hid (Bk v5 hk (hitsOf ks X.us (es.take n)) #[]) := H4.out.below D1.out
        have P5 : Hid (Kp hk w8 v5) := P4.out.trans (Kp.of D1.out)
        clear BR4 B54 X4 H4 P4 D1
        refine headT_read rfl (.int .i64 (j : Nat)) (by go_simp) (fun V hV => by go_simp) ?_
        go_simp
        refine headT_read rfl (.bool false) (by go_simp) (fun V hV => by go_simp) ?_
        go_simp
        refine headT_read rfl (.bool false) (by go_simp) (fun V hV => by go_simp) ?_
        go_simp
        refine headT_read rfl (.pointer (some ⟨w.heap.size, 7, none⟩)) (by go_simp) (fun V hV => by go_simp) ?_
        go_simp
        refine headT_read rfl (.slice (some xu) X.us.length q4) (by go_simp) (fun V hV => by obtain ⟨d1, d2, d3, d4, d5⟩ := hV; go_simp) ?_
        go_simp
        refine headT_read rfl (.int .i64 (i : Nat)) (by go_simp) (fun V hV => by go_simp) ?_
        go_simp
        refine headT_read rfl (.pointer (some (xu.add (i * 8)))) (by go_simp) (fun V hV => by go_simp) ?_
        go_simp
        refine headT_read rfl (.pointer (some ⟨(xu.add (i * 8)).block, (xu.add (i * 8)).off + 1, none⟩)) (by go_simp) (fun V hV => by go_simp) ?_
        go_simp
        refine headT_read rfl (.int .i64 u.player) (by go_simp) (fun V hV => by obtain ⟨d1, d2, d3, d4, d5⟩ := hV; go_simp) ?_
        go_simp
        refine headT_read rfl (.pointer (some ⟨w.heap.size, 7, none⟩)) (by go_simp) (fun V hV => by go_simp) ?_
        go_simp
        refine headT_read rfl (.slice (some xu) X.us.length q4) (by go_simp) (fun V hV => by obtain ⟨d1, d2, d3, d4, d5⟩ := hV; go_simp) ?_
        go_simp
        refine headT_read rfl (.int .i64 (j : Nat)) (by go_simp) (fun V hV => by go_simp) ?_
        go_simp
        refine headT_read rfl (.pointer (some (xu.add (j * 8)))) (by go_simp) (fun V hV => by go_simp) ?_
        go_simp
        refine headT_read rfl (.pointer (some ⟨(xu.add (j * 8)).block, (xu.add (j * 8)).off + 1, none⟩)) (by go_simp) (fun V hV => by go_simp) ?_
        go_simp
        refine headT_read rfl (.int .i64 x.player) (by go_simp) (fun V hV => by obtain ⟨d1, d2, d3, d4, d5⟩ := hV; go_simp) ?_
        go_simp
        refine headT_read rfl (.bool false) (by go_simp) (fun V hV => by go_simp) ?_
        go_simp
        refine headT_read rfl (.bool false) (by go_simp) (fun V hV => by go_simp) ?_
        go_simp
        refine headT_read rfl (.bool false) (by go_simp) (fun V hV => by go_simp) ?_
        go_simp
        refine headT_read rfl (.slice (some xk) ks.length qk) (by go_simp) (fun V hV => by go_simp) ?_
        go_simp
        refine headT_read rfl (.pointer (some ⟨w.heap.size, 7, none⟩)) (by go_simp) (fun V hV => by go_simp) ?_
        go_simp
        refine headT_read rfl (.slice (some xu) X.us.length q4) (by go_simp) (fun V hV => by obtain ⟨d1, d2, d3, d4, d5⟩ := hV; go_simp) ?_
        go_simp
        refine headT_read rfl (.int .i64 (i : Nat)) (by go_simp) (fun V hV => by go_simp) ?_
        go_simp
        refine headT_read rfl (.pointer (some (xu.add (i * 8)))) (by go_simp) (fun V hV => by go_simp) ?_
        go_simp
        refine headT_read rfl (.pointer (some ⟨(xu.add (i * 8)).block, (xu.add (i * 8)).off + 2, none⟩)) (by go_simp) (fun V hV => by go_simp) ?_
        go_simp
        refine headT_read rfl (.int .i64 (kn : Nat)) (by go_simp) (fun V hV => by obtain ⟨d1, d2, d3, d4, d5⟩ := hV; go_simp) ?_
        go_simp
        refine headT_read rfl (.pointer (some (xk.add (kn * 11)))) (by go_simp) (fun V hV => by go_simp) ?_
        go_simp
        refine headT_read rfl (.pointer (some ⟨(xk.add (kn * 11)).block, (xk.add (kn * 11)).off + 2, none⟩)) (by go_simp) (fun V hV => by go_simp) ?_
        go_simp
        refine headT_read rfl (.int .i64 k.n1) (by go_simp) (fun V hV => by obtain ⟨d1, d2, d3, d4, d5⟩ := hV; go_simp) ?_
        go_simp
        refine headT_read rfl (.bool false) (by go_simp) (fun V hV => by go_simp) ?_
        go_simp
        unfold wpHeadT
        refine sched_value rfl (.bool false) v5 (by go_simp) (by go_simp) trivial ?_
        go_simp
        unfold wpSched
        clear hpb hk1' hj0 hi0
        obtain ⟨ls, hls⟩ : ∃ l, hitsOf ks X.us (es.take n) = l := ⟨_, rfl⟩
        have hll : ls.length = X.us.length := by rw [← hls]; exact hitsOf_len
        obtain ⟨ln, hln⟩ : ∃ x, ls[j]? = some x := ⟨_, List.getElem?_eq_getElem (by omega)⟩
        have lnb := (hits_upto WR.out (l := es) n hn) ln (by rw [hls]; exact List.mem_of_getElem? hln)
        have wadd : IntKind.i64.wrap (ln + k.n1) = ln + k.n1 := by rw [IntKind.wrap_i64]; omega
        rw [hls] at NZ H5
        have NW : Hid (hitsOf ks X.us (es.take (n + 1)) = ls.set j (ln + k.n1)) := by unfold Hid; rw [NZ.out, List.getD_eq_getElem?_getD, hln]; rfl
        have LN : Hid (ls[j]? = some ln ∧ j < ls.length) := ⟨hln, by omega⟩
        clear hls hll hln lnb NZ C2
        go_upto_region 25 with fail
        have C2 : Hid (∀ V, Below w.heap.size w V → Bw V w.heap.size X (.slice p1 X.gs.length q1) (.slice p2 X.os.length q2) (.slice p3 X.gold.length q3) (.slice (some xu) X.us.length q4) (.slice p5 X.qs.length q5) → Bk V hk ls #[] → (V.cell? ⟨hk, j, none⟩ = some (.int .i64 ln) ∧ V.cell? ⟨w.heap.size, 7, none⟩ = some (.slice (some xu) X.us.length q4) ∧ V.cell? ⟨(xu.add (i * 8)).block, (xu.add (i * 8)).off + 2, none⟩ = some (.int .i64 (kn : Nat)) ∧ V.cell? ⟨(xk.add (kn * 11)).block, (xk.add (kn * 11)).off + 2, none⟩ = some (.int .i64 k.n1))) := fun V hb hx hl => ⟨hl.cell LN.out.1, hx.c7, by have := ((UC.out.1 i u UI.out.1).below hb (by rw [add_block]; exact UC.out.2)).c2; rw [XJ.out.2.2] at this; exact this, (KK.out.1.below hb KK.out.2).c2⟩
        refine wp_region_two [(true, 0), (true, 1), (true, 2), (true, 3), (true, 4), (true, 5), (true, 6), (true, 7), (true, 8), (true, 9), (true, 10), (true, 11), (true, 12), (true, 13), (true, 14), (true, 15), (true, 16), (true, 17)] [(false, 18)] (fun V => V.cell? ⟨hk, j, none⟩ = some (.int .i64 ln) ∧ V.cell? ⟨w.heap.size, 7, none⟩ = some (.slice (some xu) X.us.length q4) ∧ V.cell? ⟨(xu.add (i * 8)).block, (xu.add (i * 8)).off + 2, none⟩ = some (.int .i64 (kn : Nat)) ∧ V.cell? ⟨(xk.add (kn * 11)).block, (xk.add (kn * 11)).off + 2, none⟩ = some (.int .i64 k.n1)) (by kernel_rfl) (by kernel_rfl) (by kernel_rfl) (by decide +kernel) (by decide +kernel) (C2.out _ BR5.out.drew (X5.out.below ((Below.refl _ _).drew) X5.out.lt) (H5.out.below ((Below.refl _ _).drew))) ?_
        have D1 : Hid (Below v5.heap.size v5 { v5 with drawn := v5.drawn + 1 }) := (Below.refl _ _).drew
        generalize ({ v5 with drawn := v5.drawn + 1 } : World) = v6 at *
        have H6 : Hid (Bk v6 hk ls #[]) := H5.out.below D1.out
        have P6 : Hid (Kp hk w8 v6) := P5.out.trans (Kp.of D1.out)
        clear BR5 X5 H5 P5 D1
        refine headT_read rfl (.slice (some ⟨hk, 0, none⟩) X.us.length X.us.length) (by go_simp) (fun V hV => by go_simp) ?_
        go_simp
        refine headT_read rfl (.int .i64 (j : Nat)) (by go_simp) (fun V hV => by go_simp) ?_
        go_simp
        refine headT_read rfl (.slice (some ⟨hk, 0, none⟩) X.us.length X.us.length) (by go_simp) (fun V hV => by go_simp) ?_
        go_simp
        refine headT_read rfl (.int .i64 (j : Nat)) (by go_simp) (fun V hV => by go_simp) ?_
        go_simp
        refine headT_read rfl (.pointer (some ⟨hk, j, none⟩)) (by go_simp) (fun V hV => by go_simp) ?_
        go_simp
        refine headT_read rfl (.int .i64 ln) (by go_simp) (fun V hV => by obtain ⟨d1, d2, d3, d4⟩ := hV; go_simp) ?_
        go_simp
        refine headT_read rfl (.slice (some xk) ks.length qk) (by go_simp) (fun V hV => by go_simp) ?_
        go_simp
        refine headT_read rfl (.pointer (some ⟨w.heap.size, 7, none⟩)) (by go_simp) (fun V hV => by go_simp) ?_
        go_simp
        refine headT_read rfl (.slice (some xu) X.us.length q4) (by go_simp) (fun V hV => by obtain ⟨d1, d2, d3, d4⟩ := hV; go_simp) ?_
        go_simp
        refine headT_read rfl (.int .i64 (i : Nat)) (by go_simp) (fun V hV => by go_simp) ?_
        go_simp
        refine headT_read rfl (.pointer (some (xu.add (i * 8)))) (by go_simp) (fun V hV => by go_simp) ?_
        go_simp
        refine headT_read rfl (.pointer (some ⟨(xu.add (i * 8)).block, (xu.add (i * 8)).off + 2, none⟩)) (by go_simp) (fun V hV => by go_simp) ?_
        go_simp
        refine headT_read rfl (.int .i64 (kn : Nat)) (by go_simp) (fun V hV => by obtain ⟨d1, d2, d3, d4⟩ := hV; go_simp) ?_
        go_simp
        refine headT_read rfl (.pointer (some (xk.add (kn * 11)))) (by go_simp) (fun V hV => by go_simp) ?_
        go_simp
        refine headT_read rfl (.pointer (some ⟨(xk.add (kn * 11)).block, (xk.add (kn * 11)).off + 2, none⟩)) (by go_simp) (fun V hV => by go_simp) ?_
        go_simp
        refine headT_read rfl (.int .i64 k.n1) (by go_simp) (fun V hV => by obtain ⟨d1, d2, d3, d4⟩ := hV; go_simp) ?_
        go_simp
        refine headT_read rfl (.int .i64 (ln + k.n1)) (by go_simp) (fun V hV => by go_simp) ?_
        go_simp
        refine headT_read rfl (.pointer (some ⟨hk, j, none⟩)) (by go_simp) (fun V hV => by go_simp) ?_
        go_simp
        unfold wpHeadT
        have t6 := H6.out.thaw j
        have c6 := H6.out.cell LN.out.1
        have H7 : Hid (Bk (v6.setCell ⟨hk, j, none⟩ (.int .i64 (ln + k.n1))) hk (ls.set j (ln + k.n1)) #[]) := H6.out.set j _ LN.out.2
        have P7 : Hid (Kp hk w8 (v6.setCell ⟨hk, j, none⟩ (.int .i64 (ln + k.n1)))) := P6.out.trans (Kp.set _ _ _)
        refine sched_skip rfl (v6.setCell ⟨hk, j, none⟩ (.int .i64 (ln + k.n1))) (by go_simp) (by go_simp) trivial ?_
        go_simp
        clear t6 c6
        generalize (v6.setCell ⟨hk, j, none⟩ (.int .i64 (ln + k.n1))) = v7 at *
        unfold wpSched
        go_wp2
        go_round
        case rel => exact ⟨n + 1, by go_num, by omega, by rw [NW.out]; exact H7.out, P7.out⟩
        case measure => simp [intOf]; omega
end Go.Proofs.Ytplnhgllbhdfjaa.fightWeighs

