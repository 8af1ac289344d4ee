/- MoveKeeps: the walk. -/
import Derived.Test.YtagnjmellcibhaaDoorZMoveKeeps8
import Derived.BigQuiet
namespace Go.Proofs.YtagnjmellcibhaaDoor.moveKeeps
open Go.RowKit
set_option linter.unusedVariables false

theorem ints_like (u v : Value) (xs : List Int) (w : World) (hu : Ro w u xs) (hv : Ro w v xs) :
    Calls Tryd.prog 11 #[u, v] w fun e w' => e = .returned (.bool true) ∧ Below w.heap.size w w' :=
  (ints_any u v xs xs w hu hv).mono fun e w' ⟨h1, n, h2⟩ => ⟨by rw [h1, decide_eq_true rfl], by rw [h2]; exact ⟨rfl, rfl, rfl, Nat.le_refl _, fun _ _ => rfl⟩⟩
set_option maxRecDepth 100000 in
set_option maxHeartbeats 80000000 in
theorem walk (vk : Value) (ks : List KV) (vw : Value) (X : WV) (w : World)
    (h0 : Kl w vk ks ∧ ∀ k ∈ ks, k.b.size ≤ maxLen) (h1 : Wl w vw X ∧ ∀ n ∈ Wd.nums X, Wd.In64 n) (hsd : Sd w) :
    Calls Tryd.prog 3 #[vk, vw] w fun e w' => e = .returned (.bool true) ∧ Below w.heap.size w w' := by
  have K : Hid (Kl w vk ks ∧ ∀ k ∈ ks, k.b.size ≤ 9223372036854775807) := ⟨h0.1, fun k hk => by have := h0.2 k hk; unfold maxLen at this; omega⟩
  have H : Hid (Wl w vw X) := h1.1
  have S : Hid (Sd w) := hsd
  obtain ⟨p1, q1, p2, q2, p3, q3, p4, q4, p5, q5, rfl⟩ := wl_shape9 h1.1
  obtain ⟨pk, qk, rfl, ck1, ck2, kc⟩ := h0.1
  have KC : Hid (ks ≠ [] → ∃ x, pk = some x ∧ x.block < w.heap.size ∧ ∀ (i : Nat) k, ks[i]? = some k → Kc w (x.add (i * 11)) k) := kc
  clear h0 h1 kc hsd
  go_enter Tryd.func3, Tryd.ntmps3
  go_upto_region 1 with fail
  have B0 : Hid (Below w.heap.size w (w.alloc (Obj.cells #[.int .i64 X.turn, .int .i64 X.next, .int .i64 X.wide, .int .i64 X.high, .slice p1 X.gs.length q1, .slice p2 X.os.length q2, .slice p3 X.gold.length q3, .slice p4 X.us.length q4, .slice p5 X.qs.length q5] 29))) := (Below.refl _ _).alloc (Nat.le_refl _) _
  have X0 : Hid (Bw (w.alloc (Obj.cells #[.int .i64 X.turn, .int .i64 X.next, .int .i64 X.wide, .int .i64 X.high, .slice p1 X.gs.length q1, .slice p2 X.os.length q2, .slice p3 X.gold.length q3, .slice p4 X.us.length q4, .slice p5 X.qs.length q5] 29)) w.heap.size X (.slice p1 X.gs.length q1) (.slice p2 X.os.length q2) (.slice p3 X.gold.length q3) (.slice p4 X.us.length q4) (.slice p5 X.qs.length q5)) := Bw.mk' X _ _ _ _ _ rfl
  generalize (w.alloc (Obj.cells #[.int .i64 X.turn, .int .i64 X.next, .int .i64 X.wide, .int .i64 X.high, .slice p1 X.gs.length q1, .slice p2 X.os.length q2, .slice p3 X.gold.length q3, .slice p4 X.us.length q4, .slice p5 X.qs.length q5] 29)) = w0 at *
  go_wp2_with fail
  refine (small_any w0).mono ?_
  rintro e w1 ⟨u, rfl, ho, hb⟩
  have B1 : Hid (Below w.heap.size w w1) := B0.out.trans (hb.mono B0.out.size)
  have X1 : Hid (Bw w1 w.heap.size X (.slice p1 X.gs.length q1) (.slice p2 X.os.length q2) (.slice p3 X.gold.length q3) (.slice p4 X.us.length q4) (.slice p5 X.qs.length q5)) := X0.out.below hb X0.out.lt
  obtain ⟨y1, y2, y3, y4, y5, rfl, o1, o2, o3, o4, o5⟩ := ho
  obtain ⟨m1, n1, rfl⟩ := o1.len
  obtain ⟨m2, n2, rfl⟩ := o2.len
  obtain ⟨m3, n3, rfl⟩ := o3.len
  obtain ⟨m5, n5, rfl⟩ := o5.len
  rcases o4.ub with ⟨-, h⟩ | ⟨g, n4, rest, rfl, hbg, hkc, hcm, hcl, hub⟩
  · cases h
  have OO : Hid (Ow w1 w0.heap.size (.slice m1 8 n1) SG ∧ Ow w1 w0.heap.size (.slice m2 8 n2) SO ∧ Ow w1 w0.heap.size (.slice m3 2 n3) [100, 100] ∧ Jbo w1 w0.heap.size (.slice m5 0 n5) [] ∧ Ub w1 g S3.us rest ∧ 3 ≤ n4 ∧ n4 ≤ maxLen ∧ 24 + rest.length = n4 * 8 ∧ w.heap.size < g) := ⟨o1, o2, o3, o5, hub, hkc, hcm, hcl, Nat.lt_of_lt_of_le X0.out.lt hbg⟩
  have hn4 : 3 ≤ n4 := hkc
  have hn4' : n4 ≤ 9223372036854775807 := by unfold maxLen at hcm; omega
  obtain ⟨g1, g2, g3, g4, g5, g6, g7, g8, g9⟩ := s3_eqs
  simp only [g1, g2, g3, g4, g5, g6, g7, g8, g9]
  clear g1 g2 g3 g4 g5 g6 g7 g8 g9 hb o1 o2 o3 o4 o5 X0 B0 hbg hkc hcm hcl hub
  go_upto_region 2 with fail
  have BA : Hid (Below w1.heap.size w1 (w1.alloc (Obj.cells #[.int .i64 0, .int .i64 4, .int .i64 4, .int .i64 2, .slice m1 8 n1, .slice m2 8 n2, .slice m3 2 n3, .slice (some ⟨g, 0, none⟩) 3 n4, .slice m5 0 n5] 29))) := (Below.refl _ _).alloc (Nat.le_refl _) _
  obtain ⟨z, hz⟩ : ∃ z, w1.heap.size = z := ⟨_, rfl⟩
  have W2 : Hid (Wx (w1.alloc (Obj.cells #[.int .i64 0, .int .i64 4, .int .i64 4, .int .i64 2, .slice m1 8 n1, .slice m2 8 n2, .slice m3 2 n3, .slice (some ⟨g, 0, none⟩) 3 n4, .slice m5 0 n5] 29)) z (.int .i64 0) (.int .i64 4) (.int .i64 4) (.int .i64 2) (.slice m1 8 n1) (.slice m2 8 n2) (.slice m3 2 n3) (.slice (some ⟨g, 0, none⟩) 3 n4) (.slice m5 0 n5)) := Wx.new (.int .i64 0) (.int .i64 4) (.int .i64 4) (.int .i64 2) (.slice m1 8 n1) (.slice m2 8 n2) (.slice m3 2 n3) (.slice (some ⟨g, 0, none⟩) 3 n4) (.slice m5 0 n5) hz
  rw [hz]
  generalize (w1.alloc (Obj.cells #[.int .i64 0, .int .i64 4, .int .i64 4, .int .i64 2, .slice m1 8 n1, .slice m2 8 n2, .slice m3 2 n3, .slice (some ⟨g, 0, none⟩) 3 n4, .slice m5 0 n5] 29)) = w2 at *
  have B2 : Hid (Below w.heap.size w w2) := B1.out.trans (BA.out.mono B1.out.size)
  have X2 : Hid (Bw w2 w.heap.size X (.slice p1 X.gs.length q1) (.slice p2 X.os.length q2) (.slice p3 X.gold.length q3) (.slice p4 X.us.length q4) (.slice p5 X.qs.length q5)) := X1.out.below BA.out X1.out.lt
  have UB : Hid (Ub w2 g S3.us rest) := OO.out.2.2.2.2.1.below BA.out OO.out.2.2.2.2.1.lt
  have ZG : Hid (g < z) := by rw [← hz]; exact OO.out.2.2.2.2.1.lt
  obtain ⟨-, -, -, -, -, -, -, x7, -⟩ := W2.out.cells
  have c6 : w2.cell? ⟨g, 22, none⟩ = some (.int .i64 0) := (UB.out.unc (i := 2) (o := ⟨3, 1, 2, 3, 20, 0, 0, 0⟩) rfl).c6
  have t6 := UB.out.thaw 22
  have U2 : Hid (Ub (w2.setCell ⟨g, 22, none⟩ (.int .i64 1)) g [⟨1, 0, 0, 0, 50, 0, 0, 0⟩, ⟨2, 0, 1, 1, 10, 0, 0, 0⟩, ⟨3, 1, 2, 3, 20, 0, 1, 0⟩] rest) := UB.out.set6 (i := 2) (o := ⟨3, 1, 2, 3, 20, 0, 0, 0⟩) rfl 1
  have K2 : Hid (Kp g w2 (w2.setCell ⟨g, 22, none⟩ (.int .i64 1))) := Kp.set _ _ _
  clear X1 B1 hz
  go_upto_region 5 with fail
  clear x7 c6 t6
  generalize (w2.setCell ⟨g, 22, none⟩ (.int .i64 1)) = w2' at *
  obtain ⟨-, -, -, -, -, -, -, x7, -⟩ := (W2.out.kp K2.out (by have := ZG.out; omega)).cells
  have c7 : w2'.cell? ⟨g, 23, none⟩ = some (.int .i64 0) := (U2.out.unc (i := 2) (o := ⟨3, 1, 2, 3, 20, 0, 1, 0⟩) rfl).c7
  have t7 := U2.out.thaw 23
  have U3 : Hid (Ub (w2'.setCell ⟨g, 23, none⟩ (.int .i64 2)) g SQ.us rest) := U2.out.set7 (i := 2) (o := ⟨3, 1, 2, 3, 20, 0, 1, 0⟩) rfl 2
  have K3 : Hid (Kp g w2 (w2'.setCell ⟨g, 23, none⟩ (.int .i64 2))) := K2.out.trans (Kp.set _ _ _)
  go_upto_region 6 with fail
  clear x7 c7 t7 K2 U2
  generalize (w2'.setCell ⟨g, 23, none⟩ (.int .i64 2)) = w3 at *
  have W3 : Hid (Wx w3 z (.int .i64 0) (.int .i64 4) (.int .i64 4) (.int .i64 2) (.slice m1 8 n1) (.slice m2 8 n2) (.slice m3 2 n3) (.slice (some ⟨g, 0, none⟩) 3 n4) (.slice m5 0 n5)) := W2.out.kp K3.out (by have := ZG.out; omega)
  have X3 : Hid (Bw w3 w.heap.size X (.slice p1 X.gs.length q1) (.slice p2 X.os.length q2) (.slice p3 X.gold.length q3) (.slice p4 X.us.length q4) (.slice p5 X.qs.length q5)) := X2.out.kp9 K3.out (by have := OO.out.2.2.2.2.2.2.2.2; omega)
  have B3 : Hid (Below w.heap.size w w3) := K3.out.below B2.out B2.out.size (by have := OO.out.2.2.2.2.2.2.2.2; omega)
  have L3 : Hid (Wl w3 (.agg #[.int .i64 0, .int .i64 4, .int .i64 4, .int .i64 2, .slice m1 8 n1, .slice m2 8 n2, .slice m3 2 n3, .slice (some ⟨g, 0, none⟩) 3 n4, .slice m5 0 n5]) SQ) := by
    obtain ⟨o1, o2, o3, o5, hub, hkc, hcm, hcl, hg⟩ := OO.out
    refine ⟨_, _, _, _, _, rfl, Ow.ro (own_gb (Ow.below o1 BA.out) (gb_kp K3.out) (own_ne (Ow.below o1 BA.out) UB.out (by decide))), Ow.ro (own_gb (Ow.below o2 BA.out) (gb_kp K3.out) (own_ne (Ow.below o2 BA.out) UB.out (by decide))), Ow.ro (own_gb (Ow.below o3 BA.out) (gb_kp K3.out) (own_ne (Ow.below o3 BA.out) UB.out (by decide))), ?_, Jbo.l (own_gb (Jbo.below o5 BA.out) (gb_kp K3.out) (own_ne (Jbo.below o5 BA.out) UB.out (by decide)))⟩
    exact (U3.out.uno (base := 0) (cap := n4) (Nat.zero_le _) hkc hcm hcl).l
  clear W2 X2 B2 K3 U3 UB BA OO
  go_cut [7, 8, 9] (fun v7 v8 v9 V => v9 = .nilIface ∧ ∃ bf gf ge h4 he, v7 = .pointer (some ⟨bf, 0, none⟩) ∧ v8 = .slice (some ⟨ge, 0, none⟩) 1 he ∧ 3 ≤ h4 ∧ V.cell? ⟨bf, 7, none⟩ = some (.slice (some ⟨gf, 0, none⟩) 3 h4) ∧ V.cell? ⟨gf, 19, none⟩ = some (.int .i64 2) ∧ V.cell? ⟨gf, 22, none⟩ = some (.int .i64 0) ∧ Below w.heap.size w V ∧ Bw V w.heap.size X (.slice p1 X.gs.length q1) (.slice p2 X.os.length q2) (.slice p3 X.gold.length q3) (.slice p4 X.us.length q4) (.slice p5 X.qs.length q5))
  case first =>
    refine wp_region_float 7 [(true, 1), (false, 0), (false, 2), (true, 3), (true, 4), (true, 5), (true, 6)] [(false, 8), (false, 9)] [(false, 10)] (fun V => V.cell? ⟨z, 0, none⟩ = some (.int .i64 0) ∧ V.cell? ⟨z, 1, none⟩ = some (.int .i64 4) ∧ V.cell? ⟨z, 2, none⟩ = some (.int .i64 4) ∧ V.cell? ⟨z, 3, none⟩ = some (.int .i64 2) ∧ V.cell? ⟨z, 4, none⟩ = some (.slice m1 8 n1) ∧ V.cell? ⟨z, 5, none⟩ = some (.slice m2 8 n2) ∧ V.cell? ⟨z, 6, none⟩ = some (.slice m3 2 n3) ∧ V.cell? ⟨z, 7, none⟩ = some (.slice (some ⟨g, 0, none⟩) 3 n4) ∧ V.cell? ⟨z, 8, none⟩ = some (.slice m5 0 n5)) (by kernel_rfl) (by kernel_rfl) (by kernel_rfl) (by decide +kernel) (by decide +kernel) W3.out.cells ?_
    have FB : Hid (∀ A B : World, (Below w.heap.size w A ∧ Bw A w.heap.size X (.slice p1 X.gs.length q1) (.slice p2 X.os.length q2) (.slice p3 X.gold.length q3) (.slice p4 X.us.length q4) (.slice p5 X.qs.length q5) ∧ (A.cell? ⟨z, 0, none⟩ = some (.int .i64 0) ∧ A.cell? ⟨z, 1, none⟩ = some (.int .i64 4) ∧ A.cell? ⟨z, 2, none⟩ = some (.int .i64 4) ∧ A.cell? ⟨z, 3, none⟩ = some (.int .i64 2) ∧ A.cell? ⟨z, 4, none⟩ = some (.slice m1 8 n1) ∧ A.cell? ⟨z, 5, none⟩ = some (.slice m2 8 n2) ∧ A.cell? ⟨z, 6, none⟩ = some (.slice m3 2 n3) ∧ A.cell? ⟨z, 7, none⟩ = some (.slice (some ⟨g, 0, none⟩) 3 n4) ∧ A.cell? ⟨z, 8, none⟩ = some (.slice m5 0 n5))) → Below A.heap.size A B → (Below w.heap.size w B ∧ Bw B w.heap.size X (.slice p1 X.gs.length q1) (.slice p2 X.os.length q2) (.slice p3 X.gold.length q3) (.slice p4 X.us.length q4) (.slice p5 X.qs.length q5) ∧ (B.cell? ⟨z, 0, none⟩ = some (.int .i64 0) ∧ B.cell? ⟨z, 1, none⟩ = some (.int .i64 4) ∧ B.cell? ⟨z, 2, none⟩ = some (.int .i64 4) ∧ B.cell? ⟨z, 3, none⟩ = some (.int .i64 2) ∧ B.cell? ⟨z, 4, none⟩ = some (.slice m1 8 n1) ∧ B.cell? ⟨z, 5, none⟩ = some (.slice m2 8 n2) ∧ B.cell? ⟨z, 6, none⟩ = some (.slice m3 2 n3) ∧ B.cell? ⟨z, 7, none⟩ = some (.slice (some ⟨g, 0, none⟩) 3 n4) ∧ B.cell? ⟨z, 8, none⟩ = some (.slice m5 0 n5)))) := fun A B h hb => by
      obtain ⟨a1, a2, a3⟩ := h
      have hz : z < A.heap.size := cell_lt a3.1
      exact ⟨a1.trans (hb.mono a1.size), a2.below hb a2.lt, by rw [hb.cell (p := ⟨z, 0, none⟩) hz]; exact a3.1, by rw [hb.cell (p := ⟨z, 1, none⟩) hz]; exact a3.2.1, by rw [hb.cell (p := ⟨z, 2, none⟩) hz]; exact a3.2.2.1, by rw [hb.cell (p := ⟨z, 3, none⟩) hz]; exact a3.2.2.2.1, by rw [hb.cell (p := ⟨z, 4, none⟩) hz]; exact a3.2.2.2.2.1, by rw [hb.cell (p := ⟨z, 5, none⟩) hz]; exact a3.2.2.2.2.2.1, by rw [hb.cell (p := ⟨z, 6, none⟩) hz]; exact a3.2.2.2.2.2.2.1, by rw [hb.cell (p := ⟨z, 7, none⟩) hz]; exact a3.2.2.2.2.2.2.2.1, by rw [hb.cell (p := ⟨z, 8, none⟩) hz]; exact a3.2.2.2.2.2.2.2.2⟩
    have D0 : Hid (Below w3.heap.size w3 { w3 with drawn := w3.drawn + 1 }) := (Below.refl _ _).drew
    generalize ({ w3 with drawn := w3.drawn + 1 } : World) = v0 at *
    have Fv0 : Hid (Below w.heap.size w v0 ∧ Bw v0 w.heap.size X (.slice p1 X.gs.length q1) (.slice p2 X.os.length q2) (.slice p3 X.gold.length q3) (.slice p4 X.us.length q4) (.slice p5 X.qs.length q5) ∧ (v0.cell? ⟨z, 0, none⟩ = some (.int .i64 0) ∧ v0.cell? ⟨z, 1, none⟩ = some (.int .i64 4) ∧ v0.cell? ⟨z, 2, none⟩ = some (.int .i64 4) ∧ v0.cell? ⟨z, 3, none⟩ = some (.int .i64 2) ∧ v0.cell? ⟨z, 4, none⟩ = some (.slice m1 8 n1) ∧ v0.cell? ⟨z, 5, none⟩ = some (.slice m2 8 n2) ∧ v0.cell? ⟨z, 6, none⟩ = some (.slice m3 2 n3) ∧ v0.cell? ⟨z, 7, none⟩ = some (.slice (some ⟨g, 0, none⟩) 3 n4) ∧ v0.cell? ⟨z, 8, none⟩ = some (.slice m5 0 n5))) := FB.out w3 v0 ⟨B3.out, X3.out, W3.out.cells⟩ D0.out
    have L0 : Hid (Wl v0 (.agg #[.int .i64 0, .int .i64 4, .int .i64 4, .int .i64 2, .slice m1 8 n1, .slice m2 8 n2, .slice m3 2 n3, .slice (some ⟨g, 0, none⟩) 3 n4, .slice m5 0 n5]) SQ) := L3.out.below D0.out
    clear W3 X3 B3 L3 D0
    have NEW : Hid (∀ V : World, (Below w.heap.size w V ∧ Bw V w.heap.size X (.slice p1 X.gs.length q1) (.slice p2 X.os.length q2) (.slice p3 X.gold.length q3) (.slice p4 X.us.length q4) (.slice p5 X.qs.length q5) ∧ (V.cell? ⟨z, 0, none⟩ = some (.int .i64 0) ∧ V.cell? ⟨z, 1, none⟩ = some (.int .i64 4) ∧ V.cell? ⟨z, 2, none⟩ = some (.int .i64 4) ∧ V.cell? ⟨z, 3, none⟩ = some (.int .i64 2) ∧ V.cell? ⟨z, 4, none⟩ = some (.slice m1 8 n1) ∧ V.cell? ⟨z, 5, none⟩ = some (.slice m2 8 n2) ∧ V.cell? ⟨z, 6, none⟩ = some (.slice m3 2 n3) ∧ V.cell? ⟨z, 7, none⟩ = some (.slice (some ⟨g, 0, none⟩) 3 n4) ∧ V.cell? ⟨z, 8, none⟩ = some (.slice m5 0 n5))) → Wx (V.alloc (Obj.cells #[.int .i64 0, .int .i64 0, .int .i64 0, .int .i64 0, .slice none 0 0, .slice none 0 0, .slice none 0 0, .slice none 0 0, .slice none 0 0] 29)) V.heap.size (.int .i64 0) (.int .i64 0) (.int .i64 0) (.int .i64 0) (.slice none 0 0) (.slice none 0 0) (.slice none 0 0) (.slice none 0 0) (.slice none 0 0) ∧ w.heap.size < V.heap.size ∧ z < V.heap.size ∧ Below V.heap.size V (V.alloc (Obj.cells #[.int .i64 0, .int .i64 0, .int .i64 0, .int .i64 0, .slice none 0 0, .slice none 0 0, .slice none 0 0, .slice none 0 0, .slice none 0 0] 29)) ∧ (V.alloc (Obj.cells #[.int .i64 0, .int .i64 0, .int .i64 0, .int .i64 0, .slice none 0 0, .slice none 0 0, .slice none 0 0, .slice none 0 0, .slice none 0 0] 29)).heap.size = V.heap.size + 1) := fun V h => ⟨Wx.new (.int .i64 0) (.int .i64 0) (.int .i64 0) (.int .i64 0) (.slice none 0 0) (.slice none 0 0) (.slice none 0 0) (.slice none 0 0) (.slice none 0 0) rfl, h.2.1.lt, cell_lt h.2.2.1, (Below.refl _ _).alloc (Nat.le_refl _) _, by simp⟩
    refine headA_read rfl (.agg #[.int .i64 0, .int .i64 4, .int .i64 4, .int .i64 2, .slice m1 8 n1, .slice m2 8 n2, .slice m3 2 n3, .slice (some ⟨g, 0, none⟩) 3 n4, .slice m5 0 n5]) (by go_simp) (fun V hV => by obtain ⟨x0, x1, x2, x3, x4, x5, x6, x7, x8⟩ := hV; go_simp) ?_
    go_simp
    refine headA_call rfl 6 #[] (by go_simp) (by go_simp) ?_ rfl (.pointer (some ⟨v0.heap.size, 0, none⟩)) (v0.alloc (Obj.cells #[.int .i64 0, .int .i64 0, .int .i64 0, .int .i64 0, .slice none 0 0, .slice none 0 0, .slice none 0 0, .slice none 0 0, .slice none 0 0] 29)) (by go_simp) (by go_simp) (FB.out _ _ Fv0.out (NEW.out v0 Fv0.out).2.2.2.1).2.2 ?_
    · refine (sorts_any v0).mono ?_
      rintro e v1 ⟨ku, rfl, hk, hb⟩
      have KU : Hid (Kl v1 ku SK) := hk
      have Fv1 : Hid (Below w.heap.size w v1 ∧ Bw v1 w.heap.size X (.slice p1 X.gs.length q1) (.slice p2 X.os.length q2) (.slice p3 X.gold.length q3) (.slice p4 X.us.length q4) (.slice p5 X.qs.length q5) ∧ (v1.cell? ⟨z, 0, none⟩ = some (.int .i64 0) ∧ v1.cell? ⟨z, 1, none⟩ = some (.int .i64 4) ∧ v1.cell? ⟨z, 2, none⟩ = some (.int .i64 4) ∧ v1.cell? ⟨z, 3, none⟩ = some (.int .i64 2) ∧ v1.cell? ⟨z, 4, none⟩ = some (.slice m1 8 n1) ∧ v1.cell? ⟨z, 5, none⟩ = some (.slice m2 8 n2) ∧ v1.cell? ⟨z, 6, none⟩ = some (.slice m3 2 n3) ∧ v1.cell? ⟨z, 7, none⟩ = some (.slice (some ⟨g, 0, none⟩) 3 n4) ∧ v1.cell? ⟨z, 8, none⟩ = some (.slice m5 0 n5))) := FB.out v0 v1 Fv0.out hb
      have LA : Hid (Wl v1 (.agg #[.int .i64 0, .int .i64 4, .int .i64 4, .int .i64 2, .slice m1 8 n1, .slice m2 8 n2, .slice m3 2 n3, .slice (some ⟨g, 0, none⟩) 3 n4, .slice m5 0 n5]) SQ) := L0.out.below hb
      refine ⟨_, rfl, Fv1.out.2.2, ?_⟩
      clear hk hb Fv0 L0
      go_simp
      refine headA_call rfl 5 #[ku, .agg #[.int .i64 0, .int .i64 4, .int .i64 4, .int .i64 2, .slice m1 8 n1, .slice m2 8 n2, .slice m3 2 n3, .slice (some ⟨g, 0, none⟩) 3 n4, .slice m5 0 n5]] (by go_simp) (by go_simp) ?_ rfl (.pointer (some ⟨v1.heap.size, 0, none⟩)) (v1.alloc (Obj.cells #[.int .i64 0, .int .i64 0, .int .i64 0, .int .i64 0, .slice none 0 0, .slice none 0 0, .slice none 0 0, .slice none 0 0, .slice none 0 0] 29)) (by go_simp) (by go_simp) (FB.out _ _ Fv1.out (NEW.out v1 Fv1.out).2.2.2.1).2.2 ?_
      · skip
        refine (Move_any ku _ SK SQ v1 KU.out sm_names LA.out (S.out.below Fv1.out.1)).mono ?_
        rintro e v2 ⟨v, ev, r, rfl, hr, hf, hb⟩
        rw [sq_fault] at hr
        obtain rfl := er_zero hr
        obtain ⟨f1, h1, f2, h2, f3, h3, gf, h4, f5, h5, ge, he, rfl, rfl, hgf, h34, hc6, hc2⟩ := sm_move hf
        have H4 : Hid (3 ≤ h4) := h34
        have CE : Hid (v2.cell? ⟨gf, 19, none⟩ = some (.int .i64 2) ∧ v2.cell? ⟨gf, 22, none⟩ = some (.int .i64 0)) := ⟨hc6, hc2⟩
        have Fv2 : Hid (Below w.heap.size w v2 ∧ Bw v2 w.heap.size X (.slice p1 X.gs.length q1) (.slice p2 X.os.length q2) (.slice p3 X.gold.length q3) (.slice p4 X.us.length q4) (.slice p5 X.qs.length q5) ∧ (v2.cell? ⟨z, 0, none⟩ = some (.int .i64 0) ∧ v2.cell? ⟨z, 1, none⟩ = some (.int .i64 4) ∧ v2.cell? ⟨z, 2, none⟩ = some (.int .i64 4) ∧ v2.cell? ⟨z, 3, none⟩ = some (.int .i64 2) ∧ v2.cell? ⟨z, 4, none⟩ = some (.slice m1 8 n1) ∧ v2.cell? ⟨z, 5, none⟩ = some (.slice m2 8 n2) ∧ v2.cell? ⟨z, 6, none⟩ = some (.slice m3 2 n3) ∧ v2.cell? ⟨z, 7, none⟩ = some (.slice (some ⟨g, 0, none⟩) 3 n4) ∧ v2.cell? ⟨z, 8, none⟩ = some (.slice m5 0 n5))) := FB.out v1 v2 Fv1.out hb
        refine ⟨_, rfl, Fv2.out.2.2, ?_⟩
        obtain ⟨n1', n2', n3', n4', n5'⟩ := NEW.out v2 Fv2.out
        have GL : Hid (gf < v2.heap.size) := cell_lt hc6
        obtain ⟨bf, hbf⟩ : ∃ z, v2.heap.size = z := ⟨_, rfl⟩
        clear hgf h34 hc6 hc2 hf hr hb LA KU Fv1
        go_simp
        refine headA_read rfl (.tuple #[.agg #[.int .i64 0, .int .i64 4, .int .i64 4, .int .i64 2, .slice f1 8 h1, .slice f2 8 h2, .slice f3 2 h3, .slice (some ⟨gf, 0, none⟩) 3 h4, .slice f5 0 h5], .slice (some ⟨ge, 0, none⟩) 1 he, .nilIface]) (by go_simp) (fun V hV => by go_simp) ?_
        go_simp
        refine headA_read rfl (.agg #[.int .i64 0, .int .i64 4, .int .i64 4, .int .i64 2, .slice f1 8 h1, .slice f2 8 h2, .slice f3 2 h3, .slice (some ⟨gf, 0, none⟩) 3 h4, .slice f5 0 h5]) (by go_simp) (fun V hV => by go_simp) ?_
        go_simp
        refine headA_read rfl (.slice (some ⟨ge, 0, none⟩) 1 he) (by go_simp) (fun V hV => by go_simp) ?_
        go_simp
        refine headA_read rfl (.nilIface) (by go_simp) (fun V hV => by go_simp) ?_
        go_simp
        refine headA_last rfl (.pointer (some ⟨v2.heap.size, 0, none⟩)) (v2.alloc (Obj.cells #[.int .i64 0, .int .i64 0, .int .i64 0, .int .i64 0, .slice none 0 0, .slice none 0 0, .slice none 0 0, .slice none 0 0, .slice none 0 0] 29)) (by go_simp) (by go_simp) (FB.out _ _ Fv2.out n4').2.2 ?_
        rw [hbf]
        go_simp
        have ZE : Hid (Wx (v2.alloc (Obj.cells #[.int .i64 0, .int .i64 0, .int .i64 0, .int .i64 0, .slice none 0 0, .slice none 0 0, .slice none 0 0, .slice none 0 0, .slice none 0 0] 29)) bf (.int .i64 0) (.int .i64 0) (.int .i64 0) (.int .i64 0) (.slice none 0 0) (.slice none 0 0) (.slice none 0 0) (.slice none 0 0) (.slice none 0 0)) := by rw [← hbf]; exact n1'
        have FE : Hid (Below w.heap.size w (v2.alloc (Obj.cells #[.int .i64 0, .int .i64 0, .int .i64 0, .int .i64 0, .slice none 0 0, .slice none 0 0, .slice none 0 0, .slice none 0 0, .slice none 0 0] 29)) ∧ Bw (v2.alloc (Obj.cells #[.int .i64 0, .int .i64 0, .int .i64 0, .int .i64 0, .slice none 0 0, .slice none 0 0, .slice none 0 0, .slice none 0 0, .slice none 0 0] 29)) w.heap.size X (.slice p1 X.gs.length q1) (.slice p2 X.os.length q2) (.slice p3 X.gold.length q3) (.slice p4 X.us.length q4) (.slice p5 X.qs.length q5) ∧ ((v2.alloc (Obj.cells #[.int .i64 0, .int .i64 0, .int .i64 0, .int .i64 0, .slice none 0 0, .slice none 0 0, .slice none 0 0, .slice none 0 0, .slice none 0 0] 29)).cell? ⟨z, 0, none⟩ = some (.int .i64 0) ∧ (v2.alloc (Obj.cells #[.int .i64 0, .int .i64 0, .int .i64 0, .int .i64 0, .slice none 0 0, .slice none 0 0, .slice none 0 0, .slice none 0 0, .slice none 0 0] 29)).cell? ⟨z, 1, none⟩ = some (.int .i64 4) ∧ (v2.alloc (Obj.cells #[.int .i64 0, .int .i64 0, .int .i64 0, .int .i64 0, .slice none 0 0, .slice none 0 0, .slice none 0 0, .slice none 0 0, .slice none 0 0] 29)).cell? ⟨z, 2, none⟩ = some (.int .i64 4) ∧ (v2.alloc (Obj.cells #[.int .i64 0, .int .i64 0, .int .i64 0, .int .i64 0, .slice none 0 0, .slice none 0 0, .slice none 0 0, .slice none 0 0, .slice none 0 0] 29)).cell? ⟨z, 3, none⟩ = some (.int .i64 2) ∧ (v2.alloc (Obj.cells #[.int .i64 0, .int .i64 0, .int .i64 0, .int .i64 0, .slice none 0 0, .slice none 0 0, .slice none 0 0, .slice none 0 0, .slice none 0 0] 29)).cell? ⟨z, 4, none⟩ = some (.slice m1 8 n1) ∧ (v2.alloc (Obj.cells #[.int .i64 0, .int .i64 0, .int .i64 0, .int .i64 0, .slice none 0 0, .slice none 0 0, .slice none 0 0, .slice none 0 0, .slice none 0 0] 29)).cell? ⟨z, 5, none⟩ = some (.slice m2 8 n2) ∧ (v2.alloc (Obj.cells #[.int .i64 0, .int .i64 0, .int .i64 0, .int .i64 0, .slice none 0 0, .slice none 0 0, .slice none 0 0, .slice none 0 0, .slice none 0 0] 29)).cell? ⟨z, 6, none⟩ = some (.slice m3 2 n3) ∧ (v2.alloc (Obj.cells #[.int .i64 0, .int .i64 0, .int .i64 0, .int .i64 0, .slice none 0 0, .slice none 0 0, .slice none 0 0, .slice none 0 0, .slice none 0 0] 29)).cell? ⟨z, 7, none⟩ = some (.slice (some ⟨g, 0, none⟩) 3 n4) ∧ (v2.alloc (Obj.cells #[.int .i64 0, .int .i64 0, .int .i64 0, .int .i64 0, .slice none 0 0, .slice none 0 0, .slice none 0 0, .slice none 0 0, .slice none 0 0] 29)).cell? ⟨z, 8, none⟩ = some (.slice m5 0 n5))) := FB.out _ _ Fv2.out n4'
        have CE2 : Hid ((v2.alloc (Obj.cells #[.int .i64 0, .int .i64 0, .int .i64 0, .int .i64 0, .slice none 0 0, .slice none 0 0, .slice none 0 0, .slice none 0 0, .slice none 0 0] 29)).cell? ⟨gf, 19, none⟩ = some (.int .i64 2) ∧ (v2.alloc (Obj.cells #[.int .i64 0, .int .i64 0, .int .i64 0, .int .i64 0, .slice none 0 0, .slice none 0 0, .slice none 0 0, .slice none 0 0, .slice none 0 0] 29)).cell? ⟨gf, 22, none⟩ = some (.int .i64 0)) := ⟨by rw [n4'.cell (p := ⟨gf, 19, none⟩) GL.out]; exact CE.out.1, by rw [n4'.cell (p := ⟨gf, 22, none⟩) GL.out]; exact CE.out.2⟩
        have NB : Hid (w.heap.size < bf ∧ z ≠ bf ∧ gf ≠ bf) := by have h5 := GL.out; exact ⟨by omega, by omega, by omega⟩
        clear n1' n2' n3' n4' n5' CE GL Fv2 hbf
        generalize (v2.alloc (Obj.cells #[.int .i64 0, .int .i64 0, .int .i64 0, .int .i64 0, .slice none 0 0, .slice none 0 0, .slice none 0 0, .slice none 0 0, .slice none 0 0] 29)) = v3 at *
        obtain ⟨z0, z1, z2, z3, z4, z5, z6, z7, z8⟩ := ZE.out.cells
        obtain ⟨t0, t1, t2, t3, t4, t5, t6, t7, t8⟩ := ZE.out.thaws
        have KZ : Hid (Kp bf v3 (((((((((v3.setCell ⟨bf, 0, none⟩ (.int .i64 0)).setCell ⟨bf, 1, none⟩ (.int .i64 4)).setCell ⟨bf, 2, none⟩ (.int .i64 4)).setCell ⟨bf, 3, none⟩ (.int .i64 2)).setCell ⟨bf, 4, none⟩ (.slice f1 8 h1)).setCell ⟨bf, 5, none⟩ (.slice f2 8 h2)).setCell ⟨bf, 6, none⟩ (.slice f3 2 h3)).setCell ⟨bf, 7, none⟩ (.slice (some ⟨gf, 0, none⟩) 3 h4)).setCell ⟨bf, 8, none⟩ (.slice f5 0 h5))) := put_kp _ _ _ _ _ _ _ _ _ _ _
        obtain ⟨-, -, -, -, -, -, -, w7, -⟩ := (ZE.out.put (.int .i64 0) (.int .i64 4) (.int .i64 4) (.int .i64 2) (.slice f1 8 h1) (.slice f2 8 h2) (.slice f3 2 h3) (.slice (some ⟨gf, 0, none⟩) 3 h4) (.slice f5 0 h5)).cells
        have FS : Hid (Below w.heap.size w (((((((((v3.setCell ⟨bf, 0, none⟩ (.int .i64 0)).setCell ⟨bf, 1, none⟩ (.int .i64 4)).setCell ⟨bf, 2, none⟩ (.int .i64 4)).setCell ⟨bf, 3, none⟩ (.int .i64 2)).setCell ⟨bf, 4, none⟩ (.slice f1 8 h1)).setCell ⟨bf, 5, none⟩ (.slice f2 8 h2)).setCell ⟨bf, 6, none⟩ (.slice f3 2 h3)).setCell ⟨bf, 7, none⟩ (.slice (some ⟨gf, 0, none⟩) 3 h4)).setCell ⟨bf, 8, none⟩ (.slice f5 0 h5)) ∧ Bw (((((((((v3.setCell ⟨bf, 0, none⟩ (.int .i64 0)).setCell ⟨bf, 1, none⟩ (.int .i64 4)).setCell ⟨bf, 2, none⟩ (.int .i64 4)).setCell ⟨bf, 3, none⟩ (.int .i64 2)).setCell ⟨bf, 4, none⟩ (.slice f1 8 h1)).setCell ⟨bf, 5, none⟩ (.slice f2 8 h2)).setCell ⟨bf, 6, none⟩ (.slice f3 2 h3)).setCell ⟨bf, 7, none⟩ (.slice (some ⟨gf, 0, none⟩) 3 h4)).setCell ⟨bf, 8, none⟩ (.slice f5 0 h5)) w.heap.size X (.slice p1 X.gs.length q1) (.slice p2 X.os.length q2) (.slice p3 X.gold.length q3) (.slice p4 X.us.length q4) (.slice p5 X.qs.length q5) ∧ ((((((((((v3.setCell ⟨bf, 0, none⟩ (.int .i64 0)).setCell ⟨bf, 1, none⟩ (.int .i64 4)).setCell ⟨bf, 2, none⟩ (.int .i64 4)).setCell ⟨bf, 3, none⟩ (.int .i64 2)).setCell ⟨bf, 4, none⟩ (.slice f1 8 h1)).setCell ⟨bf, 5, none⟩ (.slice f2 8 h2)).setCell ⟨bf, 6, none⟩ (.slice f3 2 h3)).setCell ⟨bf, 7, none⟩ (.slice (some ⟨gf, 0, none⟩) 3 h4)).setCell ⟨bf, 8, none⟩ (.slice f5 0 h5)).cell? ⟨z, 0, none⟩ = some (.int .i64 0) ∧ (((((((((v3.setCell ⟨bf, 0, none⟩ (.int .i64 0)).setCell ⟨bf, 1, none⟩ (.int .i64 4)).setCell ⟨bf, 2, none⟩ (.int .i64 4)).setCell ⟨bf, 3, none⟩ (.int .i64 2)).setCell ⟨bf, 4, none⟩ (.slice f1 8 h1)).setCell ⟨bf, 5, none⟩ (.slice f2 8 h2)).setCell ⟨bf, 6, none⟩ (.slice f3 2 h3)).setCell ⟨bf, 7, none⟩ (.slice (some ⟨gf, 0, none⟩) 3 h4)).setCell ⟨bf, 8, none⟩ (.slice f5 0 h5)).cell? ⟨z, 1, none⟩ = some (.int .i64 4) ∧ (((((((((v3.setCell ⟨bf, 0, none⟩ (.int .i64 0)).setCell ⟨bf, 1, none⟩ (.int .i64 4)).setCell ⟨bf, 2, none⟩ (.int .i64 4)).setCell ⟨bf, 3, none⟩ (.int .i64 2)).setCell ⟨bf, 4, none⟩ (.slice f1 8 h1)).setCell ⟨bf, 5, none⟩ (.slice f2 8 h2)).setCell ⟨bf, 6, none⟩ (.slice f3 2 h3)).setCell ⟨bf, 7, none⟩ (.slice (some ⟨gf, 0, none⟩) 3 h4)).setCell ⟨bf, 8, none⟩ (.slice f5 0 h5)).cell? ⟨z, 2, none⟩ = some (.int .i64 4) ∧ (((((((((v3.setCell ⟨bf, 0, none⟩ (.int .i64 0)).setCell ⟨bf, 1, none⟩ (.int .i64 4)).setCell ⟨bf, 2, none⟩ (.int .i64 4)).setCell ⟨bf, 3, none⟩ (.int .i64 2)).setCell ⟨bf, 4, none⟩ (.slice f1 8 h1)).setCell ⟨bf, 5, none⟩ (.slice f2 8 h2)).setCell ⟨bf, 6, none⟩ (.slice f3 2 h3)).setCell ⟨bf, 7, none⟩ (.slice (some ⟨gf, 0, none⟩) 3 h4)).setCell ⟨bf, 8, none⟩ (.slice f5 0 h5)).cell? ⟨z, 3, none⟩ = some (.int .i64 2) ∧ (((((((((v3.setCell ⟨bf, 0, none⟩ (.int .i64 0)).setCell ⟨bf, 1, none⟩ (.int .i64 4)).setCell ⟨bf, 2, none⟩ (.int .i64 4)).setCell ⟨bf, 3, none⟩ (.int .i64 2)).setCell ⟨bf, 4, none⟩ (.slice f1 8 h1)).setCell ⟨bf, 5, none⟩ (.slice f2 8 h2)).setCell ⟨bf, 6, none⟩ (.slice f3 2 h3)).setCell ⟨bf, 7, none⟩ (.slice (some ⟨gf, 0, none⟩) 3 h4)).setCell ⟨bf, 8, none⟩ (.slice f5 0 h5)).cell? ⟨z, 4, none⟩ = some (.slice m1 8 n1) ∧ (((((((((v3.setCell ⟨bf, 0, none⟩ (.int .i64 0)).setCell ⟨bf, 1, none⟩ (.int .i64 4)).setCell ⟨bf, 2, none⟩ (.int .i64 4)).setCell ⟨bf, 3, none⟩ (.int .i64 2)).setCell ⟨bf, 4, none⟩ (.slice f1 8 h1)).setCell ⟨bf, 5, none⟩ (.slice f2 8 h2)).setCell ⟨bf, 6, none⟩ (.slice f3 2 h3)).setCell ⟨bf, 7, none⟩ (.slice (some ⟨gf, 0, none⟩) 3 h4)).setCell ⟨bf, 8, none⟩ (.slice f5 0 h5)).cell? ⟨z, 5, none⟩ = some (.slice m2 8 n2) ∧ (((((((((v3.setCell ⟨bf, 0, none⟩ (.int .i64 0)).setCell ⟨bf, 1, none⟩ (.int .i64 4)).setCell ⟨bf, 2, none⟩ (.int .i64 4)).setCell ⟨bf, 3, none⟩ (.int .i64 2)).setCell ⟨bf, 4, none⟩ (.slice f1 8 h1)).setCell ⟨bf, 5, none⟩ (.slice f2 8 h2)).setCell ⟨bf, 6, none⟩ (.slice f3 2 h3)).setCell ⟨bf, 7, none⟩ (.slice (some ⟨gf, 0, none⟩) 3 h4)).setCell ⟨bf, 8, none⟩ (.slice f5 0 h5)).cell? ⟨z, 6, none⟩ = some (.slice m3 2 n3) ∧ (((((((((v3.setCell ⟨bf, 0, none⟩ (.int .i64 0)).setCell ⟨bf, 1, none⟩ (.int .i64 4)).setCell ⟨bf, 2, none⟩ (.int .i64 4)).setCell ⟨bf, 3, none⟩ (.int .i64 2)).setCell ⟨bf, 4, none⟩ (.slice f1 8 h1)).setCell ⟨bf, 5, none⟩ (.slice f2 8 h2)).setCell ⟨bf, 6, none⟩ (.slice f3 2 h3)).setCell ⟨bf, 7, none⟩ (.slice (some ⟨gf, 0, none⟩) 3 h4)).setCell ⟨bf, 8, none⟩ (.slice f5 0 h5)).cell? ⟨z, 7, none⟩ = some (.slice (some ⟨g, 0, none⟩) 3 n4) ∧ (((((((((v3.setCell ⟨bf, 0, none⟩ (.int .i64 0)).setCell ⟨bf, 1, none⟩ (.int .i64 4)).setCell ⟨bf, 2, none⟩ (.int .i64 4)).setCell ⟨bf, 3, none⟩ (.int .i64 2)).setCell ⟨bf, 4, none⟩ (.slice f1 8 h1)).setCell ⟨bf, 5, none⟩ (.slice f2 8 h2)).setCell ⟨bf, 6, none⟩ (.slice f3 2 h3)).setCell ⟨bf, 7, none⟩ (.slice (some ⟨gf, 0, none⟩) 3 h4)).setCell ⟨bf, 8, none⟩ (.slice f5 0 h5)).cell? ⟨z, 8, none⟩ = some (.slice m5 0 n5))) := by
          obtain ⟨a1, a2, a3⟩ := FE.out
          have hz := NB.out.2.1
          exact ⟨KZ.out.below a1 a1.size (by have := NB.out.1; omega), a2.kp9 KZ.out (by have := NB.out.1; omega), cell_kp9 a3.1 KZ.out hz, cell_kp9 a3.2.1 KZ.out hz, cell_kp9 a3.2.2.1 KZ.out hz, cell_kp9 a3.2.2.2.1 KZ.out hz, cell_kp9 a3.2.2.2.2.1 KZ.out hz, cell_kp9 a3.2.2.2.2.2.1 KZ.out hz, cell_kp9 a3.2.2.2.2.2.2.1 KZ.out hz, cell_kp9 a3.2.2.2.2.2.2.2.1 KZ.out hz, cell_kp9 a3.2.2.2.2.2.2.2.2 KZ.out hz⟩
        have D7 : Hid ((((((((((v3.setCell ⟨bf, 0, none⟩ (.int .i64 0)).setCell ⟨bf, 1, none⟩ (.int .i64 4)).setCell ⟨bf, 2, none⟩ (.int .i64 4)).setCell ⟨bf, 3, none⟩ (.int .i64 2)).setCell ⟨bf, 4, none⟩ (.slice f1 8 h1)).setCell ⟨bf, 5, none⟩ (.slice f2 8 h2)).setCell ⟨bf, 6, none⟩ (.slice f3 2 h3)).setCell ⟨bf, 7, none⟩ (.slice (some ⟨gf, 0, none⟩) 3 h4)).setCell ⟨bf, 8, none⟩ (.slice f5 0 h5)).cell? ⟨bf, 7, none⟩ = some (.slice (some ⟨gf, 0, none⟩) 3 h4) ∧ (((((((((v3.setCell ⟨bf, 0, none⟩ (.int .i64 0)).setCell ⟨bf, 1, none⟩ (.int .i64 4)).setCell ⟨bf, 2, none⟩ (.int .i64 4)).setCell ⟨bf, 3, none⟩ (.int .i64 2)).setCell ⟨bf, 4, none⟩ (.slice f1 8 h1)).setCell ⟨bf, 5, none⟩ (.slice f2 8 h2)).setCell ⟨bf, 6, none⟩ (.slice f3 2 h3)).setCell ⟨bf, 7, none⟩ (.slice (some ⟨gf, 0, none⟩) 3 h4)).setCell ⟨bf, 8, none⟩ (.slice f5 0 h5)).cell? ⟨gf, 19, none⟩ = some (.int .i64 2) ∧ (((((((((v3.setCell ⟨bf, 0, none⟩ (.int .i64 0)).setCell ⟨bf, 1, none⟩ (.int .i64 4)).setCell ⟨bf, 2, none⟩ (.int .i64 4)).setCell ⟨bf, 3, none⟩ (.int .i64 2)).setCell ⟨bf, 4, none⟩ (.slice f1 8 h1)).setCell ⟨bf, 5, none⟩ (.slice f2 8 h2)).setCell ⟨bf, 6, none⟩ (.slice f3 2 h3)).setCell ⟨bf, 7, none⟩ (.slice (some ⟨gf, 0, none⟩) 3 h4)).setCell ⟨bf, 8, none⟩ (.slice f5 0 h5)).cell? ⟨gf, 22, none⟩ = some (.int .i64 0)) := ⟨w7, cell_kp9 CE2.out.1 KZ.out NB.out.2.2, cell_kp9 CE2.out.2 KZ.out NB.out.2.2⟩
        clear w7
        refine headT_skip rfl (((((((((v3.setCell ⟨bf, 0, none⟩ (.int .i64 0)).setCell ⟨bf, 1, none⟩ (.int .i64 4)).setCell ⟨bf, 2, none⟩ (.int .i64 4)).setCell ⟨bf, 3, none⟩ (.int .i64 2)).setCell ⟨bf, 4, none⟩ (.slice f1 8 h1)).setCell ⟨bf, 5, none⟩ (.slice f2 8 h2)).setCell ⟨bf, 6, none⟩ (.slice f3 2 h3)).setCell ⟨bf, 7, none⟩ (.slice (some ⟨gf, 0, none⟩) 3 h4)).setCell ⟨bf, 8, none⟩ (.slice f5 0 h5)) (by go_simp) (by go_simp) FS.out.2.2 ?_
        clear z0 z1 z2 z3 z4 z5 z6 z7 z8 t0 t1 t2 t3 t4 t5 t6 t7 t8 KZ ZE FE CE2
        generalize (((((((((v3.setCell ⟨bf, 0, none⟩ (.int .i64 0)).setCell ⟨bf, 1, none⟩ (.int .i64 4)).setCell ⟨bf, 2, none⟩ (.int .i64 4)).setCell ⟨bf, 3, none⟩ (.int .i64 2)).setCell ⟨bf, 4, none⟩ (.slice f1 8 h1)).setCell ⟨bf, 5, none⟩ (.slice f2 8 h2)).setCell ⟨bf, 6, none⟩ (.slice f3 2 h3)).setCell ⟨bf, 7, none⟩ (.slice (some ⟨gf, 0, none⟩) 3 h4)).setCell ⟨bf, 8, none⟩ (.slice f5 0 h5)) = wE at *
        go_simp
        refine headT_value rfl (.slice (some ⟨ge, 0, none⟩) 1 he) wE (by go_simp) (by go_simp) FS.out.2.2 ?_
        go_simp
        unfold wpHeadT
        refine sched_value rfl .nilIface wE (by go_simp) (by go_simp) trivial ?_
        go_simp
        unfold wpSched
        go_wp2_with fail
        go_meet
        case rel => exact ⟨rfl, bf, gf, ge, h4, he, rfl, rfl, H4.out, D7.out.1, D7.out.2.1, D7.out.2.2, FS.out.1, FS.out.2.1⟩
      · skip
        obtain ⟨n1', n2', n3', n4', n5'⟩ := NEW.out v1 Fv1.out
        obtain ⟨bf, hbf⟩ : ∃ z, v1.heap.size = z := ⟨_, rfl⟩
        rw [hbf]
        go_simp
        have ZB : Hid (Wx (v1.alloc (Obj.cells #[.int .i64 0, .int .i64 0, .int .i64 0, .int .i64 0, .slice none 0 0, .slice none 0 0, .slice none 0 0, .slice none 0 0, .slice none 0 0] 29)) bf (.int .i64 0) (.int .i64 0) (.int .i64 0) (.int .i64 0) (.slice none 0 0) (.slice none 0 0) (.slice none 0 0) (.slice none 0 0) (.slice none 0 0)) := by rw [← hbf]; exact n1'
        have Fva : Hid (Below w.heap.size w (v1.alloc (Obj.cells #[.int .i64 0, .int .i64 0, .int .i64 0, .int .i64 0, .slice none 0 0, .slice none 0 0, .slice none 0 0, .slice none 0 0, .slice none 0 0] 29)) ∧ Bw (v1.alloc (Obj.cells #[.int .i64 0, .int .i64 0, .int .i64 0, .int .i64 0, .slice none 0 0, .slice none 0 0, .slice none 0 0, .slice none 0 0, .slice none 0 0] 29)) w.heap.size X (.slice p1 X.gs.length q1) (.slice p2 X.os.length q2) (.slice p3 X.gold.length q3) (.slice p4 X.us.length q4) (.slice p5 X.qs.length q5) ∧ ((v1.alloc (Obj.cells #[.int .i64 0, .int .i64 0, .int .i64 0, .int .i64 0, .slice none 0 0, .slice none 0 0, .slice none 0 0, .slice none 0 0, .slice none 0 0] 29)).cell? ⟨z, 0, none⟩ = some (.int .i64 0) ∧ (v1.alloc (Obj.cells #[.int .i64 0, .int .i64 0, .int .i64 0, .int .i64 0, .slice none 0 0, .slice none 0 0, .slice none 0 0, .slice none 0 0, .slice none 0 0] 29)).cell? ⟨z, 1, none⟩ = some (.int .i64 4) ∧ (v1.alloc (Obj.cells #[.int .i64 0, .int .i64 0, .int .i64 0, .int .i64 0, .slice none 0 0, .slice none 0 0, .slice none 0 0, .slice none 0 0, .slice none 0 0] 29)).cell? ⟨z, 2, none⟩ = some (.int .i64 4) ∧ (v1.alloc (Obj.cells #[.int .i64 0, .int .i64 0, .int .i64 0, .int .i64 0, .slice none 0 0, .slice none 0 0, .slice none 0 0, .slice none 0 0, .slice none 0 0] 29)).cell? ⟨z, 3, none⟩ = some (.int .i64 2) ∧ (v1.alloc (Obj.cells #[.int .i64 0, .int .i64 0, .int .i64 0, .int .i64 0, .slice none 0 0, .slice none 0 0, .slice none 0 0, .slice none 0 0, .slice none 0 0] 29)).cell? ⟨z, 4, none⟩ = some (.slice m1 8 n1) ∧ (v1.alloc (Obj.cells #[.int .i64 0, .int .i64 0, .int .i64 0, .int .i64 0, .slice none 0 0, .slice none 0 0, .slice none 0 0, .slice none 0 0, .slice none 0 0] 29)).cell? ⟨z, 5, none⟩ = some (.slice m2 8 n2) ∧ (v1.alloc (Obj.cells #[.int .i64 0, .int .i64 0, .int .i64 0, .int .i64 0, .slice none 0 0, .slice none 0 0, .slice none 0 0, .slice none 0 0, .slice none 0 0] 29)).cell? ⟨z, 6, none⟩ = some (.slice m3 2 n3) ∧ (v1.alloc (Obj.cells #[.int .i64 0, .int .i64 0, .int .i64 0, .int .i64 0, .slice none 0 0, .slice none 0 0, .slice none 0 0, .slice none 0 0, .slice none 0 0] 29)).cell? ⟨z, 7, none⟩ = some (.slice (some ⟨g, 0, none⟩) 3 n4) ∧ (v1.alloc (Obj.cells #[.int .i64 0, .int .i64 0, .int .i64 0, .int .i64 0, .slice none 0 0, .slice none 0 0, .slice none 0 0, .slice none 0 0, .slice none 0 0] 29)).cell? ⟨z, 8, none⟩ = some (.slice m5 0 n5))) := FB.out _ _ Fv1.out n4'
        have LB : Hid (Wl (v1.alloc (Obj.cells #[.int .i64 0, .int .i64 0, .int .i64 0, .int .i64 0, .slice none 0 0, .slice none 0 0, .slice none 0 0, .slice none 0 0, .slice none 0 0] 29)) (.agg #[.int .i64 0, .int .i64 4, .int .i64 4, .int .i64 2, .slice m1 8 n1, .slice m2 8 n2, .slice m3 2 n3, .slice (some ⟨g, 0, none⟩) 3 n4, .slice m5 0 n5]) SQ) := LA.out.below n4'
        have KB : Hid (Kl (v1.alloc (Obj.cells #[.int .i64 0, .int .i64 0, .int .i64 0, .int .i64 0, .slice none 0 0, .slice none 0 0, .slice none 0 0, .slice none 0 0, .slice none 0 0] 29)) ku SK) := KU.out.below n4'
        have N0 : Hid (w.heap.size < bf ∧ z ≠ bf ∧ bf < (v1.alloc (Obj.cells #[.int .i64 0, .int .i64 0, .int .i64 0, .int .i64 0, .slice none 0 0, .slice none 0 0, .slice none 0 0, .slice none 0 0, .slice none 0 0] 29)).heap.size) := ⟨by omega, by omega, by omega⟩
        clear n1' n2' n3' n4' n5' LA KU Fv1 hbf
        generalize (v1.alloc (Obj.cells #[.int .i64 0, .int .i64 0, .int .i64 0, .int .i64 0, .slice none 0 0, .slice none 0 0, .slice none 0 0, .slice none 0 0, .slice none 0 0] 29)) = va at *
        refine headT_call rfl 5 #[ku, .agg #[.int .i64 0, .int .i64 4, .int .i64 4, .int .i64 2, .slice m1 8 n1, .slice m2 8 n2, .slice m3 2 n3, .slice (some ⟨g, 0, none⟩) 3 n4, .slice m5 0 n5]] (by go_simp) (by go_simp) ?_
        refine (Move_any ku _ SK SQ va KB.out sm_names LB.out (S.out.below Fva.out.1)).mono ?_
        rintro e v2 ⟨v, ev, r, rfl, hr, hf, hb⟩
        rw [sq_fault] at hr
        obtain rfl := er_zero hr
        obtain ⟨f1, h1, f2, h2, f3, h3, gf, h4, f5, h5, ge, he, rfl, rfl, hgf, h34, hc6, hc2⟩ := sm_move hf
        have H4 : Hid (3 ≤ h4) := h34
        have CE : Hid (v2.cell? ⟨gf, 19, none⟩ = some (.int .i64 2) ∧ v2.cell? ⟨gf, 22, none⟩ = some (.int .i64 0)) := ⟨hc6, hc2⟩
        have Fv2 : Hid (Below w.heap.size w v2 ∧ Bw v2 w.heap.size X (.slice p1 X.gs.length q1) (.slice p2 X.os.length q2) (.slice p3 X.gold.length q3) (.slice p4 X.us.length q4) (.slice p5 X.qs.length q5) ∧ (v2.cell? ⟨z, 0, none⟩ = some (.int .i64 0) ∧ v2.cell? ⟨z, 1, none⟩ = some (.int .i64 4) ∧ v2.cell? ⟨z, 2, none⟩ = some (.int .i64 4) ∧ v2.cell? ⟨z, 3, none⟩ = some (.int .i64 2) ∧ v2.cell? ⟨z, 4, none⟩ = some (.slice m1 8 n1) ∧ v2.cell? ⟨z, 5, none⟩ = some (.slice m2 8 n2) ∧ v2.cell? ⟨z, 6, none⟩ = some (.slice m3 2 n3) ∧ v2.cell? ⟨z, 7, none⟩ = some (.slice (some ⟨g, 0, none⟩) 3 n4) ∧ v2.cell? ⟨z, 8, none⟩ = some (.slice m5 0 n5))) := FB.out va v2 Fva.out hb
        have NB : Hid (w.heap.size < bf ∧ z ≠ bf ∧ gf ≠ bf) := by have h5 := N0.out; exact ⟨h5.1, h5.2.1, by omega⟩
        have ZE : Hid (Wx v2 bf (.int .i64 0) (.int .i64 0) (.int .i64 0) (.int .i64 0) (.slice none 0 0) (.slice none 0 0) (.slice none 0 0) (.slice none 0 0) (.slice none 0 0)) := ZB.out.below hb N0.out.2.2
        refine ⟨_, rfl, Fv2.out.2.2, ?_⟩
        clear hgf h34 hc6 hc2 hf hr hb LB KB Fva ZB N0
        go_simp
        refine headT_read rfl (.tuple #[.agg #[.int .i64 0, .int .i64 4, .int .i64 4, .int .i64 2, .slice f1 8 h1, .slice f2 8 h2, .slice f3 2 h3, .slice (some ⟨gf, 0, none⟩) 3 h4, .slice f5 0 h5], .slice (some ⟨ge, 0, none⟩) 1 he, .nilIface]) (by go_simp) (fun V hV => by go_simp) ?_
        go_simp
        refine headT_read rfl (.agg #[.int .i64 0, .int .i64 4, .int .i64 4, .int .i64 2, .slice f1 8 h1, .slice f2 8 h2, .slice f3 2 h3, .slice (some ⟨gf, 0, none⟩) 3 h4, .slice f5 0 h5]) (by go_simp) (fun V hV => by go_simp) ?_
        go_simp
        refine headT_read rfl (.slice (some ⟨ge, 0, none⟩) 1 he) (by go_simp) (fun V hV => by go_simp) ?_
        go_simp
        refine headT_read rfl (.nilIface) (by go_simp) (fun V hV => by go_simp) ?_
        go_simp
        obtain ⟨z0, z1, z2, z3, z4, z5, z6, z7, z8⟩ := ZE.out.cells
        obtain ⟨t0, t1, t2, t3, t4, t5, t6, t7, t8⟩ := ZE.out.thaws
        have KZ : Hid (Kp bf v2 (((((((((v2.setCell ⟨bf, 0, none⟩ (.int .i64 0)).setCell ⟨bf, 1, none⟩ (.int .i64 4)).setCell ⟨bf, 2, none⟩ (.int .i64 4)).setCell ⟨bf, 3, none⟩ (.int .i64 2)).setCell ⟨bf, 4, none⟩ (.slice f1 8 h1)).setCell ⟨bf, 5, none⟩ (.slice f2 8 h2)).setCell ⟨bf, 6, none⟩ (.slice f3 2 h3)).setCell ⟨bf, 7, none⟩ (.slice (some ⟨gf, 0, none⟩) 3 h4)).setCell ⟨bf, 8, none⟩ (.slice f5 0 h5))) := put_kp _ _ _ _ _ _ _ _ _ _ _
        obtain ⟨-, -, -, -, -, -, -, w7, -⟩ := (ZE.out.put (.int .i64 0) (.int .i64 4) (.int .i64 4) (.int .i64 2) (.slice f1 8 h1) (.slice f2 8 h2) (.slice f3 2 h3) (.slice (some ⟨gf, 0, none⟩) 3 h4) (.slice f5 0 h5)).cells
        have FS : Hid (Below w.heap.size w (((((((((v2.setCell ⟨bf, 0, none⟩ (.int .i64 0)).setCell ⟨bf, 1, none⟩ (.int .i64 4)).setCell ⟨bf, 2, none⟩ (.int .i64 4)).setCell ⟨bf, 3, none⟩ (.int .i64 2)).setCell ⟨bf, 4, none⟩ (.slice f1 8 h1)).setCell ⟨bf, 5, none⟩ (.slice f2 8 h2)).setCell ⟨bf, 6, none⟩ (.slice f3 2 h3)).setCell ⟨bf, 7, none⟩ (.slice (some ⟨gf, 0, none⟩) 3 h4)).setCell ⟨bf, 8, none⟩ (.slice f5 0 h5)) ∧ Bw (((((((((v2.setCell ⟨bf, 0, none⟩ (.int .i64 0)).setCell ⟨bf, 1, none⟩ (.int .i64 4)).setCell ⟨bf, 2, none⟩ (.int .i64 4)).setCell ⟨bf, 3, none⟩ (.int .i64 2)).setCell ⟨bf, 4, none⟩ (.slice f1 8 h1)).setCell ⟨bf, 5, none⟩ (.slice f2 8 h2)).setCell ⟨bf, 6, none⟩ (.slice f3 2 h3)).setCell ⟨bf, 7, none⟩ (.slice (some ⟨gf, 0, none⟩) 3 h4)).setCell ⟨bf, 8, none⟩ (.slice f5 0 h5)) w.heap.size X (.slice p1 X.gs.length q1) (.slice p2 X.os.length q2) (.slice p3 X.gold.length q3) (.slice p4 X.us.length q4) (.slice p5 X.qs.length q5) ∧ ((((((((((v2.setCell ⟨bf, 0, none⟩ (.int .i64 0)).setCell ⟨bf, 1, none⟩ (.int .i64 4)).setCell ⟨bf, 2, none⟩ (.int .i64 4)).setCell ⟨bf, 3, none⟩ (.int .i64 2)).setCell ⟨bf, 4, none⟩ (.slice f1 8 h1)).setCell ⟨bf, 5, none⟩ (.slice f2 8 h2)).setCell ⟨bf, 6, none⟩ (.slice f3 2 h3)).setCell ⟨bf, 7, none⟩ (.slice (some ⟨gf, 0, none⟩) 3 h4)).setCell ⟨bf, 8, none⟩ (.slice f5 0 h5)).cell? ⟨z, 0, none⟩ = some (.int .i64 0) ∧ (((((((((v2.setCell ⟨bf, 0, none⟩ (.int .i64 0)).setCell ⟨bf, 1, none⟩ (.int .i64 4)).setCell ⟨bf, 2, none⟩ (.int .i64 4)).setCell ⟨bf, 3, none⟩ (.int .i64 2)).setCell ⟨bf, 4, none⟩ (.slice f1 8 h1)).setCell ⟨bf, 5, none⟩ (.slice f2 8 h2)).setCell ⟨bf, 6, none⟩ (.slice f3 2 h3)).setCell ⟨bf, 7, none⟩ (.slice (some ⟨gf, 0, none⟩) 3 h4)).setCell ⟨bf, 8, none⟩ (.slice f5 0 h5)).cell? ⟨z, 1, none⟩ = some (.int .i64 4) ∧ (((((((((v2.setCell ⟨bf, 0, none⟩ (.int .i64 0)).setCell ⟨bf, 1, none⟩ (.int .i64 4)).setCell ⟨bf, 2, none⟩ (.int .i64 4)).setCell ⟨bf, 3, none⟩ (.int .i64 2)).setCell ⟨bf, 4, none⟩ (.slice f1 8 h1)).setCell ⟨bf, 5, none⟩ (.slice f2 8 h2)).setCell ⟨bf, 6, none⟩ (.slice f3 2 h3)).setCell ⟨bf, 7, none⟩ (.slice (some ⟨gf, 0, none⟩) 3 h4)).setCell ⟨bf, 8, none⟩ (.slice f5 0 h5)).cell? ⟨z, 2, none⟩ = some (.int .i64 4) ∧ (((((((((v2.setCell ⟨bf, 0, none⟩ (.int .i64 0)).setCell ⟨bf, 1, none⟩ (.int .i64 4)).setCell ⟨bf, 2, none⟩ (.int .i64 4)).setCell ⟨bf, 3, none⟩ (.int .i64 2)).setCell ⟨bf, 4, none⟩ (.slice f1 8 h1)).setCell ⟨bf, 5, none⟩ (.slice f2 8 h2)).setCell ⟨bf, 6, none⟩ (.slice f3 2 h3)).setCell ⟨bf, 7, none⟩ (.slice (some ⟨gf, 0, none⟩) 3 h4)).setCell ⟨bf, 8, none⟩ (.slice f5 0 h5)).cell? ⟨z, 3, none⟩ = some (.int .i64 2) ∧ (((((((((v2.setCell ⟨bf, 0, none⟩ (.int .i64 0)).setCell ⟨bf, 1, none⟩ (.int .i64 4)).setCell ⟨bf, 2, none⟩ (.int .i64 4)).setCell ⟨bf, 3, none⟩ (.int .i64 2)).setCell ⟨bf, 4, none⟩ (.slice f1 8 h1)).setCell ⟨bf, 5, none⟩ (.slice f2 8 h2)).setCell ⟨bf, 6, none⟩ (.slice f3 2 h3)).setCell ⟨bf, 7, none⟩ (.slice (some ⟨gf, 0, none⟩) 3 h4)).setCell ⟨bf, 8, none⟩ (.slice f5 0 h5)).cell? ⟨z, 4, none⟩ = some (.slice m1 8 n1) ∧ (((((((((v2.setCell ⟨bf, 0, none⟩ (.int .i64 0)).setCell ⟨bf, 1, none⟩ (.int .i64 4)).setCell ⟨bf, 2, none⟩ (.int .i64 4)).setCell ⟨bf, 3, none⟩ (.int .i64 2)).setCell ⟨bf, 4, none⟩ (.slice f1 8 h1)).setCell ⟨bf, 5, none⟩ (.slice f2 8 h2)).setCell ⟨bf, 6, none⟩ (.slice f3 2 h3)).setCell ⟨bf, 7, none⟩ (.slice (some ⟨gf, 0, none⟩) 3 h4)).setCell ⟨bf, 8, none⟩ (.slice f5 0 h5)).cell? ⟨z, 5, none⟩ = some (.slice m2 8 n2) ∧ (((((((((v2.setCell ⟨bf, 0, none⟩ (.int .i64 0)).setCell ⟨bf, 1, none⟩ (.int .i64 4)).setCell ⟨bf, 2, none⟩ (.int .i64 4)).setCell ⟨bf, 3, none⟩ (.int .i64 2)).setCell ⟨bf, 4, none⟩ (.slice f1 8 h1)).setCell ⟨bf, 5, none⟩ (.slice f2 8 h2)).setCell ⟨bf, 6, none⟩ (.slice f3 2 h3)).setCell ⟨bf, 7, none⟩ (.slice (some ⟨gf, 0, none⟩) 3 h4)).setCell ⟨bf, 8, none⟩ (.slice f5 0 h5)).cell? ⟨z, 6, none⟩ = some (.slice m3 2 n3) ∧ (((((((((v2.setCell ⟨bf, 0, none⟩ (.int .i64 0)).setCell ⟨bf, 1, none⟩ (.int .i64 4)).setCell ⟨bf, 2, none⟩ (.int .i64 4)).setCell ⟨bf, 3, none⟩ (.int .i64 2)).setCell ⟨bf, 4, none⟩ (.slice f1 8 h1)).setCell ⟨bf, 5, none⟩ (.slice f2 8 h2)).setCell ⟨bf, 6, none⟩ (.slice f3 2 h3)).setCell ⟨bf, 7, none⟩ (.slice (some ⟨gf, 0, none⟩) 3 h4)).setCell ⟨bf, 8, none⟩ (.slice f5 0 h5)).cell? ⟨z, 7, none⟩ = some (.slice (some ⟨g, 0, none⟩) 3 n4) ∧ (((((((((v2.setCell ⟨bf, 0, none⟩ (.int .i64 0)).setCell ⟨bf, 1, none⟩ (.int .i64 4)).setCell ⟨bf, 2, none⟩ (.int .i64 4)).setCell ⟨bf, 3, none⟩ (.int .i64 2)).setCell ⟨bf, 4, none⟩ (.slice f1 8 h1)).setCell ⟨bf, 5, none⟩ (.slice f2 8 h2)).setCell ⟨bf, 6, none⟩ (.slice f3 2 h3)).setCell ⟨bf, 7, none⟩ (.slice (some ⟨gf, 0, none⟩) 3 h4)).setCell ⟨bf, 8, none⟩ (.slice f5 0 h5)).cell? ⟨z, 8, none⟩ = some (.slice m5 0 n5))) := by
          obtain ⟨a1, a2, a3⟩ := Fv2.out
          have hz := NB.out.2.1
          exact ⟨KZ.out.below a1 a1.size (by have := NB.out.1; omega), a2.kp9 KZ.out (by have := NB.out.1; omega), cell_kp9 a3.1 KZ.out hz, cell_kp9 a3.2.1 KZ.out hz, cell_kp9 a3.2.2.1 KZ.out hz, cell_kp9 a3.2.2.2.1 KZ.out hz, cell_kp9 a3.2.2.2.2.1 KZ.out hz, cell_kp9 a3.2.2.2.2.2.1 KZ.out hz, cell_kp9 a3.2.2.2.2.2.2.1 KZ.out hz, cell_kp9 a3.2.2.2.2.2.2.2.1 KZ.out hz, cell_kp9 a3.2.2.2.2.2.2.2.2 KZ.out hz⟩
        have D7 : Hid ((((((((((v2.setCell ⟨bf, 0, none⟩ (.int .i64 0)).setCell ⟨bf, 1, none⟩ (.int .i64 4)).setCell ⟨bf, 2, none⟩ (.int .i64 4)).setCell ⟨bf, 3, none⟩ (.int .i64 2)).setCell ⟨bf, 4, none⟩ (.slice f1 8 h1)).setCell ⟨bf, 5, none⟩ (.slice f2 8 h2)).setCell ⟨bf, 6, none⟩ (.slice f3 2 h3)).setCell ⟨bf, 7, none⟩ (.slice (some ⟨gf, 0, none⟩) 3 h4)).setCell ⟨bf, 8, none⟩ (.slice f5 0 h5)).cell? ⟨bf, 7, none⟩ = some (.slice (some ⟨gf, 0, none⟩) 3 h4) ∧ (((((((((v2.setCell ⟨bf, 0, none⟩ (.int .i64 0)).setCell ⟨bf, 1, none⟩ (.int .i64 4)).setCell ⟨bf, 2, none⟩ (.int .i64 4)).setCell ⟨bf, 3, none⟩ (.int .i64 2)).setCell ⟨bf, 4, none⟩ (.slice f1 8 h1)).setCell ⟨bf, 5, none⟩ (.slice f2 8 h2)).setCell ⟨bf, 6, none⟩ (.slice f3 2 h3)).setCell ⟨bf, 7, none⟩ (.slice (some ⟨gf, 0, none⟩) 3 h4)).setCell ⟨bf, 8, none⟩ (.slice f5 0 h5)).cell? ⟨gf, 19, none⟩ = some (.int .i64 2) ∧ (((((((((v2.setCell ⟨bf, 0, none⟩ (.int .i64 0)).setCell ⟨bf, 1, none⟩ (.int .i64 4)).setCell ⟨bf, 2, none⟩ (.int .i64 4)).setCell ⟨bf, 3, none⟩ (.int .i64 2)).setCell ⟨bf, 4, none⟩ (.slice f1 8 h1)).setCell ⟨bf, 5, none⟩ (.slice f2 8 h2)).setCell ⟨bf, 6, none⟩ (.slice f3 2 h3)).setCell ⟨bf, 7, none⟩ (.slice (some ⟨gf, 0, none⟩) 3 h4)).setCell ⟨bf, 8, none⟩ (.slice f5 0 h5)).cell? ⟨gf, 22, none⟩ = some (.int .i64 0)) := ⟨w7, cell_kp9 CE.out.1 KZ.out NB.out.2.2, cell_kp9 CE.out.2 KZ.out NB.out.2.2⟩
        clear w7
        refine headT_skip rfl (((((((((v2.setCell ⟨bf, 0, none⟩ (.int .i64 0)).setCell ⟨bf, 1, none⟩ (.int .i64 4)).setCell ⟨bf, 2, none⟩ (.int .i64 4)).setCell ⟨bf, 3, none⟩ (.int .i64 2)).setCell ⟨bf, 4, none⟩ (.slice f1 8 h1)).setCell ⟨bf, 5, none⟩ (.slice f2 8 h2)).setCell ⟨bf, 6, none⟩ (.slice f3 2 h3)).setCell ⟨bf, 7, none⟩ (.slice (some ⟨gf, 0, none⟩) 3 h4)).setCell ⟨bf, 8, none⟩ (.slice f5 0 h5)) (by go_simp) (by go_simp) FS.out.2.2 ?_
        clear z0 z1 z2 z3 z4 z5 z6 z7 z8 t0 t1 t2 t3 t4 t5 t6 t7 t8 KZ ZE Fv2 CE
        generalize (((((((((v2.setCell ⟨bf, 0, none⟩ (.int .i64 0)).setCell ⟨bf, 1, none⟩ (.int .i64 4)).setCell ⟨bf, 2, none⟩ (.int .i64 4)).setCell ⟨bf, 3, none⟩ (.int .i64 2)).setCell ⟨bf, 4, none⟩ (.slice f1 8 h1)).setCell ⟨bf, 5, none⟩ (.slice f2 8 h2)).setCell ⟨bf, 6, none⟩ (.slice f3 2 h3)).setCell ⟨bf, 7, none⟩ (.slice (some ⟨gf, 0, none⟩) 3 h4)).setCell ⟨bf, 8, none⟩ (.slice f5 0 h5)) = wE at *
        go_simp
        refine headT_value rfl (.slice (some ⟨ge, 0, none⟩) 1 he) wE (by go_simp) (by go_simp) FS.out.2.2 ?_
        go_simp
        unfold wpHeadT
        refine sched_value rfl .nilIface wE (by go_simp) (by go_simp) trivial ?_
        go_simp
        unfold wpSched
        go_wp2_with fail
        go_meet
        case rel => exact ⟨rfl, bf, gf, ge, h4, he, rfl, rfl, H4.out, D7.out.1, D7.out.2.1, D7.out.2.2, FS.out.1, FS.out.2.1⟩
    · skip
      obtain ⟨n1', n2', n3', n4', n5'⟩ := NEW.out v0 Fv0.out
      obtain ⟨bf, hbf⟩ : ∃ z, v0.heap.size = z := ⟨_, rfl⟩
      rw [hbf]
      go_simp
      have ZB : Hid (Wx (v0.alloc (Obj.cells #[.int .i64 0, .int .i64 0, .int .i64 0, .int .i64 0, .slice none 0 0, .slice none 0 0, .slice none 0 0, .slice none 0 0, .slice none 0 0] 29)) bf (.int .i64 0) (.int .i64 0) (.int .i64 0) (.int .i64 0) (.slice none 0 0) (.slice none 0 0) (.slice none 0 0) (.slice none 0 0) (.slice none 0 0)) := by rw [← hbf]; exact n1'
      have Fva : Hid (Below w.heap.size w (v0.alloc (Obj.cells #[.int .i64 0, .int .i64 0, .int .i64 0, .int .i64 0, .slice none 0 0, .slice none 0 0, .slice none 0 0, .slice none 0 0, .slice none 0 0] 29)) ∧ Bw (v0.alloc (Obj.cells #[.int .i64 0, .int .i64 0, .int .i64 0, .int .i64 0, .slice none 0 0, .slice none 0 0, .slice none 0 0, .slice none 0 0, .slice none 0 0] 29)) w.heap.size X (.slice p1 X.gs.length q1) (.slice p2 X.os.length q2) (.slice p3 X.gold.length q3) (.slice p4 X.us.length q4) (.slice p5 X.qs.length q5) ∧ ((v0.alloc (Obj.cells #[.int .i64 0, .int .i64 0, .int .i64 0, .int .i64 0, .slice none 0 0, .slice none 0 0, .slice none 0 0, .slice none 0 0, .slice none 0 0] 29)).cell? ⟨z, 0, none⟩ = some (.int .i64 0) ∧ (v0.alloc (Obj.cells #[.int .i64 0, .int .i64 0, .int .i64 0, .int .i64 0, .slice none 0 0, .slice none 0 0, .slice none 0 0, .slice none 0 0, .slice none 0 0] 29)).cell? ⟨z, 1, none⟩ = some (.int .i64 4) ∧ (v0.alloc (Obj.cells #[.int .i64 0, .int .i64 0, .int .i64 0, .int .i64 0, .slice none 0 0, .slice none 0 0, .slice none 0 0, .slice none 0 0, .slice none 0 0] 29)).cell? ⟨z, 2, none⟩ = some (.int .i64 4) ∧ (v0.alloc (Obj.cells #[.int .i64 0, .int .i64 0, .int .i64 0, .int .i64 0, .slice none 0 0, .slice none 0 0, .slice none 0 0, .slice none 0 0, .slice none 0 0] 29)).cell? ⟨z, 3, none⟩ = some (.int .i64 2) ∧ (v0.alloc (Obj.cells #[.int .i64 0, .int .i64 0, .int .i64 0, .int .i64 0, .slice none 0 0, .slice none 0 0, .slice none 0 0, .slice none 0 0, .slice none 0 0] 29)).cell? ⟨z, 4, none⟩ = some (.slice m1 8 n1) ∧ (v0.alloc (Obj.cells #[.int .i64 0, .int .i64 0, .int .i64 0, .int .i64 0, .slice none 0 0, .slice none 0 0, .slice none 0 0, .slice none 0 0, .slice none 0 0] 29)).cell? ⟨z, 5, none⟩ = some (.slice m2 8 n2) ∧ (v0.alloc (Obj.cells #[.int .i64 0, .int .i64 0, .int .i64 0, .int .i64 0, .slice none 0 0, .slice none 0 0, .slice none 0 0, .slice none 0 0, .slice none 0 0] 29)).cell? ⟨z, 6, none⟩ = some (.slice m3 2 n3) ∧ (v0.alloc (Obj.cells #[.int .i64 0, .int .i64 0, .int .i64 0, .int .i64 0, .slice none 0 0, .slice none 0 0, .slice none 0 0, .slice none 0 0, .slice none 0 0] 29)).cell? ⟨z, 7, none⟩ = some (.slice (some ⟨g, 0, none⟩) 3 n4) ∧ (v0.alloc (Obj.cells #[.int .i64 0, .int .i64 0, .int .i64 0, .int .i64 0, .slice none 0 0, .slice none 0 0, .slice none 0 0, .slice none 0 0, .slice none 0 0] 29)).cell? ⟨z, 8, none⟩ = some (.slice m5 0 n5))) := FB.out _ _ Fv0.out n4'
      have LB : Hid (Wl (v0.alloc (Obj.cells #[.int .i64 0, .int .i64 0, .int .i64 0, .int .i64 0, .slice none 0 0, .slice none 0 0, .slice none 0 0, .slice none 0 0, .slice none 0 0] 29)) (.agg #[.int .i64 0, .int .i64 4, .int .i64 4, .int .i64 2, .slice m1 8 n1, .slice m2 8 n2, .slice m3 2 n3, .slice (some ⟨g, 0, none⟩) 3 n4, .slice m5 0 n5]) SQ) := L0.out.below n4'
      have N0 : Hid (w.heap.size < bf ∧ z ≠ bf ∧ bf < (v0.alloc (Obj.cells #[.int .i64 0, .int .i64 0, .int .i64 0, .int .i64 0, .slice none 0 0, .slice none 0 0, .slice none 0 0, .slice none 0 0, .slice none 0 0] 29)).heap.size) := ⟨by omega, by omega, by omega⟩
      clear n1' n2' n3' n4' n5' L0 Fv0 hbf
      generalize (v0.alloc (Obj.cells #[.int .i64 0, .int .i64 0, .int .i64 0, .int .i64 0, .slice none 0 0, .slice none 0 0, .slice none 0 0, .slice none 0 0, .slice none 0 0] 29)) = va at *
      refine headT_call rfl 6 #[] (by go_simp) (by go_simp) ?_
      refine (sorts_any va).mono ?_
      rintro e vb ⟨ku, rfl, hk, hb⟩
      have KU : Hid (Kl vb ku SK) := hk
      have Fvb : Hid (Below w.heap.size w vb ∧ Bw vb w.heap.size X (.slice p1 X.gs.length q1) (.slice p2 X.os.length q2) (.slice p3 X.gold.length q3) (.slice p4 X.us.length q4) (.slice p5 X.qs.length q5) ∧ (vb.cell? ⟨z, 0, none⟩ = some (.int .i64 0) ∧ vb.cell? ⟨z, 1, none⟩ = some (.int .i64 4) ∧ vb.cell? ⟨z, 2, none⟩ = some (.int .i64 4) ∧ vb.cell? ⟨z, 3, none⟩ = some (.int .i64 2) ∧ vb.cell? ⟨z, 4, none⟩ = some (.slice m1 8 n1) ∧ vb.cell? ⟨z, 5, none⟩ = some (.slice m2 8 n2) ∧ vb.cell? ⟨z, 6, none⟩ = some (.slice m3 2 n3) ∧ vb.cell? ⟨z, 7, none⟩ = some (.slice (some ⟨g, 0, none⟩) 3 n4) ∧ vb.cell? ⟨z, 8, none⟩ = some (.slice m5 0 n5))) := FB.out va vb Fva.out hb
      have LA : Hid (Wl vb (.agg #[.int .i64 0, .int .i64 4, .int .i64 4, .int .i64 2, .slice m1 8 n1, .slice m2 8 n2, .slice m3 2 n3, .slice (some ⟨g, 0, none⟩) 3 n4, .slice m5 0 n5]) SQ) := LB.out.below hb
      have ZC : Hid (Wx vb bf (.int .i64 0) (.int .i64 0) (.int .i64 0) (.int .i64 0) (.slice none 0 0) (.slice none 0 0) (.slice none 0 0) (.slice none 0 0) (.slice none 0 0)) := ZB.out.below hb N0.out.2.2
      have N1 : Hid (w.heap.size < bf ∧ z ≠ bf ∧ bf < vb.heap.size) := ⟨N0.out.1, N0.out.2.1, Nat.lt_of_lt_of_le N0.out.2.2 hb.size⟩
      refine ⟨_, rfl, Fvb.out.2.2, ?_⟩
      clear hk hb Fva LB ZB N0
      go_simp
      refine headT_call rfl 5 #[ku, .agg #[.int .i64 0, .int .i64 4, .int .i64 4, .int .i64 2, .slice m1 8 n1, .slice m2 8 n2, .slice m3 2 n3, .slice (some ⟨g, 0, none⟩) 3 n4, .slice m5 0 n5]] (by go_simp) (by go_simp) ?_
      refine (Move_any ku _ SK SQ vb KU.out sm_names LA.out (S.out.below Fvb.out.1)).mono ?_
      rintro e v2 ⟨v, ev, r, rfl, hr, hf, hb⟩
      rw [sq_fault] at hr
      obtain rfl := er_zero hr
      obtain ⟨f1, h1, f2, h2, f3, h3, gf, h4, f5, h5, ge, he, rfl, rfl, hgf, h34, hc6, hc2⟩ := sm_move hf
      have H4 : Hid (3 ≤ h4) := h34
      have CE : Hid (v2.cell? ⟨gf, 19, none⟩ = some (.int .i64 2) ∧ v2.cell? ⟨gf, 22, none⟩ = some (.int .i64 0)) := ⟨hc6, hc2⟩
      have Fv2 : Hid (Below w.heap.size w v2 ∧ Bw v2 w.heap.size X (.slice p1 X.gs.length q1) (.slice p2 X.os.length q2) (.slice p3 X.gold.length q3) (.slice p4 X.us.length q4) (.slice p5 X.qs.length q5) ∧ (v2.cell? ⟨z, 0, none⟩ = some (.int .i64 0) ∧ v2.cell? ⟨z, 1, none⟩ = some (.int .i64 4) ∧ v2.cell? ⟨z, 2, none⟩ = some (.int .i64 4) ∧ v2.cell? ⟨z, 3, none⟩ = some (.int .i64 2) ∧ v2.cell? ⟨z, 4, none⟩ = some (.slice m1 8 n1) ∧ v2.cell? ⟨z, 5, none⟩ = some (.slice m2 8 n2) ∧ v2.cell? ⟨z, 6, none⟩ = some (.slice m3 2 n3) ∧ v2.cell? ⟨z, 7, none⟩ = some (.slice (some ⟨g, 0, none⟩) 3 n4) ∧ v2.cell? ⟨z, 8, none⟩ = some (.slice m5 0 n5))) := FB.out vb v2 Fvb.out hb
      have NB : Hid (w.heap.size < bf ∧ z ≠ bf ∧ gf ≠ bf) := by have h5 := N1.out; exact ⟨h5.1, h5.2.1, by omega⟩
      have ZE : Hid (Wx v2 bf (.int .i64 0) (.int .i64 0) (.int .i64 0) (.int .i64 0) (.slice none 0 0) (.slice none 0 0) (.slice none 0 0) (.slice none 0 0) (.slice none 0 0)) := ZC.out.below hb N1.out.2.2
      refine ⟨_, rfl, Fv2.out.2.2, ?_⟩
      clear hgf h34 hc6 hc2 hf hr hb LA KU Fvb ZC N1
      go_simp
      refine headT_read rfl (.tuple #[.agg #[.int .i64 0, .int .i64 4, .int .i64 4, .int .i64 2, .slice f1 8 h1, .slice f2 8 h2, .slice f3 2 h3, .slice (some ⟨gf, 0, none⟩) 3 h4, .slice f5 0 h5], .slice (some ⟨ge, 0, none⟩) 1 he, .nilIface]) (by go_simp) (fun V hV => by go_simp) ?_
      go_simp
      refine headT_read rfl (.agg #[.int .i64 0, .int .i64 4, .int .i64 4, .int .i64 2, .slice f1 8 h1, .slice f2 8 h2, .slice f3 2 h3, .slice (some ⟨gf, 0, none⟩) 3 h4, .slice f5 0 h5]) (by go_simp) (fun V hV => by go_simp) ?_
      go_simp
      refine headT_read rfl (.slice (some ⟨ge, 0, none⟩) 1 he) (by go_simp) (fun V hV => by go_simp) ?_
      go_simp
      refine headT_read rfl (.nilIface) (by go_simp) (fun V hV => by go_simp) ?_
      go_simp
      obtain ⟨z0, z1, z2, z3, z4, z5, z6, z7, z8⟩ := ZE.out.cells
      obtain ⟨t0, t1, t2, t3, t4, t5, t6, t7, t8⟩ := ZE.out.thaws
      have KZ : Hid (Kp bf v2 (((((((((v2.setCell ⟨bf, 0, none⟩ (.int .i64 0)).setCell ⟨bf, 1, none⟩ (.int .i64 4)).setCell ⟨bf, 2, none⟩ (.int .i64 4)).setCell ⟨bf, 3, none⟩ (.int .i64 2)).setCell ⟨bf, 4, none⟩ (.slice f1 8 h1)).setCell ⟨bf, 5, none⟩ (.slice f2 8 h2)).setCell ⟨bf, 6, none⟩ (.slice f3 2 h3)).setCell ⟨bf, 7, none⟩ (.slice (some ⟨gf, 0, none⟩) 3 h4)).setCell ⟨bf, 8, none⟩ (.slice f5 0 h5))) := put_kp _ _ _ _ _ _ _ _ _ _ _
      obtain ⟨-, -, -, -, -, -, -, w7, -⟩ := (ZE.out.put (.int .i64 0) (.int .i64 4) (.int .i64 4) (.int .i64 2) (.slice f1 8 h1) (.slice f2 8 h2) (.slice f3 2 h3) (.slice (some ⟨gf, 0, none⟩) 3 h4) (.slice f5 0 h5)).cells
      have FS : Hid (Below w.heap.size w (((((((((v2.setCell ⟨bf, 0, none⟩ (.int .i64 0)).setCell ⟨bf, 1, none⟩ (.int .i64 4)).setCell ⟨bf, 2, none⟩ (.int .i64 4)).setCell ⟨bf, 3, none⟩ (.int .i64 2)).setCell ⟨bf, 4, none⟩ (.slice f1 8 h1)).setCell ⟨bf, 5, none⟩ (.slice f2 8 h2)).setCell ⟨bf, 6, none⟩ (.slice f3 2 h3)).setCell ⟨bf, 7, none⟩ (.slice (some ⟨gf, 0, none⟩) 3 h4)).setCell ⟨bf, 8, none⟩ (.slice f5 0 h5)) ∧ Bw (((((((((v2.setCell ⟨bf, 0, none⟩ (.int .i64 0)).setCell ⟨bf, 1, none⟩ (.int .i64 4)).setCell ⟨bf, 2, none⟩ (.int .i64 4)).setCell ⟨bf, 3, none⟩ (.int .i64 2)).setCell ⟨bf, 4, none⟩ (.slice f1 8 h1)).setCell ⟨bf, 5, none⟩ (.slice f2 8 h2)).setCell ⟨bf, 6, none⟩ (.slice f3 2 h3)).setCell ⟨bf, 7, none⟩ (.slice (some ⟨gf, 0, none⟩) 3 h4)).setCell ⟨bf, 8, none⟩ (.slice f5 0 h5)) w.heap.size X (.slice p1 X.gs.length q1) (.slice p2 X.os.length q2) (.slice p3 X.gold.length q3) (.slice p4 X.us.length q4) (.slice p5 X.qs.length q5) ∧ ((((((((((v2.setCell ⟨bf, 0, none⟩ (.int .i64 0)).setCell ⟨bf, 1, none⟩ (.int .i64 4)).setCell ⟨bf, 2, none⟩ (.int .i64 4)).setCell ⟨bf, 3, none⟩ (.int .i64 2)).setCell ⟨bf, 4, none⟩ (.slice f1 8 h1)).setCell ⟨bf, 5, none⟩ (.slice f2 8 h2)).setCell ⟨bf, 6, none⟩ (.slice f3 2 h3)).setCell ⟨bf, 7, none⟩ (.slice (some ⟨gf, 0, none⟩) 3 h4)).setCell ⟨bf, 8, none⟩ (.slice f5 0 h5)).cell? ⟨z, 0, none⟩ = some (.int .i64 0) ∧ (((((((((v2.setCell ⟨bf, 0, none⟩ (.int .i64 0)).setCell ⟨bf, 1, none⟩ (.int .i64 4)).setCell ⟨bf, 2, none⟩ (.int .i64 4)).setCell ⟨bf, 3, none⟩ (.int .i64 2)).setCell ⟨bf, 4, none⟩ (.slice f1 8 h1)).setCell ⟨bf, 5, none⟩ (.slice f2 8 h2)).setCell ⟨bf, 6, none⟩ (.slice f3 2 h3)).setCell ⟨bf, 7, none⟩ (.slice (some ⟨gf, 0, none⟩) 3 h4)).setCell ⟨bf, 8, none⟩ (.slice f5 0 h5)).cell? ⟨z, 1, none⟩ = some (.int .i64 4) ∧ (((((((((v2.setCell ⟨bf, 0, none⟩ (.int .i64 0)).setCell ⟨bf, 1, none⟩ (.int .i64 4)).setCell ⟨bf, 2, none⟩ (.int .i64 4)).setCell ⟨bf, 3, none⟩ (.int .i64 2)).setCell ⟨bf, 4, none⟩ (.slice f1 8 h1)).setCell ⟨bf, 5, none⟩ (.slice f2 8 h2)).setCell ⟨bf, 6, none⟩ (.slice f3 2 h3)).setCell ⟨bf, 7, none⟩ (.slice (some ⟨gf, 0, none⟩) 3 h4)).setCell ⟨bf, 8, none⟩ (.slice f5 0 h5)).cell? ⟨z, 2, none⟩ = some (.int .i64 4) ∧ (((((((((v2.setCell ⟨bf, 0, none⟩ (.int .i64 0)).setCell ⟨bf, 1, none⟩ (.int .i64 4)).setCell ⟨bf, 2, none⟩ (.int .i64 4)).setCell ⟨bf, 3, none⟩ (.int .i64 2)).setCell ⟨bf, 4, none⟩ (.slice f1 8 h1)).setCell ⟨bf, 5, none⟩ (.slice f2 8 h2)).setCell ⟨bf, 6, none⟩ (.slice f3 2 h3)).setCell ⟨bf, 7, none⟩ (.slice (some ⟨gf, 0, none⟩) 3 h4)).setCell ⟨bf, 8, none⟩ (.slice f5 0 h5)).cell? ⟨z, 3, none⟩ = some (.int .i64 2) ∧ (((((((((v2.setCell ⟨bf, 0, none⟩ (.int .i64 0)).setCell ⟨bf, 1, none⟩ (.int .i64 4)).setCell ⟨bf, 2, none⟩ (.int .i64 4)).setCell ⟨bf, 3, none⟩ (.int .i64 2)).setCell ⟨bf, 4, none⟩ (.slice f1 8 h1)).setCell ⟨bf, 5, none⟩ (.slice f2 8 h2)).setCell ⟨bf, 6, none⟩ (.slice f3 2 h3)).setCell ⟨bf, 7, none⟩ (.slice (some ⟨gf, 0, none⟩) 3 h4)).setCell ⟨bf, 8, none⟩ (.slice f5 0 h5)).cell? ⟨z, 4, none⟩ = some (.slice m1 8 n1) ∧ (((((((((v2.setCell ⟨bf, 0, none⟩ (.int .i64 0)).setCell ⟨bf, 1, none⟩ (.int .i64 4)).setCell ⟨bf, 2, none⟩ (.int .i64 4)).setCell ⟨bf, 3, none⟩ (.int .i64 2)).setCell ⟨bf, 4, none⟩ (.slice f1 8 h1)).setCell ⟨bf, 5, none⟩ (.slice f2 8 h2)).setCell ⟨bf, 6, none⟩ (.slice f3 2 h3)).setCell ⟨bf, 7, none⟩ (.slice (some ⟨gf, 0, none⟩) 3 h4)).setCell ⟨bf, 8, none⟩ (.slice f5 0 h5)).cell? ⟨z, 5, none⟩ = some (.slice m2 8 n2) ∧ (((((((((v2.setCell ⟨bf, 0, none⟩ (.int .i64 0)).setCell ⟨bf, 1, none⟩ (.int .i64 4)).setCell ⟨bf, 2, none⟩ (.int .i64 4)).setCell ⟨bf, 3, none⟩ (.int .i64 2)).setCell ⟨bf, 4, none⟩ (.slice f1 8 h1)).setCell ⟨bf, 5, none⟩ (.slice f2 8 h2)).setCell ⟨bf, 6, none⟩ (.slice f3 2 h3)).setCell ⟨bf, 7, none⟩ (.slice (some ⟨gf, 0, none⟩) 3 h4)).setCell ⟨bf, 8, none⟩ (.slice f5 0 h5)).cell? ⟨z, 6, none⟩ = some (.slice m3 2 n3) ∧ (((((((((v2.setCell ⟨bf, 0, none⟩ (.int .i64 0)).setCell ⟨bf, 1, none⟩ (.int .i64 4)).setCell ⟨bf, 2, none⟩ (.int .i64 4)).setCell ⟨bf, 3, none⟩ (.int .i64 2)).setCell ⟨bf, 4, none⟩ (.slice f1 8 h1)).setCell ⟨bf, 5, none⟩ (.slice f2 8 h2)).setCell ⟨bf, 6, none⟩ (.slice f3 2 h3)).setCell ⟨bf, 7, none⟩ (.slice (some ⟨gf, 0, none⟩) 3 h4)).setCell ⟨bf, 8, none⟩ (.slice f5 0 h5)).cell? ⟨z, 7, none⟩ = some (.slice (some ⟨g, 0, none⟩) 3 n4) ∧ (((((((((v2.setCell ⟨bf, 0, none⟩ (.int .i64 0)).setCell ⟨bf, 1, none⟩ (.int .i64 4)).setCell ⟨bf, 2, none⟩ (.int .i64 4)).setCell ⟨bf, 3, none⟩ (.int .i64 2)).setCell ⟨bf, 4, none⟩ (.slice f1 8 h1)).setCell ⟨bf, 5, none⟩ (.slice f2 8 h2)).setCell ⟨bf, 6, none⟩ (.slice f3 2 h3)).setCell ⟨bf, 7, none⟩ (.slice (some ⟨gf, 0, none⟩) 3 h4)).setCell ⟨bf, 8, none⟩ (.slice f5 0 h5)).cell? ⟨z, 8, none⟩ = some (.slice m5 0 n5))) := by
        obtain ⟨a1, a2, a3⟩ := Fv2.out
        have hz := NB.out.2.1
        exact ⟨KZ.out.below a1 a1.size (by have := NB.out.1; omega), a2.kp9 KZ.out (by have := NB.out.1; omega), cell_kp9 a3.1 KZ.out hz, cell_kp9 a3.2.1 KZ.out hz, cell_kp9 a3.2.2.1 KZ.out hz, cell_kp9 a3.2.2.2.1 KZ.out hz, cell_kp9 a3.2.2.2.2.1 KZ.out hz, cell_kp9 a3.2.2.2.2.2.1 KZ.out hz, cell_kp9 a3.2.2.2.2.2.2.1 KZ.out hz, cell_kp9 a3.2.2.2.2.2.2.2.1 KZ.out hz, cell_kp9 a3.2.2.2.2.2.2.2.2 KZ.out hz⟩
      have D7 : Hid ((((((((((v2.setCell ⟨bf, 0, none⟩ (.int .i64 0)).setCell ⟨bf, 1, none⟩ (.int .i64 4)).setCell ⟨bf, 2, none⟩ (.int .i64 4)).setCell ⟨bf, 3, none⟩ (.int .i64 2)).setCell ⟨bf, 4, none⟩ (.slice f1 8 h1)).setCell ⟨bf, 5, none⟩ (.slice f2 8 h2)).setCell ⟨bf, 6, none⟩ (.slice f3 2 h3)).setCell ⟨bf, 7, none⟩ (.slice (some ⟨gf, 0, none⟩) 3 h4)).setCell ⟨bf, 8, none⟩ (.slice f5 0 h5)).cell? ⟨bf, 7, none⟩ = some (.slice (some ⟨gf, 0, none⟩) 3 h4) ∧ (((((((((v2.setCell ⟨bf, 0, none⟩ (.int .i64 0)).setCell ⟨bf, 1, none⟩ (.int .i64 4)).setCell ⟨bf, 2, none⟩ (.int .i64 4)).setCell ⟨bf, 3, none⟩ (.int .i64 2)).setCell ⟨bf, 4, none⟩ (.slice f1 8 h1)).setCell ⟨bf, 5, none⟩ (.slice f2 8 h2)).setCell ⟨bf, 6, none⟩ (.slice f3 2 h3)).setCell ⟨bf, 7, none⟩ (.slice (some ⟨gf, 0, none⟩) 3 h4)).setCell ⟨bf, 8, none⟩ (.slice f5 0 h5)).cell? ⟨gf, 19, none⟩ = some (.int .i64 2) ∧ (((((((((v2.setCell ⟨bf, 0, none⟩ (.int .i64 0)).setCell ⟨bf, 1, none⟩ (.int .i64 4)).setCell ⟨bf, 2, none⟩ (.int .i64 4)).setCell ⟨bf, 3, none⟩ (.int .i64 2)).setCell ⟨bf, 4, none⟩ (.slice f1 8 h1)).setCell ⟨bf, 5, none⟩ (.slice f2 8 h2)).setCell ⟨bf, 6, none⟩ (.slice f3 2 h3)).setCell ⟨bf, 7, none⟩ (.slice (some ⟨gf, 0, none⟩) 3 h4)).setCell ⟨bf, 8, none⟩ (.slice f5 0 h5)).cell? ⟨gf, 22, none⟩ = some (.int .i64 0)) := ⟨w7, cell_kp9 CE.out.1 KZ.out NB.out.2.2, cell_kp9 CE.out.2 KZ.out NB.out.2.2⟩
      clear w7
      refine headT_skip rfl (((((((((v2.setCell ⟨bf, 0, none⟩ (.int .i64 0)).setCell ⟨bf, 1, none⟩ (.int .i64 4)).setCell ⟨bf, 2, none⟩ (.int .i64 4)).setCell ⟨bf, 3, none⟩ (.int .i64 2)).setCell ⟨bf, 4, none⟩ (.slice f1 8 h1)).setCell ⟨bf, 5, none⟩ (.slice f2 8 h2)).setCell ⟨bf, 6, none⟩ (.slice f3 2 h3)).setCell ⟨bf, 7, none⟩ (.slice (some ⟨gf, 0, none⟩) 3 h4)).setCell ⟨bf, 8, none⟩ (.slice f5 0 h5)) (by go_simp) (by go_simp) FS.out.2.2 ?_
      clear z0 z1 z2 z3 z4 z5 z6 z7 z8 t0 t1 t2 t3 t4 t5 t6 t7 t8 KZ ZE Fv2 CE
      generalize (((((((((v2.setCell ⟨bf, 0, none⟩ (.int .i64 0)).setCell ⟨bf, 1, none⟩ (.int .i64 4)).setCell ⟨bf, 2, none⟩ (.int .i64 4)).setCell ⟨bf, 3, none⟩ (.int .i64 2)).setCell ⟨bf, 4, none⟩ (.slice f1 8 h1)).setCell ⟨bf, 5, none⟩ (.slice f2 8 h2)).setCell ⟨bf, 6, none⟩ (.slice f3 2 h3)).setCell ⟨bf, 7, none⟩ (.slice (some ⟨gf, 0, none⟩) 3 h4)).setCell ⟨bf, 8, none⟩ (.slice f5 0 h5)) = wE at *
      go_simp
      refine headT_value rfl (.slice (some ⟨ge, 0, none⟩) 1 he) wE (by go_simp) (by go_simp) FS.out.2.2 ?_
      go_simp
      unfold wpHeadT
      refine sched_value rfl .nilIface wE (by go_simp) (by go_simp) trivial ?_
      go_simp
      unfold wpSched
      go_wp2_with fail
      go_meet
      case rel => exact ⟨rfl, bf, gf, ge, h4, he, rfl, rfl, H4.out, D7.out.1, D7.out.2.1, D7.out.2.2, FS.out.1, FS.out.2.1⟩
  case rest =>
    as_aux_lemma =>
      obtain ⟨rfl, bf, gf, ge, h4, he, rfl, rfl, hh4, fx7, fc6, fc2, hB, hX⟩ := hcut
      have B4 : Hid (Below w.heap.size w wc) := hB
      have X4 : Hid (Bw wc w.heap.size X (.slice p1 X.gs.length q1) (.slice p2 X.os.length q2) (.slice p3 X.gold.length q3) (.slice p4 X.us.length q4) (.slice p5 X.qs.length q5)) := hX
      clear hB hX
      obtain ⟨x0, x1, x2, x3, x4, x5, x6, x7, x8⟩ := X4.out
      go_wp2_with fail
      refine (Move_any _ _ ks X wc (K.out.1.below B4.out) K.out.2 (H.out.below B4.out) (S.out.below B4.out)).mono ?_
      rintro e w5 ⟨v, ev, r, rfl, hr, hf, hb⟩
      have B5 : Hid (Below w.heap.size w w5) := B4.out.trans (hb.mono B4.out.size)
      have X5 : Hid (Bw w5 w.heap.size X (.slice p1 X.gs.length q1) (.slice p2 X.os.length q2) (.slice p3 X.gold.length q3) (.slice p4 X.us.length q4) (.slice p5 X.qs.length q5)) := X4.out.below hb X4.out.lt
      clear hb x0 x1 x2 x3 x4 x5 x6 x7 x8 fx7 fc6 fc2 hh4 X4 B4
      rcases hf with ⟨hf, rfl, rfl⟩ | ⟨WZ, Wn, Hn, hWn, hHn, G, us', evs, hmv, hlen, ho, hev⟩
      · rcases hr with ⟨h, -⟩ | ⟨-, rfl⟩
        · exact absurd h hf
        have BZ : Hid (Below w.heap.size w (w5.alloc (Obj.cells #[.int .i64 0, .int .i64 0, .int .i64 0, .int .i64 0, .slice none 0 0, .slice none 0 0, .slice none 0 0, .slice none 0 0, .slice none 0 0] 29))) := B5.out.alloc B5.out.size _
        clear hf
        go_wp2
        go_ret
        exact ⟨rfl, BZ.out⟩
      rw [WZ] at hr
      obtain rfl := er_zero hr
      have WR : Hid (WRight ks X) := wright_of WZ
      have GD : Hid (Fd.Good Wn Hn X.gs X.os ∧ X.wide = (Wn : Nat) ∧ X.high = (Hn : Nat)) := ⟨G, hWn, hHn⟩
      have MI : Hid (MInv ks X Wn Hn us') := minv_moves G hmv (minv_start WR.out G)
      have YW : Hid (Wd.wfault ks { X with us := us' } = 0) := minv_right WR.out G hWn hHn MI.out
      have TR0 : Hid (Track ks X Wn Hn (X.us.map (spdOf ks)) (X.us.map UnV.at_) evs (us'.map UnV.at_)) := moves_track G WR.out.kinds hmv _ (minv_start WR.out G) (by rw [List.length_map]) (fun j u _ hu => by rw [List.getElem?_map, hu]; rfl)
      have LY0 : Wl w5 v { X with us := us' } := ho.l
      obtain ⟨y1, y2, y3, y4, y5, rfl, o1, o2, o3, o4, o5⟩ := ho
      have o1' : Ow w5 wc.heap.size y1 X.gs := o1
      have o2' : Ow w5 wc.heap.size y2 X.os := o2
      have o3' : Ow w5 wc.heap.size y3 X.gold := o3
      have o4' : Uno w5 wc.heap.size y4 us' := o4
      have o5' : Jbo w5 wc.heap.size y5 X.qs := o5
      obtain ⟨s1, r1, rfl⟩ := o1'.len
      obtain ⟨s2, r2, rfl⟩ := o2'.len
      obtain ⟨s3, r3, rfl⟩ := o3'.len
      obtain ⟨s4, r4, hs4⟩ := o4'.len
      rw [hlen] at hs4
      subst hs4
      obtain ⟨s5, r5, rfl⟩ := o5'.len
      have LY : Hid (Wl w5 (.agg #[.int .i64 X.turn, .int .i64 X.next, .int .i64 X.wide, .int .i64 X.high, .slice s1 X.gs.length r1, .slice s2 X.os.length r2, .slice s3 X.gold.length r3, .slice s4 X.us.length r4, .slice s5 X.qs.length r5]) { X with us := us' }) := LY0
      obtain ⟨ae, ce, rfl⟩ := hev.len
      have EL : Hid (Evl w5 (.slice ae evs.length ce) evs) := hev.l
      have hce : evs.length ≤ ce ∧ ce ≤ 9223372036854775807 := by
        obtain ⟨a9, c9, h9, h8, h7, -⟩ := hev.l
        injection h9 with _ _ h9
        subst h9
        exact ⟨h8, h7⟩
      obtain ⟨hce1, hce2⟩ := hce
      have hxl : X.us.length ≤ 40 := WR.out.ul
      have UL : Hid (us'.length = X.us.length) := hlen
      clear LY0 o1 o2 o3 o4 o5 o1' o2' o3' o4' o5' hev hr WZ hWn hHn G hmv hlen
      simp only []
      go_upto_region 10 with fail
      have BA : Hid (Below w5.heap.size w5 (w5.alloc (Obj.cells #[.int .i64 X.turn, .int .i64 X.next, .int .i64 X.wide, .int .i64 X.high, .slice s1 X.gs.length r1, .slice s2 X.os.length r2, .slice s3 X.gold.length r3, .slice s4 X.us.length r4, .slice s5 X.qs.length r5] 29))) := (Below.refl _ _).alloc (Nat.le_refl _) _
      obtain ⟨bx, hbx⟩ : ∃ z, w5.heap.size = z := ⟨_, rfl⟩
      have Y6 : Hid (Bw (w5.alloc (Obj.cells #[.int .i64 X.turn, .int .i64 X.next, .int .i64 X.wide, .int .i64 X.high, .slice s1 X.gs.length r1, .slice s2 X.os.length r2, .slice s3 X.gold.length r3, .slice s4 X.us.length r4, .slice s5 X.qs.length r5] 29)) bx X (.slice s1 X.gs.length r1) (.slice s2 X.os.length r2) (.slice s3 X.gold.length r3) (.slice s4 X.us.length r4) (.slice s5 X.qs.length r5)) := Bw.mk' X _ _ _ _ _ hbx
      rw [hbx]
      generalize (w5.alloc (Obj.cells #[.int .i64 X.turn, .int .i64 X.next, .int .i64 X.wide, .int .i64 X.high, .slice s1 X.gs.length r1, .slice s2 X.os.length r2, .slice s3 X.gold.length r3, .slice s4 X.us.length r4, .slice s5 X.qs.length r5] 29)) = w6 at *
      have B6 : Hid (Below w.heap.size w w6) := B5.out.trans (BA.out.mono B5.out.size)
      have X6 : Hid (Bw w6 w.heap.size X (.slice p1 X.gs.length q1) (.slice p2 X.os.length q2) (.slice p3 X.gold.length q3) (.slice p4 X.us.length q4) (.slice p5 X.qs.length q5)) := X5.out.below BA.out X5.out.lt
      clear hbx X5
      obtain ⟨x0, x1, x2, x3, x4, x5, x6, x7, x8⟩ := Y6.out
      go_wp2_with fail
      refine (right_fw _ _ ks { X with us := us' } w6 (K.out.1.below B6.out) K.out.2 (LY.out.below BA.out) YW.out).mono ?_
      rintro e w7 ⟨rfl, hb⟩
      have B57 : Hid (Below w5.heap.size w5 w7) := BA.out.trans (hb.mono BA.out.size)
      have B7 : Hid (Below w.heap.size w w7) := B6.out.trans (hb.mono B6.out.size)
      have X7 : Hid (Bw w7 w.heap.size X (.slice p1 X.gs.length q1) (.slice p2 X.os.length q2) (.slice p3 X.gold.length q3) (.slice p4 X.us.length q4) (.slice p5 X.qs.length q5)) := X6.out.below hb X6.out.lt
      have Y7 : Hid (Bw w7 bx X (.slice s1 X.gs.length r1) (.slice s2 X.os.length r2) (.slice s3 X.gold.length r3) (.slice s4 X.us.length r4) (.slice s5 X.qs.length r5)) := Y6.out.below hb Y6.out.lt
      clear hb x0 x1 x2 x3 x4 x5 x6 x7 x8 X6 Y6 B6 BA
      obtain ⟨x0, x1, x2, x3, x4, x5, x6, x7, x8⟩ := X7.out
      obtain ⟨y0, y1, y2, y3, y4, y5, y6, y7, y8⟩ := Y7.out
      go_upto_region 15 with fail
      clear x0 x1 x2 x3 x4 x5 x6 x8 y0 y1 y2 y3 y4 y5 y6 y7 y8
      obtain ⟨w8, hmk, hbk, hb8, hs8⟩ := makeI X.us.length w7 (by omega)
      go_upto_region 16 with fail
      obtain ⟨hl, hhl⟩ : ∃ z, w7.heap.size = z := ⟨_, rfl⟩
      rw [hhl] at hbk hs8 ⊢
      have B58 : Hid (Below w5.heap.size w5 w8) := B57.out.trans (hb8.mono B57.out.size)
      have B8 : Hid (Below w.heap.size w w8) := B7.out.trans (hb8.mono B7.out.size)
      have X8 : Hid (Bw w8 w.heap.size X (.slice p1 X.gs.length q1) (.slice p2 X.os.length q2) (.slice p3 X.gold.length q3) (.slice p4 X.us.length q4) (.slice p5 X.qs.length q5)) := X7.out.below hb8 X7.out.lt
      have Y8 : Hid (Bw w8 bx X (.slice s1 X.gs.length r1) (.slice s2 X.os.length r2) (.slice s3 X.gold.length r3) (.slice s4 X.us.length r4) (.slice s5 X.qs.length r5)) := Y7.out.below hb8 Y7.out.lt
      have HL0 : Hid (Bk w8 hl (List.replicate X.us.length 0) #[]) := hbk
      have HK : Hid (w.heap.size < hl ∧ bx < hl ∧ w5.heap.size ≤ hl ∧ w8.heap.size = hl + 1) := ⟨by rw [← hhl]; exact X7.out.lt, by rw [← hhl]; exact Y7.out.lt, by rw [← hhl]; exact B57.out.size, hs8⟩
      clear x7 hmk hbk hb8 hs8 hhl X7 Y7 B7 B57
      have x7 := X8.out.c7
      obtain ⟨w9, hmk, hbk, hb9, hs9⟩ := makeI X.us.length w8 (by omega)
      go_upto_region 17 with fail
      obtain ⟨ha, hha⟩ : ∃ z, w8.heap.size = z := ⟨_, rfl⟩
      rw [hha] at hbk hs9 ⊢
      have B59 : Hid (Below w5.heap.size w5 w9) := B58.out.trans (hb9.mono B58.out.size)
      have B9 : Hid (Below w.heap.size w w9) := B8.out.trans (hb9.mono B8.out.size)
      have X9 : Hid (Bw w9 w.heap.size X (.slice p1 X.gs.length q1) (.slice p2 X.os.length q2) (.slice p3 X.gold.length q3) (.slice p4 X.us.length q4) (.slice p5 X.qs.length q5)) := X8.out.below hb9 X8.out.lt
      have Y9 : Hid (Bw w9 bx X (.slice s1 X.gs.length r1) (.slice s2 X.os.length r2) (.slice s3 X.gold.length r3) (.slice s4 X.us.length r4) (.slice s5 X.qs.length r5)) := Y8.out.below hb9 Y8.out.lt
      have HL9 : Hid (Bk w9 hl (List.replicate X.us.length 0) #[]) := HL0.out.below hb9
      have HA9 : Hid (Bk w9 ha (List.replicate X.us.length 0) #[]) := hbk
      have HH : Hid (w.heap.size < hl ∧ w5.heap.size ≤ hl ∧ hl + 1 = ha ∧ hl ≤ w9.heap.size) := ⟨HK.out.1, HK.out.2.2.1, by rw [← hha]; exact HK.out.2.2.2.symm, by rw [hs9, ← hha]; have := HK.out.2.2.2; omega⟩
      have HX : Hid (bx < hl) := HK.out.2.1
      clear x7 hmk hbk hb9 hs9 hha X8 Y8 B8 B58 HL0 HK
      obtain ⟨sp, hsp⟩ : ∃ l, X.us.map (spdOf ks) = l := ⟨_, rfl⟩
      obtain ⟨ats, hats⟩ : ∃ l, X.us.map UnV.at_ = l := ⟨_, rfl⟩
      have SL : Hid (sp.length = X.us.length ∧ ats.length = X.us.length ∧ (∀ (j : Nat) u, X.us[j]? = some u → sp[j]? = some (spdOf ks u) ∧ ats[j]? = some u.at_)) := ⟨by rw [← hsp, List.length_map], by rw [← hats, List.length_map], fun j u hu => ⟨by rw [← hsp, List.getElem?_map, hu]; rfl, by rw [← hats, List.getElem?_map, hu]; rfl⟩⟩
      rw [hsp, hats] at TR0
      clear hsp hats
      go_upto_region 18 with fail
      go_loopw [15] (fun v15 V => ∃ n : Nat, v15 = .int .i64 (n : Nat) ∧ n ≤ X.us.length ∧ Bk V hl (fil sp n) #[] ∧ Bk V ha (fil ats n) #[] ∧ Below hl w9 V) (fun v15 _ => X.us.length - (intOf v15).toNat)
      case atStart => exact ⟨0, rfl, Nat.zero_le _, by rw [fil_zero, SL.out.1]; exact HL9.out, by rw [fil_zero, SL.out.2.1]; exact HA9.out, Below.refl _ _⟩
      case round =>
        obtain ⟨n, rfl, hn, hbl, hba, hbq⟩ := hrel
        have HLr : Hid (Bk wr hl (fil sp n) #[]) := hbl
        have HAr : Hid (Bk wr ha (fil ats n) #[]) := hba
        have BQr : Hid (Below hl w9 wr) := hbq
        have XR : Hid (Bw wr w.heap.size X (.slice p1 X.gs.length q1) (.slice p2 X.os.length q2) (.slice p3 X.gold.length q3) (.slice p4 X.us.length q4) (.slice p5 X.qs.length q5)) := X9.out.below hbq HH.out.1
        have BR : Hid (Below w.heap.size w wr) := B9.out.trans (hbq.mono (by have := HH.out.1; omega))
        clear hbl hba hbq HL9 HA9
        have x7 := XR.out.c7
        by_cases h0 : n = X.us.length
        · subst h0
          have hnl : ¬ (((X.us.length : Nat) : Int) < (X.us.length : Nat)) := by omega
          have HL0 : Hid (Bk wr hl sp #[]) := by have := HLr.out; rw [← SL.out.1, fil_all] at this; exact this
          have HA0 : Hid (Bk wr ha ats #[]) := by have := HAr.out; rw [← SL.out.2.1, fil_all] at this; exact this
          clear HLr HAr
          generalize wr = wq at *
          go_upto_region 23 with fail
          clear x7
          go_loopw [16] (fun v16 V => ∃ (m : Nat) (l a : List Int), v16 = .int .i64 (m : Nat) ∧ m ≤ evs.length ∧ l.length = X.us.length ∧ a.length = X.us.length ∧ Bk V hl l #[] ∧ Bk V ha a #[] ∧ Track ks X Wn Hn l a (evs.drop m) (us'.map UnV.at_) ∧ Below hl w9 V) (fun v16 _ => evs.length - (intOf v16).toNat)
          case atStart => exact ⟨0, sp, ats, rfl, Nat.zero_le _, SL.out.1, SL.out.2.1, HL0.out, HA0.out, TR0.out, BQr.out⟩
          case round =>
            obtain ⟨m, l, a, rfl, hm, hll, hla, hbl, hba, htr, hbq⟩ := hrel
            have HLwr : Hid (Bk wr hl l #[]) := hbl
            have HAwr : Hid (Bk wr ha a #[]) := hba
            have BQwr : Hid (Below hl w9 wr) := hbq
            have TR : Hid (Track ks X Wn Hn l a (evs.drop m) (us'.map UnV.at_)) := htr
            have LEN : Hid (l.length = X.us.length ∧ a.length = X.us.length) := ⟨hll, hla⟩
            clear hll hla hbl hba htr hbq HL0 HA0 BQr XR BR
            by_cases h0m : m = evs.length
            · subst h0m
              have hml : ¬ (((evs.length : Nat) : Int) < (evs.length : Nat)) := by omega
              have AE : Hid (us'.map UnV.at_ = a) := by
                have := TR.out
                rw [List.drop_of_length_le (Nat.le_refl _)] at this
                cases this
                rfl
              clear TR
              have YR : Hid (Bw wr bx X (.slice s1 X.gs.length r1) (.slice s2 X.os.length r2) (.slice s3 X.gold.length r3) (.slice s4 X.us.length r4) (.slice s5 X.qs.length r5)) := Y9.out.below BQwr.out HX.out
              have XR : Hid (Bw wr w.heap.size X (.slice p1 X.gs.length q1) (.slice p2 X.os.length q2) (.slice p3 X.gold.length q3) (.slice p4 X.us.length q4) (.slice p5 X.qs.length q5)) := X9.out.below BQwr.out HH.out.1
              have BR : Hid (Below w.heap.size w wr) := B9.out.trans (BQwr.out.mono (by have := HH.out.1; omega))
              have B5R : Hid (Below w5.heap.size w5 wr) := B59.out.trans (BQwr.out.mono HH.out.2.1)
              clear HLwr BQwr
              generalize wr = wz at *
              go_upto_region 40 with fail
              go_loopw [24] (fun v24 V => ∃ n : Nat, v24 = .int .i64 (n : Nat) ∧ n ≤ X.us.length ∧ Below wz.heap.size wz V) (fun v24 _ => X.us.length - (intOf v24).toNat)
              case atStart => exact ⟨0, rfl, Nat.zero_le _, Below.refl _ _⟩
              case round =>
                obtain ⟨n, rfl, hn', hbb⟩ := hrel
                have BZ : Hid (Below wz.heap.size wz wr) := hbb
                have BQ : Hid (Below w.heap.size w wr) := BR.out.trans (hbb.mono BR.out.size)
                have B5Q : Hid (Below w5.heap.size w5 wr) := B5R.out.trans (hbb.mono B5R.out.size)
                have XQ : Hid (Bw wr w.heap.size X (.slice p1 X.gs.length q1) (.slice p2 X.os.length q2) (.slice p3 X.gold.length q3) (.slice p4 X.us.length q4) (.slice p5 X.qs.length q5)) := XR.out.below hbb XR.out.lt
                have YQ : Hid (Bw wr bx X (.slice s1 X.gs.length r1) (.slice s2 X.os.length r2) (.slice s3 X.gold.length r3) (.slice s4 X.us.length r4) (.slice s5 X.qs.length r5)) := YR.out.below hbb YR.out.lt
                have HQ : Hid (Bk wr ha a #[]) := HAwr.out.below hbb
                clear hbb
                by_cases h0 : n = X.us.length
                · as_aux_lemma =>
                  subst h0
                  have hnl : ¬ (((X.us.length : Nat) : Int) < (X.us.length : Nat)) := by omega
                  obtain ⟨x0, x1, x2, x3, x4, x5, x6, x7, x8⟩ := XQ.out
                  obtain ⟨y0, y1, y2, y3, y4, y5, y6, y7, y8⟩ := YQ.out
                  go_wp2_with fail
                  refine (ints_like _ _ X.gold wr (Wl.slices (W := { X with us := us' }) (LY.out.below B5Q.out)).2.2.1 (H.out.below BQ.out).slices.2.2.1).mono ?_
                  rintro e v1 ⟨rfl, hb⟩
                  have BW : Hid (Below wr.heap.size wr v1) := hb
                  clear hb x0 x1 x2 x3 x4 x5 x6 x7 x8 y0 y1 y2 y3 y4 y5 y6 y7 y8
                  obtain ⟨x0, x1, x2, x3, x4, x5, x6, x7, x8⟩ := XQ.out.below BW.out XQ.out.lt
                  obtain ⟨y0, y1, y2, y3, y4, y5, y6, y7, y8⟩ := YQ.out.below BW.out YQ.out.lt
                  have BQ1 : Hid (Below w.heap.size w v1) := BQ.out.trans (BW.out.mono BQ.out.size)
                  have F1 : Hid (Fl v1 (.agg #[.int .i64 X.wide, .int .i64 X.high, .slice s1 X.gs.length r1, .slice s2 X.os.length r2]) X.wide X.high X.gs X.os) := fl_of (X := { X with us := us' }) (LY.out.below (B5Q.out.trans (BW.out.mono B5Q.out.size)))
                  have F2 : Hid (Fl v1 (.agg #[.int .i64 X.wide, .int .i64 X.high, .slice p1 X.gs.length q1, .slice p2 X.os.length q2]) X.wide X.high X.gs X.os) := fl_of (H.out.below BQ1.out)
                  go_wp2_with fail
                  refine (same_field _ _ X.wide X.high X.gs X.os v1 F1.out F2.out).mono ?_
                  rintro e v2 ⟨rfl, hb⟩
                  have B2 : Hid (Below w.heap.size w v2) := BQ1.out.trans (hb.mono BQ1.out.size)
                  clear hb x0 x1 x2 x3 x4 x5 x6 x7 x8 y0 y1 y2 y3 y4 y5 y6 y7 y8
                  go_wp2
                  go_ret
                  exact ⟨rfl, B2.out⟩
                · have hnl : n < X.us.length := by omega
                  have hni : ((n : Nat) : Int) < (X.us.length : Nat) := by omega
                  obtain ⟨u, hu⟩ : ∃ u, X.us[n]? = some u := ⟨_, List.getElem?_eq_getElem hnl⟩
                  obtain ⟨b, hb⟩ : ∃ b, us'[n]? = some b := ⟨_, List.getElem?_eq_getElem (by rw [UL.out]; exact hnl)⟩
                  obtain ⟨u9, k9, g9, hu9, hst, -⟩ := MI.out.unit n b hb
                  obtain rfl : u = u9 := by rw [hu] at hu9; injection hu9
                  have SB : Hid (Stat u b) := hst
                  have hab : a[n]? = some b.at_ := by rw [← AE.out, List.getElem?_map, hb]; rfl
                  have WN : IntKind.i64.wrap ((n : Nat) + 1 : Int) = ((n : Nat) : Int) + 1 := by rw [IntKind.wrap_i64]; omega
                  obtain ⟨pa', pc', he', -, -, huc⟩ := H.out.slices.2.2.2.1
                  obtain ⟨xu, hxu, hxul, hxuc⟩ := huc (by intro h; rw [h] at hnl; simp at hnl)
                  injection he' with he1 he2 he3
                  subst he1
                  subst hxu
                  obtain ⟨pb', pd', hf', -, -, hvc⟩ := (Wl.slices (W := { X with us := us' }) (LY.out.below B5Q.out)).2.2.2.1
                  obtain ⟨xv, hxv, hxvl, hxvc⟩ := hvc (by intro h; have h9 := UL.out; have h8 : us' = [] := h; rw [h8] at h9; simp at h9; omega)
                  injection hf' with hf1 hf2 hf3
                  subst hf1
                  subst hxv
                  obtain ⟨d0, d1, d2, d3, d4, d5, d6, d7⟩ := (hxuc n u hu).below BQ.out (by rw [add_block]; exact hxul)
                  have VB : Hid (Unc wr (xv.add (n * 8)) b) := hxvc n b hb
                  have x7 := XQ.out.c7
                  clear huc he2 he3 hxul hxuc hvc hf2 hf3 hxvl hxvc hu hu9 hst hb
                  go_upto_region 43 with fail
                  have BA : Hid (Below wr.heap.size wr (wr.alloc (Obj.cells #[.int .i64 u.id, .int .i64 u.player, .int .i64 u.kind, .int .i64 u.at_, .int .i64 u.life, .int .i64 u.load, .int .i64 u.task, .int .i64 u.goal] 33))) := (Below.refl _ _).alloc (Nat.le_refl _) _
                  obtain ⟨ba, hba⟩ : ∃ z, wr.heap.size = z := ⟨_, rfl⟩
                  have U1 : Hid (Unc (wr.alloc (Obj.cells #[.int .i64 u.id, .int .i64 u.player, .int .i64 u.kind, .int .i64 u.at_, .int .i64 u.life, .int .i64 u.load, .int .i64 u.task, .int .i64 u.goal] 33)) ⟨ba, 0, none⟩ u) := Unc.mk' u hba
                  rw [hba]
                  generalize (wr.alloc (Obj.cells #[.int .i64 u.id, .int .i64 u.player, .int .i64 u.kind, .int .i64 u.at_, .int .i64 u.life, .int .i64 u.load, .int .i64 u.task, .int .i64 u.goal] 33)) = v1 at *
                  clear d0 d1 d2 d3 d4 d5 d6 d7 x7 hba
                  have y7 := (YQ.out.below BA.out YQ.out.lt).c7
                  obtain ⟨d0, d1, d2, d3, d4, d5, d6, d7⟩ := VB.out.below BA.out VB.out.lt
                  go_upto_region 44 with fail
                  have BB : Hid (Below v1.heap.size v1 (v1.alloc (Obj.cells #[.int .i64 b.id, .int .i64 b.player, .int .i64 b.kind, .int .i64 b.at_, .int .i64 b.life, .int .i64 b.load, .int .i64 b.task, .int .i64 b.goal] 33))) := (Below.refl _ _).alloc (Nat.le_refl _) _
                  obtain ⟨bb, hbb⟩ : ∃ z, v1.heap.size = z := ⟨_, rfl⟩
                  have V2 : Hid (Unc (v1.alloc (Obj.cells #[.int .i64 b.id, .int .i64 b.player, .int .i64 b.kind, .int .i64 b.at_, .int .i64 b.life, .int .i64 b.load, .int .i64 b.task, .int .i64 b.goal] 33)) ⟨bb, 0, none⟩ b) := Unc.mk' b hbb
                  rw [hbb]
                  generalize (v1.alloc (Obj.cells #[.int .i64 b.id, .int .i64 b.player, .int .i64 b.kind, .int .i64 b.at_, .int .i64 b.life, .int .i64 b.load, .int .i64 b.task, .int .i64 b.goal] 33)) = v2 at *
                  clear d0 d1 d2 d3 d4 d5 d6 d7 y7 hbb
                  have U2 : Hid (Unc v2 ⟨ba, 0, none⟩ u) := U1.out.below BB.out U1.out.lt
                  have cA : v2.cell? ⟨ha, n, none⟩ = some (.int .i64 b.at_) := ((HQ.out.below BA.out).below BB.out).cell hab
                  have BZ2 : Hid (Below wz.heap.size wz v2) := (BZ.out.trans (BA.out.mono BZ.out.size)).trans (BB.out.mono (Nat.le_trans BZ.out.size BA.out.size))
                  obtain ⟨e0, e1, e2, e3, e4, e5, e6, e7⟩ := U2.out
                  obtain ⟨f0, f1, f2, f3, f4, f5, f6, f7⟩ := V2.out
                  simp only [Nat.zero_add] at e1 e2 e3 e4 e5 e6 e7 f1 f2 f3 f4 f5 f6 f7
                  clear U1 U2 V2 VB HQ BA BB hab
                  by_cases ht : u.task = 0
                  · as_aux_lemma =>
                    have hbu := SB.out.rest ht
                    subst hbu
                    have h10 : (b.task == 0) = true := by rw [ht]; rfl
                    clear ht
                    go_quiet (fail)
                    go_wp2
                    go_round
                    case rel => exact ⟨n + 1, by go_num, by omega, ⟨BZ2.out.os, BZ2.out.tape, BZ2.out.output, BZ2.out.size, BZ2.out.block⟩⟩
                    case measure => simp [intOf]; omega
                  · as_aux_lemma =>
                    have h10 : (u.task == 0) = false := by rw [beq_eq_false_iff_ne]; exact ht
                    rw [SB.out.id] at f0
                    rw [SB.out.player] at f1
                    rw [SB.out.kind] at f2
                    rw [SB.out.life] at f4
                    rw [SB.out.load] at f5
                    clear ht
                    go_quiet (fail)
                    go_wp2
                    go_round
                    case rel => exact ⟨n + 1, by go_num, by omega, ⟨BZ2.out.os, BZ2.out.tape, BZ2.out.output, BZ2.out.size, BZ2.out.block⟩⟩
                    case measure => simp [intOf]; omega
            ·
              have hnl : m < evs.length := by omega
              have hni : ((m : Nat) : Int) < (evs.length : Nat) := by omega
              obtain ⟨e, he⟩ : ∃ e, evs[m]? = some e := ⟨_, List.getElem?_eq_getElem hnl⟩
              have hdr : evs.drop m = e :: evs.drop (m + 1) := by
                obtain ⟨q1', q2'⟩ := List.getElem?_eq_some_iff.1 he
                rw [List.drop_eq_getElem_cons q1', q2']
              obtain ⟨n, an, c, u, k, gg, ln, hu, hi, hw, hk, ha', han, hea, hnr, hgg, hs1, hln, h0l, htr'⟩ : ∃ (n an c : Nat) (u : UnV) (k : KV) (gg ln : Int), X.us[n]? = some u ∧ u.id = e.unit ∧ e.what = 1 ∧ ks[u.kind.toNat]? = some k ∧ a[n]? = some (an : Int) ∧ an < Wn * Hn ∧ e.arg = (c : Nat) ∧ (c : Int) ∈ Fd.near Wn Hn an ∧ X.gs[c]? = some gg ∧ 1 ≤ Fd.onto gg k.f ∧ l[n]? = some ln ∧ (0 ≤ ln - Fd.onto gg k.f ∧ ln ≤ 4) ∧ Track ks X Wn Hn (l.set n (ln - Fd.onto gg k.f)) (a.set n (c : Nat)) (evs.drop (m + 1)) (us'.map UnV.at_) := by
                have htr := TR.out
                rw [hdr] at htr
                cases htr with
                | cons hu hi hw hk ha han he hn hg hs hl h0 h => exact ⟨_, _, _, _, _, _, _, hu, hi, hw, hk, ha, han, he, hn, hg, hs, hl, h0, h⟩
              have WM : IntKind.i64.wrap ((m : Nat) + 1 : Int) = ((m : Nat) : Int) + 1 := by rw [IntKind.wrap_i64]; omega
              obtain ⟨kn, hkn⟩ : ∃ n : Nat, u.kind = n := ⟨u.kind.toNat, by obtain ⟨k9, f9⟩ := WR.out.fine hu; have := f9.k0.1; omega⟩
              have hkk : ks[kn]? = some k := by have := hk; rw [hkn, Int.toNat_natCast] at this; exact this
              have hkl : kn < ks.length := (List.getElem?_eq_some_iff.1 hkk).1
              have hil : n < X.us.length := (List.getElem?_eq_some_iff.1 hu).1
              have hcl : c < Wn * Hn := by rw [← GD.out.1.gl]; exact (List.getElem?_eq_some_iff.1 hgg).1
              obtain ⟨pa', pc', he', -, -, huc⟩ := H.out.slices.2.2.2.1
              obtain ⟨xu, hxu, hxul, hxuc⟩ := huc (by intro h; rw [h] at hil; simp at hil)
              injection he' with he1 he2 he3
              subst he1
              subst hxu
              obtain ⟨xk, hxk, hxl', hxc⟩ := KC.out (by intro h; subst h; simp at hkl)
              subst hxk
              obtain ⟨a9, c9, h9, -, -, hec⟩ := EL.out
              obtain ⟨xe, hxe, hxel, hxec⟩ := hec (by intro h; rw [h] at hnl; simp at hnl)
              injection h9 with h91 h92 h93
              subst h91
              subst hxe
              have EC : Hid (Evc w5 (xe.add (m * 3)) e ∧ (xe.add (m * 3)).block < w5.heap.size) := ⟨hxec m e he, by rw [add_block]; exact hxel⟩
              have KK : Hid (Kc w (xk.add (kn * 11)) k ∧ (xk.add (kn * 11)).block < w.heap.size ∧ Unc w (xu.add (n * 8)) u ∧ (xu.add (n * 8)).block < w.heap.size) := ⟨hxc kn k hkk, by rw [add_block]; exact hxl', hxuc n u hu, by rw [add_block]; exact hxul⟩
              have ST : Hid (X.us[n]? = some u ∧ u.id = e.unit ∧ u.kind = (kn : Nat) ∧ e.arg = (c : Nat) ∧ an < Wn * Hn ∧ c < Wn * Hn ∧ (c : Int) ∈ Fd.near Wn Hn an ∧ X.gs[c]? = some gg ∧ a[n]? = some (an : Int) ∧ l[n]? = some ln) := ⟨hu, hi, hkn, hea, han, hcl, hnr, hgg, ha', hln⟩
              obtain ⟨s, hs⟩ : ∃ s, Fd.onto gg k.f = s := ⟨_, rfl⟩
              have SS : Hid (Fd.onto gg k.f = s) := hs
              rw [hs] at hs1 h0l htr'
              have TR2 : Hid (Track ks X Wn Hn (l.set n (ln - s)) (a.set n (c : Nat)) (evs.drop (m + 1)) (us'.map UnV.at_)) := htr'
              clear hdr hu hi hk ha' han hea hnr hgg hln htr' hkn hkk hcl huc he2 he3 hxul hxuc hxl' hxc hec h92 h93 hxel hxec he TR hs
              obtain ⟨h0l1, h0l2⟩ := h0l
              have CV : Hid (∀ V, Below hl w9 V → Below w.heap.size w V ∧ Below w5.heap.size w5 V ∧ Bw V w.heap.size X (.slice p1 X.gs.length q1) (.slice p2 X.os.length q2) (.slice p3 X.gold.length q3) (.slice (some xu) X.us.length q4) (.slice p5 X.qs.length q5) ∧ Evc V (xe.add (m * 3)) e) := fun V hb => by
                have h1 : Below w.heap.size w V := B9.out.trans (hb.mono (by have := HH.out.1; omega))
                have h2 : Below w5.heap.size w5 V := B59.out.trans (hb.mono HH.out.2.1)
                exact ⟨h1, h2, X9.out.below hb HH.out.1, EC.out.1.below h2 EC.out.2⟩
              go_upto_region 25 with fail
              have D0 : Hid (Below wr.heap.size wr { wr with drawn := wr.drawn + 1 }) := (Below.refl _ _).drew
              refine wp_region_two [(true, 0), (true, 1), (true, 2), (true, 3), (true, 4), (true, 5), (false, 6)] [(false, 7)] (fun V => Bw V w.heap.size X (.slice p1 X.gs.length q1) (.slice p2 X.os.length q2) (.slice p3 X.gold.length q3) (.slice (some xu) X.us.length q4) (.slice p5 X.qs.length q5) ∧ Evc V (xe.add (m * 3)) e) (by kernel_rfl) (by kernel_rfl) (by kernel_rfl) (by decide +kernel) (by decide +kernel) (CV.out _ (BQwr.out.trans (D0.out.mono (Nat.le_trans HH.out.2.2.2 BQwr.out.size)))).2.2 ?_
              generalize ({ wr with drawn := wr.drawn + 1 } : World) = v1 at *
              have hb := D0.out
              have BQv1 : Hid (Below hl w9 v1) := BQwr.out.trans (hb.mono (Nat.le_trans HH.out.2.2.2 BQwr.out.size))
              have HLv1 : Hid (Bk v1 hl l #[]) := HLwr.out.below hb
              have HAv1 : Hid (Bk v1 ha a #[]) := HAwr.out.below hb
              clear hb D0 BQwr HLwr HAwr
              refine headT_read rfl (.agg #[.int .i64 X.turn, .int .i64 X.next, .int .i64 X.wide, .int .i64 X.high, .slice p1 X.gs.length q1, .slice p2 X.os.length q2, .slice p3 X.gold.length q3, .slice (some xu) X.us.length q4, .slice p5 X.qs.length q5]) (by go_simp) (fun V hV => by obtain ⟨⟨x0, x1, x2, x3, x4, x5, x6, x7, x8⟩, ⟨y0, y1, y2⟩⟩ := hV; go_simp) ?_
              go_simp
              refine headT_read rfl (.slice (some xe) evs.length ce) (by go_simp) (fun V hV => by go_simp) ?_
              go_simp
              refine headT_read rfl (.int .i64 (m : Nat)) (by go_simp) (fun V hV => by go_simp) ?_
              go_simp
              refine headT_read rfl (.pointer (some (xe.add (m * 3)))) (by go_simp) (fun V hV => by go_simp) ?_
              go_simp
              refine headT_read rfl (.pointer (some ⟨(xe.add (m * 3)).block, (xe.add (m * 3)).off + 1, none⟩)) (by go_simp) (fun V hV => by go_simp) ?_
              go_simp
              refine headT_read rfl (.int .i64 e.unit) (by go_simp) (fun V hV => by obtain ⟨⟨x0, x1, x2, x3, x4, x5, x6, x7, x8⟩, ⟨y0, y1, y2⟩⟩ := hV; go_simp) ?_
              go_simp
              refine headT_call rfl 8 #[.agg #[.int .i64 X.turn, .int .i64 X.next, .int .i64 X.wide, .int .i64 X.high, .slice p1 X.gs.length q1, .slice p2 X.os.length q2, .slice p3 X.gold.length q3, .slice (some xu) X.us.length q4, .slice p5 X.qs.length q5], .int .i64 e.unit] (by go_simp) (by go_simp) ?_
              refine (rfind_any _ X e.unit v1 (H.out.below (CV.out v1 BQv1.out).1)).mono ?_
              rintro e' v2 ⟨r, rfl, hf, hb⟩
              obtain rfl := fst_is WR.out ST.out.1 ST.out.2.1 hf
              have BQv2 : Hid (Below hl w9 v2) := BQv1.out.trans (hb.mono (Nat.le_trans HH.out.2.2.2 BQv1.out.size))
              have HLv2 : Hid (Bk v2 hl l #[]) := HLv1.out.below hb
              have HAv2 : Hid (Bk v2 ha a #[]) := HAv1.out.below hb
              refine ⟨_, rfl, (CV.out _ BQv2.out).2.2, ?_⟩
              clear hb hf BQv1 HLv1 HAv1
              go_simp
              refine sched_value rfl (.int .i64 (n : Nat)) v2 (by go_simp) (by go_simp) trivial ?_
              go_simp
              unfold wpSched
              have hn0 : ¬ ((n : Nat) : Int) < 0 := by omega
              have ew := (CV.out _ BQv2.out).2.2.2.c0
              rw [hw] at ew
              go_upto_region 28 with fail
              clear ew hn0
              have CA : Hid (∀ V, Below hl w9 V → Bk V ha a #[] → (Bw V w.heap.size X (.slice p1 X.gs.length q1) (.slice p2 X.os.length q2) (.slice p3 X.gold.length q3) (.slice (some xu) X.us.length q4) (.slice p5 X.qs.length q5) ∧ V.cell? ⟨ha, n, none⟩ = some (.int .i64 (an : Nat)))) := fun V hb hk => ⟨(CV.out V hb).2.2.1, hk.cell ST.out.2.2.2.2.2.2.2.2.1⟩
              have D0 : Hid (Below v2.heap.size v2 { v2 with drawn := v2.drawn + 1 }) := (Below.refl _ _).drew
              refine wp_region_two [(true, 0), (true, 1), (true, 2), (true, 3), (true, 4), (true, 5), (false, 6)] [(true, 7), (true, 8), (true, 9), (true, 10), (false, 11)] (fun V => Bw V w.heap.size X (.slice p1 X.gs.length q1) (.slice p2 X.os.length q2) (.slice p3 X.gold.length q3) (.slice (some xu) X.us.length q4) (.slice p5 X.qs.length q5) ∧ V.cell? ⟨ha, n, none⟩ = some (.int .i64 (an : Nat))) (by kernel_rfl) (by kernel_rfl) (by kernel_rfl) (by decide +kernel) (by decide +kernel) (CA.out _ (BQv2.out.trans (D0.out.mono (Nat.le_trans HH.out.2.2.2 BQv2.out.size))) (HAv2.out.below D0.out)) ?_
              generalize ({ v2 with drawn := v2.drawn + 1 } : World) = v3 at *
              have hb := D0.out
              have BQv3 : Hid (Below hl w9 v3) := BQv2.out.trans (hb.mono (Nat.le_trans HH.out.2.2.2 BQv2.out.size))
              have HLv3 : Hid (Bk v3 hl l #[]) := HLv2.out.below hb
              have HAv3 : Hid (Bk v3 ha a #[]) := HAv2.out.below hb
              clear hb D0 BQv2 HLv2 HAv2
              refine headT_read rfl (.pointer (some ⟨w.heap.size, 2, none⟩)) (by go_simp) (fun V hV => by go_simp) ?_
              go_simp
              refine headT_read rfl (.agg #[.int .i64 X.wide, .int .i64 X.high, .slice p1 X.gs.length q1, .slice p2 X.os.length q2]) (by go_simp) (fun V hV => by obtain ⟨⟨x0, x1, x2, x3, x4, x5, x6, x7, x8⟩, d1⟩ := hV; go_simp) ?_
              go_simp
              refine headT_read rfl (.slice (some ⟨ha, 0, none⟩) X.us.length X.us.length) (by go_simp) (fun V hV => by go_simp) ?_
              go_simp
              refine headT_read rfl (.int .i64 (n : Nat)) (by go_simp) (fun V hV => by go_simp) ?_
              go_simp
              refine headT_read rfl (.pointer (some ⟨ha, n, none⟩)) (by go_simp) (fun V hV => by go_simp) ?_
              go_simp
              refine headT_read rfl (.int .i64 (an : Nat)) (by go_simp) (fun V hV => by obtain ⟨⟨x0, x1, x2, x3, x4, x5, x6, x7, x8⟩, d1⟩ := hV; go_simp) ?_
              go_simp
              refine headT_call rfl 9 #[.agg #[.int .i64 X.wide, .int .i64 X.high, .slice p1 X.gs.length q1, .slice p2 X.os.length q2], .int .i64 (an : Nat)] (by go_simp) (by go_simp) ?_
              have FL : Hid (∀ V, Below hl w9 V → Fl V (.agg #[.int .i64 X.wide, .int .i64 X.high, .slice p1 X.gs.length q1, .slice p2 X.os.length q2]) (Wn : Nat) (Hn : Nat) X.gs X.os) := fun V hb => by
                have := fl_of (H.out.below (CV.out V hb).1)
                rw [GD.out.2.1, GD.out.2.2] at this
                rw [GD.out.2.1, GD.out.2.2]
                exact this
              refine (Near_ok _ Wn Hn X.gs X.os an v3 (FL.out v3 BQv3.out) GD.out.1 ST.out.2.2.2.2.1 (S.out.below (CV.out v3 BQv3.out).1)).mono ?_
              rintro e' v4 ⟨nu, rfl, hro, hb⟩
              have RN0 : Hid (Ro v4 nu (Fd.near Wn Hn an)) := hro
              have BQv4 : Hid (Below hl w9 v4) := BQv3.out.trans (hb.mono (Nat.le_trans HH.out.2.2.2 BQv3.out.size))
              have HLv4 : Hid (Bk v4 hl l #[]) := HLv3.out.below hb
              have HAv4 : Hid (Bk v4 ha a #[]) := HAv3.out.below hb
              refine ⟨_, rfl, CA.out _ BQv4.out HAv4.out, ?_⟩
              clear hb hro BQv3 HLv3 HAv3 CA
              go_simp
              refine sched_read rfl (.tuple #[nu, .nilIface]) (by go_simp) (fun V hV => by go_simp) ?_
              go_simp
              refine sched_read rfl nu (by go_simp) (fun V hV => by go_simp) ?_
              go_simp
              refine sched_read rfl .nilIface (by go_simp) (fun V hV => by go_simp) ?_
              go_simp
              refine sched_read rfl nu (by go_simp) (fun V hV => by go_simp) ?_
              go_simp
              refine sched_value rfl .nilIface v4 (by go_simp) (by go_simp) trivial ?_
              go_simp
              unfold wpSched
              go_upto_region 29 with fail
              have CS : Hid (∀ V, Below hl w9 V → (Bw V w.heap.size X (.slice p1 X.gs.length q1) (.slice p2 X.os.length q2) (.slice p3 X.gold.length q3) (.slice (some xu) X.us.length q4) (.slice p5 X.qs.length q5) ∧ V.cell? ⟨(xe.add (m * 3)).block, (xe.add (m * 3)).off + 2, none⟩ = some (.int .i64 (c : Nat)) ∧ V.cell? ⟨(xu.add (n * 8)).block, (xu.add (n * 8)).off + 2, none⟩ = some (.int .i64 (kn : Nat)) ∧ V.cell? ⟨(xk.add (kn * 11)).block, (xk.add (kn * 11)).off + 9, none⟩ = some (.bool k.f))) := fun V hb => ⟨(CV.out V hb).2.2.1, by have := (CV.out V hb).2.2.2.c2; rw [ST.out.2.2.2.1] at this; exact this, by have := (KK.out.2.2.1.below (CV.out V hb).1 KK.out.2.2.2).c2; rw [ST.out.2.2.1] at this; exact this, (KK.out.1.below (CV.out V hb).1 KK.out.2.1).c9⟩
              have D0 : Hid (Below v4.heap.size v4 { v4 with drawn := v4.drawn + 1 }) := (Below.refl _ _).drew
              refine wp_region_two [(true, 0), (true, 1), (true, 2), (true, 3), (true, 4), (true, 5), (true, 6), (true, 7), (true, 8), (true, 9), (true, 10), (true, 11), (true, 12), (true, 13), (true, 14), (true, 15), (true, 16), (false, 17)] [(true, 18), (true, 19), (true, 20), (true, 21), (false, 22)] (fun V => Bw V w.heap.size X (.slice p1 X.gs.length q1) (.slice p2 X.os.length q2) (.slice p3 X.gold.length q3) (.slice (some xu) X.us.length q4) (.slice p5 X.qs.length q5) ∧ V.cell? ⟨(xe.add (m * 3)).block, (xe.add (m * 3)).off + 2, none⟩ = some (.int .i64 (c : Nat)) ∧ V.cell? ⟨(xu.add (n * 8)).block, (xu.add (n * 8)).off + 2, none⟩ = some (.int .i64 (kn : Nat)) ∧ V.cell? ⟨(xk.add (kn * 11)).block, (xk.add (kn * 11)).off + 9, none⟩ = some (.bool k.f)) (by kernel_rfl) (by kernel_rfl) (by kernel_rfl) (by decide +kernel) (by decide +kernel) (CS.out _ (BQv4.out.trans (D0.out.mono (Nat.le_trans HH.out.2.2.2 BQv4.out.size)))) ?_
              generalize ({ v4 with drawn := v4.drawn + 1 } : World) = v5 at *
              have hb := D0.out
              have RN1 : Hid (Ro v5 nu (Fd.near Wn Hn an)) := RN0.out.below hb
              have BQv5 : Hid (Below hl w9 v5) := BQv4.out.trans (hb.mono (Nat.le_trans HH.out.2.2.2 BQv4.out.size))
              have HLv5 : Hid (Bk v5 hl l #[]) := HLv4.out.below hb
              have HAv5 : Hid (Bk v5 ha a #[]) := HAv4.out.below hb
              clear hb D0 BQv4 HLv4 HAv4 RN0
              refine headT_read rfl (.pointer (some ⟨w.heap.size, 2, none⟩)) (by go_simp) (fun V hV => by go_simp) ?_
              go_simp
              refine headT_read rfl (.agg #[.int .i64 X.wide, .int .i64 X.high, .slice p1 X.gs.length q1, .slice p2 X.os.length q2]) (by go_simp) (fun V hV => by obtain ⟨⟨x0, x1, x2, x3, x4, x5, x6, x7, x8⟩, d1, d2, d3⟩ := hV; go_simp) ?_
              go_simp
              refine headT_read rfl (.slice (some xe) evs.length ce) (by go_simp) (fun V hV => by go_simp) ?_
              go_simp
              refine headT_read rfl (.int .i64 (m : Nat)) (by go_simp) (fun V hV => by go_simp) ?_
              go_simp
              refine headT_read rfl (.pointer (some (xe.add (m * 3)))) (by go_simp) (fun V hV => by go_simp) ?_
              go_simp
              refine headT_read rfl (.pointer (some ⟨(xe.add (m * 3)).block, (xe.add (m * 3)).off + 2, none⟩)) (by go_simp) (fun V hV => by go_simp) ?_
              go_simp
              refine headT_read rfl (.int .i64 (c : Nat)) (by go_simp) (fun V hV => by obtain ⟨⟨x0, x1, x2, x3, x4, x5, x6, x7, x8⟩, d1, d2, d3⟩ := hV; go_simp) ?_
              go_simp
              refine headT_read rfl (.slice (some xk) ks.length qk) (by go_simp) (fun V hV => by go_simp) ?_
              go_simp
              refine headT_read rfl (.pointer (some ⟨w.heap.size, 7, none⟩)) (by go_simp) (fun V hV => by go_simp) ?_
              go_simp
              refine headT_read rfl (.slice (some xu) X.us.length q4) (by go_simp) (fun V hV => by obtain ⟨⟨x0, x1, x2, x3, x4, x5, x6, x7, x8⟩, d1, d2, d3⟩ := hV; go_simp) ?_
              go_simp
              refine headT_read rfl (.int .i64 (n : Nat)) (by go_simp) (fun V hV => by go_simp) ?_
              go_simp
              refine headT_read rfl (.pointer (some (xu.add (n * 8)))) (by go_simp) (fun V hV => by go_simp) ?_
              go_simp
              refine headT_read rfl (.pointer (some ⟨(xu.add (n * 8)).block, (xu.add (n * 8)).off + 2, none⟩)) (by go_simp) (fun V hV => by go_simp) ?_
              go_simp
              refine headT_read rfl (.int .i64 (kn : Nat)) (by go_simp) (fun V hV => by obtain ⟨⟨x0, x1, x2, x3, x4, x5, x6, x7, x8⟩, d1, d2, d3⟩ := hV; go_simp) ?_
              go_simp
              refine headT_read rfl (.pointer (some (xk.add (kn * 11)))) (by go_simp) (fun V hV => by go_simp) ?_
              go_simp
              refine headT_read rfl (.pointer (some ⟨(xk.add (kn * 11)).block, (xk.add (kn * 11)).off + 9, none⟩)) (by go_simp) (fun V hV => by go_simp) ?_
              go_simp
              refine headT_read rfl (.bool k.f) (by go_simp) (fun V hV => by obtain ⟨⟨x0, x1, x2, x3, x4, x5, x6, x7, x8⟩, d1, d2, d3⟩ := hV; go_simp) ?_
              go_simp
              refine headT_call rfl 10 #[.agg #[.int .i64 X.wide, .int .i64 X.high, .slice p1 X.gs.length q1, .slice p2 X.os.length q2], .int .i64 (c : Nat), .bool k.f] (by go_simp) (by go_simp) ?_
              refine (Step_ok _ Wn Hn X.gs X.os c gg k.f v5 (FL.out v5 BQv5.out) GD.out.1 ST.out.2.2.2.2.2.1 ST.out.2.2.2.2.2.2.2.1).mono ?_
              rintro e' v6 ⟨rfl, hb⟩
              rw [SS.out]
              have RN2 : Hid (Ro v6 nu (Fd.near Wn Hn an)) := RN1.out.below hb
              have BQv6 : Hid (Below hl w9 v6) := BQv5.out.trans (hb.mono (Nat.le_trans HH.out.2.2.2 BQv5.out.size))
              have HLv6 : Hid (Bk v6 hl l #[]) := HLv5.out.below hb
              have HAv6 : Hid (Bk v6 ha a #[]) := HAv5.out.below hb
              refine ⟨_, rfl, CS.out _ BQv6.out, ?_⟩
              clear hb BQv5 HLv5 HAv5 RN1 CS
              go_simp
              refine sched_read rfl (.tuple #[.int .i64 s, .nilIface]) (by go_simp) (fun V hV => by go_simp) ?_
              go_simp
              refine sched_read rfl (.int .i64 s) (by go_simp) (fun V hV => by go_simp) ?_
              go_simp
              refine sched_read rfl .nilIface (by go_simp) (fun V hV => by go_simp) ?_
              go_simp
              refine sched_read rfl (.int .i64 s) (by go_simp) (fun V hV => by go_simp) ?_
              go_simp
              refine sched_value rfl .nilIface v6 (by go_simp) (by go_simp) trivial ?_
              go_simp
              unfold wpSched
              obtain ⟨an9, cn9, rfl, cn1, cn2, hnc⟩ := RN2.out
              obtain ⟨ns, hns⟩ : ∃ l, Fd.near Wn Hn an = l := ⟨_, rfl⟩
              have NS : Hid (Fd.near Wn Hn an = ns ∧ ns.any (fun x => x == (c : Int)) = true) := ⟨hns, List.any_eq_true.2 ⟨(c : Int), by rw [← hns]; exact ST.out.2.2.2.2.2.2.1, by simp⟩⟩
              rw [hns] at RN2 cn1 hnc ⊢
              have NL : Hid (ns ≠ [] → ∃ x, an9 = some x ∧ x.block < v6.heap.size ∧ ∀ (i : Nat) y, ns[i]? = some y → v6.cell? (x.add i) = some (.int .i64 y)) := hnc
              clear hns hnc
              generalize wr = wo at *
              go_upto_region 32 with fail
              go_loopw [22, 23] (fun v22 v23 V => ∃ q : Nat, v22 = .bool ((ns.take q).any (fun x => x == (c : Int))) ∧ v23 = .int .i64 (q : Nat) ∧ q ≤ ns.length ∧ Below v6.heap.size v6 V) (fun _ v23 _ => ns.length - (intOf v23).toNat)
              case atStart => exact ⟨0, by simp, rfl, Nat.zero_le _, Below.refl _ _⟩
              case round =>
                obtain ⟨q, rfl, rfl, hq, hb⟩ := hrel
                have BQwr : Hid (Below hl w9 wr) := BQv6.out.trans (hb.mono (Nat.le_trans HH.out.2.2.2 BQv6.out.size))
                have HLwr : Hid (Bk wr hl l #[]) := HLv6.out.below hb
                have HAwr : Hid (Bk wr ha a #[]) := HAv6.out.below hb
                have BI : Hid (Below v6.heap.size v6 wr) := hb
                clear hb
                by_cases h0q : q = ns.length
                · as_aux_lemma =>
                  subst h0q
                  have hql : ¬ (((ns.length : Nat) : Int) < (ns.length : Nat)) := by omega
                  rw [List.take_of_length_le (Nat.le_refl _), NS.out.2]
                  have cl := HLwr.out.cell ST.out.2.2.2.2.2.2.2.2.2
                  have tl := HLwr.out.thaw n
                  have HL7 : Hid (Bk (wr.setCell ⟨hl, n, none⟩ (.int .i64 (ln - s))) hl (l.set n (ln - s)) #[]) := HLwr.out.set n _ (List.getElem?_eq_some_iff.1 ST.out.2.2.2.2.2.2.2.2.2).1
                  have HA7 : Hid (Bk (wr.setCell ⟨hl, n, none⟩ (.int .i64 (ln - s))) ha a #[]) := HAwr.out.other (by have := HH.out.2.2.1; omega) _ _
                  have BQ7 : Hid (Below hl w9 (wr.setCell ⟨hl, n, none⟩ (.int .i64 (ln - s)))) := BQwr.out.setCell (p := ⟨hl, n, none⟩) (Nat.le_refl _) _
                  have wsub : IntKind.i64.wrap (ln - s) = ln - s := by rw [IntKind.wrap_i64]; omega
                  go_upto_region 36 with fail
                  clear cl tl wsub
                  generalize (wr.setCell ⟨hl, n, none⟩ (.int .i64 (ln - s))) = v8 at *
                  have c2 : v8.cell? ⟨(xe.add (m * 3)).block, (xe.add (m * 3)).off + 2, none⟩ = some (.int .i64 (c : Nat)) := by have := (CV.out v8 BQ7.out).2.2.2.c2; rw [ST.out.2.2.2.1] at this; exact this
                  have cA := HA7.out.cell ST.out.2.2.2.2.2.2.2.2.1
                  have tA := HA7.out.thaw n
                  have HA8 : Hid (Bk (v8.setCell ⟨ha, n, none⟩ (.int .i64 (c : Nat))) ha (a.set n (c : Nat)) #[]) := HA7.out.set n _ (List.getElem?_eq_some_iff.1 ST.out.2.2.2.2.2.2.2.2.1).1
                  have HL8 : Hid (Bk (v8.setCell ⟨ha, n, none⟩ (.int .i64 (c : Nat))) hl (l.set n (ln - s)) #[]) := HL7.out.other (by have := HH.out.2.2.1; omega) _ _
                  have BQ8 : Hid (Below hl w9 (v8.setCell ⟨ha, n, none⟩ (.int .i64 (c : Nat)))) := BQ7.out.setCell (p := ⟨ha, n, none⟩) (by have := HH.out.2.2.1; show hl ≤ ha; omega) _
                  go_upto_region 37 with fail
                  clear c2 cA tA
                  generalize (v8.setCell ⟨ha, n, none⟩ (.int .i64 (c : Nat))) = v9 at *
                  have cl := HL8.out.cell (show (l.set n (ln - s))[n]? = some (ln - s) from List.getElem?_set_self (List.getElem?_eq_some_iff.1 ST.out.2.2.2.2.2.2.2.2.2).1)
                  have hs9 : ¬ s < 1 := by omega
                  have hl9 : ¬ ln - s < 0 := by omega
                  go_wp2
                  go_round
                  case rel => exact ⟨m + 1, _, _, by go_num, by omega, by rw [List.length_set]; exact LEN.out.1, by rw [List.length_set]; exact LEN.out.2, HL8.out, HA8.out, TR2.out, BQ8.out⟩
                  case measure => simp [intOf]; omega
                · as_aux_lemma =>
                  have hql : q < ns.length := by omega
                  have hqi : ((q : Nat) : Int) < (ns.length : Nat) := by omega
                  obtain ⟨y, hy⟩ : ∃ y, ns[q]? = some y := ⟨_, List.getElem?_eq_getElem hql⟩
                  obtain ⟨xn, hxn, hxnl, hxnc⟩ := NL.out (by intro h; rw [h] at hql; simp at hql)
                  subst hxn
                  have cy : wr.cell? (xn.add q) = some (.int .i64 y) := by rw [BI.out.cell (p := xn.add q) (by rw [add_block]; exact hxnl)]; exact hxnc q y hy
                  have ce2 : wr.cell? ⟨(xe.add (m * 3)).block, (xe.add (m * 3)).off + 2, none⟩ = some (.int .i64 (c : Nat)) := by have := (CV.out wr BQwr.out).2.2.2.c2; rw [ST.out.2.2.2.1] at this; exact this
                  have NX : Hid ((ns.take (q + 1)).any (fun x => x == (c : Int)) = ((ns.take q).any (fun x => x == (c : Int)) || (y == (c : Int)))) := by
                    unfold Hid
                    obtain ⟨q1', q2'⟩ := List.getElem?_eq_some_iff.1 hy
                    rw [List.take_succ_eq_append_getElem q1', q2', List.any_append]
                    simp
                  have WQ : IntKind.i64.wrap ((q : Nat) + 1 : Int) = ((q : Nat) : Int) + 1 := by rw [IntKind.wrap_i64]; omega
                  obtain ⟨bq, hbq⟩ : ∃ b, (ns.take q).any (fun x => x == (c : Int)) = b := ⟨_, rfl⟩
                  rw [hbq] at NX ⊢
                  clear hxnc hxnl hy hbq
                  go_upto_region 34 with fail
                  cases bq with
                  | true =>
                    go_quiet (fail)
                    go_wp2
                    go_round
                    case rel => exact ⟨q + 1, by rw [NX.out]; first | done | rfl, by go_num, by omega, ⟨BI.out.os, BI.out.tape, BI.out.output, BI.out.size, BI.out.block⟩⟩
                    case measure => simp [intOf]; omega
                  | false =>
                    by_cases hyc : y = (c : Nat)
                    · have NX1 : Hid ((ns.take (q + 1)).any (fun x => x == (c : Int)) = true) := by unfold Hid; rw [NX.out, hyc]; simp
                      rw [hyc] at cy
                      go_quiet (fail)
                      go_wp2
                      go_round
                      case rel => exact ⟨q + 1, by rw [NX1.out]; first | done | rfl, by go_num, by omega, ⟨BI.out.os, BI.out.tape, BI.out.output, BI.out.size, BI.out.block⟩⟩
                      case measure => simp [intOf]; omega
                    · have hyb : (y == ((c : Nat) : Int)) = false := by rw [beq_eq_false_iff_ne]; exact hyc
                      have NX1 : Hid ((ns.take (q + 1)).any (fun x => x == (c : Int)) = false) := by unfold Hid; rw [NX.out, hyb]; rfl
                      clear hyc
                      go_quiet (fail)
                      go_wp2
                      go_round
                      case rel => exact ⟨q + 1, by rw [NX1.out]; first | done | rfl | simp [hyb], by go_num, by omega, ⟨BI.out.os, BI.out.tape, BI.out.output, BI.out.size, BI.out.block⟩⟩
                      case measure => simp [intOf]; omega
        · as_aux_lemma =>
          have hnl : n < X.us.length := by omega
          have hni : ((n : Nat) : Int) < (X.us.length : Nat) := by omega
          obtain ⟨u, hu⟩ : ∃ u, X.us[n]? = some u := ⟨_, List.getElem?_eq_getElem hnl⟩
          obtain ⟨k, f⟩ := WR.out.fine hu
          obtain ⟨kn, hkn⟩ : ∃ n : Nat, u.kind = n := ⟨u.kind.toNat, by have := f.k0.1; omega⟩
          have hkk : ks[kn]? = some k := by have := f.kk; rw [hkn, Int.toNat_natCast] at this; exact this
          have hkl : kn < ks.length := (List.getElem?_eq_some_iff.1 hkk).1
          have hspd : spdOf ks u = k.n4 := by unfold spdOf; rw [f.kk]
          obtain ⟨pa', pc', he', -, -, huc⟩ := H.out.slices.2.2.2.1
          obtain ⟨xu, hxu, hxul, hxuc⟩ := huc (by intro h; rw [h] at hnl; simp at hnl)
          injection he' with he1 he2 he3
          subst he1
          subst hxu
          obtain ⟨xk, hxk, hxl', hxc⟩ := KC.out (by intro h; subst h; simp at hkl)
          subst hxk
          have Uq := (hxuc n u hu).below BR.out (by rw [add_block]; exact hxul)
          have cK : wr.cell? ⟨(xu.add (n * 8)).block, (xu.add (n * 8)).off + 2, none⟩ = some (.int .i64 (kn : Nat)) := by have := Uq.c2; rw [hkn] at this; exact this
          have cS := ((hxc kn k hkk).below BR.out (by rw [add_block]; exact hxl')).c5
          have FS : Hid (sp[n]? = some k.n4 ∧ ats[n]? = some u.at_) := ⟨by rw [(SL.out.2.2 n u hu).1, hspd], (SL.out.2.2 n u hu).2⟩
          have WN : IntKind.i64.wrap ((n : Nat) + 1 : Int) = ((n : Nat) : Int) + 1 := by rw [IntKind.wrap_i64]; omega
          have cl := HLr.out.cell (fil_at (f := sp) (n := n) (by rw [SL.out.1]; exact hnl))
          have tl := HLr.out.thaw n
          have HL1 : Hid (Bk (wr.setCell ⟨hl, n, none⟩ (.int .i64 k.n4)) hl (fil sp (n + 1)) #[]) := by
            unfold Hid
            rw [← fil_next FS.out.1]
            exact HLr.out.set n _ (by rw [fil_len _ (by rw [SL.out.1]; omega), SL.out.1]; exact hnl)
          have HA1 : Hid (Bk (wr.setCell ⟨hl, n, none⟩ (.int .i64 k.n4)) ha (fil ats n) #[]) := HAr.out.other (by have := HH.out.2.2.1; omega) _ _
          have BQ1 : Hid (Below hl w9 (wr.setCell ⟨hl, n, none⟩ (.int .i64 k.n4))) := BQr.out.setCell (p := ⟨hl, n, none⟩) (Nat.le_refl _) _
          have UU : Hid (Unc w (xu.add (n * 8)) u ∧ (xu.add (n * 8)).block < w.heap.size) := ⟨hxuc n u hu, by rw [add_block]; exact hxul⟩
          clear huc he2 he3 hxul hxuc hxl' hxc f hkn hkk hspd hu Uq x7
          have x7 := XR.out.c7
          go_upto_region 21 with fail
          clear cl tl cK cS x7
          generalize (wr.setCell ⟨hl, n, none⟩ (.int .i64 k.n4)) = v1 at *
          have BR1 : Hid (Below w.heap.size w v1) := B9.out.trans (BQ1.out.mono (by have := HH.out.1; omega))
          have x7 := (X9.out.below BQ1.out HH.out.1).c7
          have c3 := (UU.out.1.below BR1.out UU.out.2).c3
          have cA := HA1.out.cell (fil_at (f := ats) (n := n) (by rw [SL.out.2.1]; exact hnl))
          have tA := HA1.out.thaw n
          have HA2 : Hid (Bk (v1.setCell ⟨ha, n, none⟩ (.int .i64 u.at_)) ha (fil ats (n + 1)) #[]) := by
            unfold Hid
            rw [← fil_next FS.out.2]
            exact HA1.out.set n _ (by rw [fil_len _ (by rw [SL.out.2.1]; omega), SL.out.2.1]; exact hnl)
          have HL2 : Hid (Bk (v1.setCell ⟨ha, n, none⟩ (.int .i64 u.at_)) hl (fil sp (n + 1)) #[]) := HL1.out.other (by have := HH.out.2.2.1; omega) _ _
          have BQ2 : Hid (Below hl w9 (v1.setCell ⟨ha, n, none⟩ (.int .i64 u.at_))) := BQ1.out.setCell (p := ⟨ha, n, none⟩) (by have := HH.out.2.2.1; show hl ≤ ha; omega) _
          go_wp2
          go_round
          case rel => exact ⟨n + 1, by go_num, by omega, HL2.out, HA2.out, BQ2.out⟩
          case measure => simp [intOf]; omega
end Go.Proofs.YtagnjmellcibhaaDoor.moveKeeps

