/- TurnRefuses: the walk. -/
import Derived.Test.YtghkchnfcfnejaaZTurnRefuses7
import Derived.BigQuiet
namespace Go.Proofs.Ytghkchnfcfnejaa.turnRefuses
open Go.RowKit Go.Proofs.Ytghkchnfcfnejaa.So
set_option linter.unusedVariables false

def RfI (ks : List KV) (X : WV) (out : List OrV) (w7 : World) (v17 v18 v19 : Value) (V : World) : Prop := ∃ q : Nat, q ≤ out.length ∧ v19 = .int .i64 (q : Nat) ∧ v18 = .int .i64 ((gv ks X out q).2.length : Nat) ∧ Oro V w7.heap.size v17 (gk ks X out q) ∧ Below w7.heap.size w7 V
set_option maxRecDepth 100000 in
set_option maxHeartbeats 80000000 in
theorem walk (vk : Value) (ks : List KV) (vw : Value) (X : WV) (vl : Value) (l : List OrV) (w : World)
    (h0 : Kl w vk ks ∧ ∀ k ∈ ks, k.b.size ≤ maxLen) (h1 : Wl w vw X ∧ ∀ n ∈ Wd.nums X, Wd.In64 n) (h2 : Orl w vl l ∧ ∀ k ∈ l, True) :
    Calls Try.prog 3 #[vk, vw, vl] w fun e w' => e = .returned (.bool true) ∧ Below w.heap.size w w' := by
  have K : Hid (Kl w vk ks ∧ ∀ k ∈ ks, k.b.size ≤ 9223372036854775807) := ⟨h0.1, fun k hk => by have := h0.2 k hk; unfold maxLen at this; omega⟩
  have H : Hid (Wl w vw X) := h1.1
  have L : Hid (Orl w vl l) := h2.1
  obtain ⟨p1, q1, p2, q2, p3, q3, p4, q4, p5, q5, rfl⟩ := wl_shape9 h1.1
  obtain ⟨pk, qk, rfl, -⟩ := h0.1
  obtain ⟨pl, ql, rfl, -⟩ := h2.1
  clear h0 h1 h2
  go_enter Try.func3, Try.ntmps3
  go_upto_region 1 with fail
  have B0 : Hid (Below w.heap.size w (w.alloc (Obj.cells #[.int .i64 X.turn, .int .i64 X.next, .int .i64 X.wide, .int .i64 X.high, .slice p1 X.gs.length q1, .slice p2 X.os.length q2, .slice p3 X.gold.length q3, .slice p4 X.us.length q4, .slice p5 X.qs.length q5] 29))) := (Below.refl _ _).alloc (Nat.le_refl _) _
  have X0 : Hid (Bw (w.alloc (Obj.cells #[.int .i64 X.turn, .int .i64 X.next, .int .i64 X.wide, .int .i64 X.high, .slice p1 X.gs.length q1, .slice p2 X.os.length q2, .slice p3 X.gold.length q3, .slice p4 X.us.length q4, .slice p5 X.qs.length q5] 29)) w.heap.size X (.slice p1 X.gs.length q1) (.slice p2 X.os.length q2) (.slice p3 X.gold.length q3) (.slice p4 X.us.length q4) (.slice p5 X.qs.length q5)) := Bw.mk' X _ _ _ _ _ rfl
  generalize (w.alloc (Obj.cells #[.int .i64 X.turn, .int .i64 X.next, .int .i64 X.wide, .int .i64 X.high, .slice p1 X.gs.length q1, .slice p2 X.os.length q2, .slice p3 X.gold.length q3, .slice p4 X.us.length q4, .slice p5 X.qs.length q5] 29)) = w0 at *
  go_wp2_with fail
  refine (small_any w0).mono ?_
  rintro e w1 ⟨u, rfl, ho, hb⟩
  have B1 : Hid (Below w.heap.size w w1) := B0.out.trans (hb.mono B0.out.size)
  have X1 : Hid (Bw w1 w.heap.size X (.slice p1 X.gs.length q1) (.slice p2 X.os.length q2) (.slice p3 X.gold.length q3) (.slice p4 X.us.length q4) (.slice p5 X.qs.length q5)) := X0.out.below hb X0.out.lt
  have LS0 := ho.l
  obtain ⟨y1, y2, y3, y4, y5, rfl, o1, o2, o3, o4, o5⟩ := ho
  obtain ⟨m1, n1, rfl⟩ := o1.len
  obtain ⟨m2, n2, rfl⟩ := o2.len
  obtain ⟨m3, n3, rfl⟩ := o3.len
  obtain ⟨m4, n4, rfl⟩ := o4.len
  obtain ⟨m5, n5, rfl⟩ := o5.len
  have LS : Hid (Wl w1 (.agg #[.int .i64 0, .int .i64 4, .int .i64 4, .int .i64 2, .slice m1 8 n1, .slice m2 8 n2, .slice m3 2 n3, .slice m4 3 n4, .slice m5 0 n5]) S3) := LS0
  obtain ⟨g1, g2, g3, g4, g5, g6, g7, g8, g9⟩ := s3_eqs
  simp only [g1, g2, g3, g4, g5, g6, g7, g8, g9]
  clear g1 g2 g3 g4 g5 g6 g7 g8 g9 hb o1 o2 o3 o4 o5 X0 B0 LS0
  go_upto_region 2 with fail
  have BA : Hid (Below w1.heap.size w1 (w1.alloc (Obj.cells #[.int .i64 0, .int .i64 4, .int .i64 4, .int .i64 2, .slice m1 8 n1, .slice m2 8 n2, .slice m3 2 n3, .slice m4 3 n4, .slice m5 0 n5] 29))) := (Below.refl _ _).alloc (Nat.le_refl _) _
  obtain ⟨z, hz⟩ : ∃ z, w1.heap.size = z := ⟨_, rfl⟩
  have W2 : Hid (Wx (w1.alloc (Obj.cells #[.int .i64 0, .int .i64 4, .int .i64 4, .int .i64 2, .slice m1 8 n1, .slice m2 8 n2, .slice m3 2 n3, .slice m4 3 n4, .slice m5 0 n5] 29)) z (.int .i64 0) (.int .i64 4) (.int .i64 4) (.int .i64 2) (.slice m1 8 n1) (.slice m2 8 n2) (.slice m3 2 n3) (.slice m4 3 n4) (.slice m5 0 n5)) := Wx.new _ _ _ _ _ _ _ _ _ hz
  rw [hz]
  generalize (w1.alloc (Obj.cells #[.int .i64 0, .int .i64 4, .int .i64 4, .int .i64 2, .slice m1 8 n1, .slice m2 8 n2, .slice m3 2 n3, .slice m4 3 n4, .slice m5 0 n5] 29)) = w2 at *
  have B2 : Hid (Below w.heap.size w w2) := B1.out.trans (BA.out.mono B1.out.size)
  have X2 : Hid (Bw w2 w.heap.size X (.slice p1 X.gs.length q1) (.slice p2 X.os.length q2) (.slice p3 X.gold.length q3) (.slice p4 X.us.length q4) (.slice p5 X.qs.length q5)) := X1.out.below BA.out X1.out.lt
  have L2 : Hid (Wl w2 (.agg #[.int .i64 0, .int .i64 4, .int .i64 4, .int .i64 2, .slice m1 8 n1, .slice m2 8 n2, .slice m3 2 n3, .slice m4 3 n4, .slice m5 0 n5]) S3) := LS.out.below BA.out
  clear X1 B1 BA LS hz
  go_upto_region 4 with fail
  go_cut [10, 11] (fun v10 v11 V => v11 = .nilIface ∧ ∃ gf cf, v10 = .slice (some ⟨gf, 0, none⟩) 1 cf ∧ 1 ≤ cf ∧ V.cell? ⟨gf, 0, none⟩ = some (.int .i64 0) ∧ Below w.heap.size w V ∧ Bw V w.heap.size X (.slice p1 X.gs.length q1) (.slice p2 X.os.length q2) (.slice p3 X.gold.length q3) (.slice p4 X.us.length q4) (.slice p5 X.qs.length q5))
  case first =>
    refine wp_region_tree (.read 1 (.read 2 (.three 0 (.two 3 (.two 4 (.read 5 (.read 6 (.read 7 (.read 8 (.one 9 (.one 10 (.one 11 .leaf))))))) 9 (.one 4 (.read 5 (.read 6 (.read 7 (.read 8 (.one 10 (.one 11 .leaf)))))))) 9 (.one 3 (.one 4 (.read 5 (.read 6 (.read 7 (.read 8 (.one 10 (.one 11 .leaf))))))))) 3 (.two 0 (.two 4 (.read 5 (.read 6 (.read 7 (.read 8 (.one 9 (.one 10 (.one 11 .leaf))))))) 9 (.one 4 (.read 5 (.read 6 (.read 7 (.read 8 (.one 10 (.one 11 .leaf)))))))) 9 (.one 0 (.one 4 (.read 5 (.read 6 (.read 7 (.read 8 (.one 10 (.one 11 .leaf))))))))) 9 (.two 0 (.one 3 (.one 4 (.read 5 (.read 6 (.read 7 (.read 8 (.one 10 (.one 11 .leaf)))))))) 3 (.one 0 (.one 4 (.read 5 (.read 6 (.read 7 (.read 8 (.one 10 (.one 11 .leaf)))))))))))) [(false, 0), (false, 1), (false, 2), (false, 3), (false, 4), (false, 5), (false, 6), (false, 7), (false, 8), (false, 9), (false, 10), (false, 11)] [(false, 12)] (fun V => Wx V z (.int .i64 0) (.int .i64 4) (.int .i64 4) (.int .i64 2) (.slice m1 8 n1) (.slice m2 8 n2) (.slice m3 2 n3) (.slice m4 3 n4) (.slice m5 0 n5)) (by kernel_rfl) (by kernel_rfl) (by kernel_rfl) (by decide +kernel) (by decide +kernel) W2.out ?_
    have D0 : Hid (Below w2.heap.size w2 { w2 with drawn := w2.drawn + 1 }) := (Below.refl _ _).drew
    generalize ({ w2 with drawn := w2.drawn + 1 } : World) = v0 at *
    have F : Hid (Fx w X (.slice p1 X.gs.length q1) (.slice p2 X.os.length q2) (.slice p3 X.gold.length q3) (.slice p4 X.us.length q4) (.slice p5 X.qs.length q5) z (.slice m1 8 n1) (.slice m2 8 n2) (.slice m3 2 n3) (.slice m4 3 n4) (.slice m5 0 n5) v0) := Fx.below ⟨B2.out, X2.out, W2.out, L2.out⟩ D0.out
    clear W2 X2 B2 L2 D0
    refine tr_read rfl (.agg #[.int .i64 0, .int .i64 4, .int .i64 4, .int .i64 2, .slice m1 8 n1, .slice m2 8 n2, .slice m3 2 n3, .slice m4 3 n4, .slice m5 0 n5]) (by go_simp) (fun V hV => by obtain ⟨x0, x1, x2, x3, x4, x5, x6, x7, x8⟩ := hV.cells; go_simp) ?_
    go_simp
    refine tr_read rfl (.agg #[.int .i64 1, .int .i64 1, .int .i64 0, .int .i64 0]) (by go_simp) (fun V hV => by go_simp) ?_
    go_simp
    refine tr_three ?_ ?_ ?_
    · refine st_call rfl 6 #[] (by go_simp) (by go_simp) ?_
      refine (sorts_any v0).mono ?_
      rintro e v1 ⟨ku, rfl, hk, hb⟩
      have F9 : Hid (Fx w X (.slice p1 X.gs.length q1) (.slice p2 X.os.length q2) (.slice p3 X.gold.length q3) (.slice p4 X.us.length q4) (.slice p5 X.qs.length q5) z (.slice m1 8 n1) (.slice m2 8 n2) (.slice m3 2 n3) (.slice m4 3 n4) (.slice m5 0 n5) v1) := F.out.below hb
      clear F
      have F := F9
      clear F9
      have KU : Hid (Kl v1 ku SK) := hk
      refine ⟨_, rfl, F.out.2.2.1, ?_⟩
      clear hk hb
      go_simp
      refine tr_two ?_ ?_
      · have ba : Below v1.heap.size v1 (v1.alloc (Obj.cells #[.int .i64 1, .int .i64 1, .int .i64 0, .int .i64 0] 39)) := (Below.refl _ _).alloc (Nat.le_refl _) _
        refine st_value rfl (.slice (some ⟨v1.heap.size, 0, none⟩) 1 1) (v1.alloc (Obj.cells #[.int .i64 1, .int .i64 1, .int .i64 0, .int .i64 0] 39)) (by go_simp) (by go_simp) (F.out.below ba).2.2.1 ?_
        obtain ⟨g, hg⟩ : ∃ g, v1.heap.size = g := ⟨_, rfl⟩
        have OL : Hid (Orl (v1.alloc (Obj.cells #[.int .i64 1, .int .i64 1, .int .i64 0, .int .i64 0] 39)) (.slice (some ⟨g, 0, none⟩) 1 1) [go1]) := by rw [← hg]; exact or_lit1 v1
        rw [hg]
        have F9 : Hid (Fx w X (.slice p1 X.gs.length q1) (.slice p2 X.os.length q2) (.slice p3 X.gold.length q3) (.slice p4 X.us.length q4) (.slice p5 X.qs.length q5) z (.slice m1 8 n1) (.slice m2 8 n2) (.slice m3 2 n3) (.slice m4 3 n4) (.slice m5 0 n5) (v1.alloc (Obj.cells #[.int .i64 1, .int .i64 1, .int .i64 0, .int .i64 0] 39))) := F.out.below ba
        clear F
        have F := F9
        clear F9
        have K9 : Hid (Kl (v1.alloc (Obj.cells #[.int .i64 1, .int .i64 1, .int .i64 0, .int .i64 0] 39)) ku SK) := KU.out.below ba
        clear KU
        have KU := K9
        clear K9
        clear ba hg
        generalize v1.alloc (Obj.cells #[.int .i64 1, .int .i64 1, .int .i64 0, .int .i64 0] 39) = v2 at *
        go_simp
        refine tr_two ?_ ?_
        · refine st_call rfl 5 #[ku, .agg #[.int .i64 0, .int .i64 4, .int .i64 4, .int .i64 2, .slice m1 8 n1, .slice m2 8 n2, .slice m3 2 n3, .slice m4 3 n4, .slice m5 0 n5], .slice (some ⟨g, 0, none⟩) 1 1] (by go_simp) (by go_simp) ?_
          refine (Give_any ku _ _ SK S3 [go1] v2 KU.out sm_names F.out.2.2.2 OL.out).mono ?_
          rintro e v3 ⟨v, ur, r, rfl, hr, hf, hb⟩
          rw [sg_zero] at hr
          obtain rfl := er_zero hr
          obtain ⟨f1, h1, f2, h2, f3, h3, f4, h4, f5, h5, gf, cf, rfl, rfl, hgf, hcf, hc0⟩ := sm_given hf
          have F9 : Hid (Fx w X (.slice p1 X.gs.length q1) (.slice p2 X.os.length q2) (.slice p3 X.gold.length q3) (.slice p4 X.us.length q4) (.slice p5 X.qs.length q5) z (.slice m1 8 n1) (.slice m2 8 n2) (.slice m3 2 n3) (.slice m4 3 n4) (.slice m5 0 n5) v3) := F.out.below hb
          clear F
          have F := F9
          clear F9
          have GE : Hid (v3.cell? ⟨gf, 0, none⟩ = some (.int .i64 0) ∧ 1 ≤ cf) := ⟨hc0, hcf⟩
          refine ⟨_, rfl, F.out.2.2.1, ?_⟩
          clear hr hf hb hgf hcf hc0 KU OL
          go_simp
          refine tr_read rfl (.tuple #[.agg #[.int .i64 0, .int .i64 4, .int .i64 4, .int .i64 2, .slice f1 8 h1, .slice f2 8 h2, .slice f3 2 h3, .slice f4 3 h4, .slice f5 0 h5], .slice (some ⟨gf, 0, none⟩) 1 cf, .nilIface]) (by go_simp) (fun V hV => by go_simp) ?_
          go_simp
          refine tr_read rfl (.agg #[.int .i64 0, .int .i64 4, .int .i64 4, .int .i64 2, .slice f1 8 h1, .slice f2 8 h2, .slice f3 2 h3, .slice f4 3 h4, .slice f5 0 h5]) (by go_simp) (fun V hV => by go_simp) ?_
          go_simp
          refine tr_read rfl (.slice (some ⟨gf, 0, none⟩) 1 cf) (by go_simp) (fun V hV => by go_simp) ?_
          go_simp
          refine tr_read rfl (.nilIface) (by go_simp) (fun V hV => by go_simp) ?_
          go_simp
          refine tr_one ?_
          have ba : Below v3.heap.size v3 (v3.alloc (Obj.cells #[.int .i64 0, .int .i64 0, .int .i64 0, .int .i64 0, .slice none 0 0, .slice none 0 0, .slice none 0 0, .slice none 0 0, .slice none 0 0] 29)) := (Below.refl _ _).alloc (Nat.le_refl _) _
          refine st_value rfl (.pointer (some ⟨v3.heap.size, 0, none⟩)) (v3.alloc (Obj.cells #[.int .i64 0, .int .i64 0, .int .i64 0, .int .i64 0, .slice none 0 0, .slice none 0 0, .slice none 0 0, .slice none 0 0, .slice none 0 0] 29)) (by go_simp) (by go_simp) (F.out.below ba).2.2.1 ?_
          obtain ⟨bf, hbf⟩ : ∃ g, v3.heap.size = g := ⟨_, rfl⟩
          have ZE : Hid (Wx (v3.alloc (Obj.cells #[.int .i64 0, .int .i64 0, .int .i64 0, .int .i64 0, .slice none 0 0, .slice none 0 0, .slice none 0 0, .slice none 0 0, .slice none 0 0] 29)) bf (.int .i64 0) (.int .i64 0) (.int .i64 0) (.int .i64 0) (.slice none 0 0) (.slice none 0 0) (.slice none 0 0) (.slice none 0 0) (.slice none 0 0) ∧ w.heap.size < bf ∧ z < bf) := ⟨Wx.new (w := v3) _ _ _ _ _ _ _ _ _ hbf, by rw [← hbf]; exact F.out.2.1.lt, by rw [← hbf]; exact F.out.2.2.1.lt⟩
          have NE : Hid (gf ≠ bf) := by have h9 := cell_lt GE.out.1; rw [hbf] at h9; exact Nat.ne_of_lt h9
          rw [hbf]
          have F9 : Hid (Fx w X (.slice p1 X.gs.length q1) (.slice p2 X.os.length q2) (.slice p3 X.gold.length q3) (.slice p4 X.us.length q4) (.slice p5 X.qs.length q5) z (.slice m1 8 n1) (.slice m2 8 n2) (.slice m3 2 n3) (.slice m4 3 n4) (.slice m5 0 n5) (v3.alloc (Obj.cells #[.int .i64 0, .int .i64 0, .int .i64 0, .int .i64 0, .slice none 0 0, .slice none 0 0, .slice none 0 0, .slice none 0 0, .slice none 0 0] 29))) := F.out.below ba
          clear F
          have F := F9
          clear F9
          have G9 : Hid ((v3.alloc (Obj.cells #[.int .i64 0, .int .i64 0, .int .i64 0, .int .i64 0, .slice none 0 0, .slice none 0 0, .slice none 0 0, .slice none 0 0, .slice none 0 0] 29)).cell? ⟨gf, 0, none⟩ = some (.int .i64 0) ∧ 1 ≤ cf) := ⟨by rw [ba.cell (p := ⟨gf, 0, none⟩) (cell_lt GE.out.1)]; exact GE.out.1, GE.out.2⟩
          clear GE
          have GE := G9
          clear G9
          clear ba hbf
          generalize v3.alloc (Obj.cells #[.int .i64 0, .int .i64 0, .int .i64 0, .int .i64 0, .slice none 0 0, .slice none 0 0, .slice none 0 0, .slice none 0 0, .slice none 0 0] 29) = v4 at *
          go_simp
          refine tr_one ?_
          obtain ⟨z0, z1, z2, z3, z4, z5, z6, z7, z8⟩ := ZE.out.1.cells
          obtain ⟨t0, t1, t2, t3, t4, t5, t6, t7, t8⟩ := ZE.out.1.thaws
          have KZ : Hid (Kp bf v4 (((((((((v4.setCell ⟨bf, 0, none⟩ (.int .i64 0)).setCell ⟨bf, 1, none⟩ (.int .i64 4)).setCell ⟨bf, 2, none⟩ (.int .i64 4)).setCell ⟨bf, 3, none⟩ (.int .i64 2)).setCell ⟨bf, 4, none⟩ (.slice f1 8 h1)).setCell ⟨bf, 5, none⟩ (.slice f2 8 h2)).setCell ⟨bf, 6, none⟩ (.slice f3 2 h3)).setCell ⟨bf, 7, none⟩ (.slice f4 3 h4)).setCell ⟨bf, 8, none⟩ (.slice f5 0 h5))) := put_kp _ _ _ _ _ _ _ _ _ _ _
          have FS : Hid (Below w.heap.size w (((((((((v4.setCell ⟨bf, 0, none⟩ (.int .i64 0)).setCell ⟨bf, 1, none⟩ (.int .i64 4)).setCell ⟨bf, 2, none⟩ (.int .i64 4)).setCell ⟨bf, 3, none⟩ (.int .i64 2)).setCell ⟨bf, 4, none⟩ (.slice f1 8 h1)).setCell ⟨bf, 5, none⟩ (.slice f2 8 h2)).setCell ⟨bf, 6, none⟩ (.slice f3 2 h3)).setCell ⟨bf, 7, none⟩ (.slice f4 3 h4)).setCell ⟨bf, 8, none⟩ (.slice f5 0 h5)) ∧ Bw (((((((((v4.setCell ⟨bf, 0, none⟩ (.int .i64 0)).setCell ⟨bf, 1, none⟩ (.int .i64 4)).setCell ⟨bf, 2, none⟩ (.int .i64 4)).setCell ⟨bf, 3, none⟩ (.int .i64 2)).setCell ⟨bf, 4, none⟩ (.slice f1 8 h1)).setCell ⟨bf, 5, none⟩ (.slice f2 8 h2)).setCell ⟨bf, 6, none⟩ (.slice f3 2 h3)).setCell ⟨bf, 7, none⟩ (.slice f4 3 h4)).setCell ⟨bf, 8, none⟩ (.slice f5 0 h5)) w.heap.size X (.slice p1 X.gs.length q1) (.slice p2 X.os.length q2) (.slice p3 X.gold.length q3) (.slice p4 X.us.length q4) (.slice p5 X.qs.length q5) ∧ Wx (((((((((v4.setCell ⟨bf, 0, none⟩ (.int .i64 0)).setCell ⟨bf, 1, none⟩ (.int .i64 4)).setCell ⟨bf, 2, none⟩ (.int .i64 4)).setCell ⟨bf, 3, none⟩ (.int .i64 2)).setCell ⟨bf, 4, none⟩ (.slice f1 8 h1)).setCell ⟨bf, 5, none⟩ (.slice f2 8 h2)).setCell ⟨bf, 6, none⟩ (.slice f3 2 h3)).setCell ⟨bf, 7, none⟩ (.slice f4 3 h4)).setCell ⟨bf, 8, none⟩ (.slice f5 0 h5)) z (.int .i64 0) (.int .i64 4) (.int .i64 4) (.int .i64 2) (.slice m1 8 n1) (.slice m2 8 n2) (.slice m3 2 n3) (.slice m4 3 n4) (.slice m5 0 n5)) := by have h9 := ZE.out.2; exact ⟨KZ.out.below F.out.1 F.out.1.size (by omega), F.out.2.1.kp9 KZ.out (by omega), F.out.2.2.1.kp KZ.out (by omega)⟩
          have GS : Hid ((((((((((v4.setCell ⟨bf, 0, none⟩ (.int .i64 0)).setCell ⟨bf, 1, none⟩ (.int .i64 4)).setCell ⟨bf, 2, none⟩ (.int .i64 4)).setCell ⟨bf, 3, none⟩ (.int .i64 2)).setCell ⟨bf, 4, none⟩ (.slice f1 8 h1)).setCell ⟨bf, 5, none⟩ (.slice f2 8 h2)).setCell ⟨bf, 6, none⟩ (.slice f3 2 h3)).setCell ⟨bf, 7, none⟩ (.slice f4 3 h4)).setCell ⟨bf, 8, none⟩ (.slice f5 0 h5)).cell? ⟨gf, 0, none⟩ = some (.int .i64 0) ∧ 1 ≤ cf) := ⟨cell_kp9 GE.out.1 KZ.out NE.out, GE.out.2⟩
          refine st_skip rfl (((((((((v4.setCell ⟨bf, 0, none⟩ (.int .i64 0)).setCell ⟨bf, 1, none⟩ (.int .i64 4)).setCell ⟨bf, 2, none⟩ (.int .i64 4)).setCell ⟨bf, 3, none⟩ (.int .i64 2)).setCell ⟨bf, 4, none⟩ (.slice f1 8 h1)).setCell ⟨bf, 5, none⟩ (.slice f2 8 h2)).setCell ⟨bf, 6, none⟩ (.slice f3 2 h3)).setCell ⟨bf, 7, none⟩ (.slice f4 3 h4)).setCell ⟨bf, 8, none⟩ (.slice f5 0 h5)) (by go_simp) (by go_simp) FS.out.2.2 ?_
          clear z0 z1 z2 z3 z4 z5 z6 z7 z8 t0 t1 t2 t3 t4 t5 t6 t7 t8 KZ ZE GE F
          generalize ((((((((v4.setCell ⟨bf, 0, none⟩ (.int .i64 0)).setCell ⟨bf, 1, none⟩ (.int .i64 4)).setCell ⟨bf, 2, none⟩ (.int .i64 4)).setCell ⟨bf, 3, none⟩ (.int .i64 2)).setCell ⟨bf, 4, none⟩ (.slice f1 8 h1)).setCell ⟨bf, 5, none⟩ (.slice f2 8 h2)).setCell ⟨bf, 6, none⟩ (.slice f3 2 h3)).setCell ⟨bf, 7, none⟩ (.slice f4 3 h4)).setCell ⟨bf, 8, none⟩ (.slice f5 0 h5) = v5 at *
          go_simp
          refine tr_one ?_
          refine st_value rfl (.slice (some ⟨gf, 0, none⟩) 1 cf) v5 (by go_simp) (by go_simp) FS.out.2.2 ?_
          go_simp
          unfold wpTr
          refine sched_value rfl .nilIface v5 (by go_simp) (by go_simp) trivial ?_
          go_simp
          unfold wpSched
          go_wp2_with fail
          go_meet
          case rel => exact ⟨rfl, gf, cf, rfl, GS.out.2, GS.out.1, FS.out.1, FS.out.2.1⟩
        · have ba : Below v2.heap.size v2 (v2.alloc (Obj.cells #[.int .i64 0, .int .i64 0, .int .i64 0, .int .i64 0, .slice none 0 0, .slice none 0 0, .slice none 0 0, .slice none 0 0, .slice none 0 0] 29)) := (Below.refl _ _).alloc (Nat.le_refl _) _
          refine st_value rfl (.pointer (some ⟨v2.heap.size, 0, none⟩)) (v2.alloc (Obj.cells #[.int .i64 0, .int .i64 0, .int .i64 0, .int .i64 0, .slice none 0 0, .slice none 0 0, .slice none 0 0, .slice none 0 0, .slice none 0 0] 29)) (by go_simp) (by go_simp) (F.out.below ba).2.2.1 ?_
          obtain ⟨bf, hbf⟩ : ∃ g, v2.heap.size = g := ⟨_, rfl⟩
          have ZE : Hid (Wx (v2.alloc (Obj.cells #[.int .i64 0, .int .i64 0, .int .i64 0, .int .i64 0, .slice none 0 0, .slice none 0 0, .slice none 0 0, .slice none 0 0, .slice none 0 0] 29)) bf (.int .i64 0) (.int .i64 0) (.int .i64 0) (.int .i64 0) (.slice none 0 0) (.slice none 0 0) (.slice none 0 0) (.slice none 0 0) (.slice none 0 0) ∧ w.heap.size < bf ∧ z < bf) := ⟨Wx.new (w := v2) _ _ _ _ _ _ _ _ _ hbf, by rw [← hbf]; exact F.out.2.1.lt, by rw [← hbf]; exact F.out.2.2.1.lt⟩
          rw [hbf]
          have F9 : Hid (Fx w X (.slice p1 X.gs.length q1) (.slice p2 X.os.length q2) (.slice p3 X.gold.length q3) (.slice p4 X.us.length q4) (.slice p5 X.qs.length q5) z (.slice m1 8 n1) (.slice m2 8 n2) (.slice m3 2 n3) (.slice m4 3 n4) (.slice m5 0 n5) (v2.alloc (Obj.cells #[.int .i64 0, .int .i64 0, .int .i64 0, .int .i64 0, .slice none 0 0, .slice none 0 0, .slice none 0 0, .slice none 0 0, .slice none 0 0] 29))) := F.out.below ba
          clear F
          have F := F9
          clear F9
          have K9 : Hid (Kl (v2.alloc (Obj.cells #[.int .i64 0, .int .i64 0, .int .i64 0, .int .i64 0, .slice none 0 0, .slice none 0 0, .slice none 0 0, .slice none 0 0, .slice none 0 0] 29)) ku SK) := KU.out.below ba
          clear KU
          have KU := K9
          clear K9
          have O9 : Hid (Orl (v2.alloc (Obj.cells #[.int .i64 0, .int .i64 0, .int .i64 0, .int .i64 0, .slice none 0 0, .slice none 0 0, .slice none 0 0, .slice none 0 0, .slice none 0 0] 29)) (.slice (some ⟨g, 0, none⟩) 1 1) [go1]) := OL.out.below ba
          clear OL
          have OL := O9
          clear O9
          clear ba hbf
          generalize v2.alloc (Obj.cells #[.int .i64 0, .int .i64 0, .int .i64 0, .int .i64 0, .slice none 0 0, .slice none 0 0, .slice none 0 0, .slice none 0 0, .slice none 0 0] 29) = v6 at *
          go_simp
          refine tr_one ?_
          refine st_call rfl 5 #[ku, .agg #[.int .i64 0, .int .i64 4, .int .i64 4, .int .i64 2, .slice m1 8 n1, .slice m2 8 n2, .slice m3 2 n3, .slice m4 3 n4, .slice m5 0 n5], .slice (some ⟨g, 0, none⟩) 1 1] (by go_simp) (by go_simp) ?_
          refine (Give_any ku _ _ SK S3 [go1] v6 KU.out sm_names F.out.2.2.2 OL.out).mono ?_
          rintro e v7 ⟨v, ur, r, rfl, hr, hf, hb⟩
          rw [sg_zero] at hr
          obtain rfl := er_zero hr
          obtain ⟨f1, h1, f2, h2, f3, h3, f4, h4, f5, h5, gf, cf, rfl, rfl, hgf, hcf, hc0⟩ := sm_given hf
          have NE : Hid (gf ≠ bf) := by have h9 := ZE.out.1.lt; exact Nat.ne_of_gt (Nat.lt_of_lt_of_le h9 hgf)
          have F9 : Hid (Fx w X (.slice p1 X.gs.length q1) (.slice p2 X.os.length q2) (.slice p3 X.gold.length q3) (.slice p4 X.us.length q4) (.slice p5 X.qs.length q5) z (.slice m1 8 n1) (.slice m2 8 n2) (.slice m3 2 n3) (.slice m4 3 n4) (.slice m5 0 n5) v7) := F.out.below hb
          clear F
          have F := F9
          clear F9
          have Z9 : Hid (Wx v7 bf (.int .i64 0) (.int .i64 0) (.int .i64 0) (.int .i64 0) (.slice none 0 0) (.slice none 0 0) (.slice none 0 0) (.slice none 0 0) (.slice none 0 0) ∧ w.heap.size < bf ∧ z < bf) := ⟨ZE.out.1.below hb ZE.out.1.lt, ZE.out.2⟩
          clear ZE
          have ZE := Z9
          clear Z9
          have GE : Hid (v7.cell? ⟨gf, 0, none⟩ = some (.int .i64 0) ∧ 1 ≤ cf) := ⟨hc0, hcf⟩
          refine ⟨_, rfl, F.out.2.2.1, ?_⟩
          clear hr hf hb hgf hcf hc0 KU OL
          go_simp
          refine tr_read rfl (.tuple #[.agg #[.int .i64 0, .int .i64 4, .int .i64 4, .int .i64 2, .slice f1 8 h1, .slice f2 8 h2, .slice f3 2 h3, .slice f4 3 h4, .slice f5 0 h5], .slice (some ⟨gf, 0, none⟩) 1 cf, .nilIface]) (by go_simp) (fun V hV => by go_simp) ?_
          go_simp
          refine tr_read rfl (.agg #[.int .i64 0, .int .i64 4, .int .i64 4, .int .i64 2, .slice f1 8 h1, .slice f2 8 h2, .slice f3 2 h3, .slice f4 3 h4, .slice f5 0 h5]) (by go_simp) (fun V hV => by go_simp) ?_
          go_simp
          refine tr_read rfl (.slice (some ⟨gf, 0, none⟩) 1 cf) (by go_simp) (fun V hV => by go_simp) ?_
          go_simp
          refine tr_read rfl (.nilIface) (by go_simp) (fun V hV => by go_simp) ?_
          go_simp
          refine tr_one ?_
          obtain ⟨z0, z1, z2, z3, z4, z5, z6, z7, z8⟩ := ZE.out.1.cells
          obtain ⟨t0, t1, t2, t3, t4, t5, t6, t7, t8⟩ := ZE.out.1.thaws
          have KZ : Hid (Kp bf v7 (((((((((v7.setCell ⟨bf, 0, none⟩ (.int .i64 0)).setCell ⟨bf, 1, none⟩ (.int .i64 4)).setCell ⟨bf, 2, none⟩ (.int .i64 4)).setCell ⟨bf, 3, none⟩ (.int .i64 2)).setCell ⟨bf, 4, none⟩ (.slice f1 8 h1)).setCell ⟨bf, 5, none⟩ (.slice f2 8 h2)).setCell ⟨bf, 6, none⟩ (.slice f3 2 h3)).setCell ⟨bf, 7, none⟩ (.slice f4 3 h4)).setCell ⟨bf, 8, none⟩ (.slice f5 0 h5))) := put_kp _ _ _ _ _ _ _ _ _ _ _
          have FS : Hid (Below w.heap.size w (((((((((v7.setCell ⟨bf, 0, none⟩ (.int .i64 0)).setCell ⟨bf, 1, none⟩ (.int .i64 4)).setCell ⟨bf, 2, none⟩ (.int .i64 4)).setCell ⟨bf, 3, none⟩ (.int .i64 2)).setCell ⟨bf, 4, none⟩ (.slice f1 8 h1)).setCell ⟨bf, 5, none⟩ (.slice f2 8 h2)).setCell ⟨bf, 6, none⟩ (.slice f3 2 h3)).setCell ⟨bf, 7, none⟩ (.slice f4 3 h4)).setCell ⟨bf, 8, none⟩ (.slice f5 0 h5)) ∧ Bw (((((((((v7.setCell ⟨bf, 0, none⟩ (.int .i64 0)).setCell ⟨bf, 1, none⟩ (.int .i64 4)).setCell ⟨bf, 2, none⟩ (.int .i64 4)).setCell ⟨bf, 3, none⟩ (.int .i64 2)).setCell ⟨bf, 4, none⟩ (.slice f1 8 h1)).setCell ⟨bf, 5, none⟩ (.slice f2 8 h2)).setCell ⟨bf, 6, none⟩ (.slice f3 2 h3)).setCell ⟨bf, 7, none⟩ (.slice f4 3 h4)).setCell ⟨bf, 8, none⟩ (.slice f5 0 h5)) w.heap.size X (.slice p1 X.gs.length q1) (.slice p2 X.os.length q2) (.slice p3 X.gold.length q3) (.slice p4 X.us.length q4) (.slice p5 X.qs.length q5) ∧ Wx (((((((((v7.setCell ⟨bf, 0, none⟩ (.int .i64 0)).setCell ⟨bf, 1, none⟩ (.int .i64 4)).setCell ⟨bf, 2, none⟩ (.int .i64 4)).setCell ⟨bf, 3, none⟩ (.int .i64 2)).setCell ⟨bf, 4, none⟩ (.slice f1 8 h1)).setCell ⟨bf, 5, none⟩ (.slice f2 8 h2)).setCell ⟨bf, 6, none⟩ (.slice f3 2 h3)).setCell ⟨bf, 7, none⟩ (.slice f4 3 h4)).setCell ⟨bf, 8, none⟩ (.slice f5 0 h5)) z (.int .i64 0) (.int .i64 4) (.int .i64 4) (.int .i64 2) (.slice m1 8 n1) (.slice m2 8 n2) (.slice m3 2 n3) (.slice m4 3 n4) (.slice m5 0 n5)) := by have h9 := ZE.out.2; exact ⟨KZ.out.below F.out.1 F.out.1.size (by omega), F.out.2.1.kp9 KZ.out (by omega), F.out.2.2.1.kp KZ.out (by omega)⟩
          have GS : Hid ((((((((((v7.setCell ⟨bf, 0, none⟩ (.int .i64 0)).setCell ⟨bf, 1, none⟩ (.int .i64 4)).setCell ⟨bf, 2, none⟩ (.int .i64 4)).setCell ⟨bf, 3, none⟩ (.int .i64 2)).setCell ⟨bf, 4, none⟩ (.slice f1 8 h1)).setCell ⟨bf, 5, none⟩ (.slice f2 8 h2)).setCell ⟨bf, 6, none⟩ (.slice f3 2 h3)).setCell ⟨bf, 7, none⟩ (.slice f4 3 h4)).setCell ⟨bf, 8, none⟩ (.slice f5 0 h5)).cell? ⟨gf, 0, none⟩ = some (.int .i64 0) ∧ 1 ≤ cf) := ⟨cell_kp9 GE.out.1 KZ.out NE.out, GE.out.2⟩
          refine st_skip rfl (((((((((v7.setCell ⟨bf, 0, none⟩ (.int .i64 0)).setCell ⟨bf, 1, none⟩ (.int .i64 4)).setCell ⟨bf, 2, none⟩ (.int .i64 4)).setCell ⟨bf, 3, none⟩ (.int .i64 2)).setCell ⟨bf, 4, none⟩ (.slice f1 8 h1)).setCell ⟨bf, 5, none⟩ (.slice f2 8 h2)).setCell ⟨bf, 6, none⟩ (.slice f3 2 h3)).setCell ⟨bf, 7, none⟩ (.slice f4 3 h4)).setCell ⟨bf, 8, none⟩ (.slice f5 0 h5)) (by go_simp) (by go_simp) FS.out.2.2 ?_
          clear z0 z1 z2 z3 z4 z5 z6 z7 z8 t0 t1 t2 t3 t4 t5 t6 t7 t8 KZ ZE GE F
          generalize ((((((((v7.setCell ⟨bf, 0, none⟩ (.int .i64 0)).setCell ⟨bf, 1, none⟩ (.int .i64 4)).setCell ⟨bf, 2, none⟩ (.int .i64 4)).setCell ⟨bf, 3, none⟩ (.int .i64 2)).setCell ⟨bf, 4, none⟩ (.slice f1 8 h1)).setCell ⟨bf, 5, none⟩ (.slice f2 8 h2)).setCell ⟨bf, 6, none⟩ (.slice f3 2 h3)).setCell ⟨bf, 7, none⟩ (.slice f4 3 h4)).setCell ⟨bf, 8, none⟩ (.slice f5 0 h5) = v8 at *
          go_simp
          refine tr_one ?_
          refine st_value rfl (.slice (some ⟨gf, 0, none⟩) 1 cf) v8 (by go_simp) (by go_simp) FS.out.2.2 ?_
          go_simp
          unfold wpTr
          refine sched_value rfl .nilIface v8 (by go_simp) (by go_simp) trivial ?_
          go_simp
          unfold wpSched
          go_wp2_with fail
          go_meet
          case rel => exact ⟨rfl, gf, cf, rfl, GS.out.2, GS.out.1, FS.out.1, FS.out.2.1⟩
      · have ba : Below v1.heap.size v1 (v1.alloc (Obj.cells #[.int .i64 0, .int .i64 0, .int .i64 0, .int .i64 0, .slice none 0 0, .slice none 0 0, .slice none 0 0, .slice none 0 0, .slice none 0 0] 29)) := (Below.refl _ _).alloc (Nat.le_refl _) _
        refine st_value rfl (.pointer (some ⟨v1.heap.size, 0, none⟩)) (v1.alloc (Obj.cells #[.int .i64 0, .int .i64 0, .int .i64 0, .int .i64 0, .slice none 0 0, .slice none 0 0, .slice none 0 0, .slice none 0 0, .slice none 0 0] 29)) (by go_simp) (by go_simp) (F.out.below ba).2.2.1 ?_
        obtain ⟨bf, hbf⟩ : ∃ g, v1.heap.size = g := ⟨_, rfl⟩
        have ZE : Hid (Wx (v1.alloc (Obj.cells #[.int .i64 0, .int .i64 0, .int .i64 0, .int .i64 0, .slice none 0 0, .slice none 0 0, .slice none 0 0, .slice none 0 0, .slice none 0 0] 29)) bf (.int .i64 0) (.int .i64 0) (.int .i64 0) (.int .i64 0) (.slice none 0 0) (.slice none 0 0) (.slice none 0 0) (.slice none 0 0) (.slice none 0 0) ∧ w.heap.size < bf ∧ z < bf) := ⟨Wx.new (w := v1) _ _ _ _ _ _ _ _ _ hbf, by rw [← hbf]; exact F.out.2.1.lt, by rw [← hbf]; exact F.out.2.2.1.lt⟩
        rw [hbf]
        have F9 : Hid (Fx w X (.slice p1 X.gs.length q1) (.slice p2 X.os.length q2) (.slice p3 X.gold.length q3) (.slice p4 X.us.length q4) (.slice p5 X.qs.length q5) z (.slice m1 8 n1) (.slice m2 8 n2) (.slice m3 2 n3) (.slice m4 3 n4) (.slice m5 0 n5) (v1.alloc (Obj.cells #[.int .i64 0, .int .i64 0, .int .i64 0, .int .i64 0, .slice none 0 0, .slice none 0 0, .slice none 0 0, .slice none 0 0, .slice none 0 0] 29))) := F.out.below ba
        clear F
        have F := F9
        clear F9
        have K9 : Hid (Kl (v1.alloc (Obj.cells #[.int .i64 0, .int .i64 0, .int .i64 0, .int .i64 0, .slice none 0 0, .slice none 0 0, .slice none 0 0, .slice none 0 0, .slice none 0 0] 29)) ku SK) := KU.out.below ba
        clear KU
        have KU := K9
        clear K9
        clear ba hbf
        generalize v1.alloc (Obj.cells #[.int .i64 0, .int .i64 0, .int .i64 0, .int .i64 0, .slice none 0 0, .slice none 0 0, .slice none 0 0, .slice none 0 0, .slice none 0 0] 29) = v9 at *
        go_simp
        refine tr_one ?_
        have ba : Below v9.heap.size v9 (v9.alloc (Obj.cells #[.int .i64 1, .int .i64 1, .int .i64 0, .int .i64 0] 39)) := (Below.refl _ _).alloc (Nat.le_refl _) _
        refine st_value rfl (.slice (some ⟨v9.heap.size, 0, none⟩) 1 1) (v9.alloc (Obj.cells #[.int .i64 1, .int .i64 1, .int .i64 0, .int .i64 0] 39)) (by go_simp) (by go_simp) (F.out.below ba).2.2.1 ?_
        obtain ⟨g, hg⟩ : ∃ g, v9.heap.size = g := ⟨_, rfl⟩
        have OL : Hid (Orl (v9.alloc (Obj.cells #[.int .i64 1, .int .i64 1, .int .i64 0, .int .i64 0] 39)) (.slice (some ⟨g, 0, none⟩) 1 1) [go1]) := by rw [← hg]; exact or_lit1 v9
        rw [hg]
        have F9 : Hid (Fx w X (.slice p1 X.gs.length q1) (.slice p2 X.os.length q2) (.slice p3 X.gold.length q3) (.slice p4 X.us.length q4) (.slice p5 X.qs.length q5) z (.slice m1 8 n1) (.slice m2 8 n2) (.slice m3 2 n3) (.slice m4 3 n4) (.slice m5 0 n5) (v9.alloc (Obj.cells #[.int .i64 1, .int .i64 1, .int .i64 0, .int .i64 0] 39))) := F.out.below ba
        clear F
        have F := F9
        clear F9
        have K9 : Hid (Kl (v9.alloc (Obj.cells #[.int .i64 1, .int .i64 1, .int .i64 0, .int .i64 0] 39)) ku SK) := KU.out.below ba
        clear KU
        have KU := K9
        clear K9
        have Z9 : Hid (Wx (v9.alloc (Obj.cells #[.int .i64 1, .int .i64 1, .int .i64 0, .int .i64 0] 39)) bf (.int .i64 0) (.int .i64 0) (.int .i64 0) (.int .i64 0) (.slice none 0 0) (.slice none 0 0) (.slice none 0 0) (.slice none 0 0) (.slice none 0 0) ∧ w.heap.size < bf ∧ z < bf) := ⟨ZE.out.1.below ba ZE.out.1.lt, ZE.out.2⟩
        clear ZE
        have ZE := Z9
        clear Z9
        clear ba hg
        generalize v9.alloc (Obj.cells #[.int .i64 1, .int .i64 1, .int .i64 0, .int .i64 0] 39) = v10 at *
        go_simp
        refine tr_one ?_
        refine st_call rfl 5 #[ku, .agg #[.int .i64 0, .int .i64 4, .int .i64 4, .int .i64 2, .slice m1 8 n1, .slice m2 8 n2, .slice m3 2 n3, .slice m4 3 n4, .slice m5 0 n5], .slice (some ⟨g, 0, none⟩) 1 1] (by go_simp) (by go_simp) ?_
        refine (Give_any ku _ _ SK S3 [go1] v10 KU.out sm_names F.out.2.2.2 OL.out).mono ?_
        rintro e v11 ⟨v, ur, r, rfl, hr, hf, hb⟩
        rw [sg_zero] at hr
        obtain rfl := er_zero hr
        obtain ⟨f1, h1, f2, h2, f3, h3, f4, h4, f5, h5, gf, cf, rfl, rfl, hgf, hcf, hc0⟩ := sm_given hf
        have NE : Hid (gf ≠ bf) := by have h9 := ZE.out.1.lt; exact Nat.ne_of_gt (Nat.lt_of_lt_of_le h9 hgf)
        have F9 : Hid (Fx w X (.slice p1 X.gs.length q1) (.slice p2 X.os.length q2) (.slice p3 X.gold.length q3) (.slice p4 X.us.length q4) (.slice p5 X.qs.length q5) z (.slice m1 8 n1) (.slice m2 8 n2) (.slice m3 2 n3) (.slice m4 3 n4) (.slice m5 0 n5) v11) := F.out.below hb
        clear F
        have F := F9
        clear F9
        have Z9 : Hid (Wx v11 bf (.int .i64 0) (.int .i64 0) (.int .i64 0) (.int .i64 0) (.slice none 0 0) (.slice none 0 0) (.slice none 0 0) (.slice none 0 0) (.slice none 0 0) ∧ w.heap.size < bf ∧ z < bf) := ⟨ZE.out.1.below hb ZE.out.1.lt, ZE.out.2⟩
        clear ZE
        have ZE := Z9
        clear Z9
        have GE : Hid (v11.cell? ⟨gf, 0, none⟩ = some (.int .i64 0) ∧ 1 ≤ cf) := ⟨hc0, hcf⟩
        refine ⟨_, rfl, F.out.2.2.1, ?_⟩
        clear hr hf hb hgf hcf hc0 KU OL
        go_simp
        refine tr_read rfl (.tuple #[.agg #[.int .i64 0, .int .i64 4, .int .i64 4, .int .i64 2, .slice f1 8 h1, .slice f2 8 h2, .slice f3 2 h3, .slice f4 3 h4, .slice f5 0 h5], .slice (some ⟨gf, 0, none⟩) 1 cf, .nilIface]) (by go_simp) (fun V hV => by go_simp) ?_
        go_simp
        refine tr_read rfl (.agg #[.int .i64 0, .int .i64 4, .int .i64 4, .int .i64 2, .slice f1 8 h1, .slice f2 8 h2, .slice f3 2 h3, .slice f4 3 h4, .slice f5 0 h5]) (by go_simp) (fun V hV => by go_simp) ?_
        go_simp
        refine tr_read rfl (.slice (some ⟨gf, 0, none⟩) 1 cf) (by go_simp) (fun V hV => by go_simp) ?_
        go_simp
        refine tr_read rfl (.nilIface) (by go_simp) (fun V hV => by go_simp) ?_
        go_simp
        refine tr_one ?_
        obtain ⟨z0, z1, z2, z3, z4, z5, z6, z7, z8⟩ := ZE.out.1.cells
        obtain ⟨t0, t1, t2, t3, t4, t5, t6, t7, t8⟩ := ZE.out.1.thaws
        have KZ : Hid (Kp bf v11 (((((((((v11.setCell ⟨bf, 0, none⟩ (.int .i64 0)).setCell ⟨bf, 1, none⟩ (.int .i64 4)).setCell ⟨bf, 2, none⟩ (.int .i64 4)).setCell ⟨bf, 3, none⟩ (.int .i64 2)).setCell ⟨bf, 4, none⟩ (.slice f1 8 h1)).setCell ⟨bf, 5, none⟩ (.slice f2 8 h2)).setCell ⟨bf, 6, none⟩ (.slice f3 2 h3)).setCell ⟨bf, 7, none⟩ (.slice f4 3 h4)).setCell ⟨bf, 8, none⟩ (.slice f5 0 h5))) := put_kp _ _ _ _ _ _ _ _ _ _ _
        have FS : Hid (Below w.heap.size w (((((((((v11.setCell ⟨bf, 0, none⟩ (.int .i64 0)).setCell ⟨bf, 1, none⟩ (.int .i64 4)).setCell ⟨bf, 2, none⟩ (.int .i64 4)).setCell ⟨bf, 3, none⟩ (.int .i64 2)).setCell ⟨bf, 4, none⟩ (.slice f1 8 h1)).setCell ⟨bf, 5, none⟩ (.slice f2 8 h2)).setCell ⟨bf, 6, none⟩ (.slice f3 2 h3)).setCell ⟨bf, 7, none⟩ (.slice f4 3 h4)).setCell ⟨bf, 8, none⟩ (.slice f5 0 h5)) ∧ Bw (((((((((v11.setCell ⟨bf, 0, none⟩ (.int .i64 0)).setCell ⟨bf, 1, none⟩ (.int .i64 4)).setCell ⟨bf, 2, none⟩ (.int .i64 4)).setCell ⟨bf, 3, none⟩ (.int .i64 2)).setCell ⟨bf, 4, none⟩ (.slice f1 8 h1)).setCell ⟨bf, 5, none⟩ (.slice f2 8 h2)).setCell ⟨bf, 6, none⟩ (.slice f3 2 h3)).setCell ⟨bf, 7, none⟩ (.slice f4 3 h4)).setCell ⟨bf, 8, none⟩ (.slice f5 0 h5)) w.heap.size X (.slice p1 X.gs.length q1) (.slice p2 X.os.length q2) (.slice p3 X.gold.length q3) (.slice p4 X.us.length q4) (.slice p5 X.qs.length q5) ∧ Wx (((((((((v11.setCell ⟨bf, 0, none⟩ (.int .i64 0)).setCell ⟨bf, 1, none⟩ (.int .i64 4)).setCell ⟨bf, 2, none⟩ (.int .i64 4)).setCell ⟨bf, 3, none⟩ (.int .i64 2)).setCell ⟨bf, 4, none⟩ (.slice f1 8 h1)).setCell ⟨bf, 5, none⟩ (.slice f2 8 h2)).setCell ⟨bf, 6, none⟩ (.slice f3 2 h3)).setCell ⟨bf, 7, none⟩ (.slice f4 3 h4)).setCell ⟨bf, 8, none⟩ (.slice f5 0 h5)) z (.int .i64 0) (.int .i64 4) (.int .i64 4) (.int .i64 2) (.slice m1 8 n1) (.slice m2 8 n2) (.slice m3 2 n3) (.slice m4 3 n4) (.slice m5 0 n5)) := by have h9 := ZE.out.2; exact ⟨KZ.out.below F.out.1 F.out.1.size (by omega), F.out.2.1.kp9 KZ.out (by omega), F.out.2.2.1.kp KZ.out (by omega)⟩
        have GS : Hid ((((((((((v11.setCell ⟨bf, 0, none⟩ (.int .i64 0)).setCell ⟨bf, 1, none⟩ (.int .i64 4)).setCell ⟨bf, 2, none⟩ (.int .i64 4)).setCell ⟨bf, 3, none⟩ (.int .i64 2)).setCell ⟨bf, 4, none⟩ (.slice f1 8 h1)).setCell ⟨bf, 5, none⟩ (.slice f2 8 h2)).setCell ⟨bf, 6, none⟩ (.slice f3 2 h3)).setCell ⟨bf, 7, none⟩ (.slice f4 3 h4)).setCell ⟨bf, 8, none⟩ (.slice f5 0 h5)).cell? ⟨gf, 0, none⟩ = some (.int .i64 0) ∧ 1 ≤ cf) := ⟨cell_kp9 GE.out.1 KZ.out NE.out, GE.out.2⟩
        refine st_skip rfl (((((((((v11.setCell ⟨bf, 0, none⟩ (.int .i64 0)).setCell ⟨bf, 1, none⟩ (.int .i64 4)).setCell ⟨bf, 2, none⟩ (.int .i64 4)).setCell ⟨bf, 3, none⟩ (.int .i64 2)).setCell ⟨bf, 4, none⟩ (.slice f1 8 h1)).setCell ⟨bf, 5, none⟩ (.slice f2 8 h2)).setCell ⟨bf, 6, none⟩ (.slice f3 2 h3)).setCell ⟨bf, 7, none⟩ (.slice f4 3 h4)).setCell ⟨bf, 8, none⟩ (.slice f5 0 h5)) (by go_simp) (by go_simp) FS.out.2.2 ?_
        clear z0 z1 z2 z3 z4 z5 z6 z7 z8 t0 t1 t2 t3 t4 t5 t6 t7 t8 KZ ZE GE F
        generalize ((((((((v11.setCell ⟨bf, 0, none⟩ (.int .i64 0)).setCell ⟨bf, 1, none⟩ (.int .i64 4)).setCell ⟨bf, 2, none⟩ (.int .i64 4)).setCell ⟨bf, 3, none⟩ (.int .i64 2)).setCell ⟨bf, 4, none⟩ (.slice f1 8 h1)).setCell ⟨bf, 5, none⟩ (.slice f2 8 h2)).setCell ⟨bf, 6, none⟩ (.slice f3 2 h3)).setCell ⟨bf, 7, none⟩ (.slice f4 3 h4)).setCell ⟨bf, 8, none⟩ (.slice f5 0 h5) = v12 at *
        go_simp
        refine tr_one ?_
        refine st_value rfl (.slice (some ⟨gf, 0, none⟩) 1 cf) v12 (by go_simp) (by go_simp) FS.out.2.2 ?_
        go_simp
        unfold wpTr
        refine sched_value rfl .nilIface v12 (by go_simp) (by go_simp) trivial ?_
        go_simp
        unfold wpSched
        go_wp2_with fail
        go_meet
        case rel => exact ⟨rfl, gf, cf, rfl, GS.out.2, GS.out.1, FS.out.1, FS.out.2.1⟩
    · have ba : Below v0.heap.size v0 (v0.alloc (Obj.cells #[.int .i64 1, .int .i64 1, .int .i64 0, .int .i64 0] 39)) := (Below.refl _ _).alloc (Nat.le_refl _) _
      refine st_value rfl (.slice (some ⟨v0.heap.size, 0, none⟩) 1 1) (v0.alloc (Obj.cells #[.int .i64 1, .int .i64 1, .int .i64 0, .int .i64 0] 39)) (by go_simp) (by go_simp) (F.out.below ba).2.2.1 ?_
      obtain ⟨g, hg⟩ : ∃ g, v0.heap.size = g := ⟨_, rfl⟩
      have OL : Hid (Orl (v0.alloc (Obj.cells #[.int .i64 1, .int .i64 1, .int .i64 0, .int .i64 0] 39)) (.slice (some ⟨g, 0, none⟩) 1 1) [go1]) := by rw [← hg]; exact or_lit1 v0
      rw [hg]
      have F9 : Hid (Fx w X (.slice p1 X.gs.length q1) (.slice p2 X.os.length q2) (.slice p3 X.gold.length q3) (.slice p4 X.us.length q4) (.slice p5 X.qs.length q5) z (.slice m1 8 n1) (.slice m2 8 n2) (.slice m3 2 n3) (.slice m4 3 n4) (.slice m5 0 n5) (v0.alloc (Obj.cells #[.int .i64 1, .int .i64 1, .int .i64 0, .int .i64 0] 39))) := F.out.below ba
      clear F
      have F := F9
      clear F9
      clear ba hg
      generalize v0.alloc (Obj.cells #[.int .i64 1, .int .i64 1, .int .i64 0, .int .i64 0] 39) = v13 at *
      go_simp
      refine tr_two ?_ ?_
      · refine st_call rfl 6 #[] (by go_simp) (by go_simp) ?_
        refine (sorts_any v13).mono ?_
        rintro e v14 ⟨ku, rfl, hk, hb⟩
        have F9 : Hid (Fx w X (.slice p1 X.gs.length q1) (.slice p2 X.os.length q2) (.slice p3 X.gold.length q3) (.slice p4 X.us.length q4) (.slice p5 X.qs.length q5) z (.slice m1 8 n1) (.slice m2 8 n2) (.slice m3 2 n3) (.slice m4 3 n4) (.slice m5 0 n5) v14) := F.out.below hb
        clear F
        have F := F9
        clear F9
        have O9 : Hid (Orl v14 (.slice (some ⟨g, 0, none⟩) 1 1) [go1]) := OL.out.below hb
        clear OL
        have OL := O9
        clear O9
        have KU : Hid (Kl v14 ku SK) := hk
        refine ⟨_, rfl, F.out.2.2.1, ?_⟩
        clear hk hb
        go_simp
        refine tr_two ?_ ?_
        · refine st_call rfl 5 #[ku, .agg #[.int .i64 0, .int .i64 4, .int .i64 4, .int .i64 2, .slice m1 8 n1, .slice m2 8 n2, .slice m3 2 n3, .slice m4 3 n4, .slice m5 0 n5], .slice (some ⟨g, 0, none⟩) 1 1] (by go_simp) (by go_simp) ?_
          refine (Give_any ku _ _ SK S3 [go1] v14 KU.out sm_names F.out.2.2.2 OL.out).mono ?_
          rintro e v15 ⟨v, ur, r, rfl, hr, hf, hb⟩
          rw [sg_zero] at hr
          obtain rfl := er_zero hr
          obtain ⟨f1, h1, f2, h2, f3, h3, f4, h4, f5, h5, gf, cf, rfl, rfl, hgf, hcf, hc0⟩ := sm_given hf
          have F9 : Hid (Fx w X (.slice p1 X.gs.length q1) (.slice p2 X.os.length q2) (.slice p3 X.gold.length q3) (.slice p4 X.us.length q4) (.slice p5 X.qs.length q5) z (.slice m1 8 n1) (.slice m2 8 n2) (.slice m3 2 n3) (.slice m4 3 n4) (.slice m5 0 n5) v15) := F.out.below hb
          clear F
          have F := F9
          clear F9
          have GE : Hid (v15.cell? ⟨gf, 0, none⟩ = some (.int .i64 0) ∧ 1 ≤ cf) := ⟨hc0, hcf⟩
          refine ⟨_, rfl, F.out.2.2.1, ?_⟩
          clear hr hf hb hgf hcf hc0 KU OL
          go_simp
          refine tr_read rfl (.tuple #[.agg #[.int .i64 0, .int .i64 4, .int .i64 4, .int .i64 2, .slice f1 8 h1, .slice f2 8 h2, .slice f3 2 h3, .slice f4 3 h4, .slice f5 0 h5], .slice (some ⟨gf, 0, none⟩) 1 cf, .nilIface]) (by go_simp) (fun V hV => by go_simp) ?_
          go_simp
          refine tr_read rfl (.agg #[.int .i64 0, .int .i64 4, .int .i64 4, .int .i64 2, .slice f1 8 h1, .slice f2 8 h2, .slice f3 2 h3, .slice f4 3 h4, .slice f5 0 h5]) (by go_simp) (fun V hV => by go_simp) ?_
          go_simp
          refine tr_read rfl (.slice (some ⟨gf, 0, none⟩) 1 cf) (by go_simp) (fun V hV => by go_simp) ?_
          go_simp
          refine tr_read rfl (.nilIface) (by go_simp) (fun V hV => by go_simp) ?_
          go_simp
          refine tr_one ?_
          have ba : Below v15.heap.size v15 (v15.alloc (Obj.cells #[.int .i64 0, .int .i64 0, .int .i64 0, .int .i64 0, .slice none 0 0, .slice none 0 0, .slice none 0 0, .slice none 0 0, .slice none 0 0] 29)) := (Below.refl _ _).alloc (Nat.le_refl _) _
          refine st_value rfl (.pointer (some ⟨v15.heap.size, 0, none⟩)) (v15.alloc (Obj.cells #[.int .i64 0, .int .i64 0, .int .i64 0, .int .i64 0, .slice none 0 0, .slice none 0 0, .slice none 0 0, .slice none 0 0, .slice none 0 0] 29)) (by go_simp) (by go_simp) (F.out.below ba).2.2.1 ?_
          obtain ⟨bf, hbf⟩ : ∃ g, v15.heap.size = g := ⟨_, rfl⟩
          have ZE : Hid (Wx (v15.alloc (Obj.cells #[.int .i64 0, .int .i64 0, .int .i64 0, .int .i64 0, .slice none 0 0, .slice none 0 0, .slice none 0 0, .slice none 0 0, .slice none 0 0] 29)) bf (.int .i64 0) (.int .i64 0) (.int .i64 0) (.int .i64 0) (.slice none 0 0) (.slice none 0 0) (.slice none 0 0) (.slice none 0 0) (.slice none 0 0) ∧ w.heap.size < bf ∧ z < bf) := ⟨Wx.new (w := v15) _ _ _ _ _ _ _ _ _ hbf, by rw [← hbf]; exact F.out.2.1.lt, by rw [← hbf]; exact F.out.2.2.1.lt⟩
          have NE : Hid (gf ≠ bf) := by have h9 := cell_lt GE.out.1; rw [hbf] at h9; exact Nat.ne_of_lt h9
          rw [hbf]
          have F9 : Hid (Fx w X (.slice p1 X.gs.length q1) (.slice p2 X.os.length q2) (.slice p3 X.gold.length q3) (.slice p4 X.us.length q4) (.slice p5 X.qs.length q5) z (.slice m1 8 n1) (.slice m2 8 n2) (.slice m3 2 n3) (.slice m4 3 n4) (.slice m5 0 n5) (v15.alloc (Obj.cells #[.int .i64 0, .int .i64 0, .int .i64 0, .int .i64 0, .slice none 0 0, .slice none 0 0, .slice none 0 0, .slice none 0 0, .slice none 0 0] 29))) := F.out.below ba
          clear F
          have F := F9
          clear F9
          have G9 : Hid ((v15.alloc (Obj.cells #[.int .i64 0, .int .i64 0, .int .i64 0, .int .i64 0, .slice none 0 0, .slice none 0 0, .slice none 0 0, .slice none 0 0, .slice none 0 0] 29)).cell? ⟨gf, 0, none⟩ = some (.int .i64 0) ∧ 1 ≤ cf) := ⟨by rw [ba.cell (p := ⟨gf, 0, none⟩) (cell_lt GE.out.1)]; exact GE.out.1, GE.out.2⟩
          clear GE
          have GE := G9
          clear G9
          clear ba hbf
          generalize v15.alloc (Obj.cells #[.int .i64 0, .int .i64 0, .int .i64 0, .int .i64 0, .slice none 0 0, .slice none 0 0, .slice none 0 0, .slice none 0 0, .slice none 0 0] 29) = v16 at *
          go_simp
          refine tr_one ?_
          obtain ⟨z0, z1, z2, z3, z4, z5, z6, z7, z8⟩ := ZE.out.1.cells
          obtain ⟨t0, t1, t2, t3, t4, t5, t6, t7, t8⟩ := ZE.out.1.thaws
          have KZ : Hid (Kp bf v16 (((((((((v16.setCell ⟨bf, 0, none⟩ (.int .i64 0)).setCell ⟨bf, 1, none⟩ (.int .i64 4)).setCell ⟨bf, 2, none⟩ (.int .i64 4)).setCell ⟨bf, 3, none⟩ (.int .i64 2)).setCell ⟨bf, 4, none⟩ (.slice f1 8 h1)).setCell ⟨bf, 5, none⟩ (.slice f2 8 h2)).setCell ⟨bf, 6, none⟩ (.slice f3 2 h3)).setCell ⟨bf, 7, none⟩ (.slice f4 3 h4)).setCell ⟨bf, 8, none⟩ (.slice f5 0 h5))) := put_kp _ _ _ _ _ _ _ _ _ _ _
          have FS : Hid (Below w.heap.size w (((((((((v16.setCell ⟨bf, 0, none⟩ (.int .i64 0)).setCell ⟨bf, 1, none⟩ (.int .i64 4)).setCell ⟨bf, 2, none⟩ (.int .i64 4)).setCell ⟨bf, 3, none⟩ (.int .i64 2)).setCell ⟨bf, 4, none⟩ (.slice f1 8 h1)).setCell ⟨bf, 5, none⟩ (.slice f2 8 h2)).setCell ⟨bf, 6, none⟩ (.slice f3 2 h3)).setCell ⟨bf, 7, none⟩ (.slice f4 3 h4)).setCell ⟨bf, 8, none⟩ (.slice f5 0 h5)) ∧ Bw (((((((((v16.setCell ⟨bf, 0, none⟩ (.int .i64 0)).setCell ⟨bf, 1, none⟩ (.int .i64 4)).setCell ⟨bf, 2, none⟩ (.int .i64 4)).setCell ⟨bf, 3, none⟩ (.int .i64 2)).setCell ⟨bf, 4, none⟩ (.slice f1 8 h1)).setCell ⟨bf, 5, none⟩ (.slice f2 8 h2)).setCell ⟨bf, 6, none⟩ (.slice f3 2 h3)).setCell ⟨bf, 7, none⟩ (.slice f4 3 h4)).setCell ⟨bf, 8, none⟩ (.slice f5 0 h5)) w.heap.size X (.slice p1 X.gs.length q1) (.slice p2 X.os.length q2) (.slice p3 X.gold.length q3) (.slice p4 X.us.length q4) (.slice p5 X.qs.length q5) ∧ Wx (((((((((v16.setCell ⟨bf, 0, none⟩ (.int .i64 0)).setCell ⟨bf, 1, none⟩ (.int .i64 4)).setCell ⟨bf, 2, none⟩ (.int .i64 4)).setCell ⟨bf, 3, none⟩ (.int .i64 2)).setCell ⟨bf, 4, none⟩ (.slice f1 8 h1)).setCell ⟨bf, 5, none⟩ (.slice f2 8 h2)).setCell ⟨bf, 6, none⟩ (.slice f3 2 h3)).setCell ⟨bf, 7, none⟩ (.slice f4 3 h4)).setCell ⟨bf, 8, none⟩ (.slice f5 0 h5)) z (.int .i64 0) (.int .i64 4) (.int .i64 4) (.int .i64 2) (.slice m1 8 n1) (.slice m2 8 n2) (.slice m3 2 n3) (.slice m4 3 n4) (.slice m5 0 n5)) := by have h9 := ZE.out.2; exact ⟨KZ.out.below F.out.1 F.out.1.size (by omega), F.out.2.1.kp9 KZ.out (by omega), F.out.2.2.1.kp KZ.out (by omega)⟩
          have GS : Hid ((((((((((v16.setCell ⟨bf, 0, none⟩ (.int .i64 0)).setCell ⟨bf, 1, none⟩ (.int .i64 4)).setCell ⟨bf, 2, none⟩ (.int .i64 4)).setCell ⟨bf, 3, none⟩ (.int .i64 2)).setCell ⟨bf, 4, none⟩ (.slice f1 8 h1)).setCell ⟨bf, 5, none⟩ (.slice f2 8 h2)).setCell ⟨bf, 6, none⟩ (.slice f3 2 h3)).setCell ⟨bf, 7, none⟩ (.slice f4 3 h4)).setCell ⟨bf, 8, none⟩ (.slice f5 0 h5)).cell? ⟨gf, 0, none⟩ = some (.int .i64 0) ∧ 1 ≤ cf) := ⟨cell_kp9 GE.out.1 KZ.out NE.out, GE.out.2⟩
          refine st_skip rfl (((((((((v16.setCell ⟨bf, 0, none⟩ (.int .i64 0)).setCell ⟨bf, 1, none⟩ (.int .i64 4)).setCell ⟨bf, 2, none⟩ (.int .i64 4)).setCell ⟨bf, 3, none⟩ (.int .i64 2)).setCell ⟨bf, 4, none⟩ (.slice f1 8 h1)).setCell ⟨bf, 5, none⟩ (.slice f2 8 h2)).setCell ⟨bf, 6, none⟩ (.slice f3 2 h3)).setCell ⟨bf, 7, none⟩ (.slice f4 3 h4)).setCell ⟨bf, 8, none⟩ (.slice f5 0 h5)) (by go_simp) (by go_simp) FS.out.2.2 ?_
          clear z0 z1 z2 z3 z4 z5 z6 z7 z8 t0 t1 t2 t3 t4 t5 t6 t7 t8 KZ ZE GE F
          generalize ((((((((v16.setCell ⟨bf, 0, none⟩ (.int .i64 0)).setCell ⟨bf, 1, none⟩ (.int .i64 4)).setCell ⟨bf, 2, none⟩ (.int .i64 4)).setCell ⟨bf, 3, none⟩ (.int .i64 2)).setCell ⟨bf, 4, none⟩ (.slice f1 8 h1)).setCell ⟨bf, 5, none⟩ (.slice f2 8 h2)).setCell ⟨bf, 6, none⟩ (.slice f3 2 h3)).setCell ⟨bf, 7, none⟩ (.slice f4 3 h4)).setCell ⟨bf, 8, none⟩ (.slice f5 0 h5) = v17 at *
          go_simp
          refine tr_one ?_
          refine st_value rfl (.slice (some ⟨gf, 0, none⟩) 1 cf) v17 (by go_simp) (by go_simp) FS.out.2.2 ?_
          go_simp
          unfold wpTr
          refine sched_value rfl .nilIface v17 (by go_simp) (by go_simp) trivial ?_
          go_simp
          unfold wpSched
          go_wp2_with fail
          go_meet
          case rel => exact ⟨rfl, gf, cf, rfl, GS.out.2, GS.out.1, FS.out.1, FS.out.2.1⟩
        · have ba : Below v14.heap.size v14 (v14.alloc (Obj.cells #[.int .i64 0, .int .i64 0, .int .i64 0, .int .i64 0, .slice none 0 0, .slice none 0 0, .slice none 0 0, .slice none 0 0, .slice none 0 0] 29)) := (Below.refl _ _).alloc (Nat.le_refl _) _
          refine st_value rfl (.pointer (some ⟨v14.heap.size, 0, none⟩)) (v14.alloc (Obj.cells #[.int .i64 0, .int .i64 0, .int .i64 0, .int .i64 0, .slice none 0 0, .slice none 0 0, .slice none 0 0, .slice none 0 0, .slice none 0 0] 29)) (by go_simp) (by go_simp) (F.out.below ba).2.2.1 ?_
          obtain ⟨bf, hbf⟩ : ∃ g, v14.heap.size = g := ⟨_, rfl⟩
          have ZE : Hid (Wx (v14.alloc (Obj.cells #[.int .i64 0, .int .i64 0, .int .i64 0, .int .i64 0, .slice none 0 0, .slice none 0 0, .slice none 0 0, .slice none 0 0, .slice none 0 0] 29)) bf (.int .i64 0) (.int .i64 0) (.int .i64 0) (.int .i64 0) (.slice none 0 0) (.slice none 0 0) (.slice none 0 0) (.slice none 0 0) (.slice none 0 0) ∧ w.heap.size < bf ∧ z < bf) := ⟨Wx.new (w := v14) _ _ _ _ _ _ _ _ _ hbf, by rw [← hbf]; exact F.out.2.1.lt, by rw [← hbf]; exact F.out.2.2.1.lt⟩
          rw [hbf]
          have F9 : Hid (Fx w X (.slice p1 X.gs.length q1) (.slice p2 X.os.length q2) (.slice p3 X.gold.length q3) (.slice p4 X.us.length q4) (.slice p5 X.qs.length q5) z (.slice m1 8 n1) (.slice m2 8 n2) (.slice m3 2 n3) (.slice m4 3 n4) (.slice m5 0 n5) (v14.alloc (Obj.cells #[.int .i64 0, .int .i64 0, .int .i64 0, .int .i64 0, .slice none 0 0, .slice none 0 0, .slice none 0 0, .slice none 0 0, .slice none 0 0] 29))) := F.out.below ba
          clear F
          have F := F9
          clear F9
          have K9 : Hid (Kl (v14.alloc (Obj.cells #[.int .i64 0, .int .i64 0, .int .i64 0, .int .i64 0, .slice none 0 0, .slice none 0 0, .slice none 0 0, .slice none 0 0, .slice none 0 0] 29)) ku SK) := KU.out.below ba
          clear KU
          have KU := K9
          clear K9
          have O9 : Hid (Orl (v14.alloc (Obj.cells #[.int .i64 0, .int .i64 0, .int .i64 0, .int .i64 0, .slice none 0 0, .slice none 0 0, .slice none 0 0, .slice none 0 0, .slice none 0 0] 29)) (.slice (some ⟨g, 0, none⟩) 1 1) [go1]) := OL.out.below ba
          clear OL
          have OL := O9
          clear O9
          clear ba hbf
          generalize v14.alloc (Obj.cells #[.int .i64 0, .int .i64 0, .int .i64 0, .int .i64 0, .slice none 0 0, .slice none 0 0, .slice none 0 0, .slice none 0 0, .slice none 0 0] 29) = v18 at *
          go_simp
          refine tr_one ?_
          refine st_call rfl 5 #[ku, .agg #[.int .i64 0, .int .i64 4, .int .i64 4, .int .i64 2, .slice m1 8 n1, .slice m2 8 n2, .slice m3 2 n3, .slice m4 3 n4, .slice m5 0 n5], .slice (some ⟨g, 0, none⟩) 1 1] (by go_simp) (by go_simp) ?_
          refine (Give_any ku _ _ SK S3 [go1] v18 KU.out sm_names F.out.2.2.2 OL.out).mono ?_
          rintro e v19 ⟨v, ur, r, rfl, hr, hf, hb⟩
          rw [sg_zero] at hr
          obtain rfl := er_zero hr
          obtain ⟨f1, h1, f2, h2, f3, h3, f4, h4, f5, h5, gf, cf, rfl, rfl, hgf, hcf, hc0⟩ := sm_given hf
          have NE : Hid (gf ≠ bf) := by have h9 := ZE.out.1.lt; exact Nat.ne_of_gt (Nat.lt_of_lt_of_le h9 hgf)
          have F9 : Hid (Fx w X (.slice p1 X.gs.length q1) (.slice p2 X.os.length q2) (.slice p3 X.gold.length q3) (.slice p4 X.us.length q4) (.slice p5 X.qs.length q5) z (.slice m1 8 n1) (.slice m2 8 n2) (.slice m3 2 n3) (.slice m4 3 n4) (.slice m5 0 n5) v19) := F.out.below hb
          clear F
          have F := F9
          clear F9
          have Z9 : Hid (Wx v19 bf (.int .i64 0) (.int .i64 0) (.int .i64 0) (.int .i64 0) (.slice none 0 0) (.slice none 0 0) (.slice none 0 0) (.slice none 0 0) (.slice none 0 0) ∧ w.heap.size < bf ∧ z < bf) := ⟨ZE.out.1.below hb ZE.out.1.lt, ZE.out.2⟩
          clear ZE
          have ZE := Z9
          clear Z9
          have GE : Hid (v19.cell? ⟨gf, 0, none⟩ = some (.int .i64 0) ∧ 1 ≤ cf) := ⟨hc0, hcf⟩
          refine ⟨_, rfl, F.out.2.2.1, ?_⟩
          clear hr hf hb hgf hcf hc0 KU OL
          go_simp
          refine tr_read rfl (.tuple #[.agg #[.int .i64 0, .int .i64 4, .int .i64 4, .int .i64 2, .slice f1 8 h1, .slice f2 8 h2, .slice f3 2 h3, .slice f4 3 h4, .slice f5 0 h5], .slice (some ⟨gf, 0, none⟩) 1 cf, .nilIface]) (by go_simp) (fun V hV => by go_simp) ?_
          go_simp
          refine tr_read rfl (.agg #[.int .i64 0, .int .i64 4, .int .i64 4, .int .i64 2, .slice f1 8 h1, .slice f2 8 h2, .slice f3 2 h3, .slice f4 3 h4, .slice f5 0 h5]) (by go_simp) (fun V hV => by go_simp) ?_
          go_simp
          refine tr_read rfl (.slice (some ⟨gf, 0, none⟩) 1 cf) (by go_simp) (fun V hV => by go_simp) ?_
          go_simp
          refine tr_read rfl (.nilIface) (by go_simp) (fun V hV => by go_simp) ?_
          go_simp
          refine tr_one ?_
          obtain ⟨z0, z1, z2, z3, z4, z5, z6, z7, z8⟩ := ZE.out.1.cells
          obtain ⟨t0, t1, t2, t3, t4, t5, t6, t7, t8⟩ := ZE.out.1.thaws
          have KZ : Hid (Kp bf v19 (((((((((v19.setCell ⟨bf, 0, none⟩ (.int .i64 0)).setCell ⟨bf, 1, none⟩ (.int .i64 4)).setCell ⟨bf, 2, none⟩ (.int .i64 4)).setCell ⟨bf, 3, none⟩ (.int .i64 2)).setCell ⟨bf, 4, none⟩ (.slice f1 8 h1)).setCell ⟨bf, 5, none⟩ (.slice f2 8 h2)).setCell ⟨bf, 6, none⟩ (.slice f3 2 h3)).setCell ⟨bf, 7, none⟩ (.slice f4 3 h4)).setCell ⟨bf, 8, none⟩ (.slice f5 0 h5))) := put_kp _ _ _ _ _ _ _ _ _ _ _
          have FS : Hid (Below w.heap.size w (((((((((v19.setCell ⟨bf, 0, none⟩ (.int .i64 0)).setCell ⟨bf, 1, none⟩ (.int .i64 4)).setCell ⟨bf, 2, none⟩ (.int .i64 4)).setCell ⟨bf, 3, none⟩ (.int .i64 2)).setCell ⟨bf, 4, none⟩ (.slice f1 8 h1)).setCell ⟨bf, 5, none⟩ (.slice f2 8 h2)).setCell ⟨bf, 6, none⟩ (.slice f3 2 h3)).setCell ⟨bf, 7, none⟩ (.slice f4 3 h4)).setCell ⟨bf, 8, none⟩ (.slice f5 0 h5)) ∧ Bw (((((((((v19.setCell ⟨bf, 0, none⟩ (.int .i64 0)).setCell ⟨bf, 1, none⟩ (.int .i64 4)).setCell ⟨bf, 2, none⟩ (.int .i64 4)).setCell ⟨bf, 3, none⟩ (.int .i64 2)).setCell ⟨bf, 4, none⟩ (.slice f1 8 h1)).setCell ⟨bf, 5, none⟩ (.slice f2 8 h2)).setCell ⟨bf, 6, none⟩ (.slice f3 2 h3)).setCell ⟨bf, 7, none⟩ (.slice f4 3 h4)).setCell ⟨bf, 8, none⟩ (.slice f5 0 h5)) w.heap.size X (.slice p1 X.gs.length q1) (.slice p2 X.os.length q2) (.slice p3 X.gold.length q3) (.slice p4 X.us.length q4) (.slice p5 X.qs.length q5) ∧ Wx (((((((((v19.setCell ⟨bf, 0, none⟩ (.int .i64 0)).setCell ⟨bf, 1, none⟩ (.int .i64 4)).setCell ⟨bf, 2, none⟩ (.int .i64 4)).setCell ⟨bf, 3, none⟩ (.int .i64 2)).setCell ⟨bf, 4, none⟩ (.slice f1 8 h1)).setCell ⟨bf, 5, none⟩ (.slice f2 8 h2)).setCell ⟨bf, 6, none⟩ (.slice f3 2 h3)).setCell ⟨bf, 7, none⟩ (.slice f4 3 h4)).setCell ⟨bf, 8, none⟩ (.slice f5 0 h5)) z (.int .i64 0) (.int .i64 4) (.int .i64 4) (.int .i64 2) (.slice m1 8 n1) (.slice m2 8 n2) (.slice m3 2 n3) (.slice m4 3 n4) (.slice m5 0 n5)) := by have h9 := ZE.out.2; exact ⟨KZ.out.below F.out.1 F.out.1.size (by omega), F.out.2.1.kp9 KZ.out (by omega), F.out.2.2.1.kp KZ.out (by omega)⟩
          have GS : Hid ((((((((((v19.setCell ⟨bf, 0, none⟩ (.int .i64 0)).setCell ⟨bf, 1, none⟩ (.int .i64 4)).setCell ⟨bf, 2, none⟩ (.int .i64 4)).setCell ⟨bf, 3, none⟩ (.int .i64 2)).setCell ⟨bf, 4, none⟩ (.slice f1 8 h1)).setCell ⟨bf, 5, none⟩ (.slice f2 8 h2)).setCell ⟨bf, 6, none⟩ (.slice f3 2 h3)).setCell ⟨bf, 7, none⟩ (.slice f4 3 h4)).setCell ⟨bf, 8, none⟩ (.slice f5 0 h5)).cell? ⟨gf, 0, none⟩ = some (.int .i64 0) ∧ 1 ≤ cf) := ⟨cell_kp9 GE.out.1 KZ.out NE.out, GE.out.2⟩
          refine st_skip rfl (((((((((v19.setCell ⟨bf, 0, none⟩ (.int .i64 0)).setCell ⟨bf, 1, none⟩ (.int .i64 4)).setCell ⟨bf, 2, none⟩ (.int .i64 4)).setCell ⟨bf, 3, none⟩ (.int .i64 2)).setCell ⟨bf, 4, none⟩ (.slice f1 8 h1)).setCell ⟨bf, 5, none⟩ (.slice f2 8 h2)).setCell ⟨bf, 6, none⟩ (.slice f3 2 h3)).setCell ⟨bf, 7, none⟩ (.slice f4 3 h4)).setCell ⟨bf, 8, none⟩ (.slice f5 0 h5)) (by go_simp) (by go_simp) FS.out.2.2 ?_
          clear z0 z1 z2 z3 z4 z5 z6 z7 z8 t0 t1 t2 t3 t4 t5 t6 t7 t8 KZ ZE GE F
          generalize ((((((((v19.setCell ⟨bf, 0, none⟩ (.int .i64 0)).setCell ⟨bf, 1, none⟩ (.int .i64 4)).setCell ⟨bf, 2, none⟩ (.int .i64 4)).setCell ⟨bf, 3, none⟩ (.int .i64 2)).setCell ⟨bf, 4, none⟩ (.slice f1 8 h1)).setCell ⟨bf, 5, none⟩ (.slice f2 8 h2)).setCell ⟨bf, 6, none⟩ (.slice f3 2 h3)).setCell ⟨bf, 7, none⟩ (.slice f4 3 h4)).setCell ⟨bf, 8, none⟩ (.slice f5 0 h5) = v20 at *
          go_simp
          refine tr_one ?_
          refine st_value rfl (.slice (some ⟨gf, 0, none⟩) 1 cf) v20 (by go_simp) (by go_simp) FS.out.2.2 ?_
          go_simp
          unfold wpTr
          refine sched_value rfl .nilIface v20 (by go_simp) (by go_simp) trivial ?_
          go_simp
          unfold wpSched
          go_wp2_with fail
          go_meet
          case rel => exact ⟨rfl, gf, cf, rfl, GS.out.2, GS.out.1, FS.out.1, FS.out.2.1⟩
      · have ba : Below v13.heap.size v13 (v13.alloc (Obj.cells #[.int .i64 0, .int .i64 0, .int .i64 0, .int .i64 0, .slice none 0 0, .slice none 0 0, .slice none 0 0, .slice none 0 0, .slice none 0 0] 29)) := (Below.refl _ _).alloc (Nat.le_refl _) _
        refine st_value rfl (.pointer (some ⟨v13.heap.size, 0, none⟩)) (v13.alloc (Obj.cells #[.int .i64 0, .int .i64 0, .int .i64 0, .int .i64 0, .slice none 0 0, .slice none 0 0, .slice none 0 0, .slice none 0 0, .slice none 0 0] 29)) (by go_simp) (by go_simp) (F.out.below ba).2.2.1 ?_
        obtain ⟨bf, hbf⟩ : ∃ g, v13.heap.size = g := ⟨_, rfl⟩
        have ZE : Hid (Wx (v13.alloc (Obj.cells #[.int .i64 0, .int .i64 0, .int .i64 0, .int .i64 0, .slice none 0 0, .slice none 0 0, .slice none 0 0, .slice none 0 0, .slice none 0 0] 29)) bf (.int .i64 0) (.int .i64 0) (.int .i64 0) (.int .i64 0) (.slice none 0 0) (.slice none 0 0) (.slice none 0 0) (.slice none 0 0) (.slice none 0 0) ∧ w.heap.size < bf ∧ z < bf) := ⟨Wx.new (w := v13) _ _ _ _ _ _ _ _ _ hbf, by rw [← hbf]; exact F.out.2.1.lt, by rw [← hbf]; exact F.out.2.2.1.lt⟩
        rw [hbf]
        have F9 : Hid (Fx w X (.slice p1 X.gs.length q1) (.slice p2 X.os.length q2) (.slice p3 X.gold.length q3) (.slice p4 X.us.length q4) (.slice p5 X.qs.length q5) z (.slice m1 8 n1) (.slice m2 8 n2) (.slice m3 2 n3) (.slice m4 3 n4) (.slice m5 0 n5) (v13.alloc (Obj.cells #[.int .i64 0, .int .i64 0, .int .i64 0, .int .i64 0, .slice none 0 0, .slice none 0 0, .slice none 0 0, .slice none 0 0, .slice none 0 0] 29))) := F.out.below ba
        clear F
        have F := F9
        clear F9
        have O9 : Hid (Orl (v13.alloc (Obj.cells #[.int .i64 0, .int .i64 0, .int .i64 0, .int .i64 0, .slice none 0 0, .slice none 0 0, .slice none 0 0, .slice none 0 0, .slice none 0 0] 29)) (.slice (some ⟨g, 0, none⟩) 1 1) [go1]) := OL.out.below ba
        clear OL
        have OL := O9
        clear O9
        clear ba hbf
        generalize v13.alloc (Obj.cells #[.int .i64 0, .int .i64 0, .int .i64 0, .int .i64 0, .slice none 0 0, .slice none 0 0, .slice none 0 0, .slice none 0 0, .slice none 0 0] 29) = v21 at *
        go_simp
        refine tr_one ?_
        refine st_call rfl 6 #[] (by go_simp) (by go_simp) ?_
        refine (sorts_any v21).mono ?_
        rintro e v22 ⟨ku, rfl, hk, hb⟩
        have F9 : Hid (Fx w X (.slice p1 X.gs.length q1) (.slice p2 X.os.length q2) (.slice p3 X.gold.length q3) (.slice p4 X.us.length q4) (.slice p5 X.qs.length q5) z (.slice m1 8 n1) (.slice m2 8 n2) (.slice m3 2 n3) (.slice m4 3 n4) (.slice m5 0 n5) v22) := F.out.below hb
        clear F
        have F := F9
        clear F9
        have O9 : Hid (Orl v22 (.slice (some ⟨g, 0, none⟩) 1 1) [go1]) := OL.out.below hb
        clear OL
        have OL := O9
        clear O9
        have Z9 : Hid (Wx v22 bf (.int .i64 0) (.int .i64 0) (.int .i64 0) (.int .i64 0) (.slice none 0 0) (.slice none 0 0) (.slice none 0 0) (.slice none 0 0) (.slice none 0 0) ∧ w.heap.size < bf ∧ z < bf) := ⟨ZE.out.1.below hb ZE.out.1.lt, ZE.out.2⟩
        clear ZE
        have ZE := Z9
        clear Z9
        have KU : Hid (Kl v22 ku SK) := hk
        refine ⟨_, rfl, F.out.2.2.1, ?_⟩
        clear hk hb
        go_simp
        refine tr_one ?_
        refine st_call rfl 5 #[ku, .agg #[.int .i64 0, .int .i64 4, .int .i64 4, .int .i64 2, .slice m1 8 n1, .slice m2 8 n2, .slice m3 2 n3, .slice m4 3 n4, .slice m5 0 n5], .slice (some ⟨g, 0, none⟩) 1 1] (by go_simp) (by go_simp) ?_
        refine (Give_any ku _ _ SK S3 [go1] v22 KU.out sm_names F.out.2.2.2 OL.out).mono ?_
        rintro e v23 ⟨v, ur, r, rfl, hr, hf, hb⟩
        rw [sg_zero] at hr
        obtain rfl := er_zero hr
        obtain ⟨f1, h1, f2, h2, f3, h3, f4, h4, f5, h5, gf, cf, rfl, rfl, hgf, hcf, hc0⟩ := sm_given hf
        have NE : Hid (gf ≠ bf) := by have h9 := ZE.out.1.lt; exact Nat.ne_of_gt (Nat.lt_of_lt_of_le h9 hgf)
        have F9 : Hid (Fx w X (.slice p1 X.gs.length q1) (.slice p2 X.os.length q2) (.slice p3 X.gold.length q3) (.slice p4 X.us.length q4) (.slice p5 X.qs.length q5) z (.slice m1 8 n1) (.slice m2 8 n2) (.slice m3 2 n3) (.slice m4 3 n4) (.slice m5 0 n5) v23) := F.out.below hb
        clear F
        have F := F9
        clear F9
        have Z9 : Hid (Wx v23 bf (.int .i64 0) (.int .i64 0) (.int .i64 0) (.int .i64 0) (.slice none 0 0) (.slice none 0 0) (.slice none 0 0) (.slice none 0 0) (.slice none 0 0) ∧ w.heap.size < bf ∧ z < bf) := ⟨ZE.out.1.below hb ZE.out.1.lt, ZE.out.2⟩
        clear ZE
        have ZE := Z9
        clear Z9
        have GE : Hid (v23.cell? ⟨gf, 0, none⟩ = some (.int .i64 0) ∧ 1 ≤ cf) := ⟨hc0, hcf⟩
        refine ⟨_, rfl, F.out.2.2.1, ?_⟩
        clear hr hf hb hgf hcf hc0 KU OL
        go_simp
        refine tr_read rfl (.tuple #[.agg #[.int .i64 0, .int .i64 4, .int .i64 4, .int .i64 2, .slice f1 8 h1, .slice f2 8 h2, .slice f3 2 h3, .slice f4 3 h4, .slice f5 0 h5], .slice (some ⟨gf, 0, none⟩) 1 cf, .nilIface]) (by go_simp) (fun V hV => by go_simp) ?_
        go_simp
        refine tr_read rfl (.agg #[.int .i64 0, .int .i64 4, .int .i64 4, .int .i64 2, .slice f1 8 h1, .slice f2 8 h2, .slice f3 2 h3, .slice f4 3 h4, .slice f5 0 h5]) (by go_simp) (fun V hV => by go_simp) ?_
        go_simp
        refine tr_read rfl (.slice (some ⟨gf, 0, none⟩) 1 cf) (by go_simp) (fun V hV => by go_simp) ?_
        go_simp
        refine tr_read rfl (.nilIface) (by go_simp) (fun V hV => by go_simp) ?_
        go_simp
        refine tr_one ?_
        obtain ⟨z0, z1, z2, z3, z4, z5, z6, z7, z8⟩ := ZE.out.1.cells
        obtain ⟨t0, t1, t2, t3, t4, t5, t6, t7, t8⟩ := ZE.out.1.thaws
        have KZ : Hid (Kp bf v23 (((((((((v23.setCell ⟨bf, 0, none⟩ (.int .i64 0)).setCell ⟨bf, 1, none⟩ (.int .i64 4)).setCell ⟨bf, 2, none⟩ (.int .i64 4)).setCell ⟨bf, 3, none⟩ (.int .i64 2)).setCell ⟨bf, 4, none⟩ (.slice f1 8 h1)).setCell ⟨bf, 5, none⟩ (.slice f2 8 h2)).setCell ⟨bf, 6, none⟩ (.slice f3 2 h3)).setCell ⟨bf, 7, none⟩ (.slice f4 3 h4)).setCell ⟨bf, 8, none⟩ (.slice f5 0 h5))) := put_kp _ _ _ _ _ _ _ _ _ _ _
        have FS : Hid (Below w.heap.size w (((((((((v23.setCell ⟨bf, 0, none⟩ (.int .i64 0)).setCell ⟨bf, 1, none⟩ (.int .i64 4)).setCell ⟨bf, 2, none⟩ (.int .i64 4)).setCell ⟨bf, 3, none⟩ (.int .i64 2)).setCell ⟨bf, 4, none⟩ (.slice f1 8 h1)).setCell ⟨bf, 5, none⟩ (.slice f2 8 h2)).setCell ⟨bf, 6, none⟩ (.slice f3 2 h3)).setCell ⟨bf, 7, none⟩ (.slice f4 3 h4)).setCell ⟨bf, 8, none⟩ (.slice f5 0 h5)) ∧ Bw (((((((((v23.setCell ⟨bf, 0, none⟩ (.int .i64 0)).setCell ⟨bf, 1, none⟩ (.int .i64 4)).setCell ⟨bf, 2, none⟩ (.int .i64 4)).setCell ⟨bf, 3, none⟩ (.int .i64 2)).setCell ⟨bf, 4, none⟩ (.slice f1 8 h1)).setCell ⟨bf, 5, none⟩ (.slice f2 8 h2)).setCell ⟨bf, 6, none⟩ (.slice f3 2 h3)).setCell ⟨bf, 7, none⟩ (.slice f4 3 h4)).setCell ⟨bf, 8, none⟩ (.slice f5 0 h5)) w.heap.size X (.slice p1 X.gs.length q1) (.slice p2 X.os.length q2) (.slice p3 X.gold.length q3) (.slice p4 X.us.length q4) (.slice p5 X.qs.length q5) ∧ Wx (((((((((v23.setCell ⟨bf, 0, none⟩ (.int .i64 0)).setCell ⟨bf, 1, none⟩ (.int .i64 4)).setCell ⟨bf, 2, none⟩ (.int .i64 4)).setCell ⟨bf, 3, none⟩ (.int .i64 2)).setCell ⟨bf, 4, none⟩ (.slice f1 8 h1)).setCell ⟨bf, 5, none⟩ (.slice f2 8 h2)).setCell ⟨bf, 6, none⟩ (.slice f3 2 h3)).setCell ⟨bf, 7, none⟩ (.slice f4 3 h4)).setCell ⟨bf, 8, none⟩ (.slice f5 0 h5)) z (.int .i64 0) (.int .i64 4) (.int .i64 4) (.int .i64 2) (.slice m1 8 n1) (.slice m2 8 n2) (.slice m3 2 n3) (.slice m4 3 n4) (.slice m5 0 n5)) := by have h9 := ZE.out.2; exact ⟨KZ.out.below F.out.1 F.out.1.size (by omega), F.out.2.1.kp9 KZ.out (by omega), F.out.2.2.1.kp KZ.out (by omega)⟩
        have GS : Hid ((((((((((v23.setCell ⟨bf, 0, none⟩ (.int .i64 0)).setCell ⟨bf, 1, none⟩ (.int .i64 4)).setCell ⟨bf, 2, none⟩ (.int .i64 4)).setCell ⟨bf, 3, none⟩ (.int .i64 2)).setCell ⟨bf, 4, none⟩ (.slice f1 8 h1)).setCell ⟨bf, 5, none⟩ (.slice f2 8 h2)).setCell ⟨bf, 6, none⟩ (.slice f3 2 h3)).setCell ⟨bf, 7, none⟩ (.slice f4 3 h4)).setCell ⟨bf, 8, none⟩ (.slice f5 0 h5)).cell? ⟨gf, 0, none⟩ = some (.int .i64 0) ∧ 1 ≤ cf) := ⟨cell_kp9 GE.out.1 KZ.out NE.out, GE.out.2⟩
        refine st_skip rfl (((((((((v23.setCell ⟨bf, 0, none⟩ (.int .i64 0)).setCell ⟨bf, 1, none⟩ (.int .i64 4)).setCell ⟨bf, 2, none⟩ (.int .i64 4)).setCell ⟨bf, 3, none⟩ (.int .i64 2)).setCell ⟨bf, 4, none⟩ (.slice f1 8 h1)).setCell ⟨bf, 5, none⟩ (.slice f2 8 h2)).setCell ⟨bf, 6, none⟩ (.slice f3 2 h3)).setCell ⟨bf, 7, none⟩ (.slice f4 3 h4)).setCell ⟨bf, 8, none⟩ (.slice f5 0 h5)) (by go_simp) (by go_simp) FS.out.2.2 ?_
        clear z0 z1 z2 z3 z4 z5 z6 z7 z8 t0 t1 t2 t3 t4 t5 t6 t7 t8 KZ ZE GE F
        generalize ((((((((v23.setCell ⟨bf, 0, none⟩ (.int .i64 0)).setCell ⟨bf, 1, none⟩ (.int .i64 4)).setCell ⟨bf, 2, none⟩ (.int .i64 4)).setCell ⟨bf, 3, none⟩ (.int .i64 2)).setCell ⟨bf, 4, none⟩ (.slice f1 8 h1)).setCell ⟨bf, 5, none⟩ (.slice f2 8 h2)).setCell ⟨bf, 6, none⟩ (.slice f3 2 h3)).setCell ⟨bf, 7, none⟩ (.slice f4 3 h4)).setCell ⟨bf, 8, none⟩ (.slice f5 0 h5) = v24 at *
        go_simp
        refine tr_one ?_
        refine st_value rfl (.slice (some ⟨gf, 0, none⟩) 1 cf) v24 (by go_simp) (by go_simp) FS.out.2.2 ?_
        go_simp
        unfold wpTr
        refine sched_value rfl .nilIface v24 (by go_simp) (by go_simp) trivial ?_
        go_simp
        unfold wpSched
        go_wp2_with fail
        go_meet
        case rel => exact ⟨rfl, gf, cf, rfl, GS.out.2, GS.out.1, FS.out.1, FS.out.2.1⟩
    · have ba : Below v0.heap.size v0 (v0.alloc (Obj.cells #[.int .i64 0, .int .i64 0, .int .i64 0, .int .i64 0, .slice none 0 0, .slice none 0 0, .slice none 0 0, .slice none 0 0, .slice none 0 0] 29)) := (Below.refl _ _).alloc (Nat.le_refl _) _
      refine st_value rfl (.pointer (some ⟨v0.heap.size, 0, none⟩)) (v0.alloc (Obj.cells #[.int .i64 0, .int .i64 0, .int .i64 0, .int .i64 0, .slice none 0 0, .slice none 0 0, .slice none 0 0, .slice none 0 0, .slice none 0 0] 29)) (by go_simp) (by go_simp) (F.out.below ba).2.2.1 ?_
      obtain ⟨bf, hbf⟩ : ∃ g, v0.heap.size = g := ⟨_, rfl⟩
      have ZE : Hid (Wx (v0.alloc (Obj.cells #[.int .i64 0, .int .i64 0, .int .i64 0, .int .i64 0, .slice none 0 0, .slice none 0 0, .slice none 0 0, .slice none 0 0, .slice none 0 0] 29)) bf (.int .i64 0) (.int .i64 0) (.int .i64 0) (.int .i64 0) (.slice none 0 0) (.slice none 0 0) (.slice none 0 0) (.slice none 0 0) (.slice none 0 0) ∧ w.heap.size < bf ∧ z < bf) := ⟨Wx.new (w := v0) _ _ _ _ _ _ _ _ _ hbf, by rw [← hbf]; exact F.out.2.1.lt, by rw [← hbf]; exact F.out.2.2.1.lt⟩
      rw [hbf]
      have F9 : Hid (Fx w X (.slice p1 X.gs.length q1) (.slice p2 X.os.length q2) (.slice p3 X.gold.length q3) (.slice p4 X.us.length q4) (.slice p5 X.qs.length q5) z (.slice m1 8 n1) (.slice m2 8 n2) (.slice m3 2 n3) (.slice m4 3 n4) (.slice m5 0 n5) (v0.alloc (Obj.cells #[.int .i64 0, .int .i64 0, .int .i64 0, .int .i64 0, .slice none 0 0, .slice none 0 0, .slice none 0 0, .slice none 0 0, .slice none 0 0] 29))) := F.out.below ba
      clear F
      have F := F9
      clear F9
      clear ba hbf
      generalize v0.alloc (Obj.cells #[.int .i64 0, .int .i64 0, .int .i64 0, .int .i64 0, .slice none 0 0, .slice none 0 0, .slice none 0 0, .slice none 0 0, .slice none 0 0] 29) = v25 at *
      go_simp
      refine tr_two ?_ ?_
      · refine st_call rfl 6 #[] (by go_simp) (by go_simp) ?_
        refine (sorts_any v25).mono ?_
        rintro e v26 ⟨ku, rfl, hk, hb⟩
        have F9 : Hid (Fx w X (.slice p1 X.gs.length q1) (.slice p2 X.os.length q2) (.slice p3 X.gold.length q3) (.slice p4 X.us.length q4) (.slice p5 X.qs.length q5) z (.slice m1 8 n1) (.slice m2 8 n2) (.slice m3 2 n3) (.slice m4 3 n4) (.slice m5 0 n5) v26) := F.out.below hb
        clear F
        have F := F9
        clear F9
        have Z9 : Hid (Wx v26 bf (.int .i64 0) (.int .i64 0) (.int .i64 0) (.int .i64 0) (.slice none 0 0) (.slice none 0 0) (.slice none 0 0) (.slice none 0 0) (.slice none 0 0) ∧ w.heap.size < bf ∧ z < bf) := ⟨ZE.out.1.below hb ZE.out.1.lt, ZE.out.2⟩
        clear ZE
        have ZE := Z9
        clear Z9
        have KU : Hid (Kl v26 ku SK) := hk
        refine ⟨_, rfl, F.out.2.2.1, ?_⟩
        clear hk hb
        go_simp
        refine tr_one ?_
        have ba : Below v26.heap.size v26 (v26.alloc (Obj.cells #[.int .i64 1, .int .i64 1, .int .i64 0, .int .i64 0] 39)) := (Below.refl _ _).alloc (Nat.le_refl _) _
        refine st_value rfl (.slice (some ⟨v26.heap.size, 0, none⟩) 1 1) (v26.alloc (Obj.cells #[.int .i64 1, .int .i64 1, .int .i64 0, .int .i64 0] 39)) (by go_simp) (by go_simp) (F.out.below ba).2.2.1 ?_
        obtain ⟨g, hg⟩ : ∃ g, v26.heap.size = g := ⟨_, rfl⟩
        have OL : Hid (Orl (v26.alloc (Obj.cells #[.int .i64 1, .int .i64 1, .int .i64 0, .int .i64 0] 39)) (.slice (some ⟨g, 0, none⟩) 1 1) [go1]) := by rw [← hg]; exact or_lit1 v26
        rw [hg]
        have F9 : Hid (Fx w X (.slice p1 X.gs.length q1) (.slice p2 X.os.length q2) (.slice p3 X.gold.length q3) (.slice p4 X.us.length q4) (.slice p5 X.qs.length q5) z (.slice m1 8 n1) (.slice m2 8 n2) (.slice m3 2 n3) (.slice m4 3 n4) (.slice m5 0 n5) (v26.alloc (Obj.cells #[.int .i64 1, .int .i64 1, .int .i64 0, .int .i64 0] 39))) := F.out.below ba
        clear F
        have F := F9
        clear F9
        have K9 : Hid (Kl (v26.alloc (Obj.cells #[.int .i64 1, .int .i64 1, .int .i64 0, .int .i64 0] 39)) ku SK) := KU.out.below ba
        clear KU
        have KU := K9
        clear K9
        have Z9 : Hid (Wx (v26.alloc (Obj.cells #[.int .i64 1, .int .i64 1, .int .i64 0, .int .i64 0] 39)) bf (.int .i64 0) (.int .i64 0) (.int .i64 0) (.int .i64 0) (.slice none 0 0) (.slice none 0 0) (.slice none 0 0) (.slice none 0 0) (.slice none 0 0) ∧ w.heap.size < bf ∧ z < bf) := ⟨ZE.out.1.below ba ZE.out.1.lt, ZE.out.2⟩
        clear ZE
        have ZE := Z9
        clear Z9
        clear ba hg
        generalize v26.alloc (Obj.cells #[.int .i64 1, .int .i64 1, .int .i64 0, .int .i64 0] 39) = v27 at *
        go_simp
        refine tr_one ?_
        refine st_call rfl 5 #[ku, .agg #[.int .i64 0, .int .i64 4, .int .i64 4, .int .i64 2, .slice m1 8 n1, .slice m2 8 n2, .slice m3 2 n3, .slice m4 3 n4, .slice m5 0 n5], .slice (some ⟨g, 0, none⟩) 1 1] (by go_simp) (by go_simp) ?_
        refine (Give_any ku _ _ SK S3 [go1] v27 KU.out sm_names F.out.2.2.2 OL.out).mono ?_
        rintro e v28 ⟨v, ur, r, rfl, hr, hf, hb⟩
        rw [sg_zero] at hr
        obtain rfl := er_zero hr
        obtain ⟨f1, h1, f2, h2, f3, h3, f4, h4, f5, h5, gf, cf, rfl, rfl, hgf, hcf, hc0⟩ := sm_given hf
        have NE : Hid (gf ≠ bf) := by have h9 := ZE.out.1.lt; exact Nat.ne_of_gt (Nat.lt_of_lt_of_le h9 hgf)
        have F9 : Hid (Fx w X (.slice p1 X.gs.length q1) (.slice p2 X.os.length q2) (.slice p3 X.gold.length q3) (.slice p4 X.us.length q4) (.slice p5 X.qs.length q5) z (.slice m1 8 n1) (.slice m2 8 n2) (.slice m3 2 n3) (.slice m4 3 n4) (.slice m5 0 n5) v28) := F.out.below hb
        clear F
        have F := F9
        clear F9
        have Z9 : Hid (Wx v28 bf (.int .i64 0) (.int .i64 0) (.int .i64 0) (.int .i64 0) (.slice none 0 0) (.slice none 0 0) (.slice none 0 0) (.slice none 0 0) (.slice none 0 0) ∧ w.heap.size < bf ∧ z < bf) := ⟨ZE.out.1.below hb ZE.out.1.lt, ZE.out.2⟩
        clear ZE
        have ZE := Z9
        clear Z9
        have GE : Hid (v28.cell? ⟨gf, 0, none⟩ = some (.int .i64 0) ∧ 1 ≤ cf) := ⟨hc0, hcf⟩
        refine ⟨_, rfl, F.out.2.2.1, ?_⟩
        clear hr hf hb hgf hcf hc0 KU OL
        go_simp
        refine tr_read rfl (.tuple #[.agg #[.int .i64 0, .int .i64 4, .int .i64 4, .int .i64 2, .slice f1 8 h1, .slice f2 8 h2, .slice f3 2 h3, .slice f4 3 h4, .slice f5 0 h5], .slice (some ⟨gf, 0, none⟩) 1 cf, .nilIface]) (by go_simp) (fun V hV => by go_simp) ?_
        go_simp
        refine tr_read rfl (.agg #[.int .i64 0, .int .i64 4, .int .i64 4, .int .i64 2, .slice f1 8 h1, .slice f2 8 h2, .slice f3 2 h3, .slice f4 3 h4, .slice f5 0 h5]) (by go_simp) (fun V hV => by go_simp) ?_
        go_simp
        refine tr_read rfl (.slice (some ⟨gf, 0, none⟩) 1 cf) (by go_simp) (fun V hV => by go_simp) ?_
        go_simp
        refine tr_read rfl (.nilIface) (by go_simp) (fun V hV => by go_simp) ?_
        go_simp
        refine tr_one ?_
        obtain ⟨z0, z1, z2, z3, z4, z5, z6, z7, z8⟩ := ZE.out.1.cells
        obtain ⟨t0, t1, t2, t3, t4, t5, t6, t7, t8⟩ := ZE.out.1.thaws
        have KZ : Hid (Kp bf v28 (((((((((v28.setCell ⟨bf, 0, none⟩ (.int .i64 0)).setCell ⟨bf, 1, none⟩ (.int .i64 4)).setCell ⟨bf, 2, none⟩ (.int .i64 4)).setCell ⟨bf, 3, none⟩ (.int .i64 2)).setCell ⟨bf, 4, none⟩ (.slice f1 8 h1)).setCell ⟨bf, 5, none⟩ (.slice f2 8 h2)).setCell ⟨bf, 6, none⟩ (.slice f3 2 h3)).setCell ⟨bf, 7, none⟩ (.slice f4 3 h4)).setCell ⟨bf, 8, none⟩ (.slice f5 0 h5))) := put_kp _ _ _ _ _ _ _ _ _ _ _
        have FS : Hid (Below w.heap.size w (((((((((v28.setCell ⟨bf, 0, none⟩ (.int .i64 0)).setCell ⟨bf, 1, none⟩ (.int .i64 4)).setCell ⟨bf, 2, none⟩ (.int .i64 4)).setCell ⟨bf, 3, none⟩ (.int .i64 2)).setCell ⟨bf, 4, none⟩ (.slice f1 8 h1)).setCell ⟨bf, 5, none⟩ (.slice f2 8 h2)).setCell ⟨bf, 6, none⟩ (.slice f3 2 h3)).setCell ⟨bf, 7, none⟩ (.slice f4 3 h4)).setCell ⟨bf, 8, none⟩ (.slice f5 0 h5)) ∧ Bw (((((((((v28.setCell ⟨bf, 0, none⟩ (.int .i64 0)).setCell ⟨bf, 1, none⟩ (.int .i64 4)).setCell ⟨bf, 2, none⟩ (.int .i64 4)).setCell ⟨bf, 3, none⟩ (.int .i64 2)).setCell ⟨bf, 4, none⟩ (.slice f1 8 h1)).setCell ⟨bf, 5, none⟩ (.slice f2 8 h2)).setCell ⟨bf, 6, none⟩ (.slice f3 2 h3)).setCell ⟨bf, 7, none⟩ (.slice f4 3 h4)).setCell ⟨bf, 8, none⟩ (.slice f5 0 h5)) w.heap.size X (.slice p1 X.gs.length q1) (.slice p2 X.os.length q2) (.slice p3 X.gold.length q3) (.slice p4 X.us.length q4) (.slice p5 X.qs.length q5) ∧ Wx (((((((((v28.setCell ⟨bf, 0, none⟩ (.int .i64 0)).setCell ⟨bf, 1, none⟩ (.int .i64 4)).setCell ⟨bf, 2, none⟩ (.int .i64 4)).setCell ⟨bf, 3, none⟩ (.int .i64 2)).setCell ⟨bf, 4, none⟩ (.slice f1 8 h1)).setCell ⟨bf, 5, none⟩ (.slice f2 8 h2)).setCell ⟨bf, 6, none⟩ (.slice f3 2 h3)).setCell ⟨bf, 7, none⟩ (.slice f4 3 h4)).setCell ⟨bf, 8, none⟩ (.slice f5 0 h5)) z (.int .i64 0) (.int .i64 4) (.int .i64 4) (.int .i64 2) (.slice m1 8 n1) (.slice m2 8 n2) (.slice m3 2 n3) (.slice m4 3 n4) (.slice m5 0 n5)) := by have h9 := ZE.out.2; exact ⟨KZ.out.below F.out.1 F.out.1.size (by omega), F.out.2.1.kp9 KZ.out (by omega), F.out.2.2.1.kp KZ.out (by omega)⟩
        have GS : Hid ((((((((((v28.setCell ⟨bf, 0, none⟩ (.int .i64 0)).setCell ⟨bf, 1, none⟩ (.int .i64 4)).setCell ⟨bf, 2, none⟩ (.int .i64 4)).setCell ⟨bf, 3, none⟩ (.int .i64 2)).setCell ⟨bf, 4, none⟩ (.slice f1 8 h1)).setCell ⟨bf, 5, none⟩ (.slice f2 8 h2)).setCell ⟨bf, 6, none⟩ (.slice f3 2 h3)).setCell ⟨bf, 7, none⟩ (.slice f4 3 h4)).setCell ⟨bf, 8, none⟩ (.slice f5 0 h5)).cell? ⟨gf, 0, none⟩ = some (.int .i64 0) ∧ 1 ≤ cf) := ⟨cell_kp9 GE.out.1 KZ.out NE.out, GE.out.2⟩
        refine st_skip rfl (((((((((v28.setCell ⟨bf, 0, none⟩ (.int .i64 0)).setCell ⟨bf, 1, none⟩ (.int .i64 4)).setCell ⟨bf, 2, none⟩ (.int .i64 4)).setCell ⟨bf, 3, none⟩ (.int .i64 2)).setCell ⟨bf, 4, none⟩ (.slice f1 8 h1)).setCell ⟨bf, 5, none⟩ (.slice f2 8 h2)).setCell ⟨bf, 6, none⟩ (.slice f3 2 h3)).setCell ⟨bf, 7, none⟩ (.slice f4 3 h4)).setCell ⟨bf, 8, none⟩ (.slice f5 0 h5)) (by go_simp) (by go_simp) FS.out.2.2 ?_
        clear z0 z1 z2 z3 z4 z5 z6 z7 z8 t0 t1 t2 t3 t4 t5 t6 t7 t8 KZ ZE GE F
        generalize ((((((((v28.setCell ⟨bf, 0, none⟩ (.int .i64 0)).setCell ⟨bf, 1, none⟩ (.int .i64 4)).setCell ⟨bf, 2, none⟩ (.int .i64 4)).setCell ⟨bf, 3, none⟩ (.int .i64 2)).setCell ⟨bf, 4, none⟩ (.slice f1 8 h1)).setCell ⟨bf, 5, none⟩ (.slice f2 8 h2)).setCell ⟨bf, 6, none⟩ (.slice f3 2 h3)).setCell ⟨bf, 7, none⟩ (.slice f4 3 h4)).setCell ⟨bf, 8, none⟩ (.slice f5 0 h5) = v29 at *
        go_simp
        refine tr_one ?_
        refine st_value rfl (.slice (some ⟨gf, 0, none⟩) 1 cf) v29 (by go_simp) (by go_simp) FS.out.2.2 ?_
        go_simp
        unfold wpTr
        refine sched_value rfl .nilIface v29 (by go_simp) (by go_simp) trivial ?_
        go_simp
        unfold wpSched
        go_wp2_with fail
        go_meet
        case rel => exact ⟨rfl, gf, cf, rfl, GS.out.2, GS.out.1, FS.out.1, FS.out.2.1⟩
      · have ba : Below v25.heap.size v25 (v25.alloc (Obj.cells #[.int .i64 1, .int .i64 1, .int .i64 0, .int .i64 0] 39)) := (Below.refl _ _).alloc (Nat.le_refl _) _
        refine st_value rfl (.slice (some ⟨v25.heap.size, 0, none⟩) 1 1) (v25.alloc (Obj.cells #[.int .i64 1, .int .i64 1, .int .i64 0, .int .i64 0] 39)) (by go_simp) (by go_simp) (F.out.below ba).2.2.1 ?_
        obtain ⟨g, hg⟩ : ∃ g, v25.heap.size = g := ⟨_, rfl⟩
        have OL : Hid (Orl (v25.alloc (Obj.cells #[.int .i64 1, .int .i64 1, .int .i64 0, .int .i64 0] 39)) (.slice (some ⟨g, 0, none⟩) 1 1) [go1]) := by rw [← hg]; exact or_lit1 v25
        rw [hg]
        have F9 : Hid (Fx w X (.slice p1 X.gs.length q1) (.slice p2 X.os.length q2) (.slice p3 X.gold.length q3) (.slice p4 X.us.length q4) (.slice p5 X.qs.length q5) z (.slice m1 8 n1) (.slice m2 8 n2) (.slice m3 2 n3) (.slice m4 3 n4) (.slice m5 0 n5) (v25.alloc (Obj.cells #[.int .i64 1, .int .i64 1, .int .i64 0, .int .i64 0] 39))) := F.out.below ba
        clear F
        have F := F9
        clear F9
        have Z9 : Hid (Wx (v25.alloc (Obj.cells #[.int .i64 1, .int .i64 1, .int .i64 0, .int .i64 0] 39)) bf (.int .i64 0) (.int .i64 0) (.int .i64 0) (.int .i64 0) (.slice none 0 0) (.slice none 0 0) (.slice none 0 0) (.slice none 0 0) (.slice none 0 0) ∧ w.heap.size < bf ∧ z < bf) := ⟨ZE.out.1.below ba ZE.out.1.lt, ZE.out.2⟩
        clear ZE
        have ZE := Z9
        clear Z9
        clear ba hg
        generalize v25.alloc (Obj.cells #[.int .i64 1, .int .i64 1, .int .i64 0, .int .i64 0] 39) = v30 at *
        go_simp
        refine tr_one ?_
        refine st_call rfl 6 #[] (by go_simp) (by go_simp) ?_
        refine (sorts_any v30).mono ?_
        rintro e v31 ⟨ku, rfl, hk, hb⟩
        have F9 : Hid (Fx w X (.slice p1 X.gs.length q1) (.slice p2 X.os.length q2) (.slice p3 X.gold.length q3) (.slice p4 X.us.length q4) (.slice p5 X.qs.length q5) z (.slice m1 8 n1) (.slice m2 8 n2) (.slice m3 2 n3) (.slice m4 3 n4) (.slice m5 0 n5) v31) := F.out.below hb
        clear F
        have F := F9
        clear F9
        have O9 : Hid (Orl v31 (.slice (some ⟨g, 0, none⟩) 1 1) [go1]) := OL.out.below hb
        clear OL
        have OL := O9
        clear O9
        have Z9 : Hid (Wx v31 bf (.int .i64 0) (.int .i64 0) (.int .i64 0) (.int .i64 0) (.slice none 0 0) (.slice none 0 0) (.slice none 0 0) (.slice none 0 0) (.slice none 0 0) ∧ w.heap.size < bf ∧ z < bf) := ⟨ZE.out.1.below hb ZE.out.1.lt, ZE.out.2⟩
        clear ZE
        have ZE := Z9
        clear Z9
        have KU : Hid (Kl v31 ku SK) := hk
        refine ⟨_, rfl, F.out.2.2.1, ?_⟩
        clear hk hb
        go_simp
        refine tr_one ?_
        refine st_call rfl 5 #[ku, .agg #[.int .i64 0, .int .i64 4, .int .i64 4, .int .i64 2, .slice m1 8 n1, .slice m2 8 n2, .slice m3 2 n3, .slice m4 3 n4, .slice m5 0 n5], .slice (some ⟨g, 0, none⟩) 1 1] (by go_simp) (by go_simp) ?_
        refine (Give_any ku _ _ SK S3 [go1] v31 KU.out sm_names F.out.2.2.2 OL.out).mono ?_
        rintro e v32 ⟨v, ur, r, rfl, hr, hf, hb⟩
        rw [sg_zero] at hr
        obtain rfl := er_zero hr
        obtain ⟨f1, h1, f2, h2, f3, h3, f4, h4, f5, h5, gf, cf, rfl, rfl, hgf, hcf, hc0⟩ := sm_given hf
        have NE : Hid (gf ≠ bf) := by have h9 := ZE.out.1.lt; exact Nat.ne_of_gt (Nat.lt_of_lt_of_le h9 hgf)
        have F9 : Hid (Fx w X (.slice p1 X.gs.length q1) (.slice p2 X.os.length q2) (.slice p3 X.gold.length q3) (.slice p4 X.us.length q4) (.slice p5 X.qs.length q5) z (.slice m1 8 n1) (.slice m2 8 n2) (.slice m3 2 n3) (.slice m4 3 n4) (.slice m5 0 n5) v32) := F.out.below hb
        clear F
        have F := F9
        clear F9
        have Z9 : Hid (Wx v32 bf (.int .i64 0) (.int .i64 0) (.int .i64 0) (.int .i64 0) (.slice none 0 0) (.slice none 0 0) (.slice none 0 0) (.slice none 0 0) (.slice none 0 0) ∧ w.heap.size < bf ∧ z < bf) := ⟨ZE.out.1.below hb ZE.out.1.lt, ZE.out.2⟩
        clear ZE
        have ZE := Z9
        clear Z9
        have GE : Hid (v32.cell? ⟨gf, 0, none⟩ = some (.int .i64 0) ∧ 1 ≤ cf) := ⟨hc0, hcf⟩
        refine ⟨_, rfl, F.out.2.2.1, ?_⟩
        clear hr hf hb hgf hcf hc0 KU OL
        go_simp
        refine tr_read rfl (.tuple #[.agg #[.int .i64 0, .int .i64 4, .int .i64 4, .int .i64 2, .slice f1 8 h1, .slice f2 8 h2, .slice f3 2 h3, .slice f4 3 h4, .slice f5 0 h5], .slice (some ⟨gf, 0, none⟩) 1 cf, .nilIface]) (by go_simp) (fun V hV => by go_simp) ?_
        go_simp
        refine tr_read rfl (.agg #[.int .i64 0, .int .i64 4, .int .i64 4, .int .i64 2, .slice f1 8 h1, .slice f2 8 h2, .slice f3 2 h3, .slice f4 3 h4, .slice f5 0 h5]) (by go_simp) (fun V hV => by go_simp) ?_
        go_simp
        refine tr_read rfl (.slice (some ⟨gf, 0, none⟩) 1 cf) (by go_simp) (fun V hV => by go_simp) ?_
        go_simp
        refine tr_read rfl (.nilIface) (by go_simp) (fun V hV => by go_simp) ?_
        go_simp
        refine tr_one ?_
        obtain ⟨z0, z1, z2, z3, z4, z5, z6, z7, z8⟩ := ZE.out.1.cells
        obtain ⟨t0, t1, t2, t3, t4, t5, t6, t7, t8⟩ := ZE.out.1.thaws
        have KZ : Hid (Kp bf v32 (((((((((v32.setCell ⟨bf, 0, none⟩ (.int .i64 0)).setCell ⟨bf, 1, none⟩ (.int .i64 4)).setCell ⟨bf, 2, none⟩ (.int .i64 4)).setCell ⟨bf, 3, none⟩ (.int .i64 2)).setCell ⟨bf, 4, none⟩ (.slice f1 8 h1)).setCell ⟨bf, 5, none⟩ (.slice f2 8 h2)).setCell ⟨bf, 6, none⟩ (.slice f3 2 h3)).setCell ⟨bf, 7, none⟩ (.slice f4 3 h4)).setCell ⟨bf, 8, none⟩ (.slice f5 0 h5))) := put_kp _ _ _ _ _ _ _ _ _ _ _
        have FS : Hid (Below w.heap.size w (((((((((v32.setCell ⟨bf, 0, none⟩ (.int .i64 0)).setCell ⟨bf, 1, none⟩ (.int .i64 4)).setCell ⟨bf, 2, none⟩ (.int .i64 4)).setCell ⟨bf, 3, none⟩ (.int .i64 2)).setCell ⟨bf, 4, none⟩ (.slice f1 8 h1)).setCell ⟨bf, 5, none⟩ (.slice f2 8 h2)).setCell ⟨bf, 6, none⟩ (.slice f3 2 h3)).setCell ⟨bf, 7, none⟩ (.slice f4 3 h4)).setCell ⟨bf, 8, none⟩ (.slice f5 0 h5)) ∧ Bw (((((((((v32.setCell ⟨bf, 0, none⟩ (.int .i64 0)).setCell ⟨bf, 1, none⟩ (.int .i64 4)).setCell ⟨bf, 2, none⟩ (.int .i64 4)).setCell ⟨bf, 3, none⟩ (.int .i64 2)).setCell ⟨bf, 4, none⟩ (.slice f1 8 h1)).setCell ⟨bf, 5, none⟩ (.slice f2 8 h2)).setCell ⟨bf, 6, none⟩ (.slice f3 2 h3)).setCell ⟨bf, 7, none⟩ (.slice f4 3 h4)).setCell ⟨bf, 8, none⟩ (.slice f5 0 h5)) w.heap.size X (.slice p1 X.gs.length q1) (.slice p2 X.os.length q2) (.slice p3 X.gold.length q3) (.slice p4 X.us.length q4) (.slice p5 X.qs.length q5) ∧ Wx (((((((((v32.setCell ⟨bf, 0, none⟩ (.int .i64 0)).setCell ⟨bf, 1, none⟩ (.int .i64 4)).setCell ⟨bf, 2, none⟩ (.int .i64 4)).setCell ⟨bf, 3, none⟩ (.int .i64 2)).setCell ⟨bf, 4, none⟩ (.slice f1 8 h1)).setCell ⟨bf, 5, none⟩ (.slice f2 8 h2)).setCell ⟨bf, 6, none⟩ (.slice f3 2 h3)).setCell ⟨bf, 7, none⟩ (.slice f4 3 h4)).setCell ⟨bf, 8, none⟩ (.slice f5 0 h5)) z (.int .i64 0) (.int .i64 4) (.int .i64 4) (.int .i64 2) (.slice m1 8 n1) (.slice m2 8 n2) (.slice m3 2 n3) (.slice m4 3 n4) (.slice m5 0 n5)) := by have h9 := ZE.out.2; exact ⟨KZ.out.below F.out.1 F.out.1.size (by omega), F.out.2.1.kp9 KZ.out (by omega), F.out.2.2.1.kp KZ.out (by omega)⟩
        have GS : Hid ((((((((((v32.setCell ⟨bf, 0, none⟩ (.int .i64 0)).setCell ⟨bf, 1, none⟩ (.int .i64 4)).setCell ⟨bf, 2, none⟩ (.int .i64 4)).setCell ⟨bf, 3, none⟩ (.int .i64 2)).setCell ⟨bf, 4, none⟩ (.slice f1 8 h1)).setCell ⟨bf, 5, none⟩ (.slice f2 8 h2)).setCell ⟨bf, 6, none⟩ (.slice f3 2 h3)).setCell ⟨bf, 7, none⟩ (.slice f4 3 h4)).setCell ⟨bf, 8, none⟩ (.slice f5 0 h5)).cell? ⟨gf, 0, none⟩ = some (.int .i64 0) ∧ 1 ≤ cf) := ⟨cell_kp9 GE.out.1 KZ.out NE.out, GE.out.2⟩
        refine st_skip rfl (((((((((v32.setCell ⟨bf, 0, none⟩ (.int .i64 0)).setCell ⟨bf, 1, none⟩ (.int .i64 4)).setCell ⟨bf, 2, none⟩ (.int .i64 4)).setCell ⟨bf, 3, none⟩ (.int .i64 2)).setCell ⟨bf, 4, none⟩ (.slice f1 8 h1)).setCell ⟨bf, 5, none⟩ (.slice f2 8 h2)).setCell ⟨bf, 6, none⟩ (.slice f3 2 h3)).setCell ⟨bf, 7, none⟩ (.slice f4 3 h4)).setCell ⟨bf, 8, none⟩ (.slice f5 0 h5)) (by go_simp) (by go_simp) FS.out.2.2 ?_
        clear z0 z1 z2 z3 z4 z5 z6 z7 z8 t0 t1 t2 t3 t4 t5 t6 t7 t8 KZ ZE GE F
        generalize ((((((((v32.setCell ⟨bf, 0, none⟩ (.int .i64 0)).setCell ⟨bf, 1, none⟩ (.int .i64 4)).setCell ⟨bf, 2, none⟩ (.int .i64 4)).setCell ⟨bf, 3, none⟩ (.int .i64 2)).setCell ⟨bf, 4, none⟩ (.slice f1 8 h1)).setCell ⟨bf, 5, none⟩ (.slice f2 8 h2)).setCell ⟨bf, 6, none⟩ (.slice f3 2 h3)).setCell ⟨bf, 7, none⟩ (.slice f4 3 h4)).setCell ⟨bf, 8, none⟩ (.slice f5 0 h5) = v33 at *
        go_simp
        refine tr_one ?_
        refine st_value rfl (.slice (some ⟨gf, 0, none⟩) 1 cf) v33 (by go_simp) (by go_simp) FS.out.2.2 ?_
        go_simp
        unfold wpTr
        refine sched_value rfl .nilIface v33 (by go_simp) (by go_simp) trivial ?_
        go_simp
        unfold wpSched
        go_wp2_with fail
        go_meet
        case rel => exact ⟨rfl, gf, cf, rfl, GS.out.2, GS.out.1, FS.out.1, FS.out.2.1⟩
  case rest =>
    obtain ⟨rfl, gf, cf, rfl, hcf, d0, hB, hX⟩ := hcut
    have B4 : Hid (Below w.heap.size w wc) := hB
    have X4 : Hid (Bw wc w.heap.size X (.slice p1 X.gs.length q1) (.slice p2 X.os.length q2) (.slice p3 X.gold.length q3) (.slice p4 X.us.length q4) (.slice p5 X.qs.length q5)) := hX
    clear hB hX
    obtain ⟨x0, x1, x2, x3, x4, x5, x6, x7, x8⟩ := X4.out
    go_wp2_with fail
    refine (Give_any _ _ _ ks X l wc (K.out.1.below B4.out) K.out.2 (H.out.below B4.out) (L.out.below B4.out)).mono ?_
    rintro e w5 ⟨v, ur, r, rfl, hr, hy, hb⟩
    have B5 : Hid (Below w.heap.size w w5) := B4.out.trans (hb.mono B4.out.size)
    have X5 : Hid (Bw w5 w.heap.size X (.slice p1 X.gs.length q1) (.slice p2 X.os.length q2) (.slice p3 X.gold.length q3) (.slice p4 X.us.length q4) (.slice p5 X.qs.length q5)) := X4.out.below hb X4.out.lt
    clear hb x0 x1 x2 x3 x4 x5 x6 x7 x8 d0 hcf
    obtain ⟨F, hF⟩ : ∃ f, gfault ks X l = f := ⟨_, rfl⟩
    rw [hF] at hr
    rcases hr with ⟨rfl, rfl⟩ | ⟨hf, rfl⟩
    case inr =>
      obtain ⟨rfl, rfl⟩ : v = .agg #[.int .i64 0, .int .i64 0, .int .i64 0, .int .i64 0, .slice none 0 0, .slice none 0 0, .slice none 0 0, .slice none 0 0, .slice none 0 0] ∧ ur = .slice none 0 0 := by
        rcases hy with ⟨-, h⟩ | ⟨h, -⟩
        · exact h
        · exact absurd (hF.symm.trans h) hf
      clear hy hF hf
      go_wp2
      go_ret
      exact ⟨rfl, ⟨B5.out.os, B5.out.tape, B5.out.output, Nat.le_trans B5.out.size (by simp), fun k hk => by rw [((Below.refl w5.heap.size w5).alloc (Nat.le_refl _) _).block k (Nat.lt_of_lt_of_le hk B5.out.size)]; exact B5.out.block k hk⟩⟩
    obtain ⟨hwf, hof, out, hls, hwo, how⟩ : Wd.wfault ks X = 0 ∧ Od.faults l = 0 ∧ ∃ out, LastSays l out ∧ Wo w5 wc.heap.size v (gv ks X out out.length).1 ∧ Ow w5 wc.heap.size ur (gv ks X out out.length).2 := by
      rcases hy with ⟨h, -⟩ | ⟨-, h⟩
      · exact absurd hF h
      · exact h
    have FF : Hid (Wd.wfault ks X = 0 ∧ Od.faults l = 0) := ⟨hwf, hof⟩
    have LS : Hid (LastSays l out) := hls
    have ol : out.length ≤ 60 := Nat.le_trans hls.len (Od.faults_ok hof).1
    obtain ⟨Y, hY⟩ : ∃ Y, (gv ks X out out.length).1 = Y := ⟨_, rfl⟩
    obtain ⟨ref, hR⟩ : ∃ r, (gv ks X out out.length).2 = r := ⟨_, rfl⟩
    have HY : Hid ((gv ks X out out.length).1 = Y ∧ (gv ks X out out.length).2 = ref) := ⟨hY, hR⟩
    have rl : ref.length ≤ 60 := by rw [← hR]; exact Nat.le_trans (gv_short _) ol
    have ST : Hid (Still X Y) := by rw [← hY]; exact gv_still _
    rw [hY] at hwo
    rw [hR] at how
    have ul : Y.us.length ≤ 40 := by rw [ST.out.1]; exact (wright_of hwf).ul
    have LY0 : Wl w5 v Y := hwo.l
    obtain ⟨s1, l1, s2, l2, s3, l3, s4, l4, s5, l5, hv⟩ := wl_shape9 LY0
    subst hv
    have LY : Hid (Wl w5 (.agg #[.int .i64 Y.turn, .int .i64 Y.next, .int .i64 Y.wide, .int .i64 Y.high, .slice s1 Y.gs.length l1, .slice s2 Y.os.length l2, .slice s3 Y.gold.length l3, .slice s4 Y.us.length l4, .slice s5 Y.qs.length l5]) Y) := LY0
    obtain ⟨ra, rc, rfl⟩ := how.len
    have RO : Hid (Ro w5 (.slice ra ref.length rc) ref) := how.ro
    clear hwf hof hls hwo how hY hR hy hF LY0 X4 B4
    go_upto_region 10 with fail
    have BA : Hid (Below w5.heap.size w5 (w5.alloc (Obj.cells #[.int .i64 Y.turn, .int .i64 Y.next, .int .i64 Y.wide, .int .i64 Y.high, .slice s1 Y.gs.length l1, .slice s2 Y.os.length l2, .slice s3 Y.gold.length l3, .slice s4 Y.us.length l4, .slice s5 Y.qs.length l5] 29))) := (Below.refl _ _).alloc (Nat.le_refl _) _
    obtain ⟨bx, hbx⟩ : ∃ z, w5.heap.size = z := ⟨_, rfl⟩
    have XY : Hid (Bw (w5.alloc (Obj.cells #[.int .i64 Y.turn, .int .i64 Y.next, .int .i64 Y.wide, .int .i64 Y.high, .slice s1 Y.gs.length l1, .slice s2 Y.os.length l2, .slice s3 Y.gold.length l3, .slice s4 Y.us.length l4, .slice s5 Y.qs.length l5] 29)) bx Y (.slice s1 Y.gs.length l1) (.slice s2 Y.os.length l2) (.slice s3 Y.gold.length l3) (.slice s4 Y.us.length l4) (.slice s5 Y.qs.length l5)) := Bw.mk' Y _ _ _ _ _ hbx
    have B6 : Hid (Below w.heap.size w (w5.alloc (Obj.cells #[.int .i64 Y.turn, .int .i64 Y.next, .int .i64 Y.wide, .int .i64 Y.high, .slice s1 Y.gs.length l1, .slice s2 Y.os.length l2, .slice s3 Y.gold.length l3, .slice s4 Y.us.length l4, .slice s5 Y.qs.length l5] 29))) := B5.out.trans (BA.out.mono B5.out.size)
    have X6 : Hid (Bw (w5.alloc (Obj.cells #[.int .i64 Y.turn, .int .i64 Y.next, .int .i64 Y.wide, .int .i64 Y.high, .slice s1 Y.gs.length l1, .slice s2 Y.os.length l2, .slice s3 Y.gold.length l3, .slice s4 Y.us.length l4, .slice s5 Y.qs.length l5] 29)) w.heap.size X (.slice p1 X.gs.length q1) (.slice p2 X.os.length q2) (.slice p3 X.gold.length q3) (.slice p4 X.us.length q4) (.slice p5 X.qs.length q5)) := X5.out.below BA.out X5.out.lt
    have LY6 : Hid (Wl (w5.alloc (Obj.cells #[.int .i64 Y.turn, .int .i64 Y.next, .int .i64 Y.wide, .int .i64 Y.high, .slice s1 Y.gs.length l1, .slice s2 Y.os.length l2, .slice s3 Y.gold.length l3, .slice s4 Y.us.length l4, .slice s5 Y.qs.length l5] 29)) (.agg #[.int .i64 Y.turn, .int .i64 Y.next, .int .i64 Y.wide, .int .i64 Y.high, .slice s1 Y.gs.length l1, .slice s2 Y.os.length l2, .slice s3 Y.gold.length l3, .slice s4 Y.us.length l4, .slice s5 Y.qs.length l5]) Y) := LY.out.below BA.out
    have RO6 : Hid (Ro (w5.alloc (Obj.cells #[.int .i64 Y.turn, .int .i64 Y.next, .int .i64 Y.wide, .int .i64 Y.high, .slice s1 Y.gs.length l1, .slice s2 Y.os.length l2, .slice s3 Y.gold.length l3, .slice s4 Y.us.length l4, .slice s5 Y.qs.length l5] 29)) (.slice ra ref.length rc) ref) := RO.out.below BA.out
    rw [hbx]
    clear BA B5 X5 LY RO hbx
    generalize w5.alloc (Obj.cells #[.int .i64 Y.turn, .int .i64 Y.next, .int .i64 Y.wide, .int .i64 Y.high, .slice s1 Y.gs.length l1, .slice s2 Y.os.length l2, .slice s3 Y.gold.length l3, .slice s4 Y.us.length l4, .slice s5 Y.qs.length l5] 29) = w6 at *
    go_wp2_with fail
    refine Calls.mono (last_any _ l w6 (L.out.below B6.out)) ?_
    rintro e w7 ⟨u7, r7, rfl, hrl, hul, hb⟩
    rw [FF.out.2] at hrl
    obtain rfl := er_zero hrl
    obtain ⟨out', hls', ho⟩ : ∃ out', LastSays l out' ∧ Oro w7 w6.heap.size u7 out' := by
      rcases hul with ⟨h, -⟩ | ⟨-, h⟩
      · exact absurd FF.out.2 h
      · exact h
    obtain rfl : out = out' := LS.out.one hls'
    obtain ⟨plo, clo, rfl⟩ := ho.len
    have OO : Hid (Orl w7 (.slice plo out.length clo) out) := ho.l
    have B7 : Hid (Below w.heap.size w w7) := B6.out.trans (hb.mono B6.out.size)
    have X7 : Hid (Bw w7 w.heap.size X (.slice p1 X.gs.length q1) (.slice p2 X.os.length q2) (.slice p3 X.gold.length q3) (.slice p4 X.us.length q4) (.slice p5 X.qs.length q5)) := X6.out.below hb X6.out.lt
    have Y7 : Hid (Bw w7 bx Y (.slice s1 Y.gs.length l1) (.slice s2 Y.os.length l2) (.slice s3 Y.gold.length l3) (.slice s4 Y.us.length l4) (.slice s5 Y.qs.length l5)) := XY.out.below hb XY.out.lt
    have LY7 : Hid (Wl w7 (.agg #[.int .i64 Y.turn, .int .i64 Y.next, .int .i64 Y.wide, .int .i64 Y.high, .slice s1 Y.gs.length l1, .slice s2 Y.os.length l2, .slice s3 Y.gold.length l3, .slice s4 Y.us.length l4, .slice s5 Y.qs.length l5]) Y) := LY6.out.below hb
    have RO7 : Hid (Ro w7 (.slice ra ref.length rc) ref) := RO6.out.below hb
    clear hb hrl hul hls' ho B6 X6 XY LY6 RO6
    go_wp2_with fail
    go_loopw [17, 18, 19] (fun v17 v18 v19 V => RfI ks X out w7 v17 v18 v19 V) (fun _ _ v19 _ => out.length - (intOf v19).toNat)
    case atStart => exact ⟨0, Nat.zero_le _, rfl, rfl, Oro.nil _ _, Below.refl _ _⟩
    case round =>
      obtain ⟨q, hq, rfl, rfl, ho, hb⟩ := hrel
      have OS : Hid (Oro wr w7.heap.size u17 (gk ks X out q)) := ho
      have BQ : Hid (Below w7.heap.size w7 wr) := hb
      clear ho hb
      by_cases hqo : q = out.length
      · subst hqo
        obtain ⟨sm, hsm⟩ : ∃ s, gk ks X out out.length = s := ⟨_, rfl⟩
        have SM : Hid (gk ks X out out.length = sm) := hsm
        have e9 := HY.out.2
        rw [e9]
        rw [hsm] at OS
        clear e9 hsm
        obtain ⟨sa, sc, rfl⟩ := OS.out.len
        have B8 : Hid (Below w.heap.size w wr) := B7.out.trans (BQ.out.mono B7.out.size)
        have X8 : Hid (Bw wr w.heap.size X (.slice p1 X.gs.length q1) (.slice p2 X.os.length q2) (.slice p3 X.gold.length q3) (.slice p4 X.us.length q4) (.slice p5 X.qs.length q5)) := X7.out.below BQ.out X7.out.lt
        have Y8 : Hid (Bw wr bx Y (.slice s1 Y.gs.length l1) (.slice s2 Y.os.length l2) (.slice s3 Y.gold.length l3) (.slice s4 Y.us.length l4) (.slice s5 Y.qs.length l5)) := Y7.out.below BQ.out Y7.out.lt
        have LY8 : Hid (Wl wr (.agg #[.int .i64 Y.turn, .int .i64 Y.next, .int .i64 Y.wide, .int .i64 Y.high, .slice s1 Y.gs.length l1, .slice s2 Y.os.length l2, .slice s3 Y.gold.length l3, .slice s4 Y.us.length l4, .slice s5 Y.qs.length l5]) Y) := LY7.out.below BQ.out
        have OL8 : Hid (Orl wr (.slice sa sm.length sc) sm) := OS.out.l
        clear OS BQ B7 X7 Y7 LY7 RO7 OO
        obtain ⟨x0, x1, x2, x3, x4, x5, x6, x7, x8⟩ := X8.out
        go_wp2_with fail
        refine (Give_any _ _ _ ks X sm wr (K.out.1.below B8.out) K.out.2 (H.out.below B8.out) OL8.out).mono ?_
        rintro e w9 ⟨v, ur, r, rfl, hr, hy, hb⟩
        have gz : gfault ks X sm = 0 := by unfold gfault; rw [if_pos FF.out.1, ← SM.out]; exact gk_fault LS.out FF.out.2
        rw [gz] at hr
        obtain rfl := er_zero hr
        obtain ⟨hwo, how⟩ : Wo w9 wr.heap.size v Y ∧ Ow w9 wr.heap.size ur [] := by
          rcases hy with ⟨h, -⟩ | ⟨-, -, -, out2, hl2, h1, h2⟩
          · exact absurd gz h
          · have e2 : out2 = sm := hl2.one (by rw [← SM.out]; exact gk_lo LS.out)
            subst e2
            have e3 := gk_same (ks := ks) (Y := X) (out := out) out.length (Nat.le_refl _)
            rw [SM.out, HY.out.1] at e3
            rw [e3] at h1 h2
            exact ⟨h1, h2⟩
        have LZ0 : Wl w9 v Y := hwo.l
        obtain ⟨e1, d1, e2, d2, e3, d3, e4, d4, e5, d5, hv⟩ := wl_shape9 LZ0
        subst hv
        have LZ : Hid (Wl w9 (.agg #[.int .i64 Y.turn, .int .i64 Y.next, .int .i64 Y.wide, .int .i64 Y.high, .slice e1 Y.gs.length d1, .slice e2 Y.os.length d2, .slice e3 Y.gold.length d3, .slice e4 Y.us.length d4, .slice e5 Y.qs.length d5]) Y) := LZ0
        obtain ⟨na, nc, rfl⟩ := how.len
        have B9 : Hid (Below w.heap.size w w9) := B8.out.trans (hb.mono B8.out.size)
        have X9 : Hid (Bw w9 w.heap.size X (.slice p1 X.gs.length q1) (.slice p2 X.os.length q2) (.slice p3 X.gold.length q3) (.slice p4 X.us.length q4) (.slice p5 X.qs.length q5)) := X8.out.below hb X8.out.lt
        have Y9 : Hid (Bw w9 bx Y (.slice s1 Y.gs.length l1) (.slice s2 Y.os.length l2) (.slice s3 Y.gold.length l3) (.slice s4 Y.us.length l4) (.slice s5 Y.qs.length l5)) := Y8.out.below hb Y8.out.lt
        have LY9 : Hid (Wl w9 (.agg #[.int .i64 Y.turn, .int .i64 Y.next, .int .i64 Y.wide, .int .i64 Y.high, .slice s1 Y.gs.length l1, .slice s2 Y.os.length l2, .slice s3 Y.gold.length l3, .slice s4 Y.us.length l4, .slice s5 Y.qs.length l5]) Y) := LY8.out.below hb
        simp only [List.length_nil]
        clear hb hr hy hwo how LZ0 gz x0 x1 x2 x3 x4 x5 x6 x7 x8 X8 Y8 LY8 OL8 B8
        go_upto_region 22 with fail
        have BA : Hid (Below w9.heap.size w9 (w9.alloc (Obj.cells #[.int .i64 Y.turn, .int .i64 Y.next, .int .i64 Y.wide, .int .i64 Y.high, .slice e1 Y.gs.length d1, .slice e2 Y.os.length d2, .slice e3 Y.gold.length d3, .slice e4 Y.us.length d4, .slice e5 Y.qs.length d5] 29))) := (Below.refl _ _).alloc (Nat.le_refl _) _
        obtain ⟨by_, hby⟩ : ∃ z, w9.heap.size = z := ⟨_, rfl⟩
        have ZA : Hid (Bw (w9.alloc (Obj.cells #[.int .i64 Y.turn, .int .i64 Y.next, .int .i64 Y.wide, .int .i64 Y.high, .slice e1 Y.gs.length d1, .slice e2 Y.os.length d2, .slice e3 Y.gold.length d3, .slice e4 Y.us.length d4, .slice e5 Y.qs.length d5] 29)) by_ Y (.slice e1 Y.gs.length d1) (.slice e2 Y.os.length d2) (.slice e3 Y.gold.length d3) (.slice e4 Y.us.length d4) (.slice e5 Y.qs.length d5)) := Bw.mk' Y _ _ _ _ _ hby
        have BB : Hid (Below w.heap.size w (w9.alloc (Obj.cells #[.int .i64 Y.turn, .int .i64 Y.next, .int .i64 Y.wide, .int .i64 Y.high, .slice e1 Y.gs.length d1, .slice e2 Y.os.length d2, .slice e3 Y.gold.length d3, .slice e4 Y.us.length d4, .slice e5 Y.qs.length d5] 29))) := B9.out.trans (BA.out.mono B9.out.size)
        have XB : Hid (Bw (w9.alloc (Obj.cells #[.int .i64 Y.turn, .int .i64 Y.next, .int .i64 Y.wide, .int .i64 Y.high, .slice e1 Y.gs.length d1, .slice e2 Y.os.length d2, .slice e3 Y.gold.length d3, .slice e4 Y.us.length d4, .slice e5 Y.qs.length d5] 29)) w.heap.size X (.slice p1 X.gs.length q1) (.slice p2 X.os.length q2) (.slice p3 X.gold.length q3) (.slice p4 X.us.length q4) (.slice p5 X.qs.length q5)) := X9.out.below BA.out X9.out.lt
        have YB : Hid (Bw (w9.alloc (Obj.cells #[.int .i64 Y.turn, .int .i64 Y.next, .int .i64 Y.wide, .int .i64 Y.high, .slice e1 Y.gs.length d1, .slice e2 Y.os.length d2, .slice e3 Y.gold.length d3, .slice e4 Y.us.length d4, .slice e5 Y.qs.length d5] 29)) bx Y (.slice s1 Y.gs.length l1) (.slice s2 Y.os.length l2) (.slice s3 Y.gold.length l3) (.slice s4 Y.us.length l4) (.slice s5 Y.qs.length l5)) := Y9.out.below BA.out Y9.out.lt
        have LYB : Hid (Wl (w9.alloc (Obj.cells #[.int .i64 Y.turn, .int .i64 Y.next, .int .i64 Y.wide, .int .i64 Y.high, .slice e1 Y.gs.length d1, .slice e2 Y.os.length d2, .slice e3 Y.gold.length d3, .slice e4 Y.us.length d4, .slice e5 Y.qs.length d5] 29)) (.agg #[.int .i64 Y.turn, .int .i64 Y.next, .int .i64 Y.wide, .int .i64 Y.high, .slice s1 Y.gs.length l1, .slice s2 Y.os.length l2, .slice s3 Y.gold.length l3, .slice s4 Y.us.length l4, .slice s5 Y.qs.length l5]) Y) := LY9.out.below BA.out
        have LZB : Hid (Wl (w9.alloc (Obj.cells #[.int .i64 Y.turn, .int .i64 Y.next, .int .i64 Y.wide, .int .i64 Y.high, .slice e1 Y.gs.length d1, .slice e2 Y.os.length d2, .slice e3 Y.gold.length d3, .slice e4 Y.us.length d4, .slice e5 Y.qs.length d5] 29)) (.agg #[.int .i64 Y.turn, .int .i64 Y.next, .int .i64 Y.wide, .int .i64 Y.high, .slice e1 Y.gs.length d1, .slice e2 Y.os.length d2, .slice e3 Y.gold.length d3, .slice e4 Y.us.length d4, .slice e5 Y.qs.length d5]) Y) := LZ.out.below BA.out
        rw [hby]
        clear BA B9 X9 Y9 LY9 LZ hby
        generalize w9.alloc (Obj.cells #[.int .i64 Y.turn, .int .i64 Y.next, .int .i64 Y.wide, .int .i64 Y.high, .slice e1 Y.gs.length d1, .slice e2 Y.os.length d2, .slice e3 Y.gold.length d3, .slice e4 Y.us.length d4, .slice e5 Y.qs.length d5] 29) = wB at *
        obtain ⟨z0, z1, z2, z3, z4, z5, z6, z7, z8⟩ := ZA.out
        obtain ⟨y0, y1, y2, y3, y4, y5, y6, y7, y8⟩ := YB.out
        go_wp2_with fail
        refine (worlds_like _ _ Y wB LYB.out LZB.out).mono ?_
        rintro e wC ⟨rfl, hb⟩
        have BC : Hid (Below w.heap.size w wC) := BB.out.trans (hb.mono BB.out.size)
        have XC : Hid (Bw wC w.heap.size X (.slice p1 X.gs.length q1) (.slice p2 X.os.length q2) (.slice p3 X.gold.length q3) (.slice p4 X.us.length q4) (.slice p5 X.qs.length q5)) := XB.out.below hb XB.out.lt
        have YC : Hid (Bw wC bx Y (.slice s1 Y.gs.length l1) (.slice s2 Y.os.length l2) (.slice s3 Y.gold.length l3) (.slice s4 Y.us.length l4) (.slice s5 Y.qs.length l5)) := YB.out.below hb YB.out.lt
        have LYC : Hid (Wl wC (.agg #[.int .i64 Y.turn, .int .i64 Y.next, .int .i64 Y.wide, .int .i64 Y.high, .slice s1 Y.gs.length l1, .slice s2 Y.os.length l2, .slice s3 Y.gold.length l3, .slice s4 Y.us.length l4, .slice s5 Y.qs.length l5]) Y) := LYB.out.below hb
        clear hb z0 z1 z2 z3 z4 z5 z6 z7 z8 y0 y1 y2 y3 y4 y5 y6 y7 y8 ZA BB XB YB LYB LZB
        have x7 := XC.out.c7
        have y7 := YC.out.c7
        have hus : Y.us.length = X.us.length := ST.out.1
        have husi : ((Y.us.length : Nat) : Int) = (X.us.length : Nat) := by rw [hus]
        have XUS : Hid (Y.us.length = X.us.length) := hus
        rw [← hus] at x7
        clear hus husi
        go_upto_region 25 with fail
        clear x7 y7
        go_wp2_with fail
        go_loopw [24] (fun v24 V => ∃ q : Nat, q ≤ Y.us.length ∧ v24 = .int .i64 (q : Nat) ∧ Below wC.heap.size wC V) (fun v24 _ => Y.us.length - (intOf v24).toNat)
        case atStart => exact ⟨0, Nat.zero_le _, rfl, Below.refl _ _⟩
        case round =>
          obtain ⟨q, hq, rfl, hb⟩ := hrel
          have BQ : Hid (Below wC.heap.size wC wr) := hb
          have YQ : Hid (Bw wr bx Y (.slice s1 Y.gs.length l1) (.slice s2 Y.os.length l2) (.slice s3 Y.gold.length l3) (.slice s4 Y.us.length l4) (.slice s5 Y.qs.length l5)) := YC.out.below hb YC.out.lt
          have XQ : Hid (Bw wr w.heap.size X (.slice p1 X.gs.length q1) (.slice p2 X.os.length q2) (.slice p3 X.gold.length q3) (.slice p4 X.us.length q4) (.slice p5 X.qs.length q5)) := XC.out.below hb XC.out.lt
          have BW : Hid (Below w.heap.size w wr) := BC.out.trans (hb.mono BC.out.size)
          have y7 := YQ.out.c7
          clear hb
          by_cases hqu : q = Y.us.length
          · subst hqu
            go_wp2
            go_ret
            exact ⟨rfl, ⟨BW.out.os, BW.out.tape, BW.out.output, BW.out.size, BW.out.block⟩⟩
          · have hql : q < Y.us.length := by omega
            have hqx : q < X.us.length := by rw [← XUS.out]; exact hql
            obtain ⟨b, hbq⟩ : ∃ b, Y.us[q]? = some b := ⟨_, List.getElem?_eq_getElem hql⟩
            obtain ⟨a, haq⟩ : ∃ a, X.us[q]? = some a := ⟨_, List.getElem?_eq_getElem hqx⟩
            obtain ⟨st1, st2⟩ := ST.out.2 q a b haq hbq
            obtain ⟨xs, rfl, hxs⟩ : ∃ xs, s4 = some xs ∧ Unc wr (xs.add (q * 8)) b := by
              obtain ⟨k1, k2, k3, k4, k5, ev, r1, r2, r3, hu, r5⟩ := LYC.out.below BQ.out
              have e9 : k4 = .slice s4 Y.us.length l4 := by simp only [Value.agg.injEq, Array.mk.injEq, List.cons.injEq] at ev; exact ev.2.2.2.2.2.2.2.1.symm
              subst e9
              obtain ⟨a', c', e', -, -, hx⟩ := hu
              injection e' with e1' e2' e3'
              subst e1'
              obtain ⟨x, e, -, hc⟩ := hx (by rintro hn; rw [hn] at hql; simp at hql)
              exact ⟨x, e, hc q b hbq⟩
            obtain ⟨xp, rfl, hxp⟩ : ∃ xp, p4 = some xp ∧ Unc wr (xp.add (q * 8)) a := by
              obtain ⟨k1, k2, k3, k4, k5, ev, r1, r2, r3, hu, r5⟩ := H.out.below BW.out
              have e9 : k4 = .slice p4 X.us.length q4 := by simp only [Value.agg.injEq, Array.mk.injEq, List.cons.injEq] at ev; exact ev.2.2.2.2.2.2.2.1.symm
              subst e9
              obtain ⟨a', c', e', -, -, hx⟩ := hu
              injection e' with e1' e2' e3'
              subst e1'
              obtain ⟨x, e, -, hc⟩ := hx (by rintro hn; rw [hn] at hqx; simp at hqx)
              exact ⟨x, e, hc q a haq⟩
            obtain ⟨-, -, -, c3, c4, -, -, -⟩ := hxs
            obtain ⟨-, -, -, g3, g4, -, -, -⟩ := hxp
            rw [st1] at c3
            rw [st2] at c4
            have x7 := XQ.out.c7
            have hqi : ((q : Nat) : Int) < (Y.us.length : Nat) := by omega
            have hqj : ((q : Nat) : Int) < (X.us.length : Nat) := by omega
            clear haq hbq st1 st2
            go_upto_region 28 with fail
            go_quiet (fail)
            go_wp2
            go_round
            case rel => exact ⟨q + 1, by omega, by go_num, ⟨BQ.out.os, BQ.out.tape, BQ.out.output, BQ.out.size, BQ.out.block⟩⟩
            case measure => simp [intOf]; omega
      · have hqk : q < out.length := by omega
        have hqi : ((q : Nat) : Int) < (out.length : Nat) := by omega
        obtain ⟨o, ho⟩ : ∃ o, out[q]? = some o := ⟨_, List.getElem?_eq_getElem hqk⟩
        have HO : Hid (out[q]? = some o) := ho
        have SL : Hid ((gk ks X out q).length ≤ 60) := by have h9 := (gk_sub (ks := ks) (Y := X) (out := out) q (by omega)).length_le; rw [List.length_take] at h9; unfold Hid; omega
        obtain ⟨n, hn⟩ : ∃ n, (gv ks X out q).2.length = n := ⟨_, rfl⟩
        have HN : Hid ((gv ks X out q).2.length = n) := hn
        have nl : n ≤ 60 := by rw [← hn]; exact Nat.le_trans (gv_short q) (by omega)
        have RR : Hid (Ro wr (.slice ra ref.length rc) ref) := RO7.out.below BQ.out
        rw [hn]
        cases hg : given1 ks (gv ks X out q).1 o with
        | none =>
          have hx := next_no hqk ho hg
          rw [hn, HY.out.2] at hx
          have hnl : n < ref.length := (List.getElem?_eq_some_iff.1 hx).1
          have hni : ((n : Nat) : Int) < (ref.length : Nat) := by omega
          obtain ⟨xr, rfl, hxr⟩ : ∃ xr, ra = some xr ∧ wr.cell? (xr.add n) = some (.int .i64 (q : Nat)) := ro_at RR.out hx
          have G1 : Hid (gk ks X out (q + 1) = gk ks X out q) := gk_no ho hg
          have N1 : Hid ((gv ks X out (q + 1)).2.length = n + 1) := by have h9 := gv_no (ks := ks) (Y := X) ho hg; unfold Hid; rw [h9]; simp [hn]
          clear ho hn hg hx
          go_wp2
          go_round
          case rel => exact ⟨q + 1, by omega, by go_num, by rw [N1.out]; go_num, by rw [G1.out]; exact OS.out, BQ.out⟩
          case measure => simp [intOf]; omega
        | some Z =>
          have hx := next_yes hqk ho hg
          rw [hn, HY.out.2] at hx
          have G1 : Hid (gk ks X out (q + 1) = gk ks X out q ++ [o]) := gk_yes ho hg
          have N1 : Hid ((gv ks X out (q + 1)).2.length = n) := by have h9 := gv_yes (ks := ks) (Y := X) ho hg; unfold Hid; rw [h9]; exact hn
          obtain ⟨xo, rfl, hxo⟩ : ∃ xo, plo = some xo ∧ Orc wr (xo.add (q * 4)) o := by
            obtain ⟨a', c', e', -, -, hz⟩ := OO.out.below BQ.out
            injection e' with e1' e2' e3'
            subst e1'
            obtain ⟨x, e, -, hc⟩ := hz (by rintro h9; rw [h9] at hqk; simp at hqk)
            exact ⟨x, e, hc q o ho⟩
          obtain ⟨r0, r1, r2, r3⟩ := hxo
          have OA : Hid (Oro (wr.alloc (Obj.cells #[.int .i64 o.player, .int .i64 o.unit, .int .i64 o.what, .int .i64 o.arg] 39)) w7.heap.size u17 (gk ks X out q)) := OS.out.alloc _
          have RC : Hid (Orc (wr.alloc (Obj.cells #[.int .i64 o.player, .int .i64 o.unit, .int .i64 o.what, .int .i64 o.arg] 39)) ⟨wr.heap.size, 0, none⟩ o) := Orc.mk' (w := wr) o rfl
          have BB : Hid (Below wr.heap.size wr (wr.alloc (Obj.cells #[.int .i64 o.player, .int .i64 o.unit, .int .i64 o.what, .int .i64 o.arg] 39))) := (Below.refl _ _).alloc (Nat.le_refl _) _
          have SB : Hid (w7.heap.size ≤ (wr.alloc (Obj.cells #[.int .i64 o.player, .int .i64 o.unit, .int .i64 o.what, .int .i64 o.arg] 39)).heap.size) := Nat.le_trans BQ.out.size BB.out.size
          clear ho hn hg
          by_cases hnl : n < ref.length
          · obtain ⟨y, hy⟩ : ∃ y, ref[n]? = some y := ⟨_, List.getElem?_eq_getElem hnl⟩
            have hne : y ≠ (q : Int) := hx y hy
            have hneb : (y == ((q : Nat) : Int)) = false := beq_eq_false_iff_ne.2 hne
            have hni : ((n : Nat) : Int) < (ref.length : Nat) := by omega
            obtain ⟨xr, rfl, hxr⟩ : ∃ xr, ra = some xr ∧ wr.cell? (xr.add n) = some (.int .i64 y) := ro_at RR.out hy
            clear hx hy hne
            go_wp2_with (at_builtin; refine app_or _ rfl _ _ rfl w7.heap.size _ (gk ks X out q) rfl OA.out wr.heap.size o rfl RC.out (by have := SL.out; omega) SB.out ?_)
            intro g cap w8 o8 g8 a8 l8
            have B8 : Hid (Below w7.heap.size w7 w8) := (BQ.out.trans (BB.out.mono BQ.out.size)).grown g8 SB.out (fun k hk => (OS.out.block k hk).1)
            have O8 : Hid (Oro w8 w7.heap.size (.slice (some ⟨g, 0, none⟩) ((gk ks X out q).length + 1) cap) (gk ks X out (q + 1))) := by unfold Hid; rw [G1.out]; exact o8
            clear o8 g8 a8 l8 r0 r1 r2 r3 hxr
            go_wp2
            go_round
            case rel => exact ⟨q + 1, by omega, by go_num, by rw [N1.out], O8.out, B8.out⟩
            case measure => simp [intOf]; omega
          · have hni : ¬ ((n : Nat) : Int) < (ref.length : Nat) := by omega
            clear hx
            go_wp2_with (at_builtin; refine app_or _ rfl _ _ rfl w7.heap.size _ (gk ks X out q) rfl OA.out wr.heap.size o rfl RC.out (by have := SL.out; omega) SB.out ?_)
            intro g cap w8 o8 g8 a8 l8
            have B8 : Hid (Below w7.heap.size w7 w8) := (BQ.out.trans (BB.out.mono BQ.out.size)).grown g8 SB.out (fun k hk => (OS.out.block k hk).1)
            have O8 : Hid (Oro w8 w7.heap.size (.slice (some ⟨g, 0, none⟩) ((gk ks X out q).length + 1) cap) (gk ks X out (q + 1))) := by unfold Hid; rw [G1.out]; exact o8
            clear o8 g8 a8 l8 r0 r1 r2 r3
            go_wp2
            go_round
            case rel => exact ⟨q + 1, by omega, by go_num, by rw [N1.out], O8.out, B8.out⟩
            case measure => simp [intOf]; omega
end Go.Proofs.Ytghkchnfcfnejaa.turnRefuses

