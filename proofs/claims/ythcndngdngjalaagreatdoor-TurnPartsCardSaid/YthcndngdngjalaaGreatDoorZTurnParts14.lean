/- TurnParts: the walk. -/
import Derived.Test.YthcndngdngjalaaGreatDoorZTurnParts13
import Derived.BigQuiet
namespace Go.Proofs.YthcndngdngjalaaGreatDoor.turnParts
open Go.RowKit Go.Proofs.YthcndngdngjalaaGreatDoor.So
set_option linter.unusedVariables false

/-- what stays while the fact is asked. -/
def Fx (w : World) (X : WV) (s1 s2 s3 s4 s5 : Value) (z : Nat) (u1 u2 u3 u4 u5 : Value) (A : World) : Prop := Below w.heap.size w A ∧ Bw A w.heap.size X s1 s2 s3 s4 s5 ∧ Wx A z (.int .i64 0) (.int .i64 4) (.int .i64 4) (.int .i64 2) u1 u2 u3 u4 u5 ∧ Wl A (.agg #[.int .i64 0, .int .i64 4, .int .i64 4, .int .i64 2, u1, u2, u3, u4, u5]) S3 ∧ Sd A
theorem Fx.below {w : World} {X : WV} {s1 s2 s3 s4 s5 : Value} {z : Nat} {u1 u2 u3 u4 u5 : Value} {A B : World} (h : Fx w X s1 s2 s3 s4 s5 z u1 u2 u3 u4 u5 A) (hb : Below A.heap.size A B) : Fx w X s1 s2 s3 s4 s5 z u1 u2 u3 u4 u5 B :=
  ⟨h.1.trans (hb.mono h.1.size), h.2.1.below hb h.2.1.lt, h.2.2.1.below hb h.2.2.1.lt, h.2.2.2.1.below hb, h.2.2.2.2.below hb⟩
set_option maxRecDepth 100000 in
set_option maxHeartbeats 80000000 in
theorem walk (vk : Value) (ks : List KV) (vw : Value) (X : WV) (vl : Value) (ls : List (List OrV)) (cut : Int) (w : World)
    (h0 : Kl w vk ks ∧ ∀ k ∈ ks, k.b.size ≤ maxLen) (h1 : Wl w vw X ∧ ∀ n ∈ Wd.nums X, Wd.In64 n) (h2 : Oll w vl ls) (hsd : Sd w) :
    Calls Tryz.prog 5 #[vk, vw, vl, .int .i64 cut] w fun e w' => e = .returned (.bool true) ∧ Below w.heap.size w w' := by
  have K : Hid (Kl w vk ks ∧ ∀ k ∈ ks, k.b.size ≤ 9223372036854775807) := ⟨h0.1, fun k hk => by have := h0.2 k hk; unfold maxLen at this; omega⟩
  have H : Hid (Wl w vw X) := h1.1
  have L : Hid (Oll w vl ls) := h2
  have SDH : Hid (Sd w) := hsd
  obtain ⟨p1, q1, p2, q2, p3, q3, p4, q4, p5, q5, rfl⟩ := wl_shape9 h1.1
  obtain ⟨pk, qk, rfl, -⟩ := h0.1
  obtain ⟨pl, ql, rfl, lc1, lc2, -⟩ := h2
  clear hsd
  clear h0 h1
  go_enter Tryz.func5, Tryz.ntmps5
  go_upto_region 1 with fail
  have B0 : Hid (Below w.heap.size w (w.alloc (Obj.cells #[.int .i64 X.turn, .int .i64 X.next, .int .i64 X.wide, .int .i64 X.high, .slice p1 X.gs.length q1, .slice p2 X.os.length q2, .slice p3 X.gold.length q3, .slice p4 X.us.length q4, .slice p5 X.qs.length q5] 29))) := (Below.refl _ _).alloc (Nat.le_refl _) _
  have X0 : Hid (Bw (w.alloc (Obj.cells #[.int .i64 X.turn, .int .i64 X.next, .int .i64 X.wide, .int .i64 X.high, .slice p1 X.gs.length q1, .slice p2 X.os.length q2, .slice p3 X.gold.length q3, .slice p4 X.us.length q4, .slice p5 X.qs.length q5] 29)) w.heap.size X (.slice p1 X.gs.length q1) (.slice p2 X.os.length q2) (.slice p3 X.gold.length q3) (.slice p4 X.us.length q4) (.slice p5 X.qs.length q5)) := Bw.mk' X _ _ _ _ _ rfl
  generalize (w.alloc (Obj.cells #[.int .i64 X.turn, .int .i64 X.next, .int .i64 X.wide, .int .i64 X.high, .slice p1 X.gs.length q1, .slice p2 X.os.length q2, .slice p3 X.gold.length q3, .slice p4 X.us.length q4, .slice p5 X.qs.length q5] 29)) = w0 at *
  go_wp2_with fail
  refine (small_any w0).mono ?_
  rintro e w1 ⟨u, rfl, ho, hb⟩
  have B1 : Hid (Below w.heap.size w w1) := B0.out.trans (hb.mono B0.out.size)
  have X1 : Hid (Bw w1 w.heap.size X (.slice p1 X.gs.length q1) (.slice p2 X.os.length q2) (.slice p3 X.gold.length q3) (.slice p4 X.us.length q4) (.slice p5 X.qs.length q5)) := X0.out.below hb X0.out.lt
  have LS0 := ho.l
  obtain ⟨y1, y2, y3, y4, y5, rfl, o1, o2, o3, o4, o5⟩ := ho
  obtain ⟨m1, n1, rfl⟩ := o1.len
  obtain ⟨m2, n2, rfl⟩ := o2.len
  obtain ⟨m3, n3, rfl⟩ := o3.len
  obtain ⟨m4, n4, rfl⟩ := o4.len
  obtain ⟨m5, n5, rfl⟩ := o5.len
  have LS : Hid (Wl w1 (.agg #[.int .i64 0, .int .i64 4, .int .i64 4, .int .i64 2, .slice m1 8 n1, .slice m2 8 n2, .slice m3 2 n3, .slice m4 3 n4, .slice m5 0 n5]) S3) := LS0
  obtain ⟨g1, g2, g3, g4, g5, g6, g7, g8, g9⟩ := s3_eqs
  simp only [g1, g2, g3, g4, g5, g6, g7, g8, g9]
  clear g1 g2 g3 g4 g5 g6 g7 g8 g9 hb o1 o2 o3 o4 o5 X0 B0 LS0
  go_upto_region 2 with fail
  have BA : Hid (Below w1.heap.size w1 (w1.alloc (Obj.cells #[.int .i64 0, .int .i64 4, .int .i64 4, .int .i64 2, .slice m1 8 n1, .slice m2 8 n2, .slice m3 2 n3, .slice m4 3 n4, .slice m5 0 n5] 29))) := (Below.refl _ _).alloc (Nat.le_refl _) _
  obtain ⟨z, hz⟩ : ∃ z, w1.heap.size = z := ⟨_, rfl⟩
  have W2 : Hid (Wx (w1.alloc (Obj.cells #[.int .i64 0, .int .i64 4, .int .i64 4, .int .i64 2, .slice m1 8 n1, .slice m2 8 n2, .slice m3 2 n3, .slice m4 3 n4, .slice m5 0 n5] 29)) z (.int .i64 0) (.int .i64 4) (.int .i64 4) (.int .i64 2) (.slice m1 8 n1) (.slice m2 8 n2) (.slice m3 2 n3) (.slice m4 3 n4) (.slice m5 0 n5)) := Wx.new _ _ _ _ _ _ _ _ _ hz
  rw [hz]
  generalize (w1.alloc (Obj.cells #[.int .i64 0, .int .i64 4, .int .i64 4, .int .i64 2, .slice m1 8 n1, .slice m2 8 n2, .slice m3 2 n3, .slice m4 3 n4, .slice m5 0 n5] 29)) = w2 at *
  have B2 : Hid (Below w.heap.size w w2) := B1.out.trans (BA.out.mono B1.out.size)
  have X2 : Hid (Bw w2 w.heap.size X (.slice p1 X.gs.length q1) (.slice p2 X.os.length q2) (.slice p3 X.gold.length q3) (.slice p4 X.us.length q4) (.slice p5 X.qs.length q5)) := X1.out.below BA.out X1.out.lt
  have L2 : Hid (Wl w2 (.agg #[.int .i64 0, .int .i64 4, .int .i64 4, .int .i64 2, .slice m1 8 n1, .slice m2 8 n2, .slice m3 2 n3, .slice m4 3 n4, .slice m5 0 n5]) S3) := LS.out.below BA.out
  clear X1 B1 BA LS hz
  go_upto_region 4 with fail
  go_cut [11, 12] (fun v11 v12 V => v12 = .nilIface ∧ ∃ bf, v11 = .pointer (some ⟨bf, 0, none⟩) ∧ V.cell? ⟨bf, 0, none⟩ = some (.int .i64 2) ∧ Below w.heap.size w V ∧ Bw V w.heap.size X (.slice p1 X.gs.length q1) (.slice p2 X.os.length q2) (.slice p3 X.gold.length q3) (.slice p4 X.us.length q4) (.slice p5 X.qs.length q5))
  case first =>
    refine wp_region_tree (.read 1 (.three 0 (.two 2 (.two 3 (.read 4 (.read 5 (.read 6 (.one 7 (.one 8 .leaf))))) 7 (.one 3 (.read 4 (.read 5 (.read 6 (.one 8 .leaf)))))) 7 (.one 2 (.one 3 (.read 4 (.read 5 (.read 6 (.one 8 .leaf))))))) 2 (.two 0 (.two 3 (.read 4 (.read 5 (.read 6 (.one 7 (.one 8 .leaf))))) 7 (.one 3 (.read 4 (.read 5 (.read 6 (.one 8 .leaf)))))) 7 (.one 0 (.one 3 (.read 4 (.read 5 (.read 6 (.one 8 .leaf))))))) 7 (.two 0 (.one 2 (.one 3 (.read 4 (.read 5 (.read 6 (.one 8 .leaf)))))) 2 (.one 0 (.one 3 (.read 4 (.read 5 (.read 6 (.one 8 .leaf))))))))) [(false, 0), (false, 1), (false, 2), (false, 3), (false, 4), (false, 5), (false, 6), (false, 7), (false, 8)] [(false, 9)] (fun V => Wx V z (.int .i64 0) (.int .i64 4) (.int .i64 4) (.int .i64 2) (.slice m1 8 n1) (.slice m2 8 n2) (.slice m3 2 n3) (.slice m4 3 n4) (.slice m5 0 n5)) (by kernel_rfl) (by kernel_rfl) (by kernel_rfl) (by decide +kernel) (by decide +kernel) W2.out ?_
    have D0 : Hid (Below w2.heap.size w2 { w2 with drawn := w2.drawn + 1 }) := (Below.refl _ _).drew
    generalize ({ w2 with drawn := w2.drawn + 1 } : World) = v0 at *
    have F : Hid (Fx w X (.slice p1 X.gs.length q1) (.slice p2 X.os.length q2) (.slice p3 X.gold.length q3) (.slice p4 X.us.length q4) (.slice p5 X.qs.length q5) z (.slice m1 8 n1) (.slice m2 8 n2) (.slice m3 2 n3) (.slice m4 3 n4) (.slice m5 0 n5) v0) := Fx.below ⟨B2.out, X2.out, W2.out, L2.out, SDH.out.below B2.out⟩ D0.out
    clear W2 X2 B2 L2 D0
    refine tr_read rfl (.agg #[.int .i64 0, .int .i64 4, .int .i64 4, .int .i64 2, .slice m1 8 n1, .slice m2 8 n2, .slice m3 2 n3, .slice m4 3 n4, .slice m5 0 n5]) (by go_simp) (fun V hV => by obtain ⟨x0, x1, x2, x3, x4, x5, x6, x7, x8⟩ := hV.cells; go_simp) ?_
    go_simp
    refine tr_three ?_ ?_ ?_
    · refine st_call rfl 26 #[] (by go_simp) (by go_simp) ?_
      refine (sorts_any v0).mono ?_
      rintro e v1 ⟨ku, rfl, hk, hb⟩
      have F9 : Hid (Fx w X (.slice p1 X.gs.length q1) (.slice p2 X.os.length q2) (.slice p3 X.gold.length q3) (.slice p4 X.us.length q4) (.slice p5 X.qs.length q5) z (.slice m1 8 n1) (.slice m2 8 n2) (.slice m3 2 n3) (.slice m4 3 n4) (.slice m5 0 n5) v1) := F.out.below hb
      clear F
      have F := F9
      clear F9
      have KU : Hid (Kl v1 ku SK) := hk
      refine ⟨_, rfl, F.out.2.2.1, ?_⟩
      clear hk hb
      go_simp
      refine tr_two ?_ ?_
      · have ba : Below v1.heap.size v1 (v1.alloc (Obj.cells #[.slice none 0 0, .slice none 0 0] 48)) := (Below.refl _ _).alloc (Nat.le_refl _) _
        refine st_value rfl (.slice (some ⟨v1.heap.size, 0, none⟩) 2 2) (v1.alloc (Obj.cells #[.slice none 0 0, .slice none 0 0] 48)) (by go_simp) (by go_simp) (F.out.below ba).2.2.1 ?_
        obtain ⟨g, hg⟩ : ∃ g, v1.heap.size = g := ⟨_, rfl⟩
        have OL : Hid (Oll (v1.alloc (Obj.cells #[.slice none 0 0, .slice none 0 0] 48)) (.slice (some ⟨g, 0, none⟩) 2 2) [[], []]) := by rw [← hg]; exact oll_lit v1
        rw [hg]
        have F9 : Hid (Fx w X (.slice p1 X.gs.length q1) (.slice p2 X.os.length q2) (.slice p3 X.gold.length q3) (.slice p4 X.us.length q4) (.slice p5 X.qs.length q5) z (.slice m1 8 n1) (.slice m2 8 n2) (.slice m3 2 n3) (.slice m4 3 n4) (.slice m5 0 n5) (v1.alloc (Obj.cells #[.slice none 0 0, .slice none 0 0] 48))) := F.out.below ba
        clear F
        have F := F9
        clear F9
        have K9 : Hid (Kl (v1.alloc (Obj.cells #[.slice none 0 0, .slice none 0 0] 48)) ku SK) := KU.out.below ba
        clear KU
        have KU := K9
        clear K9
        clear ba hg
        generalize v1.alloc (Obj.cells #[.slice none 0 0, .slice none 0 0] 48) = v2 at *
        go_simp
        refine tr_two ?_ ?_
        · refine st_call rfl 25 #[ku, .agg #[.int .i64 0, .int .i64 4, .int .i64 4, .int .i64 2, .slice m1 8 n1, .slice m2 8 n2, .slice m3 2 n3, .slice m4 3 n4, .slice m5 0 n5], .slice (some ⟨g, 0, none⟩) 2 2] (by go_simp) (by go_simp) ?_
          refine (Play_any ku _ _ SK S3 [[], []] v2 KU.out sm_names F.out.2.2.2.1 OL.out F.out.2.2.2.2).mono ?_
          rintro e v3 ⟨v, r, FF, rfl, hr, hf, hb⟩
          obtain ⟨rfl, Q, hQ2, hwo⟩ := tp_fact hf hr
          obtain ⟨f1, h1, f2, h2, f3, h3, f4, h4, f5, h5, rfl⟩ := wl_shape9 hwo.l
          have Q2 : Hid (Q.turn = 2) := hQ2
          have F9 : Hid (Fx w X (.slice p1 X.gs.length q1) (.slice p2 X.os.length q2) (.slice p3 X.gold.length q3) (.slice p4 X.us.length q4) (.slice p5 X.qs.length q5) z (.slice m1 8 n1) (.slice m2 8 n2) (.slice m3 2 n3) (.slice m4 3 n4) (.slice m5 0 n5) v3) := F.out.below hb
          clear F
          have F := F9
          clear F9
          refine ⟨_, rfl, F.out.2.2.1, ?_⟩
          clear hr hf hb hwo hQ2 KU OL
          go_simp
          refine tr_read rfl (.tuple #[.agg #[.int .i64 Q.turn, .int .i64 Q.next, .int .i64 Q.wide, .int .i64 Q.high, .slice f1 Q.gs.length h1, .slice f2 Q.os.length h2, .slice f3 Q.gold.length h3, .slice f4 Q.us.length h4, .slice f5 Q.qs.length h5], .nilIface]) (by go_simp) (fun V hV => by go_simp) ?_
          go_simp
          refine tr_read rfl (.agg #[.int .i64 Q.turn, .int .i64 Q.next, .int .i64 Q.wide, .int .i64 Q.high, .slice f1 Q.gs.length h1, .slice f2 Q.os.length h2, .slice f3 Q.gold.length h3, .slice f4 Q.us.length h4, .slice f5 Q.qs.length h5]) (by go_simp) (fun V hV => by go_simp) ?_
          go_simp
          refine tr_read rfl (.nilIface) (by go_simp) (fun V hV => by go_simp) ?_
          go_simp
          refine tr_one ?_
          have ba : Below v3.heap.size v3 (v3.alloc (Obj.cells #[.int .i64 0, .int .i64 0, .int .i64 0, .int .i64 0, .slice none 0 0, .slice none 0 0, .slice none 0 0, .slice none 0 0, .slice none 0 0] 29)) := (Below.refl _ _).alloc (Nat.le_refl _) _
          refine st_value rfl (.pointer (some ⟨v3.heap.size, 0, none⟩)) (v3.alloc (Obj.cells #[.int .i64 0, .int .i64 0, .int .i64 0, .int .i64 0, .slice none 0 0, .slice none 0 0, .slice none 0 0, .slice none 0 0, .slice none 0 0] 29)) (by go_simp) (by go_simp) (F.out.below ba).2.2.1 ?_
          obtain ⟨bf, hbf⟩ : ∃ g, v3.heap.size = g := ⟨_, rfl⟩
          have ZE : Hid (Wx (v3.alloc (Obj.cells #[.int .i64 0, .int .i64 0, .int .i64 0, .int .i64 0, .slice none 0 0, .slice none 0 0, .slice none 0 0, .slice none 0 0, .slice none 0 0] 29)) bf (.int .i64 0) (.int .i64 0) (.int .i64 0) (.int .i64 0) (.slice none 0 0) (.slice none 0 0) (.slice none 0 0) (.slice none 0 0) (.slice none 0 0) ∧ w.heap.size < bf ∧ z < bf) := ⟨Wx.new (w := v3) _ _ _ _ _ _ _ _ _ hbf, by rw [← hbf]; exact F.out.2.1.lt, by rw [← hbf]; exact F.out.2.2.1.lt⟩
          rw [hbf]
          have F9 : Hid (Fx w X (.slice p1 X.gs.length q1) (.slice p2 X.os.length q2) (.slice p3 X.gold.length q3) (.slice p4 X.us.length q4) (.slice p5 X.qs.length q5) z (.slice m1 8 n1) (.slice m2 8 n2) (.slice m3 2 n3) (.slice m4 3 n4) (.slice m5 0 n5) (v3.alloc (Obj.cells #[.int .i64 0, .int .i64 0, .int .i64 0, .int .i64 0, .slice none 0 0, .slice none 0 0, .slice none 0 0, .slice none 0 0, .slice none 0 0] 29))) := F.out.below ba
          clear F
          have F := F9
          clear F9
          clear ba hbf
          generalize v3.alloc (Obj.cells #[.int .i64 0, .int .i64 0, .int .i64 0, .int .i64 0, .slice none 0 0, .slice none 0 0, .slice none 0 0, .slice none 0 0, .slice none 0 0] 29) = v4 at *
          go_simp
          refine tr_one ?_
          obtain ⟨z0, z1, z2, z3, z4, z5, z6, z7, z8⟩ := ZE.out.1.cells
          obtain ⟨t0, t1, t2, t3, t4, t5, t6, t7, t8⟩ := ZE.out.1.thaws
          have KZ : Hid (Kp bf v4 (((((((((v4.setCell ⟨bf, 0, none⟩ (.int .i64 Q.turn)).setCell ⟨bf, 1, none⟩ (.int .i64 Q.next)).setCell ⟨bf, 2, none⟩ (.int .i64 Q.wide)).setCell ⟨bf, 3, none⟩ (.int .i64 Q.high)).setCell ⟨bf, 4, none⟩ (.slice f1 Q.gs.length h1)).setCell ⟨bf, 5, none⟩ (.slice f2 Q.os.length h2)).setCell ⟨bf, 6, none⟩ (.slice f3 Q.gold.length h3)).setCell ⟨bf, 7, none⟩ (.slice f4 Q.us.length h4)).setCell ⟨bf, 8, none⟩ (.slice f5 Q.qs.length h5))) := put_kp _ _ _ _ _ _ _ _ _ _ _
          have FS : Hid (Below w.heap.size w (((((((((v4.setCell ⟨bf, 0, none⟩ (.int .i64 Q.turn)).setCell ⟨bf, 1, none⟩ (.int .i64 Q.next)).setCell ⟨bf, 2, none⟩ (.int .i64 Q.wide)).setCell ⟨bf, 3, none⟩ (.int .i64 Q.high)).setCell ⟨bf, 4, none⟩ (.slice f1 Q.gs.length h1)).setCell ⟨bf, 5, none⟩ (.slice f2 Q.os.length h2)).setCell ⟨bf, 6, none⟩ (.slice f3 Q.gold.length h3)).setCell ⟨bf, 7, none⟩ (.slice f4 Q.us.length h4)).setCell ⟨bf, 8, none⟩ (.slice f5 Q.qs.length h5)) ∧ Bw (((((((((v4.setCell ⟨bf, 0, none⟩ (.int .i64 Q.turn)).setCell ⟨bf, 1, none⟩ (.int .i64 Q.next)).setCell ⟨bf, 2, none⟩ (.int .i64 Q.wide)).setCell ⟨bf, 3, none⟩ (.int .i64 Q.high)).setCell ⟨bf, 4, none⟩ (.slice f1 Q.gs.length h1)).setCell ⟨bf, 5, none⟩ (.slice f2 Q.os.length h2)).setCell ⟨bf, 6, none⟩ (.slice f3 Q.gold.length h3)).setCell ⟨bf, 7, none⟩ (.slice f4 Q.us.length h4)).setCell ⟨bf, 8, none⟩ (.slice f5 Q.qs.length h5)) w.heap.size X (.slice p1 X.gs.length q1) (.slice p2 X.os.length q2) (.slice p3 X.gold.length q3) (.slice p4 X.us.length q4) (.slice p5 X.qs.length q5) ∧ Wx (((((((((v4.setCell ⟨bf, 0, none⟩ (.int .i64 Q.turn)).setCell ⟨bf, 1, none⟩ (.int .i64 Q.next)).setCell ⟨bf, 2, none⟩ (.int .i64 Q.wide)).setCell ⟨bf, 3, none⟩ (.int .i64 Q.high)).setCell ⟨bf, 4, none⟩ (.slice f1 Q.gs.length h1)).setCell ⟨bf, 5, none⟩ (.slice f2 Q.os.length h2)).setCell ⟨bf, 6, none⟩ (.slice f3 Q.gold.length h3)).setCell ⟨bf, 7, none⟩ (.slice f4 Q.us.length h4)).setCell ⟨bf, 8, none⟩ (.slice f5 Q.qs.length h5)) z (.int .i64 0) (.int .i64 4) (.int .i64 4) (.int .i64 2) (.slice m1 8 n1) (.slice m2 8 n2) (.slice m3 2 n3) (.slice m4 3 n4) (.slice m5 0 n5)) := by have h9 := ZE.out.2; exact ⟨KZ.out.below F.out.1 F.out.1.size (by omega), F.out.2.1.kp9 KZ.out (by omega), F.out.2.2.1.kp KZ.out (by omega)⟩
          have GS : Hid ((((((((((v4.setCell ⟨bf, 0, none⟩ (.int .i64 Q.turn)).setCell ⟨bf, 1, none⟩ (.int .i64 Q.next)).setCell ⟨bf, 2, none⟩ (.int .i64 Q.wide)).setCell ⟨bf, 3, none⟩ (.int .i64 Q.high)).setCell ⟨bf, 4, none⟩ (.slice f1 Q.gs.length h1)).setCell ⟨bf, 5, none⟩ (.slice f2 Q.os.length h2)).setCell ⟨bf, 6, none⟩ (.slice f3 Q.gold.length h3)).setCell ⟨bf, 7, none⟩ (.slice f4 Q.us.length h4)).setCell ⟨bf, 8, none⟩ (.slice f5 Q.qs.length h5)).cell? ⟨bf, 0, none⟩ = some (.int .i64 2)) := by rw [← Q2.out]; exact (ZE.out.1.put _ _ _ _ _ _ _ _ _).cells.1
          refine st_skip rfl (((((((((v4.setCell ⟨bf, 0, none⟩ (.int .i64 Q.turn)).setCell ⟨bf, 1, none⟩ (.int .i64 Q.next)).setCell ⟨bf, 2, none⟩ (.int .i64 Q.wide)).setCell ⟨bf, 3, none⟩ (.int .i64 Q.high)).setCell ⟨bf, 4, none⟩ (.slice f1 Q.gs.length h1)).setCell ⟨bf, 5, none⟩ (.slice f2 Q.os.length h2)).setCell ⟨bf, 6, none⟩ (.slice f3 Q.gold.length h3)).setCell ⟨bf, 7, none⟩ (.slice f4 Q.us.length h4)).setCell ⟨bf, 8, none⟩ (.slice f5 Q.qs.length h5)) (by go_simp) (by go_simp) FS.out.2.2 ?_
          clear z0 z1 z2 z3 z4 z5 z6 z7 z8 t0 t1 t2 t3 t4 t5 t6 t7 t8 KZ ZE F
          generalize ((((((((v4.setCell ⟨bf, 0, none⟩ (.int .i64 Q.turn)).setCell ⟨bf, 1, none⟩ (.int .i64 Q.next)).setCell ⟨bf, 2, none⟩ (.int .i64 Q.wide)).setCell ⟨bf, 3, none⟩ (.int .i64 Q.high)).setCell ⟨bf, 4, none⟩ (.slice f1 Q.gs.length h1)).setCell ⟨bf, 5, none⟩ (.slice f2 Q.os.length h2)).setCell ⟨bf, 6, none⟩ (.slice f3 Q.gold.length h3)).setCell ⟨bf, 7, none⟩ (.slice f4 Q.us.length h4)).setCell ⟨bf, 8, none⟩ (.slice f5 Q.qs.length h5) = v5 at *
          go_simp
          unfold wpTr
          refine sched_value rfl .nilIface v5 (by go_simp) (by go_simp) trivial ?_
          go_simp
          unfold wpSched
          go_wp2_with fail
          go_meet
          case rel => exact ⟨rfl, bf, rfl, GS.out, FS.out.1, FS.out.2.1⟩
        · have ba : Below v2.heap.size v2 (v2.alloc (Obj.cells #[.int .i64 0, .int .i64 0, .int .i64 0, .int .i64 0, .slice none 0 0, .slice none 0 0, .slice none 0 0, .slice none 0 0, .slice none 0 0] 29)) := (Below.refl _ _).alloc (Nat.le_refl _) _
          refine st_value rfl (.pointer (some ⟨v2.heap.size, 0, none⟩)) (v2.alloc (Obj.cells #[.int .i64 0, .int .i64 0, .int .i64 0, .int .i64 0, .slice none 0 0, .slice none 0 0, .slice none 0 0, .slice none 0 0, .slice none 0 0] 29)) (by go_simp) (by go_simp) (F.out.below ba).2.2.1 ?_
          obtain ⟨bf, hbf⟩ : ∃ g, v2.heap.size = g := ⟨_, rfl⟩
          have ZE : Hid (Wx (v2.alloc (Obj.cells #[.int .i64 0, .int .i64 0, .int .i64 0, .int .i64 0, .slice none 0 0, .slice none 0 0, .slice none 0 0, .slice none 0 0, .slice none 0 0] 29)) bf (.int .i64 0) (.int .i64 0) (.int .i64 0) (.int .i64 0) (.slice none 0 0) (.slice none 0 0) (.slice none 0 0) (.slice none 0 0) (.slice none 0 0) ∧ w.heap.size < bf ∧ z < bf) := ⟨Wx.new (w := v2) _ _ _ _ _ _ _ _ _ hbf, by rw [← hbf]; exact F.out.2.1.lt, by rw [← hbf]; exact F.out.2.2.1.lt⟩
          rw [hbf]
          have F9 : Hid (Fx w X (.slice p1 X.gs.length q1) (.slice p2 X.os.length q2) (.slice p3 X.gold.length q3) (.slice p4 X.us.length q4) (.slice p5 X.qs.length q5) z (.slice m1 8 n1) (.slice m2 8 n2) (.slice m3 2 n3) (.slice m4 3 n4) (.slice m5 0 n5) (v2.alloc (Obj.cells #[.int .i64 0, .int .i64 0, .int .i64 0, .int .i64 0, .slice none 0 0, .slice none 0 0, .slice none 0 0, .slice none 0 0, .slice none 0 0] 29))) := F.out.below ba
          clear F
          have F := F9
          clear F9
          have K9 : Hid (Kl (v2.alloc (Obj.cells #[.int .i64 0, .int .i64 0, .int .i64 0, .int .i64 0, .slice none 0 0, .slice none 0 0, .slice none 0 0, .slice none 0 0, .slice none 0 0] 29)) ku SK) := KU.out.below ba
          clear KU
          have KU := K9
          clear K9
          have O9 : Hid (Oll (v2.alloc (Obj.cells #[.int .i64 0, .int .i64 0, .int .i64 0, .int .i64 0, .slice none 0 0, .slice none 0 0, .slice none 0 0, .slice none 0 0, .slice none 0 0] 29)) (.slice (some ⟨g, 0, none⟩) 2 2) [[], []]) := OL.out.below ba
          clear OL
          have OL := O9
          clear O9
          clear ba hbf
          generalize v2.alloc (Obj.cells #[.int .i64 0, .int .i64 0, .int .i64 0, .int .i64 0, .slice none 0 0, .slice none 0 0, .slice none 0 0, .slice none 0 0, .slice none 0 0] 29) = v6 at *
          go_simp
          refine tr_one ?_
          refine st_call rfl 25 #[ku, .agg #[.int .i64 0, .int .i64 4, .int .i64 4, .int .i64 2, .slice m1 8 n1, .slice m2 8 n2, .slice m3 2 n3, .slice m4 3 n4, .slice m5 0 n5], .slice (some ⟨g, 0, none⟩) 2 2] (by go_simp) (by go_simp) ?_
          refine (Play_any ku _ _ SK S3 [[], []] v6 KU.out sm_names F.out.2.2.2.1 OL.out F.out.2.2.2.2).mono ?_
          rintro e v7 ⟨v, r, FF, rfl, hr, hf, hb⟩
          obtain ⟨rfl, Q, hQ2, hwo⟩ := tp_fact hf hr
          obtain ⟨f1, h1, f2, h2, f3, h3, f4, h4, f5, h5, rfl⟩ := wl_shape9 hwo.l
          have Q2 : Hid (Q.turn = 2) := hQ2
          have F9 : Hid (Fx w X (.slice p1 X.gs.length q1) (.slice p2 X.os.length q2) (.slice p3 X.gold.length q3) (.slice p4 X.us.length q4) (.slice p5 X.qs.length q5) z (.slice m1 8 n1) (.slice m2 8 n2) (.slice m3 2 n3) (.slice m4 3 n4) (.slice m5 0 n5) v7) := F.out.below hb
          clear F
          have F := F9
          clear F9
          have Z9 : Hid (Wx v7 bf (.int .i64 0) (.int .i64 0) (.int .i64 0) (.int .i64 0) (.slice none 0 0) (.slice none 0 0) (.slice none 0 0) (.slice none 0 0) (.slice none 0 0) ∧ w.heap.size < bf ∧ z < bf) := ⟨ZE.out.1.below hb ZE.out.1.lt, ZE.out.2⟩
          clear ZE
          have ZE := Z9
          clear Z9
          refine ⟨_, rfl, F.out.2.2.1, ?_⟩
          clear hr hf hb hwo hQ2 KU OL
          go_simp
          refine tr_read rfl (.tuple #[.agg #[.int .i64 Q.turn, .int .i64 Q.next, .int .i64 Q.wide, .int .i64 Q.high, .slice f1 Q.gs.length h1, .slice f2 Q.os.length h2, .slice f3 Q.gold.length h3, .slice f4 Q.us.length h4, .slice f5 Q.qs.length h5], .nilIface]) (by go_simp) (fun V hV => by go_simp) ?_
          go_simp
          refine tr_read rfl (.agg #[.int .i64 Q.turn, .int .i64 Q.next, .int .i64 Q.wide, .int .i64 Q.high, .slice f1 Q.gs.length h1, .slice f2 Q.os.length h2, .slice f3 Q.gold.length h3, .slice f4 Q.us.length h4, .slice f5 Q.qs.length h5]) (by go_simp) (fun V hV => by go_simp) ?_
          go_simp
          refine tr_read rfl (.nilIface) (by go_simp) (fun V hV => by go_simp) ?_
          go_simp
          refine tr_one ?_
          obtain ⟨z0, z1, z2, z3, z4, z5, z6, z7, z8⟩ := ZE.out.1.cells
          obtain ⟨t0, t1, t2, t3, t4, t5, t6, t7, t8⟩ := ZE.out.1.thaws
          have KZ : Hid (Kp bf v7 (((((((((v7.setCell ⟨bf, 0, none⟩ (.int .i64 Q.turn)).setCell ⟨bf, 1, none⟩ (.int .i64 Q.next)).setCell ⟨bf, 2, none⟩ (.int .i64 Q.wide)).setCell ⟨bf, 3, none⟩ (.int .i64 Q.high)).setCell ⟨bf, 4, none⟩ (.slice f1 Q.gs.length h1)).setCell ⟨bf, 5, none⟩ (.slice f2 Q.os.length h2)).setCell ⟨bf, 6, none⟩ (.slice f3 Q.gold.length h3)).setCell ⟨bf, 7, none⟩ (.slice f4 Q.us.length h4)).setCell ⟨bf, 8, none⟩ (.slice f5 Q.qs.length h5))) := put_kp _ _ _ _ _ _ _ _ _ _ _
          have FS : Hid (Below w.heap.size w (((((((((v7.setCell ⟨bf, 0, none⟩ (.int .i64 Q.turn)).setCell ⟨bf, 1, none⟩ (.int .i64 Q.next)).setCell ⟨bf, 2, none⟩ (.int .i64 Q.wide)).setCell ⟨bf, 3, none⟩ (.int .i64 Q.high)).setCell ⟨bf, 4, none⟩ (.slice f1 Q.gs.length h1)).setCell ⟨bf, 5, none⟩ (.slice f2 Q.os.length h2)).setCell ⟨bf, 6, none⟩ (.slice f3 Q.gold.length h3)).setCell ⟨bf, 7, none⟩ (.slice f4 Q.us.length h4)).setCell ⟨bf, 8, none⟩ (.slice f5 Q.qs.length h5)) ∧ Bw (((((((((v7.setCell ⟨bf, 0, none⟩ (.int .i64 Q.turn)).setCell ⟨bf, 1, none⟩ (.int .i64 Q.next)).setCell ⟨bf, 2, none⟩ (.int .i64 Q.wide)).setCell ⟨bf, 3, none⟩ (.int .i64 Q.high)).setCell ⟨bf, 4, none⟩ (.slice f1 Q.gs.length h1)).setCell ⟨bf, 5, none⟩ (.slice f2 Q.os.length h2)).setCell ⟨bf, 6, none⟩ (.slice f3 Q.gold.length h3)).setCell ⟨bf, 7, none⟩ (.slice f4 Q.us.length h4)).setCell ⟨bf, 8, none⟩ (.slice f5 Q.qs.length h5)) w.heap.size X (.slice p1 X.gs.length q1) (.slice p2 X.os.length q2) (.slice p3 X.gold.length q3) (.slice p4 X.us.length q4) (.slice p5 X.qs.length q5) ∧ Wx (((((((((v7.setCell ⟨bf, 0, none⟩ (.int .i64 Q.turn)).setCell ⟨bf, 1, none⟩ (.int .i64 Q.next)).setCell ⟨bf, 2, none⟩ (.int .i64 Q.wide)).setCell ⟨bf, 3, none⟩ (.int .i64 Q.high)).setCell ⟨bf, 4, none⟩ (.slice f1 Q.gs.length h1)).setCell ⟨bf, 5, none⟩ (.slice f2 Q.os.length h2)).setCell ⟨bf, 6, none⟩ (.slice f3 Q.gold.length h3)).setCell ⟨bf, 7, none⟩ (.slice f4 Q.us.length h4)).setCell ⟨bf, 8, none⟩ (.slice f5 Q.qs.length h5)) z (.int .i64 0) (.int .i64 4) (.int .i64 4) (.int .i64 2) (.slice m1 8 n1) (.slice m2 8 n2) (.slice m3 2 n3) (.slice m4 3 n4) (.slice m5 0 n5)) := by have h9 := ZE.out.2; exact ⟨KZ.out.below F.out.1 F.out.1.size (by omega), F.out.2.1.kp9 KZ.out (by omega), F.out.2.2.1.kp KZ.out (by omega)⟩
          have GS : Hid ((((((((((v7.setCell ⟨bf, 0, none⟩ (.int .i64 Q.turn)).setCell ⟨bf, 1, none⟩ (.int .i64 Q.next)).setCell ⟨bf, 2, none⟩ (.int .i64 Q.wide)).setCell ⟨bf, 3, none⟩ (.int .i64 Q.high)).setCell ⟨bf, 4, none⟩ (.slice f1 Q.gs.length h1)).setCell ⟨bf, 5, none⟩ (.slice f2 Q.os.length h2)).setCell ⟨bf, 6, none⟩ (.slice f3 Q.gold.length h3)).setCell ⟨bf, 7, none⟩ (.slice f4 Q.us.length h4)).setCell ⟨bf, 8, none⟩ (.slice f5 Q.qs.length h5)).cell? ⟨bf, 0, none⟩ = some (.int .i64 2)) := by rw [← Q2.out]; exact (ZE.out.1.put _ _ _ _ _ _ _ _ _).cells.1
          refine st_skip rfl (((((((((v7.setCell ⟨bf, 0, none⟩ (.int .i64 Q.turn)).setCell ⟨bf, 1, none⟩ (.int .i64 Q.next)).setCell ⟨bf, 2, none⟩ (.int .i64 Q.wide)).setCell ⟨bf, 3, none⟩ (.int .i64 Q.high)).setCell ⟨bf, 4, none⟩ (.slice f1 Q.gs.length h1)).setCell ⟨bf, 5, none⟩ (.slice f2 Q.os.length h2)).setCell ⟨bf, 6, none⟩ (.slice f3 Q.gold.length h3)).setCell ⟨bf, 7, none⟩ (.slice f4 Q.us.length h4)).setCell ⟨bf, 8, none⟩ (.slice f5 Q.qs.length h5)) (by go_simp) (by go_simp) FS.out.2.2 ?_
          clear z0 z1 z2 z3 z4 z5 z6 z7 z8 t0 t1 t2 t3 t4 t5 t6 t7 t8 KZ ZE F
          generalize ((((((((v7.setCell ⟨bf, 0, none⟩ (.int .i64 Q.turn)).setCell ⟨bf, 1, none⟩ (.int .i64 Q.next)).setCell ⟨bf, 2, none⟩ (.int .i64 Q.wide)).setCell ⟨bf, 3, none⟩ (.int .i64 Q.high)).setCell ⟨bf, 4, none⟩ (.slice f1 Q.gs.length h1)).setCell ⟨bf, 5, none⟩ (.slice f2 Q.os.length h2)).setCell ⟨bf, 6, none⟩ (.slice f3 Q.gold.length h3)).setCell ⟨bf, 7, none⟩ (.slice f4 Q.us.length h4)).setCell ⟨bf, 8, none⟩ (.slice f5 Q.qs.length h5) = v8 at *
          go_simp
          unfold wpTr
          refine sched_value rfl .nilIface v8 (by go_simp) (by go_simp) trivial ?_
          go_simp
          unfold wpSched
          go_wp2_with fail
          go_meet
          case rel => exact ⟨rfl, bf, rfl, GS.out, FS.out.1, FS.out.2.1⟩
      · have ba : Below v1.heap.size v1 (v1.alloc (Obj.cells #[.int .i64 0, .int .i64 0, .int .i64 0, .int .i64 0, .slice none 0 0, .slice none 0 0, .slice none 0 0, .slice none 0 0, .slice none 0 0] 29)) := (Below.refl _ _).alloc (Nat.le_refl _) _
        refine st_value rfl (.pointer (some ⟨v1.heap.size, 0, none⟩)) (v1.alloc (Obj.cells #[.int .i64 0, .int .i64 0, .int .i64 0, .int .i64 0, .slice none 0 0, .slice none 0 0, .slice none 0 0, .slice none 0 0, .slice none 0 0] 29)) (by go_simp) (by go_simp) (F.out.below ba).2.2.1 ?_
        obtain ⟨bf, hbf⟩ : ∃ g, v1.heap.size = g := ⟨_, rfl⟩
        have ZE : Hid (Wx (v1.alloc (Obj.cells #[.int .i64 0, .int .i64 0, .int .i64 0, .int .i64 0, .slice none 0 0, .slice none 0 0, .slice none 0 0, .slice none 0 0, .slice none 0 0] 29)) bf (.int .i64 0) (.int .i64 0) (.int .i64 0) (.int .i64 0) (.slice none 0 0) (.slice none 0 0) (.slice none 0 0) (.slice none 0 0) (.slice none 0 0) ∧ w.heap.size < bf ∧ z < bf) := ⟨Wx.new (w := v1) _ _ _ _ _ _ _ _ _ hbf, by rw [← hbf]; exact F.out.2.1.lt, by rw [← hbf]; exact F.out.2.2.1.lt⟩
        rw [hbf]
        have F9 : Hid (Fx w X (.slice p1 X.gs.length q1) (.slice p2 X.os.length q2) (.slice p3 X.gold.length q3) (.slice p4 X.us.length q4) (.slice p5 X.qs.length q5) z (.slice m1 8 n1) (.slice m2 8 n2) (.slice m3 2 n3) (.slice m4 3 n4) (.slice m5 0 n5) (v1.alloc (Obj.cells #[.int .i64 0, .int .i64 0, .int .i64 0, .int .i64 0, .slice none 0 0, .slice none 0 0, .slice none 0 0, .slice none 0 0, .slice none 0 0] 29))) := F.out.below ba
        clear F
        have F := F9
        clear F9
        have K9 : Hid (Kl (v1.alloc (Obj.cells #[.int .i64 0, .int .i64 0, .int .i64 0, .int .i64 0, .slice none 0 0, .slice none 0 0, .slice none 0 0, .slice none 0 0, .slice none 0 0] 29)) ku SK) := KU.out.below ba
        clear KU
        have KU := K9
        clear K9
        clear ba hbf
        generalize v1.alloc (Obj.cells #[.int .i64 0, .int .i64 0, .int .i64 0, .int .i64 0, .slice none 0 0, .slice none 0 0, .slice none 0 0, .slice none 0 0, .slice none 0 0] 29) = v9 at *
        go_simp
        refine tr_one ?_
        have ba : Below v9.heap.size v9 (v9.alloc (Obj.cells #[.slice none 0 0, .slice none 0 0] 48)) := (Below.refl _ _).alloc (Nat.le_refl _) _
        refine st_value rfl (.slice (some ⟨v9.heap.size, 0, none⟩) 2 2) (v9.alloc (Obj.cells #[.slice none 0 0, .slice none 0 0] 48)) (by go_simp) (by go_simp) (F.out.below ba).2.2.1 ?_
        obtain ⟨g, hg⟩ : ∃ g, v9.heap.size = g := ⟨_, rfl⟩
        have OL : Hid (Oll (v9.alloc (Obj.cells #[.slice none 0 0, .slice none 0 0] 48)) (.slice (some ⟨g, 0, none⟩) 2 2) [[], []]) := by rw [← hg]; exact oll_lit v9
        rw [hg]
        have F9 : Hid (Fx w X (.slice p1 X.gs.length q1) (.slice p2 X.os.length q2) (.slice p3 X.gold.length q3) (.slice p4 X.us.length q4) (.slice p5 X.qs.length q5) z (.slice m1 8 n1) (.slice m2 8 n2) (.slice m3 2 n3) (.slice m4 3 n4) (.slice m5 0 n5) (v9.alloc (Obj.cells #[.slice none 0 0, .slice none 0 0] 48))) := F.out.below ba
        clear F
        have F := F9
        clear F9
        have K9 : Hid (Kl (v9.alloc (Obj.cells #[.slice none 0 0, .slice none 0 0] 48)) ku SK) := KU.out.below ba
        clear KU
        have KU := K9
        clear K9
        have Z9 : Hid (Wx (v9.alloc (Obj.cells #[.slice none 0 0, .slice none 0 0] 48)) bf (.int .i64 0) (.int .i64 0) (.int .i64 0) (.int .i64 0) (.slice none 0 0) (.slice none 0 0) (.slice none 0 0) (.slice none 0 0) (.slice none 0 0) ∧ w.heap.size < bf ∧ z < bf) := ⟨ZE.out.1.below ba ZE.out.1.lt, ZE.out.2⟩
        clear ZE
        have ZE := Z9
        clear Z9
        clear ba hg
        generalize v9.alloc (Obj.cells #[.slice none 0 0, .slice none 0 0] 48) = v10 at *
        go_simp
        refine tr_one ?_
        refine st_call rfl 25 #[ku, .agg #[.int .i64 0, .int .i64 4, .int .i64 4, .int .i64 2, .slice m1 8 n1, .slice m2 8 n2, .slice m3 2 n3, .slice m4 3 n4, .slice m5 0 n5], .slice (some ⟨g, 0, none⟩) 2 2] (by go_simp) (by go_simp) ?_
        refine (Play_any ku _ _ SK S3 [[], []] v10 KU.out sm_names F.out.2.2.2.1 OL.out F.out.2.2.2.2).mono ?_
        rintro e v11 ⟨v, r, FF, rfl, hr, hf, hb⟩
        obtain ⟨rfl, Q, hQ2, hwo⟩ := tp_fact hf hr
        obtain ⟨f1, h1, f2, h2, f3, h3, f4, h4, f5, h5, rfl⟩ := wl_shape9 hwo.l
        have Q2 : Hid (Q.turn = 2) := hQ2
        have F9 : Hid (Fx w X (.slice p1 X.gs.length q1) (.slice p2 X.os.length q2) (.slice p3 X.gold.length q3) (.slice p4 X.us.length q4) (.slice p5 X.qs.length q5) z (.slice m1 8 n1) (.slice m2 8 n2) (.slice m3 2 n3) (.slice m4 3 n4) (.slice m5 0 n5) v11) := F.out.below hb
        clear F
        have F := F9
        clear F9
        have Z9 : Hid (Wx v11 bf (.int .i64 0) (.int .i64 0) (.int .i64 0) (.int .i64 0) (.slice none 0 0) (.slice none 0 0) (.slice none 0 0) (.slice none 0 0) (.slice none 0 0) ∧ w.heap.size < bf ∧ z < bf) := ⟨ZE.out.1.below hb ZE.out.1.lt, ZE.out.2⟩
        clear ZE
        have ZE := Z9
        clear Z9
        refine ⟨_, rfl, F.out.2.2.1, ?_⟩
        clear hr hf hb hwo hQ2 KU OL
        go_simp
        refine tr_read rfl (.tuple #[.agg #[.int .i64 Q.turn, .int .i64 Q.next, .int .i64 Q.wide, .int .i64 Q.high, .slice f1 Q.gs.length h1, .slice f2 Q.os.length h2, .slice f3 Q.gold.length h3, .slice f4 Q.us.length h4, .slice f5 Q.qs.length h5], .nilIface]) (by go_simp) (fun V hV => by go_simp) ?_
        go_simp
        refine tr_read rfl (.agg #[.int .i64 Q.turn, .int .i64 Q.next, .int .i64 Q.wide, .int .i64 Q.high, .slice f1 Q.gs.length h1, .slice f2 Q.os.length h2, .slice f3 Q.gold.length h3, .slice f4 Q.us.length h4, .slice f5 Q.qs.length h5]) (by go_simp) (fun V hV => by go_simp) ?_
        go_simp
        refine tr_read rfl (.nilIface) (by go_simp) (fun V hV => by go_simp) ?_
        go_simp
        refine tr_one ?_
        obtain ⟨z0, z1, z2, z3, z4, z5, z6, z7, z8⟩ := ZE.out.1.cells
        obtain ⟨t0, t1, t2, t3, t4, t5, t6, t7, t8⟩ := ZE.out.1.thaws
        have KZ : Hid (Kp bf v11 (((((((((v11.setCell ⟨bf, 0, none⟩ (.int .i64 Q.turn)).setCell ⟨bf, 1, none⟩ (.int .i64 Q.next)).setCell ⟨bf, 2, none⟩ (.int .i64 Q.wide)).setCell ⟨bf, 3, none⟩ (.int .i64 Q.high)).setCell ⟨bf, 4, none⟩ (.slice f1 Q.gs.length h1)).setCell ⟨bf, 5, none⟩ (.slice f2 Q.os.length h2)).setCell ⟨bf, 6, none⟩ (.slice f3 Q.gold.length h3)).setCell ⟨bf, 7, none⟩ (.slice f4 Q.us.length h4)).setCell ⟨bf, 8, none⟩ (.slice f5 Q.qs.length h5))) := put_kp _ _ _ _ _ _ _ _ _ _ _
        have FS : Hid (Below w.heap.size w (((((((((v11.setCell ⟨bf, 0, none⟩ (.int .i64 Q.turn)).setCell ⟨bf, 1, none⟩ (.int .i64 Q.next)).setCell ⟨bf, 2, none⟩ (.int .i64 Q.wide)).setCell ⟨bf, 3, none⟩ (.int .i64 Q.high)).setCell ⟨bf, 4, none⟩ (.slice f1 Q.gs.length h1)).setCell ⟨bf, 5, none⟩ (.slice f2 Q.os.length h2)).setCell ⟨bf, 6, none⟩ (.slice f3 Q.gold.length h3)).setCell ⟨bf, 7, none⟩ (.slice f4 Q.us.length h4)).setCell ⟨bf, 8, none⟩ (.slice f5 Q.qs.length h5)) ∧ Bw (((((((((v11.setCell ⟨bf, 0, none⟩ (.int .i64 Q.turn)).setCell ⟨bf, 1, none⟩ (.int .i64 Q.next)).setCell ⟨bf, 2, none⟩ (.int .i64 Q.wide)).setCell ⟨bf, 3, none⟩ (.int .i64 Q.high)).setCell ⟨bf, 4, none⟩ (.slice f1 Q.gs.length h1)).setCell ⟨bf, 5, none⟩ (.slice f2 Q.os.length h2)).setCell ⟨bf, 6, none⟩ (.slice f3 Q.gold.length h3)).setCell ⟨bf, 7, none⟩ (.slice f4 Q.us.length h4)).setCell ⟨bf, 8, none⟩ (.slice f5 Q.qs.length h5)) w.heap.size X (.slice p1 X.gs.length q1) (.slice p2 X.os.length q2) (.slice p3 X.gold.length q3) (.slice p4 X.us.length q4) (.slice p5 X.qs.length q5) ∧ Wx (((((((((v11.setCell ⟨bf, 0, none⟩ (.int .i64 Q.turn)).setCell ⟨bf, 1, none⟩ (.int .i64 Q.next)).setCell ⟨bf, 2, none⟩ (.int .i64 Q.wide)).setCell ⟨bf, 3, none⟩ (.int .i64 Q.high)).setCell ⟨bf, 4, none⟩ (.slice f1 Q.gs.length h1)).setCell ⟨bf, 5, none⟩ (.slice f2 Q.os.length h2)).setCell ⟨bf, 6, none⟩ (.slice f3 Q.gold.length h3)).setCell ⟨bf, 7, none⟩ (.slice f4 Q.us.length h4)).setCell ⟨bf, 8, none⟩ (.slice f5 Q.qs.length h5)) z (.int .i64 0) (.int .i64 4) (.int .i64 4) (.int .i64 2) (.slice m1 8 n1) (.slice m2 8 n2) (.slice m3 2 n3) (.slice m4 3 n4) (.slice m5 0 n5)) := by have h9 := ZE.out.2; exact ⟨KZ.out.below F.out.1 F.out.1.size (by omega), F.out.2.1.kp9 KZ.out (by omega), F.out.2.2.1.kp KZ.out (by omega)⟩
        have GS : Hid ((((((((((v11.setCell ⟨bf, 0, none⟩ (.int .i64 Q.turn)).setCell ⟨bf, 1, none⟩ (.int .i64 Q.next)).setCell ⟨bf, 2, none⟩ (.int .i64 Q.wide)).setCell ⟨bf, 3, none⟩ (.int .i64 Q.high)).setCell ⟨bf, 4, none⟩ (.slice f1 Q.gs.length h1)).setCell ⟨bf, 5, none⟩ (.slice f2 Q.os.length h2)).setCell ⟨bf, 6, none⟩ (.slice f3 Q.gold.length h3)).setCell ⟨bf, 7, none⟩ (.slice f4 Q.us.length h4)).setCell ⟨bf, 8, none⟩ (.slice f5 Q.qs.length h5)).cell? ⟨bf, 0, none⟩ = some (.int .i64 2)) := by rw [← Q2.out]; exact (ZE.out.1.put _ _ _ _ _ _ _ _ _).cells.1
        refine st_skip rfl (((((((((v11.setCell ⟨bf, 0, none⟩ (.int .i64 Q.turn)).setCell ⟨bf, 1, none⟩ (.int .i64 Q.next)).setCell ⟨bf, 2, none⟩ (.int .i64 Q.wide)).setCell ⟨bf, 3, none⟩ (.int .i64 Q.high)).setCell ⟨bf, 4, none⟩ (.slice f1 Q.gs.length h1)).setCell ⟨bf, 5, none⟩ (.slice f2 Q.os.length h2)).setCell ⟨bf, 6, none⟩ (.slice f3 Q.gold.length h3)).setCell ⟨bf, 7, none⟩ (.slice f4 Q.us.length h4)).setCell ⟨bf, 8, none⟩ (.slice f5 Q.qs.length h5)) (by go_simp) (by go_simp) FS.out.2.2 ?_
        clear z0 z1 z2 z3 z4 z5 z6 z7 z8 t0 t1 t2 t3 t4 t5 t6 t7 t8 KZ ZE F
        generalize ((((((((v11.setCell ⟨bf, 0, none⟩ (.int .i64 Q.turn)).setCell ⟨bf, 1, none⟩ (.int .i64 Q.next)).setCell ⟨bf, 2, none⟩ (.int .i64 Q.wide)).setCell ⟨bf, 3, none⟩ (.int .i64 Q.high)).setCell ⟨bf, 4, none⟩ (.slice f1 Q.gs.length h1)).setCell ⟨bf, 5, none⟩ (.slice f2 Q.os.length h2)).setCell ⟨bf, 6, none⟩ (.slice f3 Q.gold.length h3)).setCell ⟨bf, 7, none⟩ (.slice f4 Q.us.length h4)).setCell ⟨bf, 8, none⟩ (.slice f5 Q.qs.length h5) = v12 at *
        go_simp
        unfold wpTr
        refine sched_value rfl .nilIface v12 (by go_simp) (by go_simp) trivial ?_
        go_simp
        unfold wpSched
        go_wp2_with fail
        go_meet
        case rel => exact ⟨rfl, bf, rfl, GS.out, FS.out.1, FS.out.2.1⟩
    · have ba : Below v0.heap.size v0 (v0.alloc (Obj.cells #[.slice none 0 0, .slice none 0 0] 48)) := (Below.refl _ _).alloc (Nat.le_refl _) _
      refine st_value rfl (.slice (some ⟨v0.heap.size, 0, none⟩) 2 2) (v0.alloc (Obj.cells #[.slice none 0 0, .slice none 0 0] 48)) (by go_simp) (by go_simp) (F.out.below ba).2.2.1 ?_
      obtain ⟨g, hg⟩ : ∃ g, v0.heap.size = g := ⟨_, rfl⟩
      have OL : Hid (Oll (v0.alloc (Obj.cells #[.slice none 0 0, .slice none 0 0] 48)) (.slice (some ⟨g, 0, none⟩) 2 2) [[], []]) := by rw [← hg]; exact oll_lit v0
      rw [hg]
      have F9 : Hid (Fx w X (.slice p1 X.gs.length q1) (.slice p2 X.os.length q2) (.slice p3 X.gold.length q3) (.slice p4 X.us.length q4) (.slice p5 X.qs.length q5) z (.slice m1 8 n1) (.slice m2 8 n2) (.slice m3 2 n3) (.slice m4 3 n4) (.slice m5 0 n5) (v0.alloc (Obj.cells #[.slice none 0 0, .slice none 0 0] 48))) := F.out.below ba
      clear F
      have F := F9
      clear F9
      clear ba hg
      generalize v0.alloc (Obj.cells #[.slice none 0 0, .slice none 0 0] 48) = v13 at *
      go_simp
      refine tr_two ?_ ?_
      · refine st_call rfl 26 #[] (by go_simp) (by go_simp) ?_
        refine (sorts_any v13).mono ?_
        rintro e v14 ⟨ku, rfl, hk, hb⟩
        have F9 : Hid (Fx w X (.slice p1 X.gs.length q1) (.slice p2 X.os.length q2) (.slice p3 X.gold.length q3) (.slice p4 X.us.length q4) (.slice p5 X.qs.length q5) z (.slice m1 8 n1) (.slice m2 8 n2) (.slice m3 2 n3) (.slice m4 3 n4) (.slice m5 0 n5) v14) := F.out.below hb
        clear F
        have F := F9
        clear F9
        have O9 : Hid (Oll v14 (.slice (some ⟨g, 0, none⟩) 2 2) [[], []]) := OL.out.below hb
        clear OL
        have OL := O9
        clear O9
        have KU : Hid (Kl v14 ku SK) := hk
        refine ⟨_, rfl, F.out.2.2.1, ?_⟩
        clear hk hb
        go_simp
        refine tr_two ?_ ?_
        · refine st_call rfl 25 #[ku, .agg #[.int .i64 0, .int .i64 4, .int .i64 4, .int .i64 2, .slice m1 8 n1, .slice m2 8 n2, .slice m3 2 n3, .slice m4 3 n4, .slice m5 0 n5], .slice (some ⟨g, 0, none⟩) 2 2] (by go_simp) (by go_simp) ?_
          refine (Play_any ku _ _ SK S3 [[], []] v14 KU.out sm_names F.out.2.2.2.1 OL.out F.out.2.2.2.2).mono ?_
          rintro e v15 ⟨v, r, FF, rfl, hr, hf, hb⟩
          obtain ⟨rfl, Q, hQ2, hwo⟩ := tp_fact hf hr
          obtain ⟨f1, h1, f2, h2, f3, h3, f4, h4, f5, h5, rfl⟩ := wl_shape9 hwo.l
          have Q2 : Hid (Q.turn = 2) := hQ2
          have F9 : Hid (Fx w X (.slice p1 X.gs.length q1) (.slice p2 X.os.length q2) (.slice p3 X.gold.length q3) (.slice p4 X.us.length q4) (.slice p5 X.qs.length q5) z (.slice m1 8 n1) (.slice m2 8 n2) (.slice m3 2 n3) (.slice m4 3 n4) (.slice m5 0 n5) v15) := F.out.below hb
          clear F
          have F := F9
          clear F9
          refine ⟨_, rfl, F.out.2.2.1, ?_⟩
          clear hr hf hb hwo hQ2 KU OL
          go_simp
          refine tr_read rfl (.tuple #[.agg #[.int .i64 Q.turn, .int .i64 Q.next, .int .i64 Q.wide, .int .i64 Q.high, .slice f1 Q.gs.length h1, .slice f2 Q.os.length h2, .slice f3 Q.gold.length h3, .slice f4 Q.us.length h4, .slice f5 Q.qs.length h5], .nilIface]) (by go_simp) (fun V hV => by go_simp) ?_
          go_simp
          refine tr_read rfl (.agg #[.int .i64 Q.turn, .int .i64 Q.next, .int .i64 Q.wide, .int .i64 Q.high, .slice f1 Q.gs.length h1, .slice f2 Q.os.length h2, .slice f3 Q.gold.length h3, .slice f4 Q.us.length h4, .slice f5 Q.qs.length h5]) (by go_simp) (fun V hV => by go_simp) ?_
          go_simp
          refine tr_read rfl (.nilIface) (by go_simp) (fun V hV => by go_simp) ?_
          go_simp
          refine tr_one ?_
          have ba : Below v15.heap.size v15 (v15.alloc (Obj.cells #[.int .i64 0, .int .i64 0, .int .i64 0, .int .i64 0, .slice none 0 0, .slice none 0 0, .slice none 0 0, .slice none 0 0, .slice none 0 0] 29)) := (Below.refl _ _).alloc (Nat.le_refl _) _
          refine st_value rfl (.pointer (some ⟨v15.heap.size, 0, none⟩)) (v15.alloc (Obj.cells #[.int .i64 0, .int .i64 0, .int .i64 0, .int .i64 0, .slice none 0 0, .slice none 0 0, .slice none 0 0, .slice none 0 0, .slice none 0 0] 29)) (by go_simp) (by go_simp) (F.out.below ba).2.2.1 ?_
          obtain ⟨bf, hbf⟩ : ∃ g, v15.heap.size = g := ⟨_, rfl⟩
          have ZE : Hid (Wx (v15.alloc (Obj.cells #[.int .i64 0, .int .i64 0, .int .i64 0, .int .i64 0, .slice none 0 0, .slice none 0 0, .slice none 0 0, .slice none 0 0, .slice none 0 0] 29)) bf (.int .i64 0) (.int .i64 0) (.int .i64 0) (.int .i64 0) (.slice none 0 0) (.slice none 0 0) (.slice none 0 0) (.slice none 0 0) (.slice none 0 0) ∧ w.heap.size < bf ∧ z < bf) := ⟨Wx.new (w := v15) _ _ _ _ _ _ _ _ _ hbf, by rw [← hbf]; exact F.out.2.1.lt, by rw [← hbf]; exact F.out.2.2.1.lt⟩
          rw [hbf]
          have F9 : Hid (Fx w X (.slice p1 X.gs.length q1) (.slice p2 X.os.length q2) (.slice p3 X.gold.length q3) (.slice p4 X.us.length q4) (.slice p5 X.qs.length q5) z (.slice m1 8 n1) (.slice m2 8 n2) (.slice m3 2 n3) (.slice m4 3 n4) (.slice m5 0 n5) (v15.alloc (Obj.cells #[.int .i64 0, .int .i64 0, .int .i64 0, .int .i64 0, .slice none 0 0, .slice none 0 0, .slice none 0 0, .slice none 0 0, .slice none 0 0] 29))) := F.out.below ba
          clear F
          have F := F9
          clear F9
          clear ba hbf
          generalize v15.alloc (Obj.cells #[.int .i64 0, .int .i64 0, .int .i64 0, .int .i64 0, .slice none 0 0, .slice none 0 0, .slice none 0 0, .slice none 0 0, .slice none 0 0] 29) = v16 at *
          go_simp
          refine tr_one ?_
          obtain ⟨z0, z1, z2, z3, z4, z5, z6, z7, z8⟩ := ZE.out.1.cells
          obtain ⟨t0, t1, t2, t3, t4, t5, t6, t7, t8⟩ := ZE.out.1.thaws
          have KZ : Hid (Kp bf v16 (((((((((v16.setCell ⟨bf, 0, none⟩ (.int .i64 Q.turn)).setCell ⟨bf, 1, none⟩ (.int .i64 Q.next)).setCell ⟨bf, 2, none⟩ (.int .i64 Q.wide)).setCell ⟨bf, 3, none⟩ (.int .i64 Q.high)).setCell ⟨bf, 4, none⟩ (.slice f1 Q.gs.length h1)).setCell ⟨bf, 5, none⟩ (.slice f2 Q.os.length h2)).setCell ⟨bf, 6, none⟩ (.slice f3 Q.gold.length h3)).setCell ⟨bf, 7, none⟩ (.slice f4 Q.us.length h4)).setCell ⟨bf, 8, none⟩ (.slice f5 Q.qs.length h5))) := put_kp _ _ _ _ _ _ _ _ _ _ _
          have FS : Hid (Below w.heap.size w (((((((((v16.setCell ⟨bf, 0, none⟩ (.int .i64 Q.turn)).setCell ⟨bf, 1, none⟩ (.int .i64 Q.next)).setCell ⟨bf, 2, none⟩ (.int .i64 Q.wide)).setCell ⟨bf, 3, none⟩ (.int .i64 Q.high)).setCell ⟨bf, 4, none⟩ (.slice f1 Q.gs.length h1)).setCell ⟨bf, 5, none⟩ (.slice f2 Q.os.length h2)).setCell ⟨bf, 6, none⟩ (.slice f3 Q.gold.length h3)).setCell ⟨bf, 7, none⟩ (.slice f4 Q.us.length h4)).setCell ⟨bf, 8, none⟩ (.slice f5 Q.qs.length h5)) ∧ Bw (((((((((v16.setCell ⟨bf, 0, none⟩ (.int .i64 Q.turn)).setCell ⟨bf, 1, none⟩ (.int .i64 Q.next)).setCell ⟨bf, 2, none⟩ (.int .i64 Q.wide)).setCell ⟨bf, 3, none⟩ (.int .i64 Q.high)).setCell ⟨bf, 4, none⟩ (.slice f1 Q.gs.length h1)).setCell ⟨bf, 5, none⟩ (.slice f2 Q.os.length h2)).setCell ⟨bf, 6, none⟩ (.slice f3 Q.gold.length h3)).setCell ⟨bf, 7, none⟩ (.slice f4 Q.us.length h4)).setCell ⟨bf, 8, none⟩ (.slice f5 Q.qs.length h5)) w.heap.size X (.slice p1 X.gs.length q1) (.slice p2 X.os.length q2) (.slice p3 X.gold.length q3) (.slice p4 X.us.length q4) (.slice p5 X.qs.length q5) ∧ Wx (((((((((v16.setCell ⟨bf, 0, none⟩ (.int .i64 Q.turn)).setCell ⟨bf, 1, none⟩ (.int .i64 Q.next)).setCell ⟨bf, 2, none⟩ (.int .i64 Q.wide)).setCell ⟨bf, 3, none⟩ (.int .i64 Q.high)).setCell ⟨bf, 4, none⟩ (.slice f1 Q.gs.length h1)).setCell ⟨bf, 5, none⟩ (.slice f2 Q.os.length h2)).setCell ⟨bf, 6, none⟩ (.slice f3 Q.gold.length h3)).setCell ⟨bf, 7, none⟩ (.slice f4 Q.us.length h4)).setCell ⟨bf, 8, none⟩ (.slice f5 Q.qs.length h5)) z (.int .i64 0) (.int .i64 4) (.int .i64 4) (.int .i64 2) (.slice m1 8 n1) (.slice m2 8 n2) (.slice m3 2 n3) (.slice m4 3 n4) (.slice m5 0 n5)) := by have h9 := ZE.out.2; exact ⟨KZ.out.below F.out.1 F.out.1.size (by omega), F.out.2.1.kp9 KZ.out (by omega), F.out.2.2.1.kp KZ.out (by omega)⟩
          have GS : Hid ((((((((((v16.setCell ⟨bf, 0, none⟩ (.int .i64 Q.turn)).setCell ⟨bf, 1, none⟩ (.int .i64 Q.next)).setCell ⟨bf, 2, none⟩ (.int .i64 Q.wide)).setCell ⟨bf, 3, none⟩ (.int .i64 Q.high)).setCell ⟨bf, 4, none⟩ (.slice f1 Q.gs.length h1)).setCell ⟨bf, 5, none⟩ (.slice f2 Q.os.length h2)).setCell ⟨bf, 6, none⟩ (.slice f3 Q.gold.length h3)).setCell ⟨bf, 7, none⟩ (.slice f4 Q.us.length h4)).setCell ⟨bf, 8, none⟩ (.slice f5 Q.qs.length h5)).cell? ⟨bf, 0, none⟩ = some (.int .i64 2)) := by rw [← Q2.out]; exact (ZE.out.1.put _ _ _ _ _ _ _ _ _).cells.1
          refine st_skip rfl (((((((((v16.setCell ⟨bf, 0, none⟩ (.int .i64 Q.turn)).setCell ⟨bf, 1, none⟩ (.int .i64 Q.next)).setCell ⟨bf, 2, none⟩ (.int .i64 Q.wide)).setCell ⟨bf, 3, none⟩ (.int .i64 Q.high)).setCell ⟨bf, 4, none⟩ (.slice f1 Q.gs.length h1)).setCell ⟨bf, 5, none⟩ (.slice f2 Q.os.length h2)).setCell ⟨bf, 6, none⟩ (.slice f3 Q.gold.length h3)).setCell ⟨bf, 7, none⟩ (.slice f4 Q.us.length h4)).setCell ⟨bf, 8, none⟩ (.slice f5 Q.qs.length h5)) (by go_simp) (by go_simp) FS.out.2.2 ?_
          clear z0 z1 z2 z3 z4 z5 z6 z7 z8 t0 t1 t2 t3 t4 t5 t6 t7 t8 KZ ZE F
          generalize ((((((((v16.setCell ⟨bf, 0, none⟩ (.int .i64 Q.turn)).setCell ⟨bf, 1, none⟩ (.int .i64 Q.next)).setCell ⟨bf, 2, none⟩ (.int .i64 Q.wide)).setCell ⟨bf, 3, none⟩ (.int .i64 Q.high)).setCell ⟨bf, 4, none⟩ (.slice f1 Q.gs.length h1)).setCell ⟨bf, 5, none⟩ (.slice f2 Q.os.length h2)).setCell ⟨bf, 6, none⟩ (.slice f3 Q.gold.length h3)).setCell ⟨bf, 7, none⟩ (.slice f4 Q.us.length h4)).setCell ⟨bf, 8, none⟩ (.slice f5 Q.qs.length h5) = v17 at *
          go_simp
          unfold wpTr
          refine sched_value rfl .nilIface v17 (by go_simp) (by go_simp) trivial ?_
          go_simp
          unfold wpSched
          go_wp2_with fail
          go_meet
          case rel => exact ⟨rfl, bf, rfl, GS.out, FS.out.1, FS.out.2.1⟩
        · have ba : Below v14.heap.size v14 (v14.alloc (Obj.cells #[.int .i64 0, .int .i64 0, .int .i64 0, .int .i64 0, .slice none 0 0, .slice none 0 0, .slice none 0 0, .slice none 0 0, .slice none 0 0] 29)) := (Below.refl _ _).alloc (Nat.le_refl _) _
          refine st_value rfl (.pointer (some ⟨v14.heap.size, 0, none⟩)) (v14.alloc (Obj.cells #[.int .i64 0, .int .i64 0, .int .i64 0, .int .i64 0, .slice none 0 0, .slice none 0 0, .slice none 0 0, .slice none 0 0, .slice none 0 0] 29)) (by go_simp) (by go_simp) (F.out.below ba).2.2.1 ?_
          obtain ⟨bf, hbf⟩ : ∃ g, v14.heap.size = g := ⟨_, rfl⟩
          have ZE : Hid (Wx (v14.alloc (Obj.cells #[.int .i64 0, .int .i64 0, .int .i64 0, .int .i64 0, .slice none 0 0, .slice none 0 0, .slice none 0 0, .slice none 0 0, .slice none 0 0] 29)) bf (.int .i64 0) (.int .i64 0) (.int .i64 0) (.int .i64 0) (.slice none 0 0) (.slice none 0 0) (.slice none 0 0) (.slice none 0 0) (.slice none 0 0) ∧ w.heap.size < bf ∧ z < bf) := ⟨Wx.new (w := v14) _ _ _ _ _ _ _ _ _ hbf, by rw [← hbf]; exact F.out.2.1.lt, by rw [← hbf]; exact F.out.2.2.1.lt⟩
          rw [hbf]
          have F9 : Hid (Fx w X (.slice p1 X.gs.length q1) (.slice p2 X.os.length q2) (.slice p3 X.gold.length q3) (.slice p4 X.us.length q4) (.slice p5 X.qs.length q5) z (.slice m1 8 n1) (.slice m2 8 n2) (.slice m3 2 n3) (.slice m4 3 n4) (.slice m5 0 n5) (v14.alloc (Obj.cells #[.int .i64 0, .int .i64 0, .int .i64 0, .int .i64 0, .slice none 0 0, .slice none 0 0, .slice none 0 0, .slice none 0 0, .slice none 0 0] 29))) := F.out.below ba
          clear F
          have F := F9
          clear F9
          have K9 : Hid (Kl (v14.alloc (Obj.cells #[.int .i64 0, .int .i64 0, .int .i64 0, .int .i64 0, .slice none 0 0, .slice none 0 0, .slice none 0 0, .slice none 0 0, .slice none 0 0] 29)) ku SK) := KU.out.below ba
          clear KU
          have KU := K9
          clear K9
          have O9 : Hid (Oll (v14.alloc (Obj.cells #[.int .i64 0, .int .i64 0, .int .i64 0, .int .i64 0, .slice none 0 0, .slice none 0 0, .slice none 0 0, .slice none 0 0, .slice none 0 0] 29)) (.slice (some ⟨g, 0, none⟩) 2 2) [[], []]) := OL.out.below ba
          clear OL
          have OL := O9
          clear O9
          clear ba hbf
          generalize v14.alloc (Obj.cells #[.int .i64 0, .int .i64 0, .int .i64 0, .int .i64 0, .slice none 0 0, .slice none 0 0, .slice none 0 0, .slice none 0 0, .slice none 0 0] 29) = v18 at *
          go_simp
          refine tr_one ?_
          refine st_call rfl 25 #[ku, .agg #[.int .i64 0, .int .i64 4, .int .i64 4, .int .i64 2, .slice m1 8 n1, .slice m2 8 n2, .slice m3 2 n3, .slice m4 3 n4, .slice m5 0 n5], .slice (some ⟨g, 0, none⟩) 2 2] (by go_simp) (by go_simp) ?_
          refine (Play_any ku _ _ SK S3 [[], []] v18 KU.out sm_names F.out.2.2.2.1 OL.out F.out.2.2.2.2).mono ?_
          rintro e v19 ⟨v, r, FF, rfl, hr, hf, hb⟩
          obtain ⟨rfl, Q, hQ2, hwo⟩ := tp_fact hf hr
          obtain ⟨f1, h1, f2, h2, f3, h3, f4, h4, f5, h5, rfl⟩ := wl_shape9 hwo.l
          have Q2 : Hid (Q.turn = 2) := hQ2
          have F9 : Hid (Fx w X (.slice p1 X.gs.length q1) (.slice p2 X.os.length q2) (.slice p3 X.gold.length q3) (.slice p4 X.us.length q4) (.slice p5 X.qs.length q5) z (.slice m1 8 n1) (.slice m2 8 n2) (.slice m3 2 n3) (.slice m4 3 n4) (.slice m5 0 n5) v19) := F.out.below hb
          clear F
          have F := F9
          clear F9
          have Z9 : Hid (Wx v19 bf (.int .i64 0) (.int .i64 0) (.int .i64 0) (.int .i64 0) (.slice none 0 0) (.slice none 0 0) (.slice none 0 0) (.slice none 0 0) (.slice none 0 0) ∧ w.heap.size < bf ∧ z < bf) := ⟨ZE.out.1.below hb ZE.out.1.lt, ZE.out.2⟩
          clear ZE
          have ZE := Z9
          clear Z9
          refine ⟨_, rfl, F.out.2.2.1, ?_⟩
          clear hr hf hb hwo hQ2 KU OL
          go_simp
          refine tr_read rfl (.tuple #[.agg #[.int .i64 Q.turn, .int .i64 Q.next, .int .i64 Q.wide, .int .i64 Q.high, .slice f1 Q.gs.length h1, .slice f2 Q.os.length h2, .slice f3 Q.gold.length h3, .slice f4 Q.us.length h4, .slice f5 Q.qs.length h5], .nilIface]) (by go_simp) (fun V hV => by go_simp) ?_
          go_simp
          refine tr_read rfl (.agg #[.int .i64 Q.turn, .int .i64 Q.next, .int .i64 Q.wide, .int .i64 Q.high, .slice f1 Q.gs.length h1, .slice f2 Q.os.length h2, .slice f3 Q.gold.length h3, .slice f4 Q.us.length h4, .slice f5 Q.qs.length h5]) (by go_simp) (fun V hV => by go_simp) ?_
          go_simp
          refine tr_read rfl (.nilIface) (by go_simp) (fun V hV => by go_simp) ?_
          go_simp
          refine tr_one ?_
          obtain ⟨z0, z1, z2, z3, z4, z5, z6, z7, z8⟩ := ZE.out.1.cells
          obtain ⟨t0, t1, t2, t3, t4, t5, t6, t7, t8⟩ := ZE.out.1.thaws
          have KZ : Hid (Kp bf v19 (((((((((v19.setCell ⟨bf, 0, none⟩ (.int .i64 Q.turn)).setCell ⟨bf, 1, none⟩ (.int .i64 Q.next)).setCell ⟨bf, 2, none⟩ (.int .i64 Q.wide)).setCell ⟨bf, 3, none⟩ (.int .i64 Q.high)).setCell ⟨bf, 4, none⟩ (.slice f1 Q.gs.length h1)).setCell ⟨bf, 5, none⟩ (.slice f2 Q.os.length h2)).setCell ⟨bf, 6, none⟩ (.slice f3 Q.gold.length h3)).setCell ⟨bf, 7, none⟩ (.slice f4 Q.us.length h4)).setCell ⟨bf, 8, none⟩ (.slice f5 Q.qs.length h5))) := put_kp _ _ _ _ _ _ _ _ _ _ _
          have FS : Hid (Below w.heap.size w (((((((((v19.setCell ⟨bf, 0, none⟩ (.int .i64 Q.turn)).setCell ⟨bf, 1, none⟩ (.int .i64 Q.next)).setCell ⟨bf, 2, none⟩ (.int .i64 Q.wide)).setCell ⟨bf, 3, none⟩ (.int .i64 Q.high)).setCell ⟨bf, 4, none⟩ (.slice f1 Q.gs.length h1)).setCell ⟨bf, 5, none⟩ (.slice f2 Q.os.length h2)).setCell ⟨bf, 6, none⟩ (.slice f3 Q.gold.length h3)).setCell ⟨bf, 7, none⟩ (.slice f4 Q.us.length h4)).setCell ⟨bf, 8, none⟩ (.slice f5 Q.qs.length h5)) ∧ Bw (((((((((v19.setCell ⟨bf, 0, none⟩ (.int .i64 Q.turn)).setCell ⟨bf, 1, none⟩ (.int .i64 Q.next)).setCell ⟨bf, 2, none⟩ (.int .i64 Q.wide)).setCell ⟨bf, 3, none⟩ (.int .i64 Q.high)).setCell ⟨bf, 4, none⟩ (.slice f1 Q.gs.length h1)).setCell ⟨bf, 5, none⟩ (.slice f2 Q.os.length h2)).setCell ⟨bf, 6, none⟩ (.slice f3 Q.gold.length h3)).setCell ⟨bf, 7, none⟩ (.slice f4 Q.us.length h4)).setCell ⟨bf, 8, none⟩ (.slice f5 Q.qs.length h5)) w.heap.size X (.slice p1 X.gs.length q1) (.slice p2 X.os.length q2) (.slice p3 X.gold.length q3) (.slice p4 X.us.length q4) (.slice p5 X.qs.length q5) ∧ Wx (((((((((v19.setCell ⟨bf, 0, none⟩ (.int .i64 Q.turn)).setCell ⟨bf, 1, none⟩ (.int .i64 Q.next)).setCell ⟨bf, 2, none⟩ (.int .i64 Q.wide)).setCell ⟨bf, 3, none⟩ (.int .i64 Q.high)).setCell ⟨bf, 4, none⟩ (.slice f1 Q.gs.length h1)).setCell ⟨bf, 5, none⟩ (.slice f2 Q.os.length h2)).setCell ⟨bf, 6, none⟩ (.slice f3 Q.gold.length h3)).setCell ⟨bf, 7, none⟩ (.slice f4 Q.us.length h4)).setCell ⟨bf, 8, none⟩ (.slice f5 Q.qs.length h5)) z (.int .i64 0) (.int .i64 4) (.int .i64 4) (.int .i64 2) (.slice m1 8 n1) (.slice m2 8 n2) (.slice m3 2 n3) (.slice m4 3 n4) (.slice m5 0 n5)) := by have h9 := ZE.out.2; exact ⟨KZ.out.below F.out.1 F.out.1.size (by omega), F.out.2.1.kp9 KZ.out (by omega), F.out.2.2.1.kp KZ.out (by omega)⟩
          have GS : Hid ((((((((((v19.setCell ⟨bf, 0, none⟩ (.int .i64 Q.turn)).setCell ⟨bf, 1, none⟩ (.int .i64 Q.next)).setCell ⟨bf, 2, none⟩ (.int .i64 Q.wide)).setCell ⟨bf, 3, none⟩ (.int .i64 Q.high)).setCell ⟨bf, 4, none⟩ (.slice f1 Q.gs.length h1)).setCell ⟨bf, 5, none⟩ (.slice f2 Q.os.length h2)).setCell ⟨bf, 6, none⟩ (.slice f3 Q.gold.length h3)).setCell ⟨bf, 7, none⟩ (.slice f4 Q.us.length h4)).setCell ⟨bf, 8, none⟩ (.slice f5 Q.qs.length h5)).cell? ⟨bf, 0, none⟩ = some (.int .i64 2)) := by rw [← Q2.out]; exact (ZE.out.1.put _ _ _ _ _ _ _ _ _).cells.1
          refine st_skip rfl (((((((((v19.setCell ⟨bf, 0, none⟩ (.int .i64 Q.turn)).setCell ⟨bf, 1, none⟩ (.int .i64 Q.next)).setCell ⟨bf, 2, none⟩ (.int .i64 Q.wide)).setCell ⟨bf, 3, none⟩ (.int .i64 Q.high)).setCell ⟨bf, 4, none⟩ (.slice f1 Q.gs.length h1)).setCell ⟨bf, 5, none⟩ (.slice f2 Q.os.length h2)).setCell ⟨bf, 6, none⟩ (.slice f3 Q.gold.length h3)).setCell ⟨bf, 7, none⟩ (.slice f4 Q.us.length h4)).setCell ⟨bf, 8, none⟩ (.slice f5 Q.qs.length h5)) (by go_simp) (by go_simp) FS.out.2.2 ?_
          clear z0 z1 z2 z3 z4 z5 z6 z7 z8 t0 t1 t2 t3 t4 t5 t6 t7 t8 KZ ZE F
          generalize ((((((((v19.setCell ⟨bf, 0, none⟩ (.int .i64 Q.turn)).setCell ⟨bf, 1, none⟩ (.int .i64 Q.next)).setCell ⟨bf, 2, none⟩ (.int .i64 Q.wide)).setCell ⟨bf, 3, none⟩ (.int .i64 Q.high)).setCell ⟨bf, 4, none⟩ (.slice f1 Q.gs.length h1)).setCell ⟨bf, 5, none⟩ (.slice f2 Q.os.length h2)).setCell ⟨bf, 6, none⟩ (.slice f3 Q.gold.length h3)).setCell ⟨bf, 7, none⟩ (.slice f4 Q.us.length h4)).setCell ⟨bf, 8, none⟩ (.slice f5 Q.qs.length h5) = v20 at *
          go_simp
          unfold wpTr
          refine sched_value rfl .nilIface v20 (by go_simp) (by go_simp) trivial ?_
          go_simp
          unfold wpSched
          go_wp2_with fail
          go_meet
          case rel => exact ⟨rfl, bf, rfl, GS.out, FS.out.1, FS.out.2.1⟩
      · have ba : Below v13.heap.size v13 (v13.alloc (Obj.cells #[.int .i64 0, .int .i64 0, .int .i64 0, .int .i64 0, .slice none 0 0, .slice none 0 0, .slice none 0 0, .slice none 0 0, .slice none 0 0] 29)) := (Below.refl _ _).alloc (Nat.le_refl _) _
        refine st_value rfl (.pointer (some ⟨v13.heap.size, 0, none⟩)) (v13.alloc (Obj.cells #[.int .i64 0, .int .i64 0, .int .i64 0, .int .i64 0, .slice none 0 0, .slice none 0 0, .slice none 0 0, .slice none 0 0, .slice none 0 0] 29)) (by go_simp) (by go_simp) (F.out.below ba).2.2.1 ?_
        obtain ⟨bf, hbf⟩ : ∃ g, v13.heap.size = g := ⟨_, rfl⟩
        have ZE : Hid (Wx (v13.alloc (Obj.cells #[.int .i64 0, .int .i64 0, .int .i64 0, .int .i64 0, .slice none 0 0, .slice none 0 0, .slice none 0 0, .slice none 0 0, .slice none 0 0] 29)) bf (.int .i64 0) (.int .i64 0) (.int .i64 0) (.int .i64 0) (.slice none 0 0) (.slice none 0 0) (.slice none 0 0) (.slice none 0 0) (.slice none 0 0) ∧ w.heap.size < bf ∧ z < bf) := ⟨Wx.new (w := v13) _ _ _ _ _ _ _ _ _ hbf, by rw [← hbf]; exact F.out.2.1.lt, by rw [← hbf]; exact F.out.2.2.1.lt⟩
        rw [hbf]
        have F9 : Hid (Fx w X (.slice p1 X.gs.length q1) (.slice p2 X.os.length q2) (.slice p3 X.gold.length q3) (.slice p4 X.us.length q4) (.slice p5 X.qs.length q5) z (.slice m1 8 n1) (.slice m2 8 n2) (.slice m3 2 n3) (.slice m4 3 n4) (.slice m5 0 n5) (v13.alloc (Obj.cells #[.int .i64 0, .int .i64 0, .int .i64 0, .int .i64 0, .slice none 0 0, .slice none 0 0, .slice none 0 0, .slice none 0 0, .slice none 0 0] 29))) := F.out.below ba
        clear F
        have F := F9
        clear F9
        have O9 : Hid (Oll (v13.alloc (Obj.cells #[.int .i64 0, .int .i64 0, .int .i64 0, .int .i64 0, .slice none 0 0, .slice none 0 0, .slice none 0 0, .slice none 0 0, .slice none 0 0] 29)) (.slice (some ⟨g, 0, none⟩) 2 2) [[], []]) := OL.out.below ba
        clear OL
        have OL := O9
        clear O9
        clear ba hbf
        generalize v13.alloc (Obj.cells #[.int .i64 0, .int .i64 0, .int .i64 0, .int .i64 0, .slice none 0 0, .slice none 0 0, .slice none 0 0, .slice none 0 0, .slice none 0 0] 29) = v21 at *
        go_simp
        refine tr_one ?_
        refine st_call rfl 26 #[] (by go_simp) (by go_simp) ?_
        refine (sorts_any v21).mono ?_
        rintro e v22 ⟨ku, rfl, hk, hb⟩
        have F9 : Hid (Fx w X (.slice p1 X.gs.length q1) (.slice p2 X.os.length q2) (.slice p3 X.gold.length q3) (.slice p4 X.us.length q4) (.slice p5 X.qs.length q5) z (.slice m1 8 n1) (.slice m2 8 n2) (.slice m3 2 n3) (.slice m4 3 n4) (.slice m5 0 n5) v22) := F.out.below hb
        clear F
        have F := F9
        clear F9
        have O9 : Hid (Oll v22 (.slice (some ⟨g, 0, none⟩) 2 2) [[], []]) := OL.out.below hb
        clear OL
        have OL := O9
        clear O9
        have Z9 : Hid (Wx v22 bf (.int .i64 0) (.int .i64 0) (.int .i64 0) (.int .i64 0) (.slice none 0 0) (.slice none 0 0) (.slice none 0 0) (.slice none 0 0) (.slice none 0 0) ∧ w.heap.size < bf ∧ z < bf) := ⟨ZE.out.1.below hb ZE.out.1.lt, ZE.out.2⟩
        clear ZE
        have ZE := Z9
        clear Z9
        have KU : Hid (Kl v22 ku SK) := hk
        refine ⟨_, rfl, F.out.2.2.1, ?_⟩
        clear hk hb
        go_simp
        refine tr_one ?_
        refine st_call rfl 25 #[ku, .agg #[.int .i64 0, .int .i64 4, .int .i64 4, .int .i64 2, .slice m1 8 n1, .slice m2 8 n2, .slice m3 2 n3, .slice m4 3 n4, .slice m5 0 n5], .slice (some ⟨g, 0, none⟩) 2 2] (by go_simp) (by go_simp) ?_
        refine (Play_any ku _ _ SK S3 [[], []] v22 KU.out sm_names F.out.2.2.2.1 OL.out F.out.2.2.2.2).mono ?_
        rintro e v23 ⟨v, r, FF, rfl, hr, hf, hb⟩
        obtain ⟨rfl, Q, hQ2, hwo⟩ := tp_fact hf hr
        obtain ⟨f1, h1, f2, h2, f3, h3, f4, h4, f5, h5, rfl⟩ := wl_shape9 hwo.l
        have Q2 : Hid (Q.turn = 2) := hQ2
        have F9 : Hid (Fx w X (.slice p1 X.gs.length q1) (.slice p2 X.os.length q2) (.slice p3 X.gold.length q3) (.slice p4 X.us.length q4) (.slice p5 X.qs.length q5) z (.slice m1 8 n1) (.slice m2 8 n2) (.slice m3 2 n3) (.slice m4 3 n4) (.slice m5 0 n5) v23) := F.out.below hb
        clear F
        have F := F9
        clear F9
        have Z9 : Hid (Wx v23 bf (.int .i64 0) (.int .i64 0) (.int .i64 0) (.int .i64 0) (.slice none 0 0) (.slice none 0 0) (.slice none 0 0) (.slice none 0 0) (.slice none 0 0) ∧ w.heap.size < bf ∧ z < bf) := ⟨ZE.out.1.below hb ZE.out.1.lt, ZE.out.2⟩
        clear ZE
        have ZE := Z9
        clear Z9
        refine ⟨_, rfl, F.out.2.2.1, ?_⟩
        clear hr hf hb hwo hQ2 KU OL
        go_simp
        refine tr_read rfl (.tuple #[.agg #[.int .i64 Q.turn, .int .i64 Q.next, .int .i64 Q.wide, .int .i64 Q.high, .slice f1 Q.gs.length h1, .slice f2 Q.os.length h2, .slice f3 Q.gold.length h3, .slice f4 Q.us.length h4, .slice f5 Q.qs.length h5], .nilIface]) (by go_simp) (fun V hV => by go_simp) ?_
        go_simp
        refine tr_read rfl (.agg #[.int .i64 Q.turn, .int .i64 Q.next, .int .i64 Q.wide, .int .i64 Q.high, .slice f1 Q.gs.length h1, .slice f2 Q.os.length h2, .slice f3 Q.gold.length h3, .slice f4 Q.us.length h4, .slice f5 Q.qs.length h5]) (by go_simp) (fun V hV => by go_simp) ?_
        go_simp
        refine tr_read rfl (.nilIface) (by go_simp) (fun V hV => by go_simp) ?_
        go_simp
        refine tr_one ?_
        obtain ⟨z0, z1, z2, z3, z4, z5, z6, z7, z8⟩ := ZE.out.1.cells
        obtain ⟨t0, t1, t2, t3, t4, t5, t6, t7, t8⟩ := ZE.out.1.thaws
        have KZ : Hid (Kp bf v23 (((((((((v23.setCell ⟨bf, 0, none⟩ (.int .i64 Q.turn)).setCell ⟨bf, 1, none⟩ (.int .i64 Q.next)).setCell ⟨bf, 2, none⟩ (.int .i64 Q.wide)).setCell ⟨bf, 3, none⟩ (.int .i64 Q.high)).setCell ⟨bf, 4, none⟩ (.slice f1 Q.gs.length h1)).setCell ⟨bf, 5, none⟩ (.slice f2 Q.os.length h2)).setCell ⟨bf, 6, none⟩ (.slice f3 Q.gold.length h3)).setCell ⟨bf, 7, none⟩ (.slice f4 Q.us.length h4)).setCell ⟨bf, 8, none⟩ (.slice f5 Q.qs.length h5))) := put_kp _ _ _ _ _ _ _ _ _ _ _
        have FS : Hid (Below w.heap.size w (((((((((v23.setCell ⟨bf, 0, none⟩ (.int .i64 Q.turn)).setCell ⟨bf, 1, none⟩ (.int .i64 Q.next)).setCell ⟨bf, 2, none⟩ (.int .i64 Q.wide)).setCell ⟨bf, 3, none⟩ (.int .i64 Q.high)).setCell ⟨bf, 4, none⟩ (.slice f1 Q.gs.length h1)).setCell ⟨bf, 5, none⟩ (.slice f2 Q.os.length h2)).setCell ⟨bf, 6, none⟩ (.slice f3 Q.gold.length h3)).setCell ⟨bf, 7, none⟩ (.slice f4 Q.us.length h4)).setCell ⟨bf, 8, none⟩ (.slice f5 Q.qs.length h5)) ∧ Bw (((((((((v23.setCell ⟨bf, 0, none⟩ (.int .i64 Q.turn)).setCell ⟨bf, 1, none⟩ (.int .i64 Q.next)).setCell ⟨bf, 2, none⟩ (.int .i64 Q.wide)).setCell ⟨bf, 3, none⟩ (.int .i64 Q.high)).setCell ⟨bf, 4, none⟩ (.slice f1 Q.gs.length h1)).setCell ⟨bf, 5, none⟩ (.slice f2 Q.os.length h2)).setCell ⟨bf, 6, none⟩ (.slice f3 Q.gold.length h3)).setCell ⟨bf, 7, none⟩ (.slice f4 Q.us.length h4)).setCell ⟨bf, 8, none⟩ (.slice f5 Q.qs.length h5)) w.heap.size X (.slice p1 X.gs.length q1) (.slice p2 X.os.length q2) (.slice p3 X.gold.length q3) (.slice p4 X.us.length q4) (.slice p5 X.qs.length q5) ∧ Wx (((((((((v23.setCell ⟨bf, 0, none⟩ (.int .i64 Q.turn)).setCell ⟨bf, 1, none⟩ (.int .i64 Q.next)).setCell ⟨bf, 2, none⟩ (.int .i64 Q.wide)).setCell ⟨bf, 3, none⟩ (.int .i64 Q.high)).setCell ⟨bf, 4, none⟩ (.slice f1 Q.gs.length h1)).setCell ⟨bf, 5, none⟩ (.slice f2 Q.os.length h2)).setCell ⟨bf, 6, none⟩ (.slice f3 Q.gold.length h3)).setCell ⟨bf, 7, none⟩ (.slice f4 Q.us.length h4)).setCell ⟨bf, 8, none⟩ (.slice f5 Q.qs.length h5)) z (.int .i64 0) (.int .i64 4) (.int .i64 4) (.int .i64 2) (.slice m1 8 n1) (.slice m2 8 n2) (.slice m3 2 n3) (.slice m4 3 n4) (.slice m5 0 n5)) := by have h9 := ZE.out.2; exact ⟨KZ.out.below F.out.1 F.out.1.size (by omega), F.out.2.1.kp9 KZ.out (by omega), F.out.2.2.1.kp KZ.out (by omega)⟩
        have GS : Hid ((((((((((v23.setCell ⟨bf, 0, none⟩ (.int .i64 Q.turn)).setCell ⟨bf, 1, none⟩ (.int .i64 Q.next)).setCell ⟨bf, 2, none⟩ (.int .i64 Q.wide)).setCell ⟨bf, 3, none⟩ (.int .i64 Q.high)).setCell ⟨bf, 4, none⟩ (.slice f1 Q.gs.length h1)).setCell ⟨bf, 5, none⟩ (.slice f2 Q.os.length h2)).setCell ⟨bf, 6, none⟩ (.slice f3 Q.gold.length h3)).setCell ⟨bf, 7, none⟩ (.slice f4 Q.us.length h4)).setCell ⟨bf, 8, none⟩ (.slice f5 Q.qs.length h5)).cell? ⟨bf, 0, none⟩ = some (.int .i64 2)) := by rw [← Q2.out]; exact (ZE.out.1.put _ _ _ _ _ _ _ _ _).cells.1
        refine st_skip rfl (((((((((v23.setCell ⟨bf, 0, none⟩ (.int .i64 Q.turn)).setCell ⟨bf, 1, none⟩ (.int .i64 Q.next)).setCell ⟨bf, 2, none⟩ (.int .i64 Q.wide)).setCell ⟨bf, 3, none⟩ (.int .i64 Q.high)).setCell ⟨bf, 4, none⟩ (.slice f1 Q.gs.length h1)).setCell ⟨bf, 5, none⟩ (.slice f2 Q.os.length h2)).setCell ⟨bf, 6, none⟩ (.slice f3 Q.gold.length h3)).setCell ⟨bf, 7, none⟩ (.slice f4 Q.us.length h4)).setCell ⟨bf, 8, none⟩ (.slice f5 Q.qs.length h5)) (by go_simp) (by go_simp) FS.out.2.2 ?_
        clear z0 z1 z2 z3 z4 z5 z6 z7 z8 t0 t1 t2 t3 t4 t5 t6 t7 t8 KZ ZE F
        generalize ((((((((v23.setCell ⟨bf, 0, none⟩ (.int .i64 Q.turn)).setCell ⟨bf, 1, none⟩ (.int .i64 Q.next)).setCell ⟨bf, 2, none⟩ (.int .i64 Q.wide)).setCell ⟨bf, 3, none⟩ (.int .i64 Q.high)).setCell ⟨bf, 4, none⟩ (.slice f1 Q.gs.length h1)).setCell ⟨bf, 5, none⟩ (.slice f2 Q.os.length h2)).setCell ⟨bf, 6, none⟩ (.slice f3 Q.gold.length h3)).setCell ⟨bf, 7, none⟩ (.slice f4 Q.us.length h4)).setCell ⟨bf, 8, none⟩ (.slice f5 Q.qs.length h5) = v24 at *
        go_simp
        unfold wpTr
        refine sched_value rfl .nilIface v24 (by go_simp) (by go_simp) trivial ?_
        go_simp
        unfold wpSched
        go_wp2_with fail
        go_meet
        case rel => exact ⟨rfl, bf, rfl, GS.out, FS.out.1, FS.out.2.1⟩
    · have ba : Below v0.heap.size v0 (v0.alloc (Obj.cells #[.int .i64 0, .int .i64 0, .int .i64 0, .int .i64 0, .slice none 0 0, .slice none 0 0, .slice none 0 0, .slice none 0 0, .slice none 0 0] 29)) := (Below.refl _ _).alloc (Nat.le_refl _) _
      refine st_value rfl (.pointer (some ⟨v0.heap.size, 0, none⟩)) (v0.alloc (Obj.cells #[.int .i64 0, .int .i64 0, .int .i64 0, .int .i64 0, .slice none 0 0, .slice none 0 0, .slice none 0 0, .slice none 0 0, .slice none 0 0] 29)) (by go_simp) (by go_simp) (F.out.below ba).2.2.1 ?_
      obtain ⟨bf, hbf⟩ : ∃ g, v0.heap.size = g := ⟨_, rfl⟩
      have ZE : Hid (Wx (v0.alloc (Obj.cells #[.int .i64 0, .int .i64 0, .int .i64 0, .int .i64 0, .slice none 0 0, .slice none 0 0, .slice none 0 0, .slice none 0 0, .slice none 0 0] 29)) bf (.int .i64 0) (.int .i64 0) (.int .i64 0) (.int .i64 0) (.slice none 0 0) (.slice none 0 0) (.slice none 0 0) (.slice none 0 0) (.slice none 0 0) ∧ w.heap.size < bf ∧ z < bf) := ⟨Wx.new (w := v0) _ _ _ _ _ _ _ _ _ hbf, by rw [← hbf]; exact F.out.2.1.lt, by rw [← hbf]; exact F.out.2.2.1.lt⟩
      rw [hbf]
      have F9 : Hid (Fx w X (.slice p1 X.gs.length q1) (.slice p2 X.os.length q2) (.slice p3 X.gold.length q3) (.slice p4 X.us.length q4) (.slice p5 X.qs.length q5) z (.slice m1 8 n1) (.slice m2 8 n2) (.slice m3 2 n3) (.slice m4 3 n4) (.slice m5 0 n5) (v0.alloc (Obj.cells #[.int .i64 0, .int .i64 0, .int .i64 0, .int .i64 0, .slice none 0 0, .slice none 0 0, .slice none 0 0, .slice none 0 0, .slice none 0 0] 29))) := F.out.below ba
      clear F
      have F := F9
      clear F9
      clear ba hbf
      generalize v0.alloc (Obj.cells #[.int .i64 0, .int .i64 0, .int .i64 0, .int .i64 0, .slice none 0 0, .slice none 0 0, .slice none 0 0, .slice none 0 0, .slice none 0 0] 29) = v25 at *
      go_simp
      refine tr_two ?_ ?_
      · refine st_call rfl 26 #[] (by go_simp) (by go_simp) ?_
        refine (sorts_any v25).mono ?_
        rintro e v26 ⟨ku, rfl, hk, hb⟩
        have F9 : Hid (Fx w X (.slice p1 X.gs.length q1) (.slice p2 X.os.length q2) (.slice p3 X.gold.length q3) (.slice p4 X.us.length q4) (.slice p5 X.qs.length q5) z (.slice m1 8 n1) (.slice m2 8 n2) (.slice m3 2 n3) (.slice m4 3 n4) (.slice m5 0 n5) v26) := F.out.below hb
        clear F
        have F := F9
        clear F9
        have Z9 : Hid (Wx v26 bf (.int .i64 0) (.int .i64 0) (.int .i64 0) (.int .i64 0) (.slice none 0 0) (.slice none 0 0) (.slice none 0 0) (.slice none 0 0) (.slice none 0 0) ∧ w.heap.size < bf ∧ z < bf) := ⟨ZE.out.1.below hb ZE.out.1.lt, ZE.out.2⟩
        clear ZE
        have ZE := Z9
        clear Z9
        have KU : Hid (Kl v26 ku SK) := hk
        refine ⟨_, rfl, F.out.2.2.1, ?_⟩
        clear hk hb
        go_simp
        refine tr_one ?_
        have ba : Below v26.heap.size v26 (v26.alloc (Obj.cells #[.slice none 0 0, .slice none 0 0] 48)) := (Below.refl _ _).alloc (Nat.le_refl _) _
        refine st_value rfl (.slice (some ⟨v26.heap.size, 0, none⟩) 2 2) (v26.alloc (Obj.cells #[.slice none 0 0, .slice none 0 0] 48)) (by go_simp) (by go_simp) (F.out.below ba).2.2.1 ?_
        obtain ⟨g, hg⟩ : ∃ g, v26.heap.size = g := ⟨_, rfl⟩
        have OL : Hid (Oll (v26.alloc (Obj.cells #[.slice none 0 0, .slice none 0 0] 48)) (.slice (some ⟨g, 0, none⟩) 2 2) [[], []]) := by rw [← hg]; exact oll_lit v26
        rw [hg]
        have F9 : Hid (Fx w X (.slice p1 X.gs.length q1) (.slice p2 X.os.length q2) (.slice p3 X.gold.length q3) (.slice p4 X.us.length q4) (.slice p5 X.qs.length q5) z (.slice m1 8 n1) (.slice m2 8 n2) (.slice m3 2 n3) (.slice m4 3 n4) (.slice m5 0 n5) (v26.alloc (Obj.cells #[.slice none 0 0, .slice none 0 0] 48))) := F.out.below ba
        clear F
        have F := F9
        clear F9
        have K9 : Hid (Kl (v26.alloc (Obj.cells #[.slice none 0 0, .slice none 0 0] 48)) ku SK) := KU.out.below ba
        clear KU
        have KU := K9
        clear K9
        have Z9 : Hid (Wx (v26.alloc (Obj.cells #[.slice none 0 0, .slice none 0 0] 48)) bf (.int .i64 0) (.int .i64 0) (.int .i64 0) (.int .i64 0) (.slice none 0 0) (.slice none 0 0) (.slice none 0 0) (.slice none 0 0) (.slice none 0 0) ∧ w.heap.size < bf ∧ z < bf) := ⟨ZE.out.1.below ba ZE.out.1.lt, ZE.out.2⟩
        clear ZE
        have ZE := Z9
        clear Z9
        clear ba hg
        generalize v26.alloc (Obj.cells #[.slice none 0 0, .slice none 0 0] 48) = v27 at *
        go_simp
        refine tr_one ?_
        refine st_call rfl 25 #[ku, .agg #[.int .i64 0, .int .i64 4, .int .i64 4, .int .i64 2, .slice m1 8 n1, .slice m2 8 n2, .slice m3 2 n3, .slice m4 3 n4, .slice m5 0 n5], .slice (some ⟨g, 0, none⟩) 2 2] (by go_simp) (by go_simp) ?_
        refine (Play_any ku _ _ SK S3 [[], []] v27 KU.out sm_names F.out.2.2.2.1 OL.out F.out.2.2.2.2).mono ?_
        rintro e v28 ⟨v, r, FF, rfl, hr, hf, hb⟩
        obtain ⟨rfl, Q, hQ2, hwo⟩ := tp_fact hf hr
        obtain ⟨f1, h1, f2, h2, f3, h3, f4, h4, f5, h5, rfl⟩ := wl_shape9 hwo.l
        have Q2 : Hid (Q.turn = 2) := hQ2
        have F9 : Hid (Fx w X (.slice p1 X.gs.length q1) (.slice p2 X.os.length q2) (.slice p3 X.gold.length q3) (.slice p4 X.us.length q4) (.slice p5 X.qs.length q5) z (.slice m1 8 n1) (.slice m2 8 n2) (.slice m3 2 n3) (.slice m4 3 n4) (.slice m5 0 n5) v28) := F.out.below hb
        clear F
        have F := F9
        clear F9
        have Z9 : Hid (Wx v28 bf (.int .i64 0) (.int .i64 0) (.int .i64 0) (.int .i64 0) (.slice none 0 0) (.slice none 0 0) (.slice none 0 0) (.slice none 0 0) (.slice none 0 0) ∧ w.heap.size < bf ∧ z < bf) := ⟨ZE.out.1.below hb ZE.out.1.lt, ZE.out.2⟩
        clear ZE
        have ZE := Z9
        clear Z9
        refine ⟨_, rfl, F.out.2.2.1, ?_⟩
        clear hr hf hb hwo hQ2 KU OL
        go_simp
        refine tr_read rfl (.tuple #[.agg #[.int .i64 Q.turn, .int .i64 Q.next, .int .i64 Q.wide, .int .i64 Q.high, .slice f1 Q.gs.length h1, .slice f2 Q.os.length h2, .slice f3 Q.gold.length h3, .slice f4 Q.us.length h4, .slice f5 Q.qs.length h5], .nilIface]) (by go_simp) (fun V hV => by go_simp) ?_
        go_simp
        refine tr_read rfl (.agg #[.int .i64 Q.turn, .int .i64 Q.next, .int .i64 Q.wide, .int .i64 Q.high, .slice f1 Q.gs.length h1, .slice f2 Q.os.length h2, .slice f3 Q.gold.length h3, .slice f4 Q.us.length h4, .slice f5 Q.qs.length h5]) (by go_simp) (fun V hV => by go_simp) ?_
        go_simp
        refine tr_read rfl (.nilIface) (by go_simp) (fun V hV => by go_simp) ?_
        go_simp
        refine tr_one ?_
        obtain ⟨z0, z1, z2, z3, z4, z5, z6, z7, z8⟩ := ZE.out.1.cells
        obtain ⟨t0, t1, t2, t3, t4, t5, t6, t7, t8⟩ := ZE.out.1.thaws
        have KZ : Hid (Kp bf v28 (((((((((v28.setCell ⟨bf, 0, none⟩ (.int .i64 Q.turn)).setCell ⟨bf, 1, none⟩ (.int .i64 Q.next)).setCell ⟨bf, 2, none⟩ (.int .i64 Q.wide)).setCell ⟨bf, 3, none⟩ (.int .i64 Q.high)).setCell ⟨bf, 4, none⟩ (.slice f1 Q.gs.length h1)).setCell ⟨bf, 5, none⟩ (.slice f2 Q.os.length h2)).setCell ⟨bf, 6, none⟩ (.slice f3 Q.gold.length h3)).setCell ⟨bf, 7, none⟩ (.slice f4 Q.us.length h4)).setCell ⟨bf, 8, none⟩ (.slice f5 Q.qs.length h5))) := put_kp _ _ _ _ _ _ _ _ _ _ _
        have FS : Hid (Below w.heap.size w (((((((((v28.setCell ⟨bf, 0, none⟩ (.int .i64 Q.turn)).setCell ⟨bf, 1, none⟩ (.int .i64 Q.next)).setCell ⟨bf, 2, none⟩ (.int .i64 Q.wide)).setCell ⟨bf, 3, none⟩ (.int .i64 Q.high)).setCell ⟨bf, 4, none⟩ (.slice f1 Q.gs.length h1)).setCell ⟨bf, 5, none⟩ (.slice f2 Q.os.length h2)).setCell ⟨bf, 6, none⟩ (.slice f3 Q.gold.length h3)).setCell ⟨bf, 7, none⟩ (.slice f4 Q.us.length h4)).setCell ⟨bf, 8, none⟩ (.slice f5 Q.qs.length h5)) ∧ Bw (((((((((v28.setCell ⟨bf, 0, none⟩ (.int .i64 Q.turn)).setCell ⟨bf, 1, none⟩ (.int .i64 Q.next)).setCell ⟨bf, 2, none⟩ (.int .i64 Q.wide)).setCell ⟨bf, 3, none⟩ (.int .i64 Q.high)).setCell ⟨bf, 4, none⟩ (.slice f1 Q.gs.length h1)).setCell ⟨bf, 5, none⟩ (.slice f2 Q.os.length h2)).setCell ⟨bf, 6, none⟩ (.slice f3 Q.gold.length h3)).setCell ⟨bf, 7, none⟩ (.slice f4 Q.us.length h4)).setCell ⟨bf, 8, none⟩ (.slice f5 Q.qs.length h5)) w.heap.size X (.slice p1 X.gs.length q1) (.slice p2 X.os.length q2) (.slice p3 X.gold.length q3) (.slice p4 X.us.length q4) (.slice p5 X.qs.length q5) ∧ Wx (((((((((v28.setCell ⟨bf, 0, none⟩ (.int .i64 Q.turn)).setCell ⟨bf, 1, none⟩ (.int .i64 Q.next)).setCell ⟨bf, 2, none⟩ (.int .i64 Q.wide)).setCell ⟨bf, 3, none⟩ (.int .i64 Q.high)).setCell ⟨bf, 4, none⟩ (.slice f1 Q.gs.length h1)).setCell ⟨bf, 5, none⟩ (.slice f2 Q.os.length h2)).setCell ⟨bf, 6, none⟩ (.slice f3 Q.gold.length h3)).setCell ⟨bf, 7, none⟩ (.slice f4 Q.us.length h4)).setCell ⟨bf, 8, none⟩ (.slice f5 Q.qs.length h5)) z (.int .i64 0) (.int .i64 4) (.int .i64 4) (.int .i64 2) (.slice m1 8 n1) (.slice m2 8 n2) (.slice m3 2 n3) (.slice m4 3 n4) (.slice m5 0 n5)) := by have h9 := ZE.out.2; exact ⟨KZ.out.below F.out.1 F.out.1.size (by omega), F.out.2.1.kp9 KZ.out (by omega), F.out.2.2.1.kp KZ.out (by omega)⟩
        have GS : Hid ((((((((((v28.setCell ⟨bf, 0, none⟩ (.int .i64 Q.turn)).setCell ⟨bf, 1, none⟩ (.int .i64 Q.next)).setCell ⟨bf, 2, none⟩ (.int .i64 Q.wide)).setCell ⟨bf, 3, none⟩ (.int .i64 Q.high)).setCell ⟨bf, 4, none⟩ (.slice f1 Q.gs.length h1)).setCell ⟨bf, 5, none⟩ (.slice f2 Q.os.length h2)).setCell ⟨bf, 6, none⟩ (.slice f3 Q.gold.length h3)).setCell ⟨bf, 7, none⟩ (.slice f4 Q.us.length h4)).setCell ⟨bf, 8, none⟩ (.slice f5 Q.qs.length h5)).cell? ⟨bf, 0, none⟩ = some (.int .i64 2)) := by rw [← Q2.out]; exact (ZE.out.1.put _ _ _ _ _ _ _ _ _).cells.1
        refine st_skip rfl (((((((((v28.setCell ⟨bf, 0, none⟩ (.int .i64 Q.turn)).setCell ⟨bf, 1, none⟩ (.int .i64 Q.next)).setCell ⟨bf, 2, none⟩ (.int .i64 Q.wide)).setCell ⟨bf, 3, none⟩ (.int .i64 Q.high)).setCell ⟨bf, 4, none⟩ (.slice f1 Q.gs.length h1)).setCell ⟨bf, 5, none⟩ (.slice f2 Q.os.length h2)).setCell ⟨bf, 6, none⟩ (.slice f3 Q.gold.length h3)).setCell ⟨bf, 7, none⟩ (.slice f4 Q.us.length h4)).setCell ⟨bf, 8, none⟩ (.slice f5 Q.qs.length h5)) (by go_simp) (by go_simp) FS.out.2.2 ?_
        clear z0 z1 z2 z3 z4 z5 z6 z7 z8 t0 t1 t2 t3 t4 t5 t6 t7 t8 KZ ZE F
        generalize ((((((((v28.setCell ⟨bf, 0, none⟩ (.int .i64 Q.turn)).setCell ⟨bf, 1, none⟩ (.int .i64 Q.next)).setCell ⟨bf, 2, none⟩ (.int .i64 Q.wide)).setCell ⟨bf, 3, none⟩ (.int .i64 Q.high)).setCell ⟨bf, 4, none⟩ (.slice f1 Q.gs.length h1)).setCell ⟨bf, 5, none⟩ (.slice f2 Q.os.length h2)).setCell ⟨bf, 6, none⟩ (.slice f3 Q.gold.length h3)).setCell ⟨bf, 7, none⟩ (.slice f4 Q.us.length h4)).setCell ⟨bf, 8, none⟩ (.slice f5 Q.qs.length h5) = v29 at *
        go_simp
        unfold wpTr
        refine sched_value rfl .nilIface v29 (by go_simp) (by go_simp) trivial ?_
        go_simp
        unfold wpSched
        go_wp2_with fail
        go_meet
        case rel => exact ⟨rfl, bf, rfl, GS.out, FS.out.1, FS.out.2.1⟩
      · have ba : Below v25.heap.size v25 (v25.alloc (Obj.cells #[.slice none 0 0, .slice none 0 0] 48)) := (Below.refl _ _).alloc (Nat.le_refl _) _
        refine st_value rfl (.slice (some ⟨v25.heap.size, 0, none⟩) 2 2) (v25.alloc (Obj.cells #[.slice none 0 0, .slice none 0 0] 48)) (by go_simp) (by go_simp) (F.out.below ba).2.2.1 ?_
        obtain ⟨g, hg⟩ : ∃ g, v25.heap.size = g := ⟨_, rfl⟩
        have OL : Hid (Oll (v25.alloc (Obj.cells #[.slice none 0 0, .slice none 0 0] 48)) (.slice (some ⟨g, 0, none⟩) 2 2) [[], []]) := by rw [← hg]; exact oll_lit v25
        rw [hg]
        have F9 : Hid (Fx w X (.slice p1 X.gs.length q1) (.slice p2 X.os.length q2) (.slice p3 X.gold.length q3) (.slice p4 X.us.length q4) (.slice p5 X.qs.length q5) z (.slice m1 8 n1) (.slice m2 8 n2) (.slice m3 2 n3) (.slice m4 3 n4) (.slice m5 0 n5) (v25.alloc (Obj.cells #[.slice none 0 0, .slice none 0 0] 48))) := F.out.below ba
        clear F
        have F := F9
        clear F9
        have Z9 : Hid (Wx (v25.alloc (Obj.cells #[.slice none 0 0, .slice none 0 0] 48)) bf (.int .i64 0) (.int .i64 0) (.int .i64 0) (.int .i64 0) (.slice none 0 0) (.slice none 0 0) (.slice none 0 0) (.slice none 0 0) (.slice none 0 0) ∧ w.heap.size < bf ∧ z < bf) := ⟨ZE.out.1.below ba ZE.out.1.lt, ZE.out.2⟩
        clear ZE
        have ZE := Z9
        clear Z9
        clear ba hg
        generalize v25.alloc (Obj.cells #[.slice none 0 0, .slice none 0 0] 48) = v30 at *
        go_simp
        refine tr_one ?_
        refine st_call rfl 26 #[] (by go_simp) (by go_simp) ?_
        refine (sorts_any v30).mono ?_
        rintro e v31 ⟨ku, rfl, hk, hb⟩
        have F9 : Hid (Fx w X (.slice p1 X.gs.length q1) (.slice p2 X.os.length q2) (.slice p3 X.gold.length q3) (.slice p4 X.us.length q4) (.slice p5 X.qs.length q5) z (.slice m1 8 n1) (.slice m2 8 n2) (.slice m3 2 n3) (.slice m4 3 n4) (.slice m5 0 n5) v31) := F.out.below hb
        clear F
        have F := F9
        clear F9
        have O9 : Hid (Oll v31 (.slice (some ⟨g, 0, none⟩) 2 2) [[], []]) := OL.out.below hb
        clear OL
        have OL := O9
        clear O9
        have Z9 : Hid (Wx v31 bf (.int .i64 0) (.int .i64 0) (.int .i64 0) (.int .i64 0) (.slice none 0 0) (.slice none 0 0) (.slice none 0 0) (.slice none 0 0) (.slice none 0 0) ∧ w.heap.size < bf ∧ z < bf) := ⟨ZE.out.1.below hb ZE.out.1.lt, ZE.out.2⟩
        clear ZE
        have ZE := Z9
        clear Z9
        have KU : Hid (Kl v31 ku SK) := hk
        refine ⟨_, rfl, F.out.2.2.1, ?_⟩
        clear hk hb
        go_simp
        refine tr_one ?_
        refine st_call rfl 25 #[ku, .agg #[.int .i64 0, .int .i64 4, .int .i64 4, .int .i64 2, .slice m1 8 n1, .slice m2 8 n2, .slice m3 2 n3, .slice m4 3 n4, .slice m5 0 n5], .slice (some ⟨g, 0, none⟩) 2 2] (by go_simp) (by go_simp) ?_
        refine (Play_any ku _ _ SK S3 [[], []] v31 KU.out sm_names F.out.2.2.2.1 OL.out F.out.2.2.2.2).mono ?_
        rintro e v32 ⟨v, r, FF, rfl, hr, hf, hb⟩
        obtain ⟨rfl, Q, hQ2, hwo⟩ := tp_fact hf hr
        obtain ⟨f1, h1, f2, h2, f3, h3, f4, h4, f5, h5, rfl⟩ := wl_shape9 hwo.l
        have Q2 : Hid (Q.turn = 2) := hQ2
        have F9 : Hid (Fx w X (.slice p1 X.gs.length q1) (.slice p2 X.os.length q2) (.slice p3 X.gold.length q3) (.slice p4 X.us.length q4) (.slice p5 X.qs.length q5) z (.slice m1 8 n1) (.slice m2 8 n2) (.slice m3 2 n3) (.slice m4 3 n4) (.slice m5 0 n5) v32) := F.out.below hb
        clear F
        have F := F9
        clear F9
        have Z9 : Hid (Wx v32 bf (.int .i64 0) (.int .i64 0) (.int .i64 0) (.int .i64 0) (.slice none 0 0) (.slice none 0 0) (.slice none 0 0) (.slice none 0 0) (.slice none 0 0) ∧ w.heap.size < bf ∧ z < bf) := ⟨ZE.out.1.below hb ZE.out.1.lt, ZE.out.2⟩
        clear ZE
        have ZE := Z9
        clear Z9
        refine ⟨_, rfl, F.out.2.2.1, ?_⟩
        clear hr hf hb hwo hQ2 KU OL
        go_simp
        refine tr_read rfl (.tuple #[.agg #[.int .i64 Q.turn, .int .i64 Q.next, .int .i64 Q.wide, .int .i64 Q.high, .slice f1 Q.gs.length h1, .slice f2 Q.os.length h2, .slice f3 Q.gold.length h3, .slice f4 Q.us.length h4, .slice f5 Q.qs.length h5], .nilIface]) (by go_simp) (fun V hV => by go_simp) ?_
        go_simp
        refine tr_read rfl (.agg #[.int .i64 Q.turn, .int .i64 Q.next, .int .i64 Q.wide, .int .i64 Q.high, .slice f1 Q.gs.length h1, .slice f2 Q.os.length h2, .slice f3 Q.gold.length h3, .slice f4 Q.us.length h4, .slice f5 Q.qs.length h5]) (by go_simp) (fun V hV => by go_simp) ?_
        go_simp
        refine tr_read rfl (.nilIface) (by go_simp) (fun V hV => by go_simp) ?_
        go_simp
        refine tr_one ?_
        obtain ⟨z0, z1, z2, z3, z4, z5, z6, z7, z8⟩ := ZE.out.1.cells
        obtain ⟨t0, t1, t2, t3, t4, t5, t6, t7, t8⟩ := ZE.out.1.thaws
        have KZ : Hid (Kp bf v32 (((((((((v32.setCell ⟨bf, 0, none⟩ (.int .i64 Q.turn)).setCell ⟨bf, 1, none⟩ (.int .i64 Q.next)).setCell ⟨bf, 2, none⟩ (.int .i64 Q.wide)).setCell ⟨bf, 3, none⟩ (.int .i64 Q.high)).setCell ⟨bf, 4, none⟩ (.slice f1 Q.gs.length h1)).setCell ⟨bf, 5, none⟩ (.slice f2 Q.os.length h2)).setCell ⟨bf, 6, none⟩ (.slice f3 Q.gold.length h3)).setCell ⟨bf, 7, none⟩ (.slice f4 Q.us.length h4)).setCell ⟨bf, 8, none⟩ (.slice f5 Q.qs.length h5))) := put_kp _ _ _ _ _ _ _ _ _ _ _
        have FS : Hid (Below w.heap.size w (((((((((v32.setCell ⟨bf, 0, none⟩ (.int .i64 Q.turn)).setCell ⟨bf, 1, none⟩ (.int .i64 Q.next)).setCell ⟨bf, 2, none⟩ (.int .i64 Q.wide)).setCell ⟨bf, 3, none⟩ (.int .i64 Q.high)).setCell ⟨bf, 4, none⟩ (.slice f1 Q.gs.length h1)).setCell ⟨bf, 5, none⟩ (.slice f2 Q.os.length h2)).setCell ⟨bf, 6, none⟩ (.slice f3 Q.gold.length h3)).setCell ⟨bf, 7, none⟩ (.slice f4 Q.us.length h4)).setCell ⟨bf, 8, none⟩ (.slice f5 Q.qs.length h5)) ∧ Bw (((((((((v32.setCell ⟨bf, 0, none⟩ (.int .i64 Q.turn)).setCell ⟨bf, 1, none⟩ (.int .i64 Q.next)).setCell ⟨bf, 2, none⟩ (.int .i64 Q.wide)).setCell ⟨bf, 3, none⟩ (.int .i64 Q.high)).setCell ⟨bf, 4, none⟩ (.slice f1 Q.gs.length h1)).setCell ⟨bf, 5, none⟩ (.slice f2 Q.os.length h2)).setCell ⟨bf, 6, none⟩ (.slice f3 Q.gold.length h3)).setCell ⟨bf, 7, none⟩ (.slice f4 Q.us.length h4)).setCell ⟨bf, 8, none⟩ (.slice f5 Q.qs.length h5)) w.heap.size X (.slice p1 X.gs.length q1) (.slice p2 X.os.length q2) (.slice p3 X.gold.length q3) (.slice p4 X.us.length q4) (.slice p5 X.qs.length q5) ∧ Wx (((((((((v32.setCell ⟨bf, 0, none⟩ (.int .i64 Q.turn)).setCell ⟨bf, 1, none⟩ (.int .i64 Q.next)).setCell ⟨bf, 2, none⟩ (.int .i64 Q.wide)).setCell ⟨bf, 3, none⟩ (.int .i64 Q.high)).setCell ⟨bf, 4, none⟩ (.slice f1 Q.gs.length h1)).setCell ⟨bf, 5, none⟩ (.slice f2 Q.os.length h2)).setCell ⟨bf, 6, none⟩ (.slice f3 Q.gold.length h3)).setCell ⟨bf, 7, none⟩ (.slice f4 Q.us.length h4)).setCell ⟨bf, 8, none⟩ (.slice f5 Q.qs.length h5)) z (.int .i64 0) (.int .i64 4) (.int .i64 4) (.int .i64 2) (.slice m1 8 n1) (.slice m2 8 n2) (.slice m3 2 n3) (.slice m4 3 n4) (.slice m5 0 n5)) := by have h9 := ZE.out.2; exact ⟨KZ.out.below F.out.1 F.out.1.size (by omega), F.out.2.1.kp9 KZ.out (by omega), F.out.2.2.1.kp KZ.out (by omega)⟩
        have GS : Hid ((((((((((v32.setCell ⟨bf, 0, none⟩ (.int .i64 Q.turn)).setCell ⟨bf, 1, none⟩ (.int .i64 Q.next)).setCell ⟨bf, 2, none⟩ (.int .i64 Q.wide)).setCell ⟨bf, 3, none⟩ (.int .i64 Q.high)).setCell ⟨bf, 4, none⟩ (.slice f1 Q.gs.length h1)).setCell ⟨bf, 5, none⟩ (.slice f2 Q.os.length h2)).setCell ⟨bf, 6, none⟩ (.slice f3 Q.gold.length h3)).setCell ⟨bf, 7, none⟩ (.slice f4 Q.us.length h4)).setCell ⟨bf, 8, none⟩ (.slice f5 Q.qs.length h5)).cell? ⟨bf, 0, none⟩ = some (.int .i64 2)) := by rw [← Q2.out]; exact (ZE.out.1.put _ _ _ _ _ _ _ _ _).cells.1
        refine st_skip rfl (((((((((v32.setCell ⟨bf, 0, none⟩ (.int .i64 Q.turn)).setCell ⟨bf, 1, none⟩ (.int .i64 Q.next)).setCell ⟨bf, 2, none⟩ (.int .i64 Q.wide)).setCell ⟨bf, 3, none⟩ (.int .i64 Q.high)).setCell ⟨bf, 4, none⟩ (.slice f1 Q.gs.length h1)).setCell ⟨bf, 5, none⟩ (.slice f2 Q.os.length h2)).setCell ⟨bf, 6, none⟩ (.slice f3 Q.gold.length h3)).setCell ⟨bf, 7, none⟩ (.slice f4 Q.us.length h4)).setCell ⟨bf, 8, none⟩ (.slice f5 Q.qs.length h5)) (by go_simp) (by go_simp) FS.out.2.2 ?_
        clear z0 z1 z2 z3 z4 z5 z6 z7 z8 t0 t1 t2 t3 t4 t5 t6 t7 t8 KZ ZE F
        generalize ((((((((v32.setCell ⟨bf, 0, none⟩ (.int .i64 Q.turn)).setCell ⟨bf, 1, none⟩ (.int .i64 Q.next)).setCell ⟨bf, 2, none⟩ (.int .i64 Q.wide)).setCell ⟨bf, 3, none⟩ (.int .i64 Q.high)).setCell ⟨bf, 4, none⟩ (.slice f1 Q.gs.length h1)).setCell ⟨bf, 5, none⟩ (.slice f2 Q.os.length h2)).setCell ⟨bf, 6, none⟩ (.slice f3 Q.gold.length h3)).setCell ⟨bf, 7, none⟩ (.slice f4 Q.us.length h4)).setCell ⟨bf, 8, none⟩ (.slice f5 Q.qs.length h5) = v33 at *
        go_simp
        unfold wpTr
        refine sched_value rfl .nilIface v33 (by go_simp) (by go_simp) trivial ?_
        go_simp
        unfold wpSched
        go_wp2_with fail
        go_meet
        case rel => exact ⟨rfl, bf, rfl, GS.out, FS.out.1, FS.out.2.1⟩
  case rest =>
    obtain ⟨rfl, bf, rfl, hcf, hB, hX⟩ := hcut
    have B4 : Hid (Below w.heap.size w wc) := hB
    have X4 : Hid (Bw wc w.heap.size X (.slice p1 X.gs.length q1) (.slice p2 X.os.length q2) (.slice p3 X.gold.length q3) (.slice p4 X.us.length q4) (.slice p5 X.qs.length q5)) := hX
    clear hB hX
    obtain ⟨x0, x1, x2, x3, x4, x5, x6, x7, x8⟩ := X4.out
    go_wp2_with fail
    refine (Play_any _ _ _ ks X ls wc (K.out.1.below B4.out) K.out.2 (H.out.below B4.out) (L.out.below B4.out) (SDH.out.below B4.out)).mono ?_
    rintro e w5 ⟨v, r, F, rfl, hr, hs, hb⟩
    have B5 : Hid (Below w.heap.size w w5) := B4.out.trans (hb.mono B4.out.size)
    have X5 : Hid (Bw w5 w.heap.size X (.slice p1 X.gs.length q1) (.slice p2 X.os.length q2) (.slice p3 X.gold.length q3) (.slice p4 X.us.length q4) (.slice p5 X.qs.length q5)) := X4.out.below hb X4.out.lt
    clear hb x0 x1 x2 x3 x4 x5 x6 x7 x8 hcf
    by_cases hr0 : r = .nilIface
    case neg =>
      have hF : F ≠ 0 := fun h => hr0 (by rw [h] at hr; exact er_nil0 hr)
      obtain rfl : v = .agg #[.int .i64 0, .int .i64 0, .int .i64 0, .int .i64 0, .slice none 0 0, .slice none 0 0, .slice none 0 0, .slice none 0 0, .slice none 0 0] := by
        rcases hs with ⟨-, h, -⟩ | ⟨h, -⟩
        · exact h
        · exact absurd h hF
      obtain rfl : r = .iface 83 (.int .i64 F) := by
        rcases hr with ⟨h, -⟩ | ⟨-, h⟩
        · exact absurd h hF
        · exact h
      clear hs hr hr0 hF
      go_wp2
      go_ret
      exact ⟨rfl, ⟨B5.out.os, B5.out.tape, B5.out.output, Nat.le_trans B5.out.size (by simp), fun k hk => by rw [((Below.refl w5.heap.size w5).alloc (Nat.le_refl _) _).block k (Nat.lt_of_lt_of_le hk B5.out.size)]; exact B5.out.block k hk⟩⟩
    obtain ⟨hw0, hl2, Y, hY, hwo⟩ := tp_all hs hr hr0
    have PA : Hid (Wd.wfault ks X = 0 ∧ ls.length ≤ 200 ∧ PlayR ks X ls ls.length Y) := ⟨hw0, hl2, hY⟩
    obtain ⟨s1, l1, s2, l2, s3, l3, s4, l4, s5, l5, rfl⟩ := wl_shape9 hwo.l
    have LY : Hid (Wl w5 (.agg #[.int .i64 Y.turn, .int .i64 Y.next, .int .i64 Y.wide, .int .i64 Y.high, .slice s1 Y.gs.length l1, .slice s2 Y.os.length l2, .slice s3 Y.gold.length l3, .slice s4 Y.us.length l4, .slice s5 Y.qs.length l5]) Y) := hwo.l
    subst hr0
    clear hs hr hw0 hY hwo
    have BA : Hid (Below w5.heap.size w5 (w5.alloc (Obj.cells #[.int .i64 Y.turn, .int .i64 Y.next, .int .i64 Y.wide, .int .i64 Y.high, .slice s1 Y.gs.length l1, .slice s2 Y.os.length l2, .slice s3 Y.gold.length l3, .slice s4 Y.us.length l4, .slice s5 Y.qs.length l5] 29))) := (Below.refl _ _).alloc (Nat.le_refl _) _
    have B6 : Hid (Below w.heap.size w (w5.alloc (Obj.cells #[.int .i64 Y.turn, .int .i64 Y.next, .int .i64 Y.wide, .int .i64 Y.high, .slice s1 Y.gs.length l1, .slice s2 Y.os.length l2, .slice s3 Y.gold.length l3, .slice s4 Y.us.length l4, .slice s5 Y.qs.length l5] 29))) := B5.out.trans (BA.out.mono B5.out.size)
    by_cases hc0 : cut < 0
    case pos =>
      go_wp2
      go_ret
      exact ⟨rfl, B6.out⟩
    by_cases hcl : (ls.length : Int) < cut
    case pos =>
      go_wp2
      go_ret
      exact ⟨rfl, B6.out⟩
    obtain ⟨c, rfl⟩ : ∃ c : Nat, cut = (c : Nat) := ⟨cut.toNat, by omega⟩
    have hcn : c ≤ ls.length := by omega
    have hcn' : (c : Int) ≤ (ls.length : Int) := by omega
    have hcq : c ≤ ql := by omega
    have hcq' : (c : Int) ≤ (ql : Int) := by omega
    have hc0' : ¬ (c : Int) < 0 := by omega
    have CN : Hid (c ≤ ls.length) := hcn
    go_upto_region 10 with fail
    obtain ⟨by_, hby⟩ : ∃ z, w5.heap.size = z := ⟨_, rfl⟩
    have Y6 : Hid (Wb (w5.alloc (Obj.cells #[.int .i64 Y.turn, .int .i64 Y.next, .int .i64 Y.wide, .int .i64 Y.high, .slice s1 Y.gs.length l1, .slice s2 Y.os.length l2, .slice s3 Y.gold.length l3, .slice s4 Y.us.length l4, .slice s5 Y.qs.length l5] 29)) by_ Y) := ⟨s1, l1, s2, l2, s3, l3, s4, l4, s5, l5, Bw.mk' Y _ _ _ _ _ hby, LY.out.below BA.out⟩
    have X6 : Hid (Bw (w5.alloc (Obj.cells #[.int .i64 Y.turn, .int .i64 Y.next, .int .i64 Y.wide, .int .i64 Y.high, .slice s1 Y.gs.length l1, .slice s2 Y.os.length l2, .slice s3 Y.gold.length l3, .slice s4 Y.us.length l4, .slice s5 Y.qs.length l5] 29)) w.heap.size X (.slice p1 X.gs.length q1) (.slice p2 X.os.length q2) (.slice p3 X.gold.length q3) (.slice p4 X.us.length q4) (.slice p5 X.qs.length q5)) := X5.out.below BA.out X5.out.lt
    rw [hby]
    clear BA B5 X5 LY hby X4 B4
    generalize w5.alloc (Obj.cells #[.int .i64 Y.turn, .int .i64 Y.next, .int .i64 Y.wide, .int .i64 Y.high, .slice s1 Y.gs.length l1, .slice s2 Y.os.length l2, .slice s3 Y.gold.length l3, .slice s4 Y.us.length l4, .slice s5 Y.qs.length l5] 29) = w6 at *
    go_cut [15, 16] (fun v15 v16 V => v16 = .nilIface ∧ ∃ z A, v15 = .pointer (some ⟨z, 0, none⟩) ∧ PlayR ks X ls c A ∧ Wb V z A ∧ Below w6.heap.size w6 V)
    case first =>
      have CB : Hid (∀ V, Below w6.heap.size w6 V → Bw V w.heap.size X (.slice p1 X.gs.length q1) (.slice p2 X.os.length q2) (.slice p3 X.gold.length q3) (.slice p4 X.us.length q4) (.slice p5 X.qs.length q5)) := fun V hV => X6.out.below hV X6.out.lt
      have DE : Hid (Below w6.heap.size w6 { w6 with drawn := w6.drawn + 1 }) := (Below.refl _ _).drew
      refine wp_region_float 9 [(true, 0), (true, 1), (true, 2), (true, 3), (true, 4), (false, 5), (true, 6), (true, 7), (true, 8)] [(false, 10)] [(false, 11)] (fun V => Bw V w.heap.size X (.slice p1 X.gs.length q1) (.slice p2 X.os.length q2) (.slice p3 X.gold.length q3) (.slice p4 X.us.length q4) (.slice p5 X.qs.length q5)) (by kernel_rfl) (by kernel_rfl) (by kernel_rfl) (by decide +kernel) (by decide +kernel) (CB.out _ DE.out) ?_
      generalize ({ w6 with drawn := w6.drawn + 1 } : World) = u1 at *
      refine headA_read rfl (.slice pk ks.length qk) (by go_simp) (fun V hV => by obtain ⟨x0, x1, x2, x3, x4, x5, x6, x7, x8⟩ := hV; go_simp) ?_
      go_simp
      refine headA_read rfl (.agg #[.int .i64 X.turn, .int .i64 X.next, .int .i64 X.wide, .int .i64 X.high, .slice p1 X.gs.length q1, .slice p2 X.os.length q2, .slice p3 X.gold.length q3, .slice p4 X.us.length q4, .slice p5 X.qs.length q5]) (by go_simp) (fun V hV => by obtain ⟨x0, x1, x2, x3, x4, x5, x6, x7, x8⟩ := hV; go_simp) ?_
      go_simp
      refine headA_read rfl (.slice pl ls.length ql) (by go_simp) (fun V hV => by obtain ⟨x0, x1, x2, x3, x4, x5, x6, x7, x8⟩ := hV; go_simp) ?_
      go_simp
      refine headA_read rfl (.int .i64 (c : Nat)) (by go_simp) (fun V hV => by obtain ⟨x0, x1, x2, x3, x4, x5, x6, x7, x8⟩ := hV; go_simp) ?_
      go_simp
      refine headA_read rfl (.slice pl c ql) (by go_simp) (fun V hV => by obtain ⟨x0, x1, x2, x3, x4, x5, x6, x7, x8⟩ := hV; go_simp) ?_
      go_simp
      refine headA_call rfl 25 #[.slice pk ks.length qk, .agg #[.int .i64 X.turn, .int .i64 X.next, .int .i64 X.wide, .int .i64 X.high, .slice p1 X.gs.length q1, .slice p2 X.os.length q2, .slice p3 X.gold.length q3, .slice p4 X.us.length q4, .slice p5 X.qs.length q5], .slice pl c ql] (by go_simp) (by go_simp) ?_ rfl (.pointer (some ⟨u1.heap.size, 0, none⟩)) (u1.alloc (Obj.cells #[.int .i64 0, .int .i64 0, .int .i64 0, .int .i64 0, .slice none 0 0, .slice none 0 0, .slice none 0 0, .slice none 0 0, .slice none 0 0] 29)) (by go_simp) (by go_simp) (CB.out _ (DE.out.trans (((Below.refl _ _).alloc (Nat.le_refl _) _).mono DE.out.size))) ?_
      · have BB : Hid (Below w.heap.size w u1) := B6.out.trans (DE.out.mono B6.out.size)
        refine (Play_any _ _ _ ks X (ls.take c) u1 (K.out.1.below BB.out) K.out.2 (H.out.below BB.out) ((L.out.below BB.out).take CN.out) (SDH.out.below BB.out)).mono ?_
        rintro e u2 ⟨v, r, F, rfl, hr, hs, hb⟩
        obtain ⟨rfl, Q, hQ, hwo⟩ := tp_front PA.out.1 PA.out.2.1 PA.out.2.2 CN.out hs hr
        have PQ : Hid (PlayR ks X ls c Q) := hQ
        clear hr hs hQ BB
        obtain ⟨g1, l1, g2, l2, g3, l3, g4, l4, g5, l5, rfl⟩ := wl_shape9 hwo.l
        have LQ : Hid (Wl u2 (.agg #[.int .i64 Q.turn, .int .i64 Q.next, .int .i64 Q.wide, .int .i64 Q.high, .slice g1 Q.gs.length l1, .slice g2 Q.os.length l2, .slice g3 Q.gold.length l3, .slice g4 Q.us.length l4, .slice g5 Q.qs.length l5]) Q) := hwo.l
        have BU0 : Hid (Below w6.heap.size w6 u2) := DE.out.trans (hb.mono DE.out.size)
        refine ⟨_, rfl, CB.out _ BU0.out, ?_⟩
        clear hb hwo
        go_simp
        refine headA_read rfl (.tuple #[.agg #[.int .i64 Q.turn, .int .i64 Q.next, .int .i64 Q.wide, .int .i64 Q.high, .slice g1 Q.gs.length l1, .slice g2 Q.os.length l2, .slice g3 Q.gold.length l3, .slice g4 Q.us.length l4, .slice g5 Q.qs.length l5], .nilIface]) (by go_simp) (fun V hV => by go_simp) ?_
        go_simp
        refine headA_read rfl (.agg #[.int .i64 Q.turn, .int .i64 Q.next, .int .i64 Q.wide, .int .i64 Q.high, .slice g1 Q.gs.length l1, .slice g2 Q.os.length l2, .slice g3 Q.gold.length l3, .slice g4 Q.us.length l4, .slice g5 Q.qs.length l5]) (by go_simp) (fun V hV => by go_simp) ?_
        go_simp
        refine headA_read rfl (.nilIface) (by go_simp) (fun V hV => by go_simp) ?_
        go_simp
        obtain ⟨bx, hbx⟩ : ∃ z, u2.heap.size = z := ⟨_, rfl⟩
        have ba : Below u2.heap.size u2 (u2.alloc (Obj.cells #[.int .i64 0, .int .i64 0, .int .i64 0, .int .i64 0, .slice none 0 0, .slice none 0 0, .slice none 0 0, .slice none 0 0, .slice none 0 0] 29)) := (Below.refl _ _).alloc (Nat.le_refl _) _
        have ZE : Hid (Wx (u2.alloc (Obj.cells #[.int .i64 0, .int .i64 0, .int .i64 0, .int .i64 0, .slice none 0 0, .slice none 0 0, .slice none 0 0, .slice none 0 0, .slice none 0 0] 29)) bx (.int .i64 0) (.int .i64 0) (.int .i64 0) (.int .i64 0) (.slice none 0 0) (.slice none 0 0) (.slice none 0 0) (.slice none 0 0) (.slice none 0 0)) := Wx.new (w := u2) _ _ _ _ _ _ _ _ _ hbx
        have BU : Hid (Below w6.heap.size w6 (u2.alloc (Obj.cells #[.int .i64 0, .int .i64 0, .int .i64 0, .int .i64 0, .slice none 0 0, .slice none 0 0, .slice none 0 0, .slice none 0 0, .slice none 0 0] 29))) := BU0.out.trans (ba.mono BU0.out.size)
        have NB : Hid (w6.heap.size ≤ bx) := by rw [← hbx]; exact BU0.out.size
        have BL : Hid (Below bx u2 (u2.alloc (Obj.cells #[.int .i64 0, .int .i64 0, .int .i64 0, .int .i64 0, .slice none 0 0, .slice none 0 0, .slice none 0 0, .slice none 0 0, .slice none 0 0] 29))) := by rw [← hbx]; exact ba
        have LX : Hid (u2.heap.size = bx) := hbx
        refine headA_last rfl (.pointer (some ⟨u2.heap.size, 0, none⟩)) (u2.alloc (Obj.cells #[.int .i64 0, .int .i64 0, .int .i64 0, .int .i64 0, .slice none 0 0, .slice none 0 0, .slice none 0 0, .slice none 0 0, .slice none 0 0] 29)) (by go_simp) (by go_simp) (CB.out _ BU.out) ?_
        rw [hbx]
        clear ba hbx
        go_simp
        generalize u2.alloc (Obj.cells #[.int .i64 0, .int .i64 0, .int .i64 0, .int .i64 0, .slice none 0 0, .slice none 0 0, .slice none 0 0, .slice none 0 0, .slice none 0 0] 29) = u6 at *
        obtain ⟨z0, z1, z2, z3, z4, z5, z6, z7, z8⟩ := ZE.out.cells
        obtain ⟨t0, t1, t2, t3, t4, t5, t6, t7, t8⟩ := ZE.out.thaws
        have KZ : Hid (Kp bx u6 (((((((((u6.setCell ⟨bx, 0, none⟩ (.int .i64 Q.turn)).setCell ⟨bx, 1, none⟩ (.int .i64 Q.next)).setCell ⟨bx, 2, none⟩ (.int .i64 Q.wide)).setCell ⟨bx, 3, none⟩ (.int .i64 Q.high)).setCell ⟨bx, 4, none⟩ (.slice g1 Q.gs.length l1)).setCell ⟨bx, 5, none⟩ (.slice g2 Q.os.length l2)).setCell ⟨bx, 6, none⟩ (.slice g3 Q.gold.length l3)).setCell ⟨bx, 7, none⟩ (.slice g4 Q.us.length l4)).setCell ⟨bx, 8, none⟩ (.slice g5 Q.qs.length l5))) := put_kp _ _ _ _ _ _ _ _ _ _ _
        have BZ : Hid (Below w6.heap.size w6 (((((((((u6.setCell ⟨bx, 0, none⟩ (.int .i64 Q.turn)).setCell ⟨bx, 1, none⟩ (.int .i64 Q.next)).setCell ⟨bx, 2, none⟩ (.int .i64 Q.wide)).setCell ⟨bx, 3, none⟩ (.int .i64 Q.high)).setCell ⟨bx, 4, none⟩ (.slice g1 Q.gs.length l1)).setCell ⟨bx, 5, none⟩ (.slice g2 Q.os.length l2)).setCell ⟨bx, 6, none⟩ (.slice g3 Q.gold.length l3)).setCell ⟨bx, 7, none⟩ (.slice g4 Q.us.length l4)).setCell ⟨bx, 8, none⟩ (.slice g5 Q.qs.length l5))) := KZ.out.below BU.out BU.out.size NB.out
        have WZ : Hid (Wb (((((((((u6.setCell ⟨bx, 0, none⟩ (.int .i64 Q.turn)).setCell ⟨bx, 1, none⟩ (.int .i64 Q.next)).setCell ⟨bx, 2, none⟩ (.int .i64 Q.wide)).setCell ⟨bx, 3, none⟩ (.int .i64 Q.high)).setCell ⟨bx, 4, none⟩ (.slice g1 Q.gs.length l1)).setCell ⟨bx, 5, none⟩ (.slice g2 Q.os.length l2)).setCell ⟨bx, 6, none⟩ (.slice g3 Q.gold.length l3)).setCell ⟨bx, 7, none⟩ (.slice g4 Q.us.length l4)).setCell ⟨bx, 8, none⟩ (.slice g5 Q.qs.length l5)) bx Q) := ⟨g1, l1, g2, l2, g3, l3, g4, l4, g5, l5, wx_bw (ZE.out.put _ _ _ _ _ _ _ _ _), (LQ.out.below (by rw [LX.out]; exact KZ.out.below BL.out (by have h9 := BL.out.size; have h8 := LX.out; omega) (Nat.le_refl _)))⟩
        refine headT_skip rfl (((((((((u6.setCell ⟨bx, 0, none⟩ (.int .i64 Q.turn)).setCell ⟨bx, 1, none⟩ (.int .i64 Q.next)).setCell ⟨bx, 2, none⟩ (.int .i64 Q.wide)).setCell ⟨bx, 3, none⟩ (.int .i64 Q.high)).setCell ⟨bx, 4, none⟩ (.slice g1 Q.gs.length l1)).setCell ⟨bx, 5, none⟩ (.slice g2 Q.os.length l2)).setCell ⟨bx, 6, none⟩ (.slice g3 Q.gold.length l3)).setCell ⟨bx, 7, none⟩ (.slice g4 Q.us.length l4)).setCell ⟨bx, 8, none⟩ (.slice g5 Q.qs.length l5)) (by go_simp) (by go_simp) (CB.out _ BZ.out) ?_
        clear z0 z1 z2 z3 z4 z5 z6 z7 z8 t0 t1 t2 t3 t4 t5 t6 t7 t8 KZ ZE
        go_simp
        generalize ((((((((u6.setCell ⟨bx, 0, none⟩ (.int .i64 Q.turn)).setCell ⟨bx, 1, none⟩ (.int .i64 Q.next)).setCell ⟨bx, 2, none⟩ (.int .i64 Q.wide)).setCell ⟨bx, 3, none⟩ (.int .i64 Q.high)).setCell ⟨bx, 4, none⟩ (.slice g1 Q.gs.length l1)).setCell ⟨bx, 5, none⟩ (.slice g2 Q.os.length l2)).setCell ⟨bx, 6, none⟩ (.slice g3 Q.gold.length l3)).setCell ⟨bx, 7, none⟩ (.slice g4 Q.us.length l4)).setCell ⟨bx, 8, none⟩ (.slice g5 Q.qs.length l5) = u9 at *
        unfold wpHeadT
        refine sched_value rfl .nilIface u9 (by go_simp) (by go_simp) trivial ?_
        go_simp
        unfold wpSched
        go_wp2_with fail
        go_meet
        case rel => exact ⟨rfl, bx, Q, rfl, PQ.out, WZ.out, BZ.out⟩
      · obtain ⟨bx, hbx⟩ : ∃ z, u1.heap.size = z := ⟨_, rfl⟩
        have ba : Below u1.heap.size u1 (u1.alloc (Obj.cells #[.int .i64 0, .int .i64 0, .int .i64 0, .int .i64 0, .slice none 0 0, .slice none 0 0, .slice none 0 0, .slice none 0 0, .slice none 0 0] 29)) := (Below.refl _ _).alloc (Nat.le_refl _) _
        have ZE0 : Hid (Wx (u1.alloc (Obj.cells #[.int .i64 0, .int .i64 0, .int .i64 0, .int .i64 0, .slice none 0 0, .slice none 0 0, .slice none 0 0, .slice none 0 0, .slice none 0 0] 29)) bx (.int .i64 0) (.int .i64 0) (.int .i64 0) (.int .i64 0) (.slice none 0 0) (.slice none 0 0) (.slice none 0 0) (.slice none 0 0) (.slice none 0 0)) := Wx.new (w := u1) _ _ _ _ _ _ _ _ _ hbx
        have DE2 : Hid (Below w6.heap.size w6 (u1.alloc (Obj.cells #[.int .i64 0, .int .i64 0, .int .i64 0, .int .i64 0, .slice none 0 0, .slice none 0 0, .slice none 0 0, .slice none 0 0, .slice none 0 0] 29))) := DE.out.trans (ba.mono DE.out.size)
        have NB : Hid (w6.heap.size ≤ bx) := by rw [← hbx]; exact DE.out.size
        rw [hbx]
        go_simp
        generalize u1.alloc (Obj.cells #[.int .i64 0, .int .i64 0, .int .i64 0, .int .i64 0, .slice none 0 0, .slice none 0 0, .slice none 0 0, .slice none 0 0, .slice none 0 0] 29) = u3 at *
        clear DE ba hbx
        have DE := DE2
        clear DE2
        refine headT_call rfl 25 #[.slice pk ks.length qk, .agg #[.int .i64 X.turn, .int .i64 X.next, .int .i64 X.wide, .int .i64 X.high, .slice p1 X.gs.length q1, .slice p2 X.os.length q2, .slice p3 X.gold.length q3, .slice p4 X.us.length q4, .slice p5 X.qs.length q5], .slice pl c ql] (by go_simp) (by go_simp) ?_
        have BB : Hid (Below w.heap.size w u3) := B6.out.trans (DE.out.mono B6.out.size)
        refine (Play_any _ _ _ ks X (ls.take c) u3 (K.out.1.below BB.out) K.out.2 (H.out.below BB.out) ((L.out.below BB.out).take CN.out) (SDH.out.below BB.out)).mono ?_
        rintro e u2 ⟨v, r, F, rfl, hr, hs, hb⟩
        obtain ⟨rfl, Q, hQ, hwo⟩ := tp_front PA.out.1 PA.out.2.1 PA.out.2.2 CN.out hs hr
        have PQ : Hid (PlayR ks X ls c Q) := hQ
        clear hr hs hQ BB
        obtain ⟨g1, l1, g2, l2, g3, l3, g4, l4, g5, l5, rfl⟩ := wl_shape9 hwo.l
        have ZE : Hid (Wx u2 bx (.int .i64 0) (.int .i64 0) (.int .i64 0) (.int .i64 0) (.slice none 0 0) (.slice none 0 0) (.slice none 0 0) (.slice none 0 0) (.slice none 0 0)) := ZE0.out.below hb ZE0.out.lt
        have WQ : Hid (Wo u2 u3.heap.size (.agg #[.int .i64 Q.turn, .int .i64 Q.next, .int .i64 Q.wide, .int .i64 Q.high, .slice g1 Q.gs.length l1, .slice g2 Q.os.length l2, .slice g3 Q.gold.length l3, .slice g4 Q.us.length l4, .slice g5 Q.qs.length l5]) Q ∧ bx < u3.heap.size) := ⟨hwo, ZE0.out.lt⟩
        have BU : Hid (Below w6.heap.size w6 u2) := DE.out.trans (hb.mono DE.out.size)
        refine ⟨_, rfl, CB.out _ BU.out, ?_⟩
        clear hb hwo ZE0
        go_simp
        refine headT_read rfl (.tuple #[.agg #[.int .i64 Q.turn, .int .i64 Q.next, .int .i64 Q.wide, .int .i64 Q.high, .slice g1 Q.gs.length l1, .slice g2 Q.os.length l2, .slice g3 Q.gold.length l3, .slice g4 Q.us.length l4, .slice g5 Q.qs.length l5], .nilIface]) (by go_simp) (fun V hV => by go_simp) ?_
        go_simp
        refine headT_read rfl (.agg #[.int .i64 Q.turn, .int .i64 Q.next, .int .i64 Q.wide, .int .i64 Q.high, .slice g1 Q.gs.length l1, .slice g2 Q.os.length l2, .slice g3 Q.gold.length l3, .slice g4 Q.us.length l4, .slice g5 Q.qs.length l5]) (by go_simp) (fun V hV => by go_simp) ?_
        go_simp
        refine headT_read rfl (.nilIface) (by go_simp) (fun V hV => by go_simp) ?_
        go_simp
        obtain ⟨z0, z1, z2, z3, z4, z5, z6, z7, z8⟩ := ZE.out.cells
        obtain ⟨t0, t1, t2, t3, t4, t5, t6, t7, t8⟩ := ZE.out.thaws
        have KZ : Hid (Kp bx u2 (((((((((u2.setCell ⟨bx, 0, none⟩ (.int .i64 Q.turn)).setCell ⟨bx, 1, none⟩ (.int .i64 Q.next)).setCell ⟨bx, 2, none⟩ (.int .i64 Q.wide)).setCell ⟨bx, 3, none⟩ (.int .i64 Q.high)).setCell ⟨bx, 4, none⟩ (.slice g1 Q.gs.length l1)).setCell ⟨bx, 5, none⟩ (.slice g2 Q.os.length l2)).setCell ⟨bx, 6, none⟩ (.slice g3 Q.gold.length l3)).setCell ⟨bx, 7, none⟩ (.slice g4 Q.us.length l4)).setCell ⟨bx, 8, none⟩ (.slice g5 Q.qs.length l5))) := put_kp _ _ _ _ _ _ _ _ _ _ _
        have BZ : Hid (Below w6.heap.size w6 (((((((((u2.setCell ⟨bx, 0, none⟩ (.int .i64 Q.turn)).setCell ⟨bx, 1, none⟩ (.int .i64 Q.next)).setCell ⟨bx, 2, none⟩ (.int .i64 Q.wide)).setCell ⟨bx, 3, none⟩ (.int .i64 Q.high)).setCell ⟨bx, 4, none⟩ (.slice g1 Q.gs.length l1)).setCell ⟨bx, 5, none⟩ (.slice g2 Q.os.length l2)).setCell ⟨bx, 6, none⟩ (.slice g3 Q.gold.length l3)).setCell ⟨bx, 7, none⟩ (.slice g4 Q.us.length l4)).setCell ⟨bx, 8, none⟩ (.slice g5 Q.qs.length l5))) := KZ.out.below BU.out BU.out.size NB.out
        have WZ : Hid (Wb (((((((((u2.setCell ⟨bx, 0, none⟩ (.int .i64 Q.turn)).setCell ⟨bx, 1, none⟩ (.int .i64 Q.next)).setCell ⟨bx, 2, none⟩ (.int .i64 Q.wide)).setCell ⟨bx, 3, none⟩ (.int .i64 Q.high)).setCell ⟨bx, 4, none⟩ (.slice g1 Q.gs.length l1)).setCell ⟨bx, 5, none⟩ (.slice g2 Q.os.length l2)).setCell ⟨bx, 6, none⟩ (.slice g3 Q.gold.length l3)).setCell ⟨bx, 7, none⟩ (.slice g4 Q.us.length l4)).setCell ⟨bx, 8, none⟩ (.slice g5 Q.qs.length l5)) bx Q) := ⟨g1, l1, g2, l2, g3, l3, g4, l4, g5, l5, wx_bw (ZE.out.put _ _ _ _ _ _ _ _ _), (WQ.out.1.kp KZ.out WQ.out.2).l⟩
        refine headT_skip rfl (((((((((u2.setCell ⟨bx, 0, none⟩ (.int .i64 Q.turn)).setCell ⟨bx, 1, none⟩ (.int .i64 Q.next)).setCell ⟨bx, 2, none⟩ (.int .i64 Q.wide)).setCell ⟨bx, 3, none⟩ (.int .i64 Q.high)).setCell ⟨bx, 4, none⟩ (.slice g1 Q.gs.length l1)).setCell ⟨bx, 5, none⟩ (.slice g2 Q.os.length l2)).setCell ⟨bx, 6, none⟩ (.slice g3 Q.gold.length l3)).setCell ⟨bx, 7, none⟩ (.slice g4 Q.us.length l4)).setCell ⟨bx, 8, none⟩ (.slice g5 Q.qs.length l5)) (by go_simp) (by go_simp) (CB.out _ BZ.out) ?_
        clear z0 z1 z2 z3 z4 z5 z6 z7 z8 t0 t1 t2 t3 t4 t5 t6 t7 t8 KZ ZE
        go_simp
        generalize ((((((((u2.setCell ⟨bx, 0, none⟩ (.int .i64 Q.turn)).setCell ⟨bx, 1, none⟩ (.int .i64 Q.next)).setCell ⟨bx, 2, none⟩ (.int .i64 Q.wide)).setCell ⟨bx, 3, none⟩ (.int .i64 Q.high)).setCell ⟨bx, 4, none⟩ (.slice g1 Q.gs.length l1)).setCell ⟨bx, 5, none⟩ (.slice g2 Q.os.length l2)).setCell ⟨bx, 6, none⟩ (.slice g3 Q.gold.length l3)).setCell ⟨bx, 7, none⟩ (.slice g4 Q.us.length l4)).setCell ⟨bx, 8, none⟩ (.slice g5 Q.qs.length l5) = u9 at *
        unfold wpHeadT
        refine sched_value rfl .nilIface u9 (by go_simp) (by go_simp) trivial ?_
        go_simp
        unfold wpSched
        go_wp2_with fail
        go_meet
        case rel => exact ⟨rfl, bx, Q, rfl, PQ.out, WZ.out, BZ.out⟩
    case rest =>
    obtain ⟨rfl, za, A, rfl, hpa, hwa, hbw⟩ := hcut
    have PAA : Hid (PlayR ks X ls c A) := hpa
    have A7 : Hid (Wb wc za A) := hwa
    have Y7 : Hid (Wb wc by_ Y) := Y6.out.below hbw
    have X7 : Hid (Bw wc w.heap.size X (.slice p1 X.gs.length q1) (.slice p2 X.os.length q2) (.slice p3 X.gold.length q3) (.slice p4 X.us.length q4) (.slice p5 X.qs.length q5)) := X6.out.below hbw X6.out.lt
    have B7 : Hid (Below w.heap.size w wc) := B6.out.trans (hbw.mono B6.out.size)
    clear hpa hwa hbw Y6 X6 B6
    rename World => w7
    obtain ⟨a1, d1, a2, d2, a3, d3, a4, d4, a5, d5, ab, al⟩ := A7.out
    have AB : Hid (Bw w7 za A (.slice a1 A.gs.length d1) (.slice a2 A.os.length d2) (.slice a3 A.gold.length d3) (.slice a4 A.us.length d4) (.slice a5 A.qs.length d5) ∧ Wl w7 (.agg #[.int .i64 A.turn, .int .i64 A.next, .int .i64 A.wide, .int .i64 A.high, .slice a1 A.gs.length d1, .slice a2 A.os.length d2, .slice a3 A.gold.length d3, .slice a4 A.us.length d4, .slice a5 A.qs.length d5]) A) := ⟨ab, al⟩
    clear ab al
    obtain ⟨sv, hsv⟩ : ∃ v, sliced pl c ls.length ql 1 = v := ⟨_, rfl⟩
    have HSV : Hid (sliced pl c ls.length ql 1 = sv) := hsv
    clear hsv
    go_upto_region 11 with fail
    go_cut [17, 18] (fun v17 v18 V => v18 = .nilIface ∧ ∃ z, v17 = .pointer (some ⟨z, 0, none⟩) ∧ Wb V z Y ∧ Below w7.heap.size w7 V)
    case first =>
      have CB : Hid (∀ V, Below w7.heap.size w7 V → Bw V za A (.slice a1 A.gs.length d1) (.slice a2 A.os.length d2) (.slice a3 A.gold.length d3) (.slice a4 A.us.length d4) (.slice a5 A.qs.length d5)) := fun V hV => AB.out.1.below hV AB.out.1.lt
      have DE : Hid (Below w7.heap.size w7 { w7 with drawn := w7.drawn + 1 }) := (Below.refl _ _).drew
      refine wp_region_float 9 [(true, 0), (true, 1), (true, 2), (true, 3), (true, 4), (false, 5), (true, 6), (true, 7), (true, 8)] [(false, 10)] [(false, 11)] (fun V => Bw V za A (.slice a1 A.gs.length d1) (.slice a2 A.os.length d2) (.slice a3 A.gold.length d3) (.slice a4 A.us.length d4) (.slice a5 A.qs.length d5)) (by kernel_rfl) (by kernel_rfl) (by kernel_rfl) (by decide +kernel) (by decide +kernel) (CB.out _ DE.out) ?_
      generalize ({ w7 with drawn := w7.drawn + 1 } : World) = u1 at *
      refine headA_read rfl (.slice pk ks.length qk) (by go_simp) (fun V hV => by obtain ⟨x0, x1, x2, x3, x4, x5, x6, x7, x8⟩ := hV; go_simp) ?_
      go_simp
      refine headA_read rfl (.agg #[.int .i64 A.turn, .int .i64 A.next, .int .i64 A.wide, .int .i64 A.high, .slice a1 A.gs.length d1, .slice a2 A.os.length d2, .slice a3 A.gold.length d3, .slice a4 A.us.length d4, .slice a5 A.qs.length d5]) (by go_simp) (fun V hV => by obtain ⟨x0, x1, x2, x3, x4, x5, x6, x7, x8⟩ := hV; go_simp) ?_
      go_simp
      refine headA_read rfl (.slice pl ls.length ql) (by go_simp) (fun V hV => by obtain ⟨x0, x1, x2, x3, x4, x5, x6, x7, x8⟩ := hV; go_simp) ?_
      go_simp
      refine headA_read rfl (.int .i64 (c : Nat)) (by go_simp) (fun V hV => by obtain ⟨x0, x1, x2, x3, x4, x5, x6, x7, x8⟩ := hV; go_simp) ?_
      go_simp
      refine headA_read rfl sv (by go_simp) (fun V hV => by rw [← HSV.out]; go_simp) ?_
      go_simp
      refine headA_call rfl 25 #[.slice pk ks.length qk, .agg #[.int .i64 A.turn, .int .i64 A.next, .int .i64 A.wide, .int .i64 A.high, .slice a1 A.gs.length d1, .slice a2 A.os.length d2, .slice a3 A.gold.length d3, .slice a4 A.us.length d4, .slice a5 A.qs.length d5], sv] (by go_simp) (by go_simp) ?_ rfl (.pointer (some ⟨u1.heap.size, 0, none⟩)) (u1.alloc (Obj.cells #[.int .i64 0, .int .i64 0, .int .i64 0, .int .i64 0, .slice none 0 0, .slice none 0 0, .slice none 0 0, .slice none 0 0, .slice none 0 0] 29)) (by go_simp) (by go_simp) (CB.out _ (DE.out.trans (((Below.refl _ _).alloc (Nat.le_refl _) _).mono DE.out.size))) ?_
      · have BB : Hid (Below w.heap.size w u1) := B7.out.trans (DE.out.mono B7.out.size)
        refine (Play_any _ _ _ ks A (ls.drop c) u1 (K.out.1.below BB.out) K.out.2 (AB.out.2.below DE.out) (by have h9 := (L.out.below BB.out).sl CN.out; rw [HSV.out] at h9; exact h9) (SDH.out.below BB.out)).mono ?_
        rintro e u2 ⟨v, r, F, rfl, hr, hs, hb⟩
        obtain ⟨rfl, hwo⟩ := tp_back PA.out.1 PA.out.2.1 PA.out.2.2 CN.out PAA.out hs hr
        obtain ⟨Q, hQ⟩ : ∃ Q, Y = Q := ⟨_, rfl⟩
        have QY : Hid (Y = Q) := hQ
        rw [hQ] at hwo
        clear hr hs hQ BB
        obtain ⟨g1, l1, g2, l2, g3, l3, g4, l4, g5, l5, rfl⟩ := wl_shape9 hwo.l
        have LQ : Hid (Wl u2 (.agg #[.int .i64 Q.turn, .int .i64 Q.next, .int .i64 Q.wide, .int .i64 Q.high, .slice g1 Q.gs.length l1, .slice g2 Q.os.length l2, .slice g3 Q.gold.length l3, .slice g4 Q.us.length l4, .slice g5 Q.qs.length l5]) Q) := hwo.l
        have BU0 : Hid (Below w7.heap.size w7 u2) := DE.out.trans (hb.mono DE.out.size)
        refine ⟨_, rfl, CB.out _ BU0.out, ?_⟩
        clear hb hwo
        go_simp
        refine headA_read rfl (.tuple #[.agg #[.int .i64 Q.turn, .int .i64 Q.next, .int .i64 Q.wide, .int .i64 Q.high, .slice g1 Q.gs.length l1, .slice g2 Q.os.length l2, .slice g3 Q.gold.length l3, .slice g4 Q.us.length l4, .slice g5 Q.qs.length l5], .nilIface]) (by go_simp) (fun V hV => by go_simp) ?_
        go_simp
        refine headA_read rfl (.agg #[.int .i64 Q.turn, .int .i64 Q.next, .int .i64 Q.wide, .int .i64 Q.high, .slice g1 Q.gs.length l1, .slice g2 Q.os.length l2, .slice g3 Q.gold.length l3, .slice g4 Q.us.length l4, .slice g5 Q.qs.length l5]) (by go_simp) (fun V hV => by go_simp) ?_
        go_simp
        refine headA_read rfl (.nilIface) (by go_simp) (fun V hV => by go_simp) ?_
        go_simp
        obtain ⟨bx, hbx⟩ : ∃ z, u2.heap.size = z := ⟨_, rfl⟩
        have ba : Below u2.heap.size u2 (u2.alloc (Obj.cells #[.int .i64 0, .int .i64 0, .int .i64 0, .int .i64 0, .slice none 0 0, .slice none 0 0, .slice none 0 0, .slice none 0 0, .slice none 0 0] 29)) := (Below.refl _ _).alloc (Nat.le_refl _) _
        have ZE : Hid (Wx (u2.alloc (Obj.cells #[.int .i64 0, .int .i64 0, .int .i64 0, .int .i64 0, .slice none 0 0, .slice none 0 0, .slice none 0 0, .slice none 0 0, .slice none 0 0] 29)) bx (.int .i64 0) (.int .i64 0) (.int .i64 0) (.int .i64 0) (.slice none 0 0) (.slice none 0 0) (.slice none 0 0) (.slice none 0 0) (.slice none 0 0)) := Wx.new (w := u2) _ _ _ _ _ _ _ _ _ hbx
        have BU : Hid (Below w7.heap.size w7 (u2.alloc (Obj.cells #[.int .i64 0, .int .i64 0, .int .i64 0, .int .i64 0, .slice none 0 0, .slice none 0 0, .slice none 0 0, .slice none 0 0, .slice none 0 0] 29))) := BU0.out.trans (ba.mono BU0.out.size)
        have NB : Hid (w7.heap.size ≤ bx) := by rw [← hbx]; exact BU0.out.size
        have BL : Hid (Below bx u2 (u2.alloc (Obj.cells #[.int .i64 0, .int .i64 0, .int .i64 0, .int .i64 0, .slice none 0 0, .slice none 0 0, .slice none 0 0, .slice none 0 0, .slice none 0 0] 29))) := by rw [← hbx]; exact ba
        have LX : Hid (u2.heap.size = bx) := hbx
        refine headA_last rfl (.pointer (some ⟨u2.heap.size, 0, none⟩)) (u2.alloc (Obj.cells #[.int .i64 0, .int .i64 0, .int .i64 0, .int .i64 0, .slice none 0 0, .slice none 0 0, .slice none 0 0, .slice none 0 0, .slice none 0 0] 29)) (by go_simp) (by go_simp) (CB.out _ BU.out) ?_
        rw [hbx]
        clear ba hbx
        go_simp
        generalize u2.alloc (Obj.cells #[.int .i64 0, .int .i64 0, .int .i64 0, .int .i64 0, .slice none 0 0, .slice none 0 0, .slice none 0 0, .slice none 0 0, .slice none 0 0] 29) = u6 at *
        obtain ⟨z0, z1, z2, z3, z4, z5, z6, z7, z8⟩ := ZE.out.cells
        obtain ⟨t0, t1, t2, t3, t4, t5, t6, t7, t8⟩ := ZE.out.thaws
        have KZ : Hid (Kp bx u6 (((((((((u6.setCell ⟨bx, 0, none⟩ (.int .i64 Q.turn)).setCell ⟨bx, 1, none⟩ (.int .i64 Q.next)).setCell ⟨bx, 2, none⟩ (.int .i64 Q.wide)).setCell ⟨bx, 3, none⟩ (.int .i64 Q.high)).setCell ⟨bx, 4, none⟩ (.slice g1 Q.gs.length l1)).setCell ⟨bx, 5, none⟩ (.slice g2 Q.os.length l2)).setCell ⟨bx, 6, none⟩ (.slice g3 Q.gold.length l3)).setCell ⟨bx, 7, none⟩ (.slice g4 Q.us.length l4)).setCell ⟨bx, 8, none⟩ (.slice g5 Q.qs.length l5))) := put_kp _ _ _ _ _ _ _ _ _ _ _
        have BZ : Hid (Below w7.heap.size w7 (((((((((u6.setCell ⟨bx, 0, none⟩ (.int .i64 Q.turn)).setCell ⟨bx, 1, none⟩ (.int .i64 Q.next)).setCell ⟨bx, 2, none⟩ (.int .i64 Q.wide)).setCell ⟨bx, 3, none⟩ (.int .i64 Q.high)).setCell ⟨bx, 4, none⟩ (.slice g1 Q.gs.length l1)).setCell ⟨bx, 5, none⟩ (.slice g2 Q.os.length l2)).setCell ⟨bx, 6, none⟩ (.slice g3 Q.gold.length l3)).setCell ⟨bx, 7, none⟩ (.slice g4 Q.us.length l4)).setCell ⟨bx, 8, none⟩ (.slice g5 Q.qs.length l5))) := KZ.out.below BU.out BU.out.size NB.out
        have WZ : Hid (Wb (((((((((u6.setCell ⟨bx, 0, none⟩ (.int .i64 Q.turn)).setCell ⟨bx, 1, none⟩ (.int .i64 Q.next)).setCell ⟨bx, 2, none⟩ (.int .i64 Q.wide)).setCell ⟨bx, 3, none⟩ (.int .i64 Q.high)).setCell ⟨bx, 4, none⟩ (.slice g1 Q.gs.length l1)).setCell ⟨bx, 5, none⟩ (.slice g2 Q.os.length l2)).setCell ⟨bx, 6, none⟩ (.slice g3 Q.gold.length l3)).setCell ⟨bx, 7, none⟩ (.slice g4 Q.us.length l4)).setCell ⟨bx, 8, none⟩ (.slice g5 Q.qs.length l5)) bx Q) := ⟨g1, l1, g2, l2, g3, l3, g4, l4, g5, l5, wx_bw (ZE.out.put _ _ _ _ _ _ _ _ _), (LQ.out.below (by rw [LX.out]; exact KZ.out.below BL.out (by have h9 := BL.out.size; have h8 := LX.out; omega) (Nat.le_refl _)))⟩
        refine headT_skip rfl (((((((((u6.setCell ⟨bx, 0, none⟩ (.int .i64 Q.turn)).setCell ⟨bx, 1, none⟩ (.int .i64 Q.next)).setCell ⟨bx, 2, none⟩ (.int .i64 Q.wide)).setCell ⟨bx, 3, none⟩ (.int .i64 Q.high)).setCell ⟨bx, 4, none⟩ (.slice g1 Q.gs.length l1)).setCell ⟨bx, 5, none⟩ (.slice g2 Q.os.length l2)).setCell ⟨bx, 6, none⟩ (.slice g3 Q.gold.length l3)).setCell ⟨bx, 7, none⟩ (.slice g4 Q.us.length l4)).setCell ⟨bx, 8, none⟩ (.slice g5 Q.qs.length l5)) (by go_simp) (by go_simp) (CB.out _ BZ.out) ?_
        clear z0 z1 z2 z3 z4 z5 z6 z7 z8 t0 t1 t2 t3 t4 t5 t6 t7 t8 KZ ZE
        go_simp
        generalize ((((((((u6.setCell ⟨bx, 0, none⟩ (.int .i64 Q.turn)).setCell ⟨bx, 1, none⟩ (.int .i64 Q.next)).setCell ⟨bx, 2, none⟩ (.int .i64 Q.wide)).setCell ⟨bx, 3, none⟩ (.int .i64 Q.high)).setCell ⟨bx, 4, none⟩ (.slice g1 Q.gs.length l1)).setCell ⟨bx, 5, none⟩ (.slice g2 Q.os.length l2)).setCell ⟨bx, 6, none⟩ (.slice g3 Q.gold.length l3)).setCell ⟨bx, 7, none⟩ (.slice g4 Q.us.length l4)).setCell ⟨bx, 8, none⟩ (.slice g5 Q.qs.length l5) = u9 at *
        unfold wpHeadT
        refine sched_value rfl .nilIface u9 (by go_simp) (by go_simp) trivial ?_
        go_simp
        unfold wpSched
        go_wp2_with fail
        go_meet
        case rel => exact ⟨rfl, bx, rfl, by rw [QY.out]; exact WZ.out, BZ.out⟩
      · obtain ⟨bx, hbx⟩ : ∃ z, u1.heap.size = z := ⟨_, rfl⟩
        have ba : Below u1.heap.size u1 (u1.alloc (Obj.cells #[.int .i64 0, .int .i64 0, .int .i64 0, .int .i64 0, .slice none 0 0, .slice none 0 0, .slice none 0 0, .slice none 0 0, .slice none 0 0] 29)) := (Below.refl _ _).alloc (Nat.le_refl _) _
        have ZE0 : Hid (Wx (u1.alloc (Obj.cells #[.int .i64 0, .int .i64 0, .int .i64 0, .int .i64 0, .slice none 0 0, .slice none 0 0, .slice none 0 0, .slice none 0 0, .slice none 0 0] 29)) bx (.int .i64 0) (.int .i64 0) (.int .i64 0) (.int .i64 0) (.slice none 0 0) (.slice none 0 0) (.slice none 0 0) (.slice none 0 0) (.slice none 0 0)) := Wx.new (w := u1) _ _ _ _ _ _ _ _ _ hbx
        have DE2 : Hid (Below w7.heap.size w7 (u1.alloc (Obj.cells #[.int .i64 0, .int .i64 0, .int .i64 0, .int .i64 0, .slice none 0 0, .slice none 0 0, .slice none 0 0, .slice none 0 0, .slice none 0 0] 29))) := DE.out.trans (ba.mono DE.out.size)
        have NB : Hid (w7.heap.size ≤ bx) := by rw [← hbx]; exact DE.out.size
        rw [hbx]
        go_simp
        generalize u1.alloc (Obj.cells #[.int .i64 0, .int .i64 0, .int .i64 0, .int .i64 0, .slice none 0 0, .slice none 0 0, .slice none 0 0, .slice none 0 0, .slice none 0 0] 29) = u3 at *
        clear DE ba hbx
        have DE := DE2
        clear DE2
        refine headT_call rfl 25 #[.slice pk ks.length qk, .agg #[.int .i64 A.turn, .int .i64 A.next, .int .i64 A.wide, .int .i64 A.high, .slice a1 A.gs.length d1, .slice a2 A.os.length d2, .slice a3 A.gold.length d3, .slice a4 A.us.length d4, .slice a5 A.qs.length d5], sv] (by go_simp) (by go_simp) ?_
        have BB : Hid (Below w.heap.size w u3) := B7.out.trans (DE.out.mono B7.out.size)
        refine (Play_any _ _ _ ks A (ls.drop c) u3 (K.out.1.below BB.out) K.out.2 (AB.out.2.below DE.out) (by have h9 := (L.out.below BB.out).sl CN.out; rw [HSV.out] at h9; exact h9) (SDH.out.below BB.out)).mono ?_
        rintro e u2 ⟨v, r, F, rfl, hr, hs, hb⟩
        obtain ⟨rfl, hwo⟩ := tp_back PA.out.1 PA.out.2.1 PA.out.2.2 CN.out PAA.out hs hr
        obtain ⟨Q, hQ⟩ : ∃ Q, Y = Q := ⟨_, rfl⟩
        have QY : Hid (Y = Q) := hQ
        rw [hQ] at hwo
        clear hr hs hQ BB
        obtain ⟨g1, l1, g2, l2, g3, l3, g4, l4, g5, l5, rfl⟩ := wl_shape9 hwo.l
        have ZE : Hid (Wx u2 bx (.int .i64 0) (.int .i64 0) (.int .i64 0) (.int .i64 0) (.slice none 0 0) (.slice none 0 0) (.slice none 0 0) (.slice none 0 0) (.slice none 0 0)) := ZE0.out.below hb ZE0.out.lt
        have WQ : Hid (Wo u2 u3.heap.size (.agg #[.int .i64 Q.turn, .int .i64 Q.next, .int .i64 Q.wide, .int .i64 Q.high, .slice g1 Q.gs.length l1, .slice g2 Q.os.length l2, .slice g3 Q.gold.length l3, .slice g4 Q.us.length l4, .slice g5 Q.qs.length l5]) Q ∧ bx < u3.heap.size) := ⟨hwo, ZE0.out.lt⟩
        have BU : Hid (Below w7.heap.size w7 u2) := DE.out.trans (hb.mono DE.out.size)
        refine ⟨_, rfl, CB.out _ BU.out, ?_⟩
        clear hb hwo ZE0
        go_simp
        refine headT_read rfl (.tuple #[.agg #[.int .i64 Q.turn, .int .i64 Q.next, .int .i64 Q.wide, .int .i64 Q.high, .slice g1 Q.gs.length l1, .slice g2 Q.os.length l2, .slice g3 Q.gold.length l3, .slice g4 Q.us.length l4, .slice g5 Q.qs.length l5], .nilIface]) (by go_simp) (fun V hV => by go_simp) ?_
        go_simp
        refine headT_read rfl (.agg #[.int .i64 Q.turn, .int .i64 Q.next, .int .i64 Q.wide, .int .i64 Q.high, .slice g1 Q.gs.length l1, .slice g2 Q.os.length l2, .slice g3 Q.gold.length l3, .slice g4 Q.us.length l4, .slice g5 Q.qs.length l5]) (by go_simp) (fun V hV => by go_simp) ?_
        go_simp
        refine headT_read rfl (.nilIface) (by go_simp) (fun V hV => by go_simp) ?_
        go_simp
        obtain ⟨z0, z1, z2, z3, z4, z5, z6, z7, z8⟩ := ZE.out.cells
        obtain ⟨t0, t1, t2, t3, t4, t5, t6, t7, t8⟩ := ZE.out.thaws
        have KZ : Hid (Kp bx u2 (((((((((u2.setCell ⟨bx, 0, none⟩ (.int .i64 Q.turn)).setCell ⟨bx, 1, none⟩ (.int .i64 Q.next)).setCell ⟨bx, 2, none⟩ (.int .i64 Q.wide)).setCell ⟨bx, 3, none⟩ (.int .i64 Q.high)).setCell ⟨bx, 4, none⟩ (.slice g1 Q.gs.length l1)).setCell ⟨bx, 5, none⟩ (.slice g2 Q.os.length l2)).setCell ⟨bx, 6, none⟩ (.slice g3 Q.gold.length l3)).setCell ⟨bx, 7, none⟩ (.slice g4 Q.us.length l4)).setCell ⟨bx, 8, none⟩ (.slice g5 Q.qs.length l5))) := put_kp _ _ _ _ _ _ _ _ _ _ _
        have BZ : Hid (Below w7.heap.size w7 (((((((((u2.setCell ⟨bx, 0, none⟩ (.int .i64 Q.turn)).setCell ⟨bx, 1, none⟩ (.int .i64 Q.next)).setCell ⟨bx, 2, none⟩ (.int .i64 Q.wide)).setCell ⟨bx, 3, none⟩ (.int .i64 Q.high)).setCell ⟨bx, 4, none⟩ (.slice g1 Q.gs.length l1)).setCell ⟨bx, 5, none⟩ (.slice g2 Q.os.length l2)).setCell ⟨bx, 6, none⟩ (.slice g3 Q.gold.length l3)).setCell ⟨bx, 7, none⟩ (.slice g4 Q.us.length l4)).setCell ⟨bx, 8, none⟩ (.slice g5 Q.qs.length l5))) := KZ.out.below BU.out BU.out.size NB.out
        have WZ : Hid (Wb (((((((((u2.setCell ⟨bx, 0, none⟩ (.int .i64 Q.turn)).setCell ⟨bx, 1, none⟩ (.int .i64 Q.next)).setCell ⟨bx, 2, none⟩ (.int .i64 Q.wide)).setCell ⟨bx, 3, none⟩ (.int .i64 Q.high)).setCell ⟨bx, 4, none⟩ (.slice g1 Q.gs.length l1)).setCell ⟨bx, 5, none⟩ (.slice g2 Q.os.length l2)).setCell ⟨bx, 6, none⟩ (.slice g3 Q.gold.length l3)).setCell ⟨bx, 7, none⟩ (.slice g4 Q.us.length l4)).setCell ⟨bx, 8, none⟩ (.slice g5 Q.qs.length l5)) bx Q) := ⟨g1, l1, g2, l2, g3, l3, g4, l4, g5, l5, wx_bw (ZE.out.put _ _ _ _ _ _ _ _ _), (WQ.out.1.kp KZ.out WQ.out.2).l⟩
        refine headT_skip rfl (((((((((u2.setCell ⟨bx, 0, none⟩ (.int .i64 Q.turn)).setCell ⟨bx, 1, none⟩ (.int .i64 Q.next)).setCell ⟨bx, 2, none⟩ (.int .i64 Q.wide)).setCell ⟨bx, 3, none⟩ (.int .i64 Q.high)).setCell ⟨bx, 4, none⟩ (.slice g1 Q.gs.length l1)).setCell ⟨bx, 5, none⟩ (.slice g2 Q.os.length l2)).setCell ⟨bx, 6, none⟩ (.slice g3 Q.gold.length l3)).setCell ⟨bx, 7, none⟩ (.slice g4 Q.us.length l4)).setCell ⟨bx, 8, none⟩ (.slice g5 Q.qs.length l5)) (by go_simp) (by go_simp) (CB.out _ BZ.out) ?_
        clear z0 z1 z2 z3 z4 z5 z6 z7 z8 t0 t1 t2 t3 t4 t5 t6 t7 t8 KZ ZE
        go_simp
        generalize ((((((((u2.setCell ⟨bx, 0, none⟩ (.int .i64 Q.turn)).setCell ⟨bx, 1, none⟩ (.int .i64 Q.next)).setCell ⟨bx, 2, none⟩ (.int .i64 Q.wide)).setCell ⟨bx, 3, none⟩ (.int .i64 Q.high)).setCell ⟨bx, 4, none⟩ (.slice g1 Q.gs.length l1)).setCell ⟨bx, 5, none⟩ (.slice g2 Q.os.length l2)).setCell ⟨bx, 6, none⟩ (.slice g3 Q.gold.length l3)).setCell ⟨bx, 7, none⟩ (.slice g4 Q.us.length l4)).setCell ⟨bx, 8, none⟩ (.slice g5 Q.qs.length l5) = u9 at *
        unfold wpHeadT
        refine sched_value rfl .nilIface u9 (by go_simp) (by go_simp) trivial ?_
        go_simp
        unfold wpSched
        go_wp2_with fail
        go_meet
        case rel => exact ⟨rfl, bx, rfl, by rw [QY.out]; exact WZ.out, BZ.out⟩
    case rest =>
    obtain ⟨rfl, zb, rfl, hwa, hbw⟩ := hcut
    have Z8 : Hid (Wb wc zb Y) := hwa
    have Y8 : Hid (Wb wc by_ Y) := Y7.out.below hbw
    have X8 : Hid (Bw wc w.heap.size X (.slice p1 X.gs.length q1) (.slice p2 X.os.length q2) (.slice p3 X.gold.length q3) (.slice p4 X.us.length q4) (.slice p5 X.qs.length q5)) := X7.out.below hbw X7.out.lt
    have B8 : Hid (Below w.heap.size w wc) := B7.out.trans (hbw.mono B7.out.size)
    clear hwa hbw Y7 X7 B7 A7 AB PAA
    rename World => w8
    obtain ⟨a1, d1, a2, d2, a3, d3, a4, d4, a5, d5, ⟨x0, x1, x2, x3, x4, x5, x6, x7, x8⟩, al⟩ := Z8.out
    obtain ⟨b1, e1, b2, e2, b3, e3, b4, e4, b5, e5, ⟨y0, y1, y2, y3, y4, y5, y6, y7, y8⟩, bl⟩ := Y8.out
    have LL : Hid (Wl w8 (.agg #[.int .i64 Y.turn, .int .i64 Y.next, .int .i64 Y.wide, .int .i64 Y.high, .slice a1 Y.gs.length d1, .slice a2 Y.os.length d2, .slice a3 Y.gold.length d3, .slice a4 Y.us.length d4, .slice a5 Y.qs.length d5]) Y ∧ Wl w8 (.agg #[.int .i64 Y.turn, .int .i64 Y.next, .int .i64 Y.wide, .int .i64 Y.high, .slice b1 Y.gs.length e1, .slice b2 Y.os.length e2, .slice b3 Y.gold.length e3, .slice b4 Y.us.length e4, .slice b5 Y.qs.length e5]) Y) := ⟨al, bl⟩
    clear al bl
    go_wp2_with fail
    refine (worlds_like _ _ Y w8 LL.out.1 LL.out.2).mono ?_
    rintro e w9 ⟨rfl, hb⟩
    have X9 : Hid (Bw w9 w.heap.size X (.slice p1 X.gs.length q1) (.slice p2 X.os.length q2) (.slice p3 X.gold.length q3) (.slice p4 X.us.length q4) (.slice p5 X.qs.length q5)) := X8.out.below hb X8.out.lt
    have B9 : Hid (Below w.heap.size w w9) := B8.out.trans (hb.mono B8.out.size)
    clear hb x0 x1 x2 x3 x4 x5 x6 x7 x8 y0 y1 y2 y3 y4 y5 y6 y7 y8 LL X8 B8 Y8 Z8
    by_cases hn0 : ls.length = 0
    case pos =>
      have hn0' : (ls.length : Int) = 0 := by omega
      have hn0b : ((ls.length : Int) == 0) = true := beq_iff_eq.2 hn0'
      go_wp2
      go_ret
      exact ⟨rfl, B9.out⟩
    have hn1 : 0 < ls.length := by omega
    have hn0' : ¬ (ls.length : Int) = 0 := by omega
    have hn0b : ((ls.length : Int) == 0) = false := beq_eq_false_iff_ne.2 hn0'
    obtain ⟨l0, hl0⟩ : ∃ l, ls[0]? = some l := ⟨_, List.getElem?_eq_getElem hn1⟩
    have HL0 : Hid (ls[0]? = some l0) := hl0
    obtain ⟨a', c', e', -, -, hq⟩ := L.out
    injection e' with e1' e2' e3'
    subst e1' e3'
    obtain ⟨xl, rfl, xlt, hcc⟩ := hq (by rintro rfl; simp at hn1)
    obtain ⟨vo, co, ho⟩ := hcc 0 l0 hl0
    have ex0 : xl.add 0 = xl := by simp [Addr.add]
    rw [ex0] at co
    have CO : Hid (w.cell? xl = some vo ∧ xl.block < w.heap.size ∧ Orl w vo l0) := ⟨co, xlt, ho⟩
    clear hq hcc hl0 xlt co ho e2' ex0
    go_upto_region 17 with fail
    go_cut [20, 22] (fun v20 v22 V => v22 = .nilIface ∧ ∃ z A, v20 = .pointer (some ⟨z, 0, none⟩) ∧ PlayR ks X ls 1 A ∧ Wb V z A ∧ Below w9.heap.size w9 V)
    case first =>
      have CB : Hid (∀ V, Below w9.heap.size w9 V → Bw V w.heap.size X (.slice p1 X.gs.length q1) (.slice p2 X.os.length q2) (.slice p3 X.gold.length q3) (.slice p4 X.us.length q4) (.slice p5 X.qs.length q5) ∧ V.cell? xl = some vo) := fun V hV => ⟨X9.out.below hV X9.out.lt, by rw [(B9.out.trans (hV.mono B9.out.size)).cell CO.out.2.1]; exact CO.out.1⟩
      have DE : Hid (Below w9.heap.size w9 { w9 with drawn := w9.drawn + 1 }) := (Below.refl _ _).drew
      refine wp_region_tree (.read 0 (.read 1 (.read 2 (.read 3 (.read 4 (.two 5 (.read 6 (.read 7 (.read 8 (.read 9 (.one 10 (.one 11 (.one 12 .leaf))))))) 10 (.one 5 (.read 6 (.read 7 (.read 8 (.read 9 (.one 11 (.one 12 .leaf))))))))))))) [(false, 0), (false, 1), (false, 2), (false, 3), (false, 4), (false, 5), (false, 6), (false, 7), (false, 8), (false, 9), (false, 10), (false, 11), (false, 12)] [(false, 13)] (fun V => Bw V w.heap.size X (.slice p1 X.gs.length q1) (.slice p2 X.os.length q2) (.slice p3 X.gold.length q3) (.slice p4 X.us.length q4) (.slice p5 X.qs.length q5) ∧ V.cell? xl = some vo) (by kernel_rfl) (by kernel_rfl) (by kernel_rfl) (by decide +kernel) (by decide +kernel) (CB.out _ DE.out) ?_
      generalize ({ w9 with drawn := w9.drawn + 1 } : World) = u1 at *
      refine tr_read rfl (.slice pk ks.length qk) (by go_simp) (fun V hV => by obtain ⟨⟨x0, x1, x2, x3, x4, x5, x6, x7, x8⟩, cxo⟩ := hV; go_simp) ?_
      go_simp
      refine tr_read rfl (.agg #[.int .i64 X.turn, .int .i64 X.next, .int .i64 X.wide, .int .i64 X.high, .slice p1 X.gs.length q1, .slice p2 X.os.length q2, .slice p3 X.gold.length q3, .slice p4 X.us.length q4, .slice p5 X.qs.length q5]) (by go_simp) (fun V hV => by obtain ⟨⟨x0, x1, x2, x3, x4, x5, x6, x7, x8⟩, cxo⟩ := hV; go_simp) ?_
      go_simp
      refine tr_read rfl (.slice (some xl) ls.length ql) (by go_simp) (fun V hV => by obtain ⟨⟨x0, x1, x2, x3, x4, x5, x6, x7, x8⟩, cxo⟩ := hV; go_simp) ?_
      go_simp
      refine tr_read rfl (.pointer (some xl)) (by go_simp) (fun V hV => by obtain ⟨⟨x0, x1, x2, x3, x4, x5, x6, x7, x8⟩, cxo⟩ := hV; go_simp) ?_
      go_simp
      refine tr_read rfl (vo) (by go_simp) (fun V hV => by obtain ⟨⟨x0, x1, x2, x3, x4, x5, x6, x7, x8⟩, cxo⟩ := hV; go_simp) ?_
      go_simp
      refine tr_two ?_ ?_
      · refine st_call rfl 21 #[.slice pk ks.length qk, .agg #[.int .i64 X.turn, .int .i64 X.next, .int .i64 X.wide, .int .i64 X.high, .slice p1 X.gs.length q1, .slice p2 X.os.length q2, .slice p3 X.gold.length q3, .slice p4 X.us.length q4, .slice p5 X.qs.length q5], vo] (by go_simp) (by go_simp) ?_
        have BB : Hid (Below w.heap.size w u1) := B9.out.trans (DE.out.mono B9.out.size)
        refine (Step_any _ _ _ ks X l0 u1 (K.out.1.below BB.out) K.out.2 (H.out.below BB.out) (CO.out.2.2.below BB.out) (SDH.out.below BB.out)).mono ?_
        rintro e u2 ⟨v, ev, r, rfl, hr, hs, hb⟩
        obtain ⟨rfl, Q, hQ, hwo⟩ := tp_step PA.out.2.2 HL0.out hs hr
        have PQ : Hid (PlayR ks X ls 1 Q) := hQ
        clear hr hs hQ BB
        obtain ⟨g1, l1, g2, l2, g3, l3, g4, l4, g5, l5, rfl⟩ := wl_shape9 hwo.l
        have LQ : Hid (Wl u2 (.agg #[.int .i64 Q.turn, .int .i64 Q.next, .int .i64 Q.wide, .int .i64 Q.high, .slice g1 Q.gs.length l1, .slice g2 Q.os.length l2, .slice g3 Q.gold.length l3, .slice g4 Q.us.length l4, .slice g5 Q.qs.length l5]) Q) := hwo.l
        have BU0 : Hid (Below w9.heap.size w9 u2) := DE.out.trans (hb.mono DE.out.size)
        refine ⟨_, rfl, CB.out _ BU0.out, ?_⟩
        clear hb hwo
        go_simp
        refine tr_read rfl (.tuple #[.agg #[.int .i64 Q.turn, .int .i64 Q.next, .int .i64 Q.wide, .int .i64 Q.high, .slice g1 Q.gs.length l1, .slice g2 Q.os.length l2, .slice g3 Q.gold.length l3, .slice g4 Q.us.length l4, .slice g5 Q.qs.length l5], ev, .nilIface]) (by go_simp) (fun V hV => by go_simp) ?_
        go_simp
        refine tr_read rfl (.agg #[.int .i64 Q.turn, .int .i64 Q.next, .int .i64 Q.wide, .int .i64 Q.high, .slice g1 Q.gs.length l1, .slice g2 Q.os.length l2, .slice g3 Q.gold.length l3, .slice g4 Q.us.length l4, .slice g5 Q.qs.length l5]) (by go_simp) (fun V hV => by go_simp) ?_
        go_simp
        refine tr_read rfl (ev) (by go_simp) (fun V hV => by go_simp) ?_
        go_simp
        refine tr_read rfl (.nilIface) (by go_simp) (fun V hV => by go_simp) ?_
        go_simp
        refine tr_one ?_
        obtain ⟨bx, hbx⟩ : ∃ z, u2.heap.size = z := ⟨_, rfl⟩
        have ba : Below u2.heap.size u2 (u2.alloc (Obj.cells #[.int .i64 0, .int .i64 0, .int .i64 0, .int .i64 0, .slice none 0 0, .slice none 0 0, .slice none 0 0, .slice none 0 0, .slice none 0 0] 29)) := (Below.refl _ _).alloc (Nat.le_refl _) _
        have ZE : Hid (Wx (u2.alloc (Obj.cells #[.int .i64 0, .int .i64 0, .int .i64 0, .int .i64 0, .slice none 0 0, .slice none 0 0, .slice none 0 0, .slice none 0 0, .slice none 0 0] 29)) bx (.int .i64 0) (.int .i64 0) (.int .i64 0) (.int .i64 0) (.slice none 0 0) (.slice none 0 0) (.slice none 0 0) (.slice none 0 0) (.slice none 0 0)) := Wx.new (w := u2) _ _ _ _ _ _ _ _ _ hbx
        have BU : Hid (Below w9.heap.size w9 (u2.alloc (Obj.cells #[.int .i64 0, .int .i64 0, .int .i64 0, .int .i64 0, .slice none 0 0, .slice none 0 0, .slice none 0 0, .slice none 0 0, .slice none 0 0] 29))) := BU0.out.trans (ba.mono BU0.out.size)
        have NB : Hid (w9.heap.size ≤ bx) := by rw [← hbx]; exact BU0.out.size
        have BL : Hid (Below bx u2 (u2.alloc (Obj.cells #[.int .i64 0, .int .i64 0, .int .i64 0, .int .i64 0, .slice none 0 0, .slice none 0 0, .slice none 0 0, .slice none 0 0, .slice none 0 0] 29))) := by rw [← hbx]; exact ba
        have LX : Hid (u2.heap.size = bx) := hbx
        refine st_value rfl (.pointer (some ⟨u2.heap.size, 0, none⟩)) (u2.alloc (Obj.cells #[.int .i64 0, .int .i64 0, .int .i64 0, .int .i64 0, .slice none 0 0, .slice none 0 0, .slice none 0 0, .slice none 0 0, .slice none 0 0] 29)) (by go_simp) (by go_simp) (CB.out _ BU.out) ?_
        rw [hbx]
        clear ba hbx
        generalize u2.alloc (Obj.cells #[.int .i64 0, .int .i64 0, .int .i64 0, .int .i64 0, .slice none 0 0, .slice none 0 0, .slice none 0 0, .slice none 0 0, .slice none 0 0] 29) = u6 at *
        go_simp
        refine tr_one ?_
        obtain ⟨z0, z1, z2, z3, z4, z5, z6, z7, z8⟩ := ZE.out.cells
        obtain ⟨t0, t1, t2, t3, t4, t5, t6, t7, t8⟩ := ZE.out.thaws
        have KZ : Hid (Kp bx u6 (((((((((u6.setCell ⟨bx, 0, none⟩ (.int .i64 Q.turn)).setCell ⟨bx, 1, none⟩ (.int .i64 Q.next)).setCell ⟨bx, 2, none⟩ (.int .i64 Q.wide)).setCell ⟨bx, 3, none⟩ (.int .i64 Q.high)).setCell ⟨bx, 4, none⟩ (.slice g1 Q.gs.length l1)).setCell ⟨bx, 5, none⟩ (.slice g2 Q.os.length l2)).setCell ⟨bx, 6, none⟩ (.slice g3 Q.gold.length l3)).setCell ⟨bx, 7, none⟩ (.slice g4 Q.us.length l4)).setCell ⟨bx, 8, none⟩ (.slice g5 Q.qs.length l5))) := put_kp _ _ _ _ _ _ _ _ _ _ _
        have BZ : Hid (Below w9.heap.size w9 (((((((((u6.setCell ⟨bx, 0, none⟩ (.int .i64 Q.turn)).setCell ⟨bx, 1, none⟩ (.int .i64 Q.next)).setCell ⟨bx, 2, none⟩ (.int .i64 Q.wide)).setCell ⟨bx, 3, none⟩ (.int .i64 Q.high)).setCell ⟨bx, 4, none⟩ (.slice g1 Q.gs.length l1)).setCell ⟨bx, 5, none⟩ (.slice g2 Q.os.length l2)).setCell ⟨bx, 6, none⟩ (.slice g3 Q.gold.length l3)).setCell ⟨bx, 7, none⟩ (.slice g4 Q.us.length l4)).setCell ⟨bx, 8, none⟩ (.slice g5 Q.qs.length l5))) := KZ.out.below BU.out BU.out.size NB.out
        have WZ : Hid (Wb (((((((((u6.setCell ⟨bx, 0, none⟩ (.int .i64 Q.turn)).setCell ⟨bx, 1, none⟩ (.int .i64 Q.next)).setCell ⟨bx, 2, none⟩ (.int .i64 Q.wide)).setCell ⟨bx, 3, none⟩ (.int .i64 Q.high)).setCell ⟨bx, 4, none⟩ (.slice g1 Q.gs.length l1)).setCell ⟨bx, 5, none⟩ (.slice g2 Q.os.length l2)).setCell ⟨bx, 6, none⟩ (.slice g3 Q.gold.length l3)).setCell ⟨bx, 7, none⟩ (.slice g4 Q.us.length l4)).setCell ⟨bx, 8, none⟩ (.slice g5 Q.qs.length l5)) bx Q) := ⟨g1, l1, g2, l2, g3, l3, g4, l4, g5, l5, wx_bw (ZE.out.put _ _ _ _ _ _ _ _ _), (LQ.out.below (by rw [LX.out]; exact KZ.out.below BL.out (by have h9 := BL.out.size; have h8 := LX.out; omega) (Nat.le_refl _)))⟩
        refine st_skip rfl (((((((((u6.setCell ⟨bx, 0, none⟩ (.int .i64 Q.turn)).setCell ⟨bx, 1, none⟩ (.int .i64 Q.next)).setCell ⟨bx, 2, none⟩ (.int .i64 Q.wide)).setCell ⟨bx, 3, none⟩ (.int .i64 Q.high)).setCell ⟨bx, 4, none⟩ (.slice g1 Q.gs.length l1)).setCell ⟨bx, 5, none⟩ (.slice g2 Q.os.length l2)).setCell ⟨bx, 6, none⟩ (.slice g3 Q.gold.length l3)).setCell ⟨bx, 7, none⟩ (.slice g4 Q.us.length l4)).setCell ⟨bx, 8, none⟩ (.slice g5 Q.qs.length l5)) (by go_simp) (by go_simp) (CB.out _ BZ.out) ?_
        clear z0 z1 z2 z3 z4 z5 z6 z7 z8 t0 t1 t2 t3 t4 t5 t6 t7 t8 KZ ZE
        generalize ((((((((u6.setCell ⟨bx, 0, none⟩ (.int .i64 Q.turn)).setCell ⟨bx, 1, none⟩ (.int .i64 Q.next)).setCell ⟨bx, 2, none⟩ (.int .i64 Q.wide)).setCell ⟨bx, 3, none⟩ (.int .i64 Q.high)).setCell ⟨bx, 4, none⟩ (.slice g1 Q.gs.length l1)).setCell ⟨bx, 5, none⟩ (.slice g2 Q.os.length l2)).setCell ⟨bx, 6, none⟩ (.slice g3 Q.gold.length l3)).setCell ⟨bx, 7, none⟩ (.slice g4 Q.us.length l4)).setCell ⟨bx, 8, none⟩ (.slice g5 Q.qs.length l5) = u9 at *
        go_simp
        refine tr_one ?_
        refine st_value rfl ev u9 (by go_simp) (by go_simp) (CB.out _ BZ.out) ?_
        go_simp
        unfold wpTr
        refine sched_value rfl .nilIface u9 (by go_simp) (by go_simp) trivial ?_
        go_simp
        unfold wpSched
        go_wp2_with fail
        go_meet
        case rel => exact ⟨rfl, bx, Q, rfl, PQ.out, WZ.out, BZ.out⟩
      · obtain ⟨bx, hbx⟩ : ∃ z, u1.heap.size = z := ⟨_, rfl⟩
        have ba : Below u1.heap.size u1 (u1.alloc (Obj.cells #[.int .i64 0, .int .i64 0, .int .i64 0, .int .i64 0, .slice none 0 0, .slice none 0 0, .slice none 0 0, .slice none 0 0, .slice none 0 0] 29)) := (Below.refl _ _).alloc (Nat.le_refl _) _
        have ZE0 : Hid (Wx (u1.alloc (Obj.cells #[.int .i64 0, .int .i64 0, .int .i64 0, .int .i64 0, .slice none 0 0, .slice none 0 0, .slice none 0 0, .slice none 0 0, .slice none 0 0] 29)) bx (.int .i64 0) (.int .i64 0) (.int .i64 0) (.int .i64 0) (.slice none 0 0) (.slice none 0 0) (.slice none 0 0) (.slice none 0 0) (.slice none 0 0)) := Wx.new (w := u1) _ _ _ _ _ _ _ _ _ hbx
        have DE2 : Hid (Below w9.heap.size w9 (u1.alloc (Obj.cells #[.int .i64 0, .int .i64 0, .int .i64 0, .int .i64 0, .slice none 0 0, .slice none 0 0, .slice none 0 0, .slice none 0 0, .slice none 0 0] 29))) := DE.out.trans (ba.mono DE.out.size)
        have NB : Hid (w9.heap.size ≤ bx) := by rw [← hbx]; exact DE.out.size
        refine st_value rfl (.pointer (some ⟨u1.heap.size, 0, none⟩)) (u1.alloc (Obj.cells #[.int .i64 0, .int .i64 0, .int .i64 0, .int .i64 0, .slice none 0 0, .slice none 0 0, .slice none 0 0, .slice none 0 0, .slice none 0 0] 29)) (by go_simp) (by go_simp) (CB.out _ DE2.out) ?_
        rw [hbx]
        generalize u1.alloc (Obj.cells #[.int .i64 0, .int .i64 0, .int .i64 0, .int .i64 0, .slice none 0 0, .slice none 0 0, .slice none 0 0, .slice none 0 0, .slice none 0 0] 29) = u3 at *
        go_simp
        clear DE ba hbx
        have DE := DE2
        clear DE2
        refine tr_one ?_
        refine st_call rfl 21 #[.slice pk ks.length qk, .agg #[.int .i64 X.turn, .int .i64 X.next, .int .i64 X.wide, .int .i64 X.high, .slice p1 X.gs.length q1, .slice p2 X.os.length q2, .slice p3 X.gold.length q3, .slice p4 X.us.length q4, .slice p5 X.qs.length q5], vo] (by go_simp) (by go_simp) ?_
        have BB : Hid (Below w.heap.size w u3) := B9.out.trans (DE.out.mono B9.out.size)
        refine (Step_any _ _ _ ks X l0 u3 (K.out.1.below BB.out) K.out.2 (H.out.below BB.out) (CO.out.2.2.below BB.out) (SDH.out.below BB.out)).mono ?_
        rintro e u2 ⟨v, ev, r, rfl, hr, hs, hb⟩
        obtain ⟨rfl, Q, hQ, hwo⟩ := tp_step PA.out.2.2 HL0.out hs hr
        have PQ : Hid (PlayR ks X ls 1 Q) := hQ
        clear hr hs hQ BB
        obtain ⟨g1, l1, g2, l2, g3, l3, g4, l4, g5, l5, rfl⟩ := wl_shape9 hwo.l
        have ZE : Hid (Wx u2 bx (.int .i64 0) (.int .i64 0) (.int .i64 0) (.int .i64 0) (.slice none 0 0) (.slice none 0 0) (.slice none 0 0) (.slice none 0 0) (.slice none 0 0)) := ZE0.out.below hb ZE0.out.lt
        have WQ : Hid (Wo u2 u3.heap.size (.agg #[.int .i64 Q.turn, .int .i64 Q.next, .int .i64 Q.wide, .int .i64 Q.high, .slice g1 Q.gs.length l1, .slice g2 Q.os.length l2, .slice g3 Q.gold.length l3, .slice g4 Q.us.length l4, .slice g5 Q.qs.length l5]) Q ∧ bx < u3.heap.size) := ⟨hwo, ZE0.out.lt⟩
        have BU : Hid (Below w9.heap.size w9 u2) := DE.out.trans (hb.mono DE.out.size)
        refine ⟨_, rfl, CB.out _ BU.out, ?_⟩
        clear hb hwo ZE0
        go_simp
        refine tr_read rfl (.tuple #[.agg #[.int .i64 Q.turn, .int .i64 Q.next, .int .i64 Q.wide, .int .i64 Q.high, .slice g1 Q.gs.length l1, .slice g2 Q.os.length l2, .slice g3 Q.gold.length l3, .slice g4 Q.us.length l4, .slice g5 Q.qs.length l5], ev, .nilIface]) (by go_simp) (fun V hV => by go_simp) ?_
        go_simp
        refine tr_read rfl (.agg #[.int .i64 Q.turn, .int .i64 Q.next, .int .i64 Q.wide, .int .i64 Q.high, .slice g1 Q.gs.length l1, .slice g2 Q.os.length l2, .slice g3 Q.gold.length l3, .slice g4 Q.us.length l4, .slice g5 Q.qs.length l5]) (by go_simp) (fun V hV => by go_simp) ?_
        go_simp
        refine tr_read rfl (ev) (by go_simp) (fun V hV => by go_simp) ?_
        go_simp
        refine tr_read rfl (.nilIface) (by go_simp) (fun V hV => by go_simp) ?_
        go_simp
        refine tr_one ?_
        obtain ⟨z0, z1, z2, z3, z4, z5, z6, z7, z8⟩ := ZE.out.cells
        obtain ⟨t0, t1, t2, t3, t4, t5, t6, t7, t8⟩ := ZE.out.thaws
        have KZ : Hid (Kp bx u2 (((((((((u2.setCell ⟨bx, 0, none⟩ (.int .i64 Q.turn)).setCell ⟨bx, 1, none⟩ (.int .i64 Q.next)).setCell ⟨bx, 2, none⟩ (.int .i64 Q.wide)).setCell ⟨bx, 3, none⟩ (.int .i64 Q.high)).setCell ⟨bx, 4, none⟩ (.slice g1 Q.gs.length l1)).setCell ⟨bx, 5, none⟩ (.slice g2 Q.os.length l2)).setCell ⟨bx, 6, none⟩ (.slice g3 Q.gold.length l3)).setCell ⟨bx, 7, none⟩ (.slice g4 Q.us.length l4)).setCell ⟨bx, 8, none⟩ (.slice g5 Q.qs.length l5))) := put_kp _ _ _ _ _ _ _ _ _ _ _
        have BZ : Hid (Below w9.heap.size w9 (((((((((u2.setCell ⟨bx, 0, none⟩ (.int .i64 Q.turn)).setCell ⟨bx, 1, none⟩ (.int .i64 Q.next)).setCell ⟨bx, 2, none⟩ (.int .i64 Q.wide)).setCell ⟨bx, 3, none⟩ (.int .i64 Q.high)).setCell ⟨bx, 4, none⟩ (.slice g1 Q.gs.length l1)).setCell ⟨bx, 5, none⟩ (.slice g2 Q.os.length l2)).setCell ⟨bx, 6, none⟩ (.slice g3 Q.gold.length l3)).setCell ⟨bx, 7, none⟩ (.slice g4 Q.us.length l4)).setCell ⟨bx, 8, none⟩ (.slice g5 Q.qs.length l5))) := KZ.out.below BU.out BU.out.size NB.out
        have WZ : Hid (Wb (((((((((u2.setCell ⟨bx, 0, none⟩ (.int .i64 Q.turn)).setCell ⟨bx, 1, none⟩ (.int .i64 Q.next)).setCell ⟨bx, 2, none⟩ (.int .i64 Q.wide)).setCell ⟨bx, 3, none⟩ (.int .i64 Q.high)).setCell ⟨bx, 4, none⟩ (.slice g1 Q.gs.length l1)).setCell ⟨bx, 5, none⟩ (.slice g2 Q.os.length l2)).setCell ⟨bx, 6, none⟩ (.slice g3 Q.gold.length l3)).setCell ⟨bx, 7, none⟩ (.slice g4 Q.us.length l4)).setCell ⟨bx, 8, none⟩ (.slice g5 Q.qs.length l5)) bx Q) := ⟨g1, l1, g2, l2, g3, l3, g4, l4, g5, l5, wx_bw (ZE.out.put _ _ _ _ _ _ _ _ _), (WQ.out.1.kp KZ.out WQ.out.2).l⟩
        refine st_skip rfl (((((((((u2.setCell ⟨bx, 0, none⟩ (.int .i64 Q.turn)).setCell ⟨bx, 1, none⟩ (.int .i64 Q.next)).setCell ⟨bx, 2, none⟩ (.int .i64 Q.wide)).setCell ⟨bx, 3, none⟩ (.int .i64 Q.high)).setCell ⟨bx, 4, none⟩ (.slice g1 Q.gs.length l1)).setCell ⟨bx, 5, none⟩ (.slice g2 Q.os.length l2)).setCell ⟨bx, 6, none⟩ (.slice g3 Q.gold.length l3)).setCell ⟨bx, 7, none⟩ (.slice g4 Q.us.length l4)).setCell ⟨bx, 8, none⟩ (.slice g5 Q.qs.length l5)) (by go_simp) (by go_simp) (CB.out _ BZ.out) ?_
        clear z0 z1 z2 z3 z4 z5 z6 z7 z8 t0 t1 t2 t3 t4 t5 t6 t7 t8 KZ ZE
        generalize ((((((((u2.setCell ⟨bx, 0, none⟩ (.int .i64 Q.turn)).setCell ⟨bx, 1, none⟩ (.int .i64 Q.next)).setCell ⟨bx, 2, none⟩ (.int .i64 Q.wide)).setCell ⟨bx, 3, none⟩ (.int .i64 Q.high)).setCell ⟨bx, 4, none⟩ (.slice g1 Q.gs.length l1)).setCell ⟨bx, 5, none⟩ (.slice g2 Q.os.length l2)).setCell ⟨bx, 6, none⟩ (.slice g3 Q.gold.length l3)).setCell ⟨bx, 7, none⟩ (.slice g4 Q.us.length l4)).setCell ⟨bx, 8, none⟩ (.slice g5 Q.qs.length l5) = u9 at *
        go_simp
        refine tr_one ?_
        refine st_value rfl ev u9 (by go_simp) (by go_simp) (CB.out _ BZ.out) ?_
        go_simp
        unfold wpTr
        refine sched_value rfl .nilIface u9 (by go_simp) (by go_simp) trivial ?_
        go_simp
        unfold wpSched
        go_wp2_with fail
        go_meet
        case rel => exact ⟨rfl, bx, Q, rfl, PQ.out, WZ.out, BZ.out⟩
    case rest =>
    obtain ⟨rfl, zx, A, rfl, hpa, hwa, hbw⟩ := hcut
    have PX : Hid (PlayR ks X ls 1 A) := hpa
    have A10 : Hid (Wb wc zx A) := hwa
    have X10 : Hid (Bw wc w.heap.size X (.slice p1 X.gs.length q1) (.slice p2 X.os.length q2) (.slice p3 X.gold.length q3) (.slice p4 X.us.length q4) (.slice p5 X.qs.length q5)) := X9.out.below hbw X9.out.lt
    have B10 : Hid (Below w.heap.size w wc) := B9.out.trans (hbw.mono B9.out.size)
    have C1 : Hid (1 ≤ ls.length) := hn1
    have h1q : (1 : Int) ≤ (ql : Int) := by omega
    clear hpa hwa hbw X9 B9
    rename World => w10
    go_upto_region 18 with fail
    go_cut [23, 24] (fun v23 v24 V => v24 = .nilIface ∧ ∃ z, v23 = .pointer (some ⟨z, 0, none⟩) ∧ Wb V z A ∧ Below w10.heap.size w10 V)
    case first =>
      have CB : Hid (∀ V, Below w10.heap.size w10 V → Bw V w.heap.size X (.slice p1 X.gs.length q1) (.slice p2 X.os.length q2) (.slice p3 X.gold.length q3) (.slice p4 X.us.length q4) (.slice p5 X.qs.length q5)) := fun V hV => X10.out.below hV X10.out.lt
      have DE : Hid (Below w10.heap.size w10 { w10 with drawn := w10.drawn + 1 }) := (Below.refl _ _).drew
      refine wp_region_float 8 [(true, 0), (true, 1), (true, 2), (true, 3), (false, 4), (true, 5), (true, 6), (true, 7)] [(false, 9)] [(false, 10)] (fun V => Bw V w.heap.size X (.slice p1 X.gs.length q1) (.slice p2 X.os.length q2) (.slice p3 X.gold.length q3) (.slice p4 X.us.length q4) (.slice p5 X.qs.length q5)) (by kernel_rfl) (by kernel_rfl) (by kernel_rfl) (by decide +kernel) (by decide +kernel) (CB.out _ DE.out) ?_
      generalize ({ w10 with drawn := w10.drawn + 1 } : World) = u1 at *
      refine headA_read rfl (.slice pk ks.length qk) (by go_simp) (fun V hV => by obtain ⟨x0, x1, x2, x3, x4, x5, x6, x7, x8⟩ := hV; go_simp) ?_
      go_simp
      refine headA_read rfl (.agg #[.int .i64 X.turn, .int .i64 X.next, .int .i64 X.wide, .int .i64 X.high, .slice p1 X.gs.length q1, .slice p2 X.os.length q2, .slice p3 X.gold.length q3, .slice p4 X.us.length q4, .slice p5 X.qs.length q5]) (by go_simp) (fun V hV => by obtain ⟨x0, x1, x2, x3, x4, x5, x6, x7, x8⟩ := hV; go_simp) ?_
      go_simp
      refine headA_read rfl (.slice (some xl) ls.length ql) (by go_simp) (fun V hV => by obtain ⟨x0, x1, x2, x3, x4, x5, x6, x7, x8⟩ := hV; go_simp) ?_
      go_simp
      refine headA_read rfl (.slice (some xl) 1 ql) (by go_simp) (fun V hV => by obtain ⟨x0, x1, x2, x3, x4, x5, x6, x7, x8⟩ := hV; go_simp) ?_
      go_simp
      refine headA_call rfl 25 #[.slice pk ks.length qk, .agg #[.int .i64 X.turn, .int .i64 X.next, .int .i64 X.wide, .int .i64 X.high, .slice p1 X.gs.length q1, .slice p2 X.os.length q2, .slice p3 X.gold.length q3, .slice p4 X.us.length q4, .slice p5 X.qs.length q5], .slice (some xl) 1 ql] (by go_simp) (by go_simp) ?_ rfl (.pointer (some ⟨u1.heap.size, 0, none⟩)) (u1.alloc (Obj.cells #[.int .i64 0, .int .i64 0, .int .i64 0, .int .i64 0, .slice none 0 0, .slice none 0 0, .slice none 0 0, .slice none 0 0, .slice none 0 0] 29)) (by go_simp) (by go_simp) (CB.out _ (DE.out.trans (((Below.refl _ _).alloc (Nat.le_refl _) _).mono DE.out.size))) ?_
      · have BB : Hid (Below w.heap.size w u1) := B10.out.trans (DE.out.mono B10.out.size)
        refine (Play_any _ _ _ ks X (ls.take 1) u1 (K.out.1.below BB.out) K.out.2 (H.out.below BB.out) ((L.out.below BB.out).take C1.out) (SDH.out.below BB.out)).mono ?_
        rintro e u2 ⟨v, r, F, rfl, hr, hs, hb⟩
        obtain ⟨rfl, Q, hQ, hwo⟩ := tp_front PA.out.1 PA.out.2.1 PA.out.2.2 C1.out hs hr
        have QA : Hid (A = Q) := play_uniq PX.out hQ
        clear hr hs hQ BB
        obtain ⟨g1, l1, g2, l2, g3, l3, g4, l4, g5, l5, rfl⟩ := wl_shape9 hwo.l
        have LQ : Hid (Wl u2 (.agg #[.int .i64 Q.turn, .int .i64 Q.next, .int .i64 Q.wide, .int .i64 Q.high, .slice g1 Q.gs.length l1, .slice g2 Q.os.length l2, .slice g3 Q.gold.length l3, .slice g4 Q.us.length l4, .slice g5 Q.qs.length l5]) Q) := hwo.l
        have BU0 : Hid (Below w10.heap.size w10 u2) := DE.out.trans (hb.mono DE.out.size)
        refine ⟨_, rfl, CB.out _ BU0.out, ?_⟩
        clear hb hwo
        go_simp
        refine headA_read rfl (.tuple #[.agg #[.int .i64 Q.turn, .int .i64 Q.next, .int .i64 Q.wide, .int .i64 Q.high, .slice g1 Q.gs.length l1, .slice g2 Q.os.length l2, .slice g3 Q.gold.length l3, .slice g4 Q.us.length l4, .slice g5 Q.qs.length l5], .nilIface]) (by go_simp) (fun V hV => by go_simp) ?_
        go_simp
        refine headA_read rfl (.agg #[.int .i64 Q.turn, .int .i64 Q.next, .int .i64 Q.wide, .int .i64 Q.high, .slice g1 Q.gs.length l1, .slice g2 Q.os.length l2, .slice g3 Q.gold.length l3, .slice g4 Q.us.length l4, .slice g5 Q.qs.length l5]) (by go_simp) (fun V hV => by go_simp) ?_
        go_simp
        refine headA_read rfl (.nilIface) (by go_simp) (fun V hV => by go_simp) ?_
        go_simp
        obtain ⟨bx, hbx⟩ : ∃ z, u2.heap.size = z := ⟨_, rfl⟩
        have ba : Below u2.heap.size u2 (u2.alloc (Obj.cells #[.int .i64 0, .int .i64 0, .int .i64 0, .int .i64 0, .slice none 0 0, .slice none 0 0, .slice none 0 0, .slice none 0 0, .slice none 0 0] 29)) := (Below.refl _ _).alloc (Nat.le_refl _) _
        have ZE : Hid (Wx (u2.alloc (Obj.cells #[.int .i64 0, .int .i64 0, .int .i64 0, .int .i64 0, .slice none 0 0, .slice none 0 0, .slice none 0 0, .slice none 0 0, .slice none 0 0] 29)) bx (.int .i64 0) (.int .i64 0) (.int .i64 0) (.int .i64 0) (.slice none 0 0) (.slice none 0 0) (.slice none 0 0) (.slice none 0 0) (.slice none 0 0)) := Wx.new (w := u2) _ _ _ _ _ _ _ _ _ hbx
        have BU : Hid (Below w10.heap.size w10 (u2.alloc (Obj.cells #[.int .i64 0, .int .i64 0, .int .i64 0, .int .i64 0, .slice none 0 0, .slice none 0 0, .slice none 0 0, .slice none 0 0, .slice none 0 0] 29))) := BU0.out.trans (ba.mono BU0.out.size)
        have NB : Hid (w10.heap.size ≤ bx) := by rw [← hbx]; exact BU0.out.size
        have BL : Hid (Below bx u2 (u2.alloc (Obj.cells #[.int .i64 0, .int .i64 0, .int .i64 0, .int .i64 0, .slice none 0 0, .slice none 0 0, .slice none 0 0, .slice none 0 0, .slice none 0 0] 29))) := by rw [← hbx]; exact ba
        have LX : Hid (u2.heap.size = bx) := hbx
        refine headA_last rfl (.pointer (some ⟨u2.heap.size, 0, none⟩)) (u2.alloc (Obj.cells #[.int .i64 0, .int .i64 0, .int .i64 0, .int .i64 0, .slice none 0 0, .slice none 0 0, .slice none 0 0, .slice none 0 0, .slice none 0 0] 29)) (by go_simp) (by go_simp) (CB.out _ BU.out) ?_
        rw [hbx]
        clear ba hbx
        go_simp
        generalize u2.alloc (Obj.cells #[.int .i64 0, .int .i64 0, .int .i64 0, .int .i64 0, .slice none 0 0, .slice none 0 0, .slice none 0 0, .slice none 0 0, .slice none 0 0] 29) = u6 at *
        obtain ⟨z0, z1, z2, z3, z4, z5, z6, z7, z8⟩ := ZE.out.cells
        obtain ⟨t0, t1, t2, t3, t4, t5, t6, t7, t8⟩ := ZE.out.thaws
        have KZ : Hid (Kp bx u6 (((((((((u6.setCell ⟨bx, 0, none⟩ (.int .i64 Q.turn)).setCell ⟨bx, 1, none⟩ (.int .i64 Q.next)).setCell ⟨bx, 2, none⟩ (.int .i64 Q.wide)).setCell ⟨bx, 3, none⟩ (.int .i64 Q.high)).setCell ⟨bx, 4, none⟩ (.slice g1 Q.gs.length l1)).setCell ⟨bx, 5, none⟩ (.slice g2 Q.os.length l2)).setCell ⟨bx, 6, none⟩ (.slice g3 Q.gold.length l3)).setCell ⟨bx, 7, none⟩ (.slice g4 Q.us.length l4)).setCell ⟨bx, 8, none⟩ (.slice g5 Q.qs.length l5))) := put_kp _ _ _ _ _ _ _ _ _ _ _
        have BZ : Hid (Below w10.heap.size w10 (((((((((u6.setCell ⟨bx, 0, none⟩ (.int .i64 Q.turn)).setCell ⟨bx, 1, none⟩ (.int .i64 Q.next)).setCell ⟨bx, 2, none⟩ (.int .i64 Q.wide)).setCell ⟨bx, 3, none⟩ (.int .i64 Q.high)).setCell ⟨bx, 4, none⟩ (.slice g1 Q.gs.length l1)).setCell ⟨bx, 5, none⟩ (.slice g2 Q.os.length l2)).setCell ⟨bx, 6, none⟩ (.slice g3 Q.gold.length l3)).setCell ⟨bx, 7, none⟩ (.slice g4 Q.us.length l4)).setCell ⟨bx, 8, none⟩ (.slice g5 Q.qs.length l5))) := KZ.out.below BU.out BU.out.size NB.out
        have WZ : Hid (Wb (((((((((u6.setCell ⟨bx, 0, none⟩ (.int .i64 Q.turn)).setCell ⟨bx, 1, none⟩ (.int .i64 Q.next)).setCell ⟨bx, 2, none⟩ (.int .i64 Q.wide)).setCell ⟨bx, 3, none⟩ (.int .i64 Q.high)).setCell ⟨bx, 4, none⟩ (.slice g1 Q.gs.length l1)).setCell ⟨bx, 5, none⟩ (.slice g2 Q.os.length l2)).setCell ⟨bx, 6, none⟩ (.slice g3 Q.gold.length l3)).setCell ⟨bx, 7, none⟩ (.slice g4 Q.us.length l4)).setCell ⟨bx, 8, none⟩ (.slice g5 Q.qs.length l5)) bx Q) := ⟨g1, l1, g2, l2, g3, l3, g4, l4, g5, l5, wx_bw (ZE.out.put _ _ _ _ _ _ _ _ _), (LQ.out.below (by rw [LX.out]; exact KZ.out.below BL.out (by have h9 := BL.out.size; have h8 := LX.out; omega) (Nat.le_refl _)))⟩
        refine headT_skip rfl (((((((((u6.setCell ⟨bx, 0, none⟩ (.int .i64 Q.turn)).setCell ⟨bx, 1, none⟩ (.int .i64 Q.next)).setCell ⟨bx, 2, none⟩ (.int .i64 Q.wide)).setCell ⟨bx, 3, none⟩ (.int .i64 Q.high)).setCell ⟨bx, 4, none⟩ (.slice g1 Q.gs.length l1)).setCell ⟨bx, 5, none⟩ (.slice g2 Q.os.length l2)).setCell ⟨bx, 6, none⟩ (.slice g3 Q.gold.length l3)).setCell ⟨bx, 7, none⟩ (.slice g4 Q.us.length l4)).setCell ⟨bx, 8, none⟩ (.slice g5 Q.qs.length l5)) (by go_simp) (by go_simp) (CB.out _ BZ.out) ?_
        clear z0 z1 z2 z3 z4 z5 z6 z7 z8 t0 t1 t2 t3 t4 t5 t6 t7 t8 KZ ZE
        go_simp
        generalize ((((((((u6.setCell ⟨bx, 0, none⟩ (.int .i64 Q.turn)).setCell ⟨bx, 1, none⟩ (.int .i64 Q.next)).setCell ⟨bx, 2, none⟩ (.int .i64 Q.wide)).setCell ⟨bx, 3, none⟩ (.int .i64 Q.high)).setCell ⟨bx, 4, none⟩ (.slice g1 Q.gs.length l1)).setCell ⟨bx, 5, none⟩ (.slice g2 Q.os.length l2)).setCell ⟨bx, 6, none⟩ (.slice g3 Q.gold.length l3)).setCell ⟨bx, 7, none⟩ (.slice g4 Q.us.length l4)).setCell ⟨bx, 8, none⟩ (.slice g5 Q.qs.length l5) = u9 at *
        unfold wpHeadT
        refine sched_value rfl .nilIface u9 (by go_simp) (by go_simp) trivial ?_
        go_simp
        unfold wpSched
        go_wp2_with fail
        go_meet
        case rel => exact ⟨rfl, bx, rfl, by rw [QA.out]; exact WZ.out, BZ.out⟩
      · obtain ⟨bx, hbx⟩ : ∃ z, u1.heap.size = z := ⟨_, rfl⟩
        have ba : Below u1.heap.size u1 (u1.alloc (Obj.cells #[.int .i64 0, .int .i64 0, .int .i64 0, .int .i64 0, .slice none 0 0, .slice none 0 0, .slice none 0 0, .slice none 0 0, .slice none 0 0] 29)) := (Below.refl _ _).alloc (Nat.le_refl _) _
        have ZE0 : Hid (Wx (u1.alloc (Obj.cells #[.int .i64 0, .int .i64 0, .int .i64 0, .int .i64 0, .slice none 0 0, .slice none 0 0, .slice none 0 0, .slice none 0 0, .slice none 0 0] 29)) bx (.int .i64 0) (.int .i64 0) (.int .i64 0) (.int .i64 0) (.slice none 0 0) (.slice none 0 0) (.slice none 0 0) (.slice none 0 0) (.slice none 0 0)) := Wx.new (w := u1) _ _ _ _ _ _ _ _ _ hbx
        have DE2 : Hid (Below w10.heap.size w10 (u1.alloc (Obj.cells #[.int .i64 0, .int .i64 0, .int .i64 0, .int .i64 0, .slice none 0 0, .slice none 0 0, .slice none 0 0, .slice none 0 0, .slice none 0 0] 29))) := DE.out.trans (ba.mono DE.out.size)
        have NB : Hid (w10.heap.size ≤ bx) := by rw [← hbx]; exact DE.out.size
        rw [hbx]
        go_simp
        generalize u1.alloc (Obj.cells #[.int .i64 0, .int .i64 0, .int .i64 0, .int .i64 0, .slice none 0 0, .slice none 0 0, .slice none 0 0, .slice none 0 0, .slice none 0 0] 29) = u3 at *
        clear DE ba hbx
        have DE := DE2
        clear DE2
        refine headT_call rfl 25 #[.slice pk ks.length qk, .agg #[.int .i64 X.turn, .int .i64 X.next, .int .i64 X.wide, .int .i64 X.high, .slice p1 X.gs.length q1, .slice p2 X.os.length q2, .slice p3 X.gold.length q3, .slice p4 X.us.length q4, .slice p5 X.qs.length q5], .slice (some xl) 1 ql] (by go_simp) (by go_simp) ?_
        have BB : Hid (Below w.heap.size w u3) := B10.out.trans (DE.out.mono B10.out.size)
        refine (Play_any _ _ _ ks X (ls.take 1) u3 (K.out.1.below BB.out) K.out.2 (H.out.below BB.out) ((L.out.below BB.out).take C1.out) (SDH.out.below BB.out)).mono ?_
        rintro e u2 ⟨v, r, F, rfl, hr, hs, hb⟩
        obtain ⟨rfl, Q, hQ, hwo⟩ := tp_front PA.out.1 PA.out.2.1 PA.out.2.2 C1.out hs hr
        have QA : Hid (A = Q) := play_uniq PX.out hQ
        clear hr hs hQ BB
        obtain ⟨g1, l1, g2, l2, g3, l3, g4, l4, g5, l5, rfl⟩ := wl_shape9 hwo.l
        have ZE : Hid (Wx u2 bx (.int .i64 0) (.int .i64 0) (.int .i64 0) (.int .i64 0) (.slice none 0 0) (.slice none 0 0) (.slice none 0 0) (.slice none 0 0) (.slice none 0 0)) := ZE0.out.below hb ZE0.out.lt
        have WQ : Hid (Wo u2 u3.heap.size (.agg #[.int .i64 Q.turn, .int .i64 Q.next, .int .i64 Q.wide, .int .i64 Q.high, .slice g1 Q.gs.length l1, .slice g2 Q.os.length l2, .slice g3 Q.gold.length l3, .slice g4 Q.us.length l4, .slice g5 Q.qs.length l5]) Q ∧ bx < u3.heap.size) := ⟨hwo, ZE0.out.lt⟩
        have BU : Hid (Below w10.heap.size w10 u2) := DE.out.trans (hb.mono DE.out.size)
        refine ⟨_, rfl, CB.out _ BU.out, ?_⟩
        clear hb hwo ZE0
        go_simp
        refine headT_read rfl (.tuple #[.agg #[.int .i64 Q.turn, .int .i64 Q.next, .int .i64 Q.wide, .int .i64 Q.high, .slice g1 Q.gs.length l1, .slice g2 Q.os.length l2, .slice g3 Q.gold.length l3, .slice g4 Q.us.length l4, .slice g5 Q.qs.length l5], .nilIface]) (by go_simp) (fun V hV => by go_simp) ?_
        go_simp
        refine headT_read rfl (.agg #[.int .i64 Q.turn, .int .i64 Q.next, .int .i64 Q.wide, .int .i64 Q.high, .slice g1 Q.gs.length l1, .slice g2 Q.os.length l2, .slice g3 Q.gold.length l3, .slice g4 Q.us.length l4, .slice g5 Q.qs.length l5]) (by go_simp) (fun V hV => by go_simp) ?_
        go_simp
        refine headT_read rfl (.nilIface) (by go_simp) (fun V hV => by go_simp) ?_
        go_simp
        obtain ⟨z0, z1, z2, z3, z4, z5, z6, z7, z8⟩ := ZE.out.cells
        obtain ⟨t0, t1, t2, t3, t4, t5, t6, t7, t8⟩ := ZE.out.thaws
        have KZ : Hid (Kp bx u2 (((((((((u2.setCell ⟨bx, 0, none⟩ (.int .i64 Q.turn)).setCell ⟨bx, 1, none⟩ (.int .i64 Q.next)).setCell ⟨bx, 2, none⟩ (.int .i64 Q.wide)).setCell ⟨bx, 3, none⟩ (.int .i64 Q.high)).setCell ⟨bx, 4, none⟩ (.slice g1 Q.gs.length l1)).setCell ⟨bx, 5, none⟩ (.slice g2 Q.os.length l2)).setCell ⟨bx, 6, none⟩ (.slice g3 Q.gold.length l3)).setCell ⟨bx, 7, none⟩ (.slice g4 Q.us.length l4)).setCell ⟨bx, 8, none⟩ (.slice g5 Q.qs.length l5))) := put_kp _ _ _ _ _ _ _ _ _ _ _
        have BZ : Hid (Below w10.heap.size w10 (((((((((u2.setCell ⟨bx, 0, none⟩ (.int .i64 Q.turn)).setCell ⟨bx, 1, none⟩ (.int .i64 Q.next)).setCell ⟨bx, 2, none⟩ (.int .i64 Q.wide)).setCell ⟨bx, 3, none⟩ (.int .i64 Q.high)).setCell ⟨bx, 4, none⟩ (.slice g1 Q.gs.length l1)).setCell ⟨bx, 5, none⟩ (.slice g2 Q.os.length l2)).setCell ⟨bx, 6, none⟩ (.slice g3 Q.gold.length l3)).setCell ⟨bx, 7, none⟩ (.slice g4 Q.us.length l4)).setCell ⟨bx, 8, none⟩ (.slice g5 Q.qs.length l5))) := KZ.out.below BU.out BU.out.size NB.out
        have WZ : Hid (Wb (((((((((u2.setCell ⟨bx, 0, none⟩ (.int .i64 Q.turn)).setCell ⟨bx, 1, none⟩ (.int .i64 Q.next)).setCell ⟨bx, 2, none⟩ (.int .i64 Q.wide)).setCell ⟨bx, 3, none⟩ (.int .i64 Q.high)).setCell ⟨bx, 4, none⟩ (.slice g1 Q.gs.length l1)).setCell ⟨bx, 5, none⟩ (.slice g2 Q.os.length l2)).setCell ⟨bx, 6, none⟩ (.slice g3 Q.gold.length l3)).setCell ⟨bx, 7, none⟩ (.slice g4 Q.us.length l4)).setCell ⟨bx, 8, none⟩ (.slice g5 Q.qs.length l5)) bx Q) := ⟨g1, l1, g2, l2, g3, l3, g4, l4, g5, l5, wx_bw (ZE.out.put _ _ _ _ _ _ _ _ _), (WQ.out.1.kp KZ.out WQ.out.2).l⟩
        refine headT_skip rfl (((((((((u2.setCell ⟨bx, 0, none⟩ (.int .i64 Q.turn)).setCell ⟨bx, 1, none⟩ (.int .i64 Q.next)).setCell ⟨bx, 2, none⟩ (.int .i64 Q.wide)).setCell ⟨bx, 3, none⟩ (.int .i64 Q.high)).setCell ⟨bx, 4, none⟩ (.slice g1 Q.gs.length l1)).setCell ⟨bx, 5, none⟩ (.slice g2 Q.os.length l2)).setCell ⟨bx, 6, none⟩ (.slice g3 Q.gold.length l3)).setCell ⟨bx, 7, none⟩ (.slice g4 Q.us.length l4)).setCell ⟨bx, 8, none⟩ (.slice g5 Q.qs.length l5)) (by go_simp) (by go_simp) (CB.out _ BZ.out) ?_
        clear z0 z1 z2 z3 z4 z5 z6 z7 z8 t0 t1 t2 t3 t4 t5 t6 t7 t8 KZ ZE
        go_simp
        generalize ((((((((u2.setCell ⟨bx, 0, none⟩ (.int .i64 Q.turn)).setCell ⟨bx, 1, none⟩ (.int .i64 Q.next)).setCell ⟨bx, 2, none⟩ (.int .i64 Q.wide)).setCell ⟨bx, 3, none⟩ (.int .i64 Q.high)).setCell ⟨bx, 4, none⟩ (.slice g1 Q.gs.length l1)).setCell ⟨bx, 5, none⟩ (.slice g2 Q.os.length l2)).setCell ⟨bx, 6, none⟩ (.slice g3 Q.gold.length l3)).setCell ⟨bx, 7, none⟩ (.slice g4 Q.us.length l4)).setCell ⟨bx, 8, none⟩ (.slice g5 Q.qs.length l5) = u9 at *
        unfold wpHeadT
        refine sched_value rfl .nilIface u9 (by go_simp) (by go_simp) trivial ?_
        go_simp
        unfold wpSched
        go_wp2_with fail
        go_meet
        case rel => exact ⟨rfl, bx, rfl, by rw [QA.out]; exact WZ.out, BZ.out⟩
    case rest =>
    obtain ⟨rfl, zy, rfl, hwa, hbw⟩ := hcut
    have B11 : Hid (Below w.heap.size w wc) := B10.out.trans (hbw.mono B10.out.size)
    have A11 : Hid (Wb wc zx A) := A10.out.below hbw
    obtain ⟨a1, d1, a2, d2, a3, d3, a4, d4, a5, d5, ⟨x0, x1, x2, x3, x4, x5, x6, x7, x8⟩, al⟩ := A11.out
    obtain ⟨b1, e1, b2, e2, b3, e3, b4, e4, b5, e5, ⟨y0, y1, y2, y3, y4, y5, y6, y7, y8⟩, bl⟩ := hwa
    have LL : Hid (Wl wc (.agg #[.int .i64 A.turn, .int .i64 A.next, .int .i64 A.wide, .int .i64 A.high, .slice a1 A.gs.length d1, .slice a2 A.os.length d2, .slice a3 A.gold.length d3, .slice a4 A.us.length d4, .slice a5 A.qs.length d5]) A ∧ Wl wc (.agg #[.int .i64 A.turn, .int .i64 A.next, .int .i64 A.wide, .int .i64 A.high, .slice b1 A.gs.length e1, .slice b2 A.os.length e2, .slice b3 A.gold.length e3, .slice b4 A.us.length e4, .slice b5 A.qs.length e5]) A) := ⟨al, bl⟩
    clear al bl hbw
    go_wp2_with fail
    refine (worlds_like _ _ A wc LL.out.1 LL.out.2).mono ?_
    rintro e w12 ⟨rfl, hb⟩
    have B12 : Hid (Below w.heap.size w w12) := B11.out.trans (hb.mono B11.out.size)
    clear hb x0 x1 x2 x3 x4 x5 x6 x7 x8 y0 y1 y2 y3 y4 y5 y6 y7 y8
    go_wp2
    go_ret
    exact ⟨rfl, B12.out⟩
end Go.Proofs.YthcndngdngjalaaGreatDoor.turnParts

