/- TurnOrder: the walk. -/
import Derived.Test.YtkejdkajfnaieaaGreatDoorZTurnOrder16
import Derived.Test.YtkejdkajfnaieaaGreatDoorZTurnOrder19
import Derived.Deep.DeepCutAuto
import Derived.BigQuiet
namespace Go.Proofs.YtkejdkajfnaieaaGreatDoor.turnOrder
open Go.RowKit Go.Proofs.YtkejdkajfnaieaaGreatDoor.So
set_option linter.unusedVariables false

theorem orl_lit (w : World) : Orl (w.alloc (Obj.cells #[.int .i64 0, .int .i64 2, .int .i64 2, .int .i64 6, .int .i64 1, .int .i64 3, .int .i64 3, .int .i64 1] 40)) (.slice (some ⟨w.heap.size, 0, none⟩) 2 2) [To.o1, To.o2] := by
  have hn := heap_alloc_new w (Obj.cells #[.int .i64 0, .int .i64 2, .int .i64 2, .int .i64 6, .int .i64 1, .int .i64 3, .int .i64 3, .int .i64 1] 40)
  refine ⟨_, _, rfl, by decide, by decide, fun _ => ⟨⟨w.heap.size, 0, none⟩, rfl, by simp, fun i l hl => ?_⟩⟩
  match i, hl with
  | 0, hl => simp at hl; subst hl; exact ⟨by simp only [World.cell?, Addr.add_lit, hn]; rfl, by simp only [World.cell?, Addr.add_lit, hn]; rfl, by simp only [World.cell?, Addr.add_lit, hn]; rfl, by simp only [World.cell?, Addr.add_lit, hn]; rfl⟩
  | 1, hl => simp at hl; subst hl; exact ⟨by simp only [World.cell?, Addr.add_lit, hn]; rfl, by simp only [World.cell?, Addr.add_lit, hn]; rfl, by simp only [World.cell?, Addr.add_lit, hn]; rfl, by simp only [World.cell?, Addr.add_lit, hn]; rfl⟩
  | i + 2, hl => simp at hl
theorem wl_units {w : World} {X : WV} {p1 q1 p2 q2 p3 q3 p4 q4 p5 q5} (h : Wl w (.agg #[.int .i64 X.turn, .int .i64 X.next, .int .i64 X.wide, .int .i64 X.high, .slice p1 X.gs.length q1, .slice p2 X.os.length q2, .slice p3 X.gold.length q3, .slice p4 X.us.length q4, .slice p5 X.qs.length q5]) X) : Unl w (.slice p4 X.us.length q4) X.us := by
  obtain ⟨u1, u2, u3, u4, u5, e, -, -, -, h4, -⟩ := h
  simp only [Value.agg.injEq, Array.mk.injEq, List.cons.injEq, true_and, and_true] at e
  obtain ⟨-, -, -, rfl, -⟩ := e
  exact h4
theorem fx_cells {V : World} {bf : Nat} (h : Wb V bf (To.TW 1 20 To.hit)) : ∃ x c, V.cell? ⟨bf, 0, none⟩ = some (.int .i64 1) ∧ V.cell? ⟨bf, 7, none⟩ = some (.slice (some x) 3 c) ∧ V.cell? ⟨(x.add 8).block, (x.add 8).off + 3, none⟩ = some (.int .i64 6) ∧ V.cell? ⟨x.block, x.off + 8 + 3, none⟩ = some (.int .i64 6) ∧ V.cell? ⟨x.block, x.off + 11, none⟩ = some (.int .i64 6) := by
  obtain ⟨g1, l1, g2, l2, g3, l3, g4, l4, g5, l5, b, hw⟩ := h
  have hu := wl_units hw
  obtain ⟨a, c, e, -, -, h3⟩ := hu
  injection e with e1 e2 e3
  subst e1 e3
  obtain ⟨x, rfl, -, hx⟩ := h3 (by simp [To.TW])
  have h9 : V.cell? ⟨(x.add 8).block, (x.add 8).off + 3, none⟩ = some (.int .i64 6) := (hx 1 To.hit rfl).c3
  have h8 : x.add 8 = ⟨x.block, x.off + 8, none⟩ := by unfold Addr.add; rw [if_neg (by decide)]
  refine ⟨x, _, b.c0, b.c7, h9, ?_, ?_⟩ <;> (rw [h8] at h9; exact h9)
theorem bad_shape {ks : List KV} {X : WV} {l : List OrV} {w w' : World} {v ev : Value} {F : Int} (hs : StepSays ks X l w w' v ev) (he : Er (.iface 97 (.int .i64 F)) (stepFault ks X l)) : v = .agg #[.int .i64 0, .int .i64 0, .int .i64 0, .int .i64 0, .slice none 0 0, .slice none 0 0, .slice none 0 0, .slice none 0 0, .slice none 0 0] ∧ ev = .slice none 0 0 := by
  rcases hs with ⟨-, h⟩ | ⟨h, -⟩
  · exact h
  · rw [h] at he
    have := er_nil0 he
    cases this
theorem turn_ok {ks : List KV} {X : WV} {l : List OrV} (h : stepFault ks X l = 0) : 0 ≤ X.turn ∧ X.turn ≤ 1000000 := by
  have n := (wright_of (To.fault_turned h).1).nums
  unfold Wd.numsBad Wd.off at n
  simp at n
  omega
theorem below_dn {B : Nat} {a w : World} (h : Below B a w) (n : Nat) : Below B a (w.drewN n) := h.trans ⟨rfl, rfl, rfl, Nat.le_refl _, fun _ _ => rfl⟩
def Tl1 (us : List UnV) (l : List OrV) (w7 : World) (p v : Value) (W : World) : Prop := ∃ (m : Nat) (pp : Int), m ≤ 4 ∧ pp = 3 - (m : Int) ∧ p = .int .i64 pp ∧ Oro W w7.heap.size v (To.tw us l m 0 0) ∧ Below w7.heap.size w7 W
def Tl2 (us : List UnV) (l : List OrV) (m LU : Nat) (w7 : World) (i v : Value) (W : World) : Prop := ∃ (k : Nat) (ii : Int), k ≤ LU ∧ ii = (LU : Int) - 1 - (k : Int) ∧ i = .int .i64 ii ∧ Oro W w7.heap.size v (To.tw us l m k 0) ∧ Below w7.heap.size w7 W
def Tl3 (us : List UnV) (l : List OrV) (m k : Nat) (w7 : World) (n v : Value) (W : World) : Prop := ∃ q : Nat, q ≤ l.length ∧ n = .int .i64 (q : Nat) ∧ Oro W w7.heap.size v (To.tw us l m k q) ∧ Below w7.heap.size w7 W
/-- what stays while the fact is asked. -/
def Fx (w : World) (X : WV) (s1 s2 s3 s4 s5 : Value) (z : Nat) (u1 u2 u3 u4 u5 : Value) (A : World) : Prop := Below w.heap.size w A ∧ Bw A w.heap.size X s1 s2 s3 s4 s5 ∧ Wx A z (.int .i64 0) (.int .i64 4) (.int .i64 4) (.int .i64 2) u1 u2 u3 u4 u5 ∧ Wl A (.agg #[.int .i64 0, .int .i64 4, .int .i64 4, .int .i64 2, u1, u2, u3, u4, u5]) S3 ∧ Sd A
theorem Fx.below {w : World} {X : WV} {s1 s2 s3 s4 s5 : Value} {z : Nat} {u1 u2 u3 u4 u5 : Value} {A B : World} (h : Fx w X s1 s2 s3 s4 s5 z u1 u2 u3 u4 u5 A) (hb : Below A.heap.size A B) : Fx w X s1 s2 s3 s4 s5 z u1 u2 u3 u4 u5 B :=
  ⟨h.1.trans (hb.mono h.1.size), h.2.1.below hb h.2.1.lt, h.2.2.1.below hb h.2.2.1.lt, h.2.2.2.1.below hb, h.2.2.2.2.below hb⟩
set_option maxRecDepth 100000 in
set_option maxHeartbeats 80000000 in
theorem walk (vk : Value) (ks : List KV) (vw : Value) (X : WV) (vl : Value) (l : List OrV) (w : World)
    (h0 : Kl w vk ks ∧ ∀ k ∈ ks, k.b.size ≤ maxLen) (h1 : Wl w vw X ∧ ∀ n ∈ Wd.nums X, Wd.In64 n) (h2 : Orl w vl l) (hsd : Sd w) :
    Calls Tryz.prog 3 #[vk, vw, vl] w fun e w' => e = .returned (.bool true) ∧ Below w.heap.size w w' := by
  have K : Hid (Kl w vk ks ∧ ∀ k ∈ ks, k.b.size ≤ 9223372036854775807) := ⟨h0.1, fun k hk => by have := h0.2 k hk; unfold maxLen at this; omega⟩
  have H : Hid (Wl w vw X) := h1.1
  have L : Hid (Orl w vl l) := h2
  have SDH : Hid (Sd w) := hsd
  obtain ⟨p1, q1, p2, q2, p3, q3, p4, q4, p5, q5, rfl⟩ := wl_shape9 h1.1
  obtain ⟨pk, qk, rfl, -⟩ := h0.1
  obtain ⟨pl, ql, rfl, lc1, lc2, -⟩ := h2
  clear hsd
  clear h0 h1
  go_enter Tryz.func3, Tryz.ntmps3
  go_upto_region 1 with fail
  have B0 : Hid (Below w.heap.size w (w.alloc (Obj.cells #[.int .i64 X.turn, .int .i64 X.next, .int .i64 X.wide, .int .i64 X.high, .slice p1 X.gs.length q1, .slice p2 X.os.length q2, .slice p3 X.gold.length q3, .slice p4 X.us.length q4, .slice p5 X.qs.length q5] 29))) := (Below.refl _ _).alloc (Nat.le_refl _) _
  have X0 : Hid (Bw (w.alloc (Obj.cells #[.int .i64 X.turn, .int .i64 X.next, .int .i64 X.wide, .int .i64 X.high, .slice p1 X.gs.length q1, .slice p2 X.os.length q2, .slice p3 X.gold.length q3, .slice p4 X.us.length q4, .slice p5 X.qs.length q5] 29)) w.heap.size X (.slice p1 X.gs.length q1) (.slice p2 X.os.length q2) (.slice p3 X.gold.length q3) (.slice p4 X.us.length q4) (.slice p5 X.qs.length q5)) := Bw.mk' X _ _ _ _ _ rfl
  generalize (w.alloc (Obj.cells #[.int .i64 X.turn, .int .i64 X.next, .int .i64 X.wide, .int .i64 X.high, .slice p1 X.gs.length q1, .slice p2 X.os.length q2, .slice p3 X.gold.length q3, .slice p4 X.us.length q4, .slice p5 X.qs.length q5] 29)) = w0 at *
  go_wp2_with fail
  refine (small_any w0).mono ?_
  rintro e w1 ⟨u, rfl, ho, hb⟩
  have B1 : Hid (Below w.heap.size w w1) := B0.out.trans (hb.mono B0.out.size)
  have X1 : Hid (Bw w1 w.heap.size X (.slice p1 X.gs.length q1) (.slice p2 X.os.length q2) (.slice p3 X.gold.length q3) (.slice p4 X.us.length q4) (.slice p5 X.qs.length q5)) := X0.out.below hb X0.out.lt
  have LS0 := ho.l
  obtain ⟨y1, y2, y3, y4, y5, rfl, o1, o2, o3, o4, o5⟩ := ho
  obtain ⟨m1, n1, rfl⟩ := o1.len
  obtain ⟨m2, n2, rfl⟩ := o2.len
  obtain ⟨m3, n3, rfl⟩ := o3.len
  obtain ⟨m4, n4, rfl⟩ := o4.len
  obtain ⟨m5, n5, rfl⟩ := o5.len
  have LS : Hid (Wl w1 (.agg #[.int .i64 0, .int .i64 4, .int .i64 4, .int .i64 2, .slice m1 8 n1, .slice m2 8 n2, .slice m3 2 n3, .slice m4 3 n4, .slice m5 0 n5]) S3) := LS0
  obtain ⟨g1, g2, g3, g4, g5, g6, g7, g8, g9⟩ := s3_eqs
  simp only [g1, g2, g3, g4, g5, g6, g7, g8, g9]
  clear g1 g2 g3 g4 g5 g6 g7 g8 g9 hb o1 o2 o3 o4 o5 X0 B0 LS0
  go_upto_region 2 with fail
  have BA : Hid (Below w1.heap.size w1 (w1.alloc (Obj.cells #[.int .i64 0, .int .i64 4, .int .i64 4, .int .i64 2, .slice m1 8 n1, .slice m2 8 n2, .slice m3 2 n3, .slice m4 3 n4, .slice m5 0 n5] 29))) := (Below.refl _ _).alloc (Nat.le_refl _) _
  obtain ⟨z, hz⟩ : ∃ z, w1.heap.size = z := ⟨_, rfl⟩
  have W2 : Hid (Wx (w1.alloc (Obj.cells #[.int .i64 0, .int .i64 4, .int .i64 4, .int .i64 2, .slice m1 8 n1, .slice m2 8 n2, .slice m3 2 n3, .slice m4 3 n4, .slice m5 0 n5] 29)) z (.int .i64 0) (.int .i64 4) (.int .i64 4) (.int .i64 2) (.slice m1 8 n1) (.slice m2 8 n2) (.slice m3 2 n3) (.slice m4 3 n4) (.slice m5 0 n5)) := Wx.new _ _ _ _ _ _ _ _ _ hz
  rw [hz]
  generalize (w1.alloc (Obj.cells #[.int .i64 0, .int .i64 4, .int .i64 4, .int .i64 2, .slice m1 8 n1, .slice m2 8 n2, .slice m3 2 n3, .slice m4 3 n4, .slice m5 0 n5] 29)) = w2 at *
  have B2 : Hid (Below w.heap.size w w2) := B1.out.trans (BA.out.mono B1.out.size)
  have X2 : Hid (Bw w2 w.heap.size X (.slice p1 X.gs.length q1) (.slice p2 X.os.length q2) (.slice p3 X.gold.length q3) (.slice p4 X.us.length q4) (.slice p5 X.qs.length q5)) := X1.out.below BA.out X1.out.lt
  have L2 : Hid (Wl w2 (.agg #[.int .i64 0, .int .i64 4, .int .i64 4, .int .i64 2, .slice m1 8 n1, .slice m2 8 n2, .slice m3 2 n3, .slice m4 3 n4, .slice m5 0 n5]) S3) := LS.out.below BA.out
  clear X1 B1 BA LS hz
  go_upto_region 4 with fail
  go_cut [9, 10, 11] (fun v9 v10 v11 V => v11 = .nilIface ∧ (∃ pe ne qe, v10 = .slice pe ne qe ∧ 3 ≤ ne) ∧ ∃ bf, v9 = .pointer (some ⟨bf, 0, none⟩) ∧ Wb V bf (To.TW 1 20 To.hit) ∧ Below w.heap.size w V ∧ Bw V w.heap.size X (.slice p1 X.gs.length q1) (.slice p2 X.os.length q2) (.slice p3 X.gold.length q3) (.slice p4 X.us.length q4) (.slice p5 X.qs.length q5))
  case first =>
    refine wp_region_tree (.read 1 (.read 2 (.read 3 (.three 0 (.two 4 (.two 5 (.read 6 (.read 7 (.read 8 (.read 9 (.one 10 (.one 11 (.one 12 .leaf))))))) 10 (.one 5 (.read 6 (.read 7 (.read 8 (.read 9 (.one 11 (.one 12 .leaf)))))))) 10 (.one 4 (.one 5 (.read 6 (.read 7 (.read 8 (.read 9 (.one 11 (.one 12 .leaf))))))))) 4 (.two 0 (.two 5 (.read 6 (.read 7 (.read 8 (.read 9 (.one 10 (.one 11 (.one 12 .leaf))))))) 10 (.one 5 (.read 6 (.read 7 (.read 8 (.read 9 (.one 11 (.one 12 .leaf)))))))) 10 (.one 0 (.one 5 (.read 6 (.read 7 (.read 8 (.read 9 (.one 11 (.one 12 .leaf))))))))) 10 (.two 0 (.one 4 (.one 5 (.read 6 (.read 7 (.read 8 (.read 9 (.one 11 (.one 12 .leaf)))))))) 4 (.one 0 (.one 5 (.read 6 (.read 7 (.read 8 (.read 9 (.one 11 (.one 12 .leaf))))))))))))) [(false, 0), (false, 1), (false, 2), (false, 3), (false, 4), (false, 5), (false, 6), (false, 7), (false, 8), (false, 9), (false, 10), (false, 11), (false, 12)] [(false, 13)] (fun V => Wx V z (.int .i64 0) (.int .i64 4) (.int .i64 4) (.int .i64 2) (.slice m1 8 n1) (.slice m2 8 n2) (.slice m3 2 n3) (.slice m4 3 n4) (.slice m5 0 n5)) (by kernel_rfl) (by kernel_rfl) (by kernel_rfl) (by decide +kernel) (by decide +kernel) W2.out ?_
    have D0 : Hid (Below w2.heap.size w2 { w2 with drawn := w2.drawn + 1 }) := (Below.refl _ _).drew
    generalize ({ w2 with drawn := w2.drawn + 1 } : World) = v0 at *
    have F : Hid (Fx w X (.slice p1 X.gs.length q1) (.slice p2 X.os.length q2) (.slice p3 X.gold.length q3) (.slice p4 X.us.length q4) (.slice p5 X.qs.length q5) z (.slice m1 8 n1) (.slice m2 8 n2) (.slice m3 2 n3) (.slice m4 3 n4) (.slice m5 0 n5) v0) := Fx.below ⟨B2.out, X2.out, W2.out, L2.out, SDH.out.below B2.out⟩ D0.out
    clear W2 X2 B2 L2 D0
    refine tr_read rfl (.agg #[.int .i64 0, .int .i64 4, .int .i64 4, .int .i64 2, .slice m1 8 n1, .slice m2 8 n2, .slice m3 2 n3, .slice m4 3 n4, .slice m5 0 n5]) (by go_simp) (fun V hV => by obtain ⟨x0, x1, x2, x3, x4, x5, x6, x7, x8⟩ := hV.cells; go_simp) ?_
    go_simp
    refine tr_read rfl (.agg #[.int .i64 0, .int .i64 2, .int .i64 2, .int .i64 6]) (by go_simp) (fun V hV => by go_simp) ?_
    go_simp
    refine tr_read rfl (.agg #[.int .i64 1, .int .i64 3, .int .i64 3, .int .i64 1]) (by go_simp) (fun V hV => by go_simp) ?_
    go_simp
    refine tr_three ?_ ?_ ?_
    · refine st_call rfl 11 #[] (by go_simp) (by go_simp) ?_
      refine (sorts_any v0).mono ?_
      rintro e v1 ⟨ku, rfl, hk, hb⟩
      have F9 : Hid (Fx w X (.slice p1 X.gs.length q1) (.slice p2 X.os.length q2) (.slice p3 X.gold.length q3) (.slice p4 X.us.length q4) (.slice p5 X.qs.length q5) z (.slice m1 8 n1) (.slice m2 8 n2) (.slice m3 2 n3) (.slice m4 3 n4) (.slice m5 0 n5) v1) := F.out.below hb
      clear F
      have F := F9
      clear F9
      have KU : Hid (Kl v1 ku SK) := hk
      refine ⟨_, rfl, F.out.2.2.1, ?_⟩
      clear hk hb
      go_simp
      refine tr_two ?_ ?_
      · have ba : Below v1.heap.size v1 (v1.alloc (Obj.cells #[.int .i64 0, .int .i64 2, .int .i64 2, .int .i64 6, .int .i64 1, .int .i64 3, .int .i64 3, .int .i64 1] 40)) := (Below.refl _ _).alloc (Nat.le_refl _) _
        refine st_value rfl (.slice (some ⟨v1.heap.size, 0, none⟩) 2 2) (v1.alloc (Obj.cells #[.int .i64 0, .int .i64 2, .int .i64 2, .int .i64 6, .int .i64 1, .int .i64 3, .int .i64 3, .int .i64 1] 40)) (by go_simp) (by go_simp) (F.out.below ba).2.2.1 ?_
        obtain ⟨g, hg⟩ : ∃ g, v1.heap.size = g := ⟨_, rfl⟩
        have OL : Hid (Orl (v1.alloc (Obj.cells #[.int .i64 0, .int .i64 2, .int .i64 2, .int .i64 6, .int .i64 1, .int .i64 3, .int .i64 3, .int .i64 1] 40)) (.slice (some ⟨g, 0, none⟩) 2 2) [To.o1, To.o2]) := by rw [← hg]; exact orl_lit v1
        rw [hg]
        have F9 : Hid (Fx w X (.slice p1 X.gs.length q1) (.slice p2 X.os.length q2) (.slice p3 X.gold.length q3) (.slice p4 X.us.length q4) (.slice p5 X.qs.length q5) z (.slice m1 8 n1) (.slice m2 8 n2) (.slice m3 2 n3) (.slice m4 3 n4) (.slice m5 0 n5) (v1.alloc (Obj.cells #[.int .i64 0, .int .i64 2, .int .i64 2, .int .i64 6, .int .i64 1, .int .i64 3, .int .i64 3, .int .i64 1] 40))) := F.out.below ba
        clear F
        have F := F9
        clear F9
        have K9 : Hid (Kl (v1.alloc (Obj.cells #[.int .i64 0, .int .i64 2, .int .i64 2, .int .i64 6, .int .i64 1, .int .i64 3, .int .i64 3, .int .i64 1] 40)) ku SK) := KU.out.below ba
        clear KU
        have KU := K9
        clear K9
        clear ba hg
        generalize v1.alloc (Obj.cells #[.int .i64 0, .int .i64 2, .int .i64 2, .int .i64 6, .int .i64 1, .int .i64 3, .int .i64 3, .int .i64 1] 40) = v2 at *
        go_simp
        refine tr_two ?_ ?_
        · refine st_call rfl 10 #[ku, .agg #[.int .i64 0, .int .i64 4, .int .i64 4, .int .i64 2, .slice m1 8 n1, .slice m2 8 n2, .slice m3 2 n3, .slice m4 3 n4, .slice m5 0 n5], .slice (some ⟨g, 0, none⟩) 2 2] (by go_simp) (by go_simp) ?_
          refine (Step_any ku _ _ SK S3 [To.o1, To.o2] v2 KU.out sm_names F.out.2.2.2.1 OL.out F.out.2.2.2.2).mono ?_
          rintro e v3 ⟨v, ev, r, rfl, hr, hf, hb⟩
          obtain ⟨rfl, es, he3, hwo, hev⟩ := To.to_fact hf hr
          obtain ⟨pe, qe, rfl⟩ := hev.len
          obtain ⟨Q, hQ⟩ : ∃ Q, (To.TW 1 20 To.hit) = Q := ⟨_, rfl⟩
          rw [hQ] at hwo
          obtain ⟨f1, h1, f2, h2, f3, h3, f4, h4, f5, h5, rfl⟩ := wl_shape9 hwo.l
          have QE : Hid ((To.TW 1 20 To.hit) = Q ∧ 3 ≤ es.length) := ⟨hQ, he3⟩
          have LQ : Hid (Wl v3 (.agg #[.int .i64 Q.turn, .int .i64 Q.next, .int .i64 Q.wide, .int .i64 Q.high, .slice f1 Q.gs.length h1, .slice f2 Q.os.length h2, .slice f3 Q.gold.length h3, .slice f4 Q.us.length h4, .slice f5 Q.qs.length h5]) Q) := hwo.l
          have F9 : Hid (Fx w X (.slice p1 X.gs.length q1) (.slice p2 X.os.length q2) (.slice p3 X.gold.length q3) (.slice p4 X.us.length q4) (.slice p5 X.qs.length q5) z (.slice m1 8 n1) (.slice m2 8 n2) (.slice m3 2 n3) (.slice m4 3 n4) (.slice m5 0 n5) v3) := F.out.below hb
          clear F
          have F := F9
          clear F9
          refine ⟨_, rfl, F.out.2.2.1, ?_⟩
          clear hr hf hb hwo hev hQ he3 KU OL
          go_simp
          refine tr_read rfl (.tuple #[.agg #[.int .i64 Q.turn, .int .i64 Q.next, .int .i64 Q.wide, .int .i64 Q.high, .slice f1 Q.gs.length h1, .slice f2 Q.os.length h2, .slice f3 Q.gold.length h3, .slice f4 Q.us.length h4, .slice f5 Q.qs.length h5], .slice pe es.length qe, .nilIface]) (by go_simp) (fun V hV => by go_simp) ?_
          go_simp
          refine tr_read rfl (.agg #[.int .i64 Q.turn, .int .i64 Q.next, .int .i64 Q.wide, .int .i64 Q.high, .slice f1 Q.gs.length h1, .slice f2 Q.os.length h2, .slice f3 Q.gold.length h3, .slice f4 Q.us.length h4, .slice f5 Q.qs.length h5]) (by go_simp) (fun V hV => by go_simp) ?_
          go_simp
          refine tr_read rfl (.slice pe es.length qe) (by go_simp) (fun V hV => by go_simp) ?_
          go_simp
          refine tr_read rfl (.nilIface) (by go_simp) (fun V hV => by go_simp) ?_
          go_simp
          refine tr_one ?_
          have ba : Below v3.heap.size v3 (v3.alloc (Obj.cells #[.int .i64 0, .int .i64 0, .int .i64 0, .int .i64 0, .slice none 0 0, .slice none 0 0, .slice none 0 0, .slice none 0 0, .slice none 0 0] 29)) := (Below.refl _ _).alloc (Nat.le_refl _) _
          refine st_value rfl (.pointer (some ⟨v3.heap.size, 0, none⟩)) (v3.alloc (Obj.cells #[.int .i64 0, .int .i64 0, .int .i64 0, .int .i64 0, .slice none 0 0, .slice none 0 0, .slice none 0 0, .slice none 0 0, .slice none 0 0] 29)) (by go_simp) (by go_simp) (F.out.below ba).2.2.1 ?_
          obtain ⟨bf, hbf⟩ : ∃ g, v3.heap.size = g := ⟨_, rfl⟩
          have ZE : Hid (Wx (v3.alloc (Obj.cells #[.int .i64 0, .int .i64 0, .int .i64 0, .int .i64 0, .slice none 0 0, .slice none 0 0, .slice none 0 0, .slice none 0 0, .slice none 0 0] 29)) bf (.int .i64 0) (.int .i64 0) (.int .i64 0) (.int .i64 0) (.slice none 0 0) (.slice none 0 0) (.slice none 0 0) (.slice none 0 0) (.slice none 0 0) ∧ w.heap.size < bf ∧ z < bf) := ⟨Wx.new (w := v3) _ _ _ _ _ _ _ _ _ hbf, by rw [← hbf]; exact F.out.2.1.lt, by rw [← hbf]; exact F.out.2.2.1.lt⟩
          have BL : Hid (Below bf v3 (v3.alloc (Obj.cells #[.int .i64 0, .int .i64 0, .int .i64 0, .int .i64 0, .slice none 0 0, .slice none 0 0, .slice none 0 0, .slice none 0 0, .slice none 0 0] 29)) ∧ v3.heap.size = bf) := ⟨by rw [← hbf]; exact ba, hbf⟩
          rw [hbf]
          have F9 : Hid (Fx w X (.slice p1 X.gs.length q1) (.slice p2 X.os.length q2) (.slice p3 X.gold.length q3) (.slice p4 X.us.length q4) (.slice p5 X.qs.length q5) z (.slice m1 8 n1) (.slice m2 8 n2) (.slice m3 2 n3) (.slice m4 3 n4) (.slice m5 0 n5) (v3.alloc (Obj.cells #[.int .i64 0, .int .i64 0, .int .i64 0, .int .i64 0, .slice none 0 0, .slice none 0 0, .slice none 0 0, .slice none 0 0, .slice none 0 0] 29))) := F.out.below ba
          clear F
          have F := F9
          clear F9
          clear ba hbf
          generalize v3.alloc (Obj.cells #[.int .i64 0, .int .i64 0, .int .i64 0, .int .i64 0, .slice none 0 0, .slice none 0 0, .slice none 0 0, .slice none 0 0, .slice none 0 0] 29) = v4 at *
          go_simp
          refine tr_one ?_
          obtain ⟨z0, z1, z2, z3, z4, z5, z6, z7, z8⟩ := ZE.out.1.cells
          obtain ⟨t0, t1, t2, t3, t4, t5, t6, t7, t8⟩ := ZE.out.1.thaws
          have KZ : Hid (Kp bf v4 (((((((((v4.setCell ⟨bf, 0, none⟩ (.int .i64 Q.turn)).setCell ⟨bf, 1, none⟩ (.int .i64 Q.next)).setCell ⟨bf, 2, none⟩ (.int .i64 Q.wide)).setCell ⟨bf, 3, none⟩ (.int .i64 Q.high)).setCell ⟨bf, 4, none⟩ (.slice f1 Q.gs.length h1)).setCell ⟨bf, 5, none⟩ (.slice f2 Q.os.length h2)).setCell ⟨bf, 6, none⟩ (.slice f3 Q.gold.length h3)).setCell ⟨bf, 7, none⟩ (.slice f4 Q.us.length h4)).setCell ⟨bf, 8, none⟩ (.slice f5 Q.qs.length h5))) := put_kp _ _ _ _ _ _ _ _ _ _ _
          have FS : Hid (Below w.heap.size w (((((((((v4.setCell ⟨bf, 0, none⟩ (.int .i64 Q.turn)).setCell ⟨bf, 1, none⟩ (.int .i64 Q.next)).setCell ⟨bf, 2, none⟩ (.int .i64 Q.wide)).setCell ⟨bf, 3, none⟩ (.int .i64 Q.high)).setCell ⟨bf, 4, none⟩ (.slice f1 Q.gs.length h1)).setCell ⟨bf, 5, none⟩ (.slice f2 Q.os.length h2)).setCell ⟨bf, 6, none⟩ (.slice f3 Q.gold.length h3)).setCell ⟨bf, 7, none⟩ (.slice f4 Q.us.length h4)).setCell ⟨bf, 8, none⟩ (.slice f5 Q.qs.length h5)) ∧ Bw (((((((((v4.setCell ⟨bf, 0, none⟩ (.int .i64 Q.turn)).setCell ⟨bf, 1, none⟩ (.int .i64 Q.next)).setCell ⟨bf, 2, none⟩ (.int .i64 Q.wide)).setCell ⟨bf, 3, none⟩ (.int .i64 Q.high)).setCell ⟨bf, 4, none⟩ (.slice f1 Q.gs.length h1)).setCell ⟨bf, 5, none⟩ (.slice f2 Q.os.length h2)).setCell ⟨bf, 6, none⟩ (.slice f3 Q.gold.length h3)).setCell ⟨bf, 7, none⟩ (.slice f4 Q.us.length h4)).setCell ⟨bf, 8, none⟩ (.slice f5 Q.qs.length h5)) w.heap.size X (.slice p1 X.gs.length q1) (.slice p2 X.os.length q2) (.slice p3 X.gold.length q3) (.slice p4 X.us.length q4) (.slice p5 X.qs.length q5) ∧ Wx (((((((((v4.setCell ⟨bf, 0, none⟩ (.int .i64 Q.turn)).setCell ⟨bf, 1, none⟩ (.int .i64 Q.next)).setCell ⟨bf, 2, none⟩ (.int .i64 Q.wide)).setCell ⟨bf, 3, none⟩ (.int .i64 Q.high)).setCell ⟨bf, 4, none⟩ (.slice f1 Q.gs.length h1)).setCell ⟨bf, 5, none⟩ (.slice f2 Q.os.length h2)).setCell ⟨bf, 6, none⟩ (.slice f3 Q.gold.length h3)).setCell ⟨bf, 7, none⟩ (.slice f4 Q.us.length h4)).setCell ⟨bf, 8, none⟩ (.slice f5 Q.qs.length h5)) z (.int .i64 0) (.int .i64 4) (.int .i64 4) (.int .i64 2) (.slice m1 8 n1) (.slice m2 8 n2) (.slice m3 2 n3) (.slice m4 3 n4) (.slice m5 0 n5)) := by have h9 := ZE.out.2; exact ⟨KZ.out.below F.out.1 F.out.1.size (by omega), F.out.2.1.kp9 KZ.out (by omega), F.out.2.2.1.kp KZ.out (by omega)⟩
          have WZ : Hid (Wb (((((((((v4.setCell ⟨bf, 0, none⟩ (.int .i64 Q.turn)).setCell ⟨bf, 1, none⟩ (.int .i64 Q.next)).setCell ⟨bf, 2, none⟩ (.int .i64 Q.wide)).setCell ⟨bf, 3, none⟩ (.int .i64 Q.high)).setCell ⟨bf, 4, none⟩ (.slice f1 Q.gs.length h1)).setCell ⟨bf, 5, none⟩ (.slice f2 Q.os.length h2)).setCell ⟨bf, 6, none⟩ (.slice f3 Q.gold.length h3)).setCell ⟨bf, 7, none⟩ (.slice f4 Q.us.length h4)).setCell ⟨bf, 8, none⟩ (.slice f5 Q.qs.length h5)) bf Q) := ⟨f1, h1, f2, h2, f3, h3, f4, h4, f5, h5, wx_bw (ZE.out.1.put _ _ _ _ _ _ _ _ _), (LQ.out.below (by rw [BL.out.2]; exact KZ.out.below BL.out.1 (by have h9 := BL.out.1.size; have h8 := BL.out.2; omega) (Nat.le_refl _)))⟩
          refine st_skip rfl (((((((((v4.setCell ⟨bf, 0, none⟩ (.int .i64 Q.turn)).setCell ⟨bf, 1, none⟩ (.int .i64 Q.next)).setCell ⟨bf, 2, none⟩ (.int .i64 Q.wide)).setCell ⟨bf, 3, none⟩ (.int .i64 Q.high)).setCell ⟨bf, 4, none⟩ (.slice f1 Q.gs.length h1)).setCell ⟨bf, 5, none⟩ (.slice f2 Q.os.length h2)).setCell ⟨bf, 6, none⟩ (.slice f3 Q.gold.length h3)).setCell ⟨bf, 7, none⟩ (.slice f4 Q.us.length h4)).setCell ⟨bf, 8, none⟩ (.slice f5 Q.qs.length h5)) (by go_simp) (by go_simp) FS.out.2.2 ?_
          clear z0 z1 z2 z3 z4 z5 z6 z7 z8 t0 t1 t2 t3 t4 t5 t6 t7 t8 KZ ZE F
          generalize ((((((((v4.setCell ⟨bf, 0, none⟩ (.int .i64 Q.turn)).setCell ⟨bf, 1, none⟩ (.int .i64 Q.next)).setCell ⟨bf, 2, none⟩ (.int .i64 Q.wide)).setCell ⟨bf, 3, none⟩ (.int .i64 Q.high)).setCell ⟨bf, 4, none⟩ (.slice f1 Q.gs.length h1)).setCell ⟨bf, 5, none⟩ (.slice f2 Q.os.length h2)).setCell ⟨bf, 6, none⟩ (.slice f3 Q.gold.length h3)).setCell ⟨bf, 7, none⟩ (.slice f4 Q.us.length h4)).setCell ⟨bf, 8, none⟩ (.slice f5 Q.qs.length h5) = v5 at *
          go_simp
          refine tr_one ?_
          refine st_value rfl (.slice pe es.length qe) v5 (by go_simp) (by go_simp) FS.out.2.2 ?_
          go_simp
          unfold wpTr
          refine sched_value rfl .nilIface v5 (by go_simp) (by go_simp) trivial ?_
          go_simp
          unfold wpSched
          go_wp2_with fail
          go_meet
          case rel => exact ⟨rfl, ⟨pe, es.length, qe, rfl, QE.out.2⟩, bf, rfl, by rw [QE.out.1]; exact WZ.out, FS.out.1, FS.out.2.1⟩
        · have ba : Below v2.heap.size v2 (v2.alloc (Obj.cells #[.int .i64 0, .int .i64 0, .int .i64 0, .int .i64 0, .slice none 0 0, .slice none 0 0, .slice none 0 0, .slice none 0 0, .slice none 0 0] 29)) := (Below.refl _ _).alloc (Nat.le_refl _) _
          refine st_value rfl (.pointer (some ⟨v2.heap.size, 0, none⟩)) (v2.alloc (Obj.cells #[.int .i64 0, .int .i64 0, .int .i64 0, .int .i64 0, .slice none 0 0, .slice none 0 0, .slice none 0 0, .slice none 0 0, .slice none 0 0] 29)) (by go_simp) (by go_simp) (F.out.below ba).2.2.1 ?_
          obtain ⟨bf, hbf⟩ : ∃ g, v2.heap.size = g := ⟨_, rfl⟩
          have ZE : Hid (Wx (v2.alloc (Obj.cells #[.int .i64 0, .int .i64 0, .int .i64 0, .int .i64 0, .slice none 0 0, .slice none 0 0, .slice none 0 0, .slice none 0 0, .slice none 0 0] 29)) bf (.int .i64 0) (.int .i64 0) (.int .i64 0) (.int .i64 0) (.slice none 0 0) (.slice none 0 0) (.slice none 0 0) (.slice none 0 0) (.slice none 0 0) ∧ w.heap.size < bf ∧ z < bf) := ⟨Wx.new (w := v2) _ _ _ _ _ _ _ _ _ hbf, by rw [← hbf]; exact F.out.2.1.lt, by rw [← hbf]; exact F.out.2.2.1.lt⟩
          rw [hbf]
          have F9 : Hid (Fx w X (.slice p1 X.gs.length q1) (.slice p2 X.os.length q2) (.slice p3 X.gold.length q3) (.slice p4 X.us.length q4) (.slice p5 X.qs.length q5) z (.slice m1 8 n1) (.slice m2 8 n2) (.slice m3 2 n3) (.slice m4 3 n4) (.slice m5 0 n5) (v2.alloc (Obj.cells #[.int .i64 0, .int .i64 0, .int .i64 0, .int .i64 0, .slice none 0 0, .slice none 0 0, .slice none 0 0, .slice none 0 0, .slice none 0 0] 29))) := F.out.below ba
          clear F
          have F := F9
          clear F9
          have K9 : Hid (Kl (v2.alloc (Obj.cells #[.int .i64 0, .int .i64 0, .int .i64 0, .int .i64 0, .slice none 0 0, .slice none 0 0, .slice none 0 0, .slice none 0 0, .slice none 0 0] 29)) ku SK) := KU.out.below ba
          clear KU
          have KU := K9
          clear K9
          have O9 : Hid (Orl (v2.alloc (Obj.cells #[.int .i64 0, .int .i64 0, .int .i64 0, .int .i64 0, .slice none 0 0, .slice none 0 0, .slice none 0 0, .slice none 0 0, .slice none 0 0] 29)) (.slice (some ⟨g, 0, none⟩) 2 2) [To.o1, To.o2]) := OL.out.below ba
          clear OL
          have OL := O9
          clear O9
          clear ba hbf
          generalize v2.alloc (Obj.cells #[.int .i64 0, .int .i64 0, .int .i64 0, .int .i64 0, .slice none 0 0, .slice none 0 0, .slice none 0 0, .slice none 0 0, .slice none 0 0] 29) = v6 at *
          go_simp
          refine tr_one ?_
          refine st_call rfl 10 #[ku, .agg #[.int .i64 0, .int .i64 4, .int .i64 4, .int .i64 2, .slice m1 8 n1, .slice m2 8 n2, .slice m3 2 n3, .slice m4 3 n4, .slice m5 0 n5], .slice (some ⟨g, 0, none⟩) 2 2] (by go_simp) (by go_simp) ?_
          refine (Step_any ku _ _ SK S3 [To.o1, To.o2] v6 KU.out sm_names F.out.2.2.2.1 OL.out F.out.2.2.2.2).mono ?_
          rintro e v7 ⟨v, ev, r, rfl, hr, hf, hb⟩
          obtain ⟨rfl, es, he3, hwo, hev⟩ := To.to_fact hf hr
          obtain ⟨pe, qe, rfl⟩ := hev.len
          obtain ⟨Q, hQ⟩ : ∃ Q, (To.TW 1 20 To.hit) = Q := ⟨_, rfl⟩
          rw [hQ] at hwo
          obtain ⟨f1, h1, f2, h2, f3, h3, f4, h4, f5, h5, rfl⟩ := wl_shape9 hwo.l
          have QE : Hid ((To.TW 1 20 To.hit) = Q ∧ 3 ≤ es.length) := ⟨hQ, he3⟩
          have WQ : Hid (Wo v7 v6.heap.size (.agg #[.int .i64 Q.turn, .int .i64 Q.next, .int .i64 Q.wide, .int .i64 Q.high, .slice f1 Q.gs.length h1, .slice f2 Q.os.length h2, .slice f3 Q.gold.length h3, .slice f4 Q.us.length h4, .slice f5 Q.qs.length h5]) Q ∧ bf < v6.heap.size) := ⟨hwo, ZE.out.1.lt⟩
          have F9 : Hid (Fx w X (.slice p1 X.gs.length q1) (.slice p2 X.os.length q2) (.slice p3 X.gold.length q3) (.slice p4 X.us.length q4) (.slice p5 X.qs.length q5) z (.slice m1 8 n1) (.slice m2 8 n2) (.slice m3 2 n3) (.slice m4 3 n4) (.slice m5 0 n5) v7) := F.out.below hb
          clear F
          have F := F9
          clear F9
          have Z9 : Hid (Wx v7 bf (.int .i64 0) (.int .i64 0) (.int .i64 0) (.int .i64 0) (.slice none 0 0) (.slice none 0 0) (.slice none 0 0) (.slice none 0 0) (.slice none 0 0) ∧ w.heap.size < bf ∧ z < bf) := ⟨ZE.out.1.below hb ZE.out.1.lt, ZE.out.2⟩
          clear ZE
          have ZE := Z9
          clear Z9
          refine ⟨_, rfl, F.out.2.2.1, ?_⟩
          clear hr hf hb hwo hev hQ he3 KU OL
          go_simp
          refine tr_read rfl (.tuple #[.agg #[.int .i64 Q.turn, .int .i64 Q.next, .int .i64 Q.wide, .int .i64 Q.high, .slice f1 Q.gs.length h1, .slice f2 Q.os.length h2, .slice f3 Q.gold.length h3, .slice f4 Q.us.length h4, .slice f5 Q.qs.length h5], .slice pe es.length qe, .nilIface]) (by go_simp) (fun V hV => by go_simp) ?_
          go_simp
          refine tr_read rfl (.agg #[.int .i64 Q.turn, .int .i64 Q.next, .int .i64 Q.wide, .int .i64 Q.high, .slice f1 Q.gs.length h1, .slice f2 Q.os.length h2, .slice f3 Q.gold.length h3, .slice f4 Q.us.length h4, .slice f5 Q.qs.length h5]) (by go_simp) (fun V hV => by go_simp) ?_
          go_simp
          refine tr_read rfl (.slice pe es.length qe) (by go_simp) (fun V hV => by go_simp) ?_
          go_simp
          refine tr_read rfl (.nilIface) (by go_simp) (fun V hV => by go_simp) ?_
          go_simp
          refine tr_one ?_
          obtain ⟨z0, z1, z2, z3, z4, z5, z6, z7, z8⟩ := ZE.out.1.cells
          obtain ⟨t0, t1, t2, t3, t4, t5, t6, t7, t8⟩ := ZE.out.1.thaws
          have KZ : Hid (Kp bf v7 (((((((((v7.setCell ⟨bf, 0, none⟩ (.int .i64 Q.turn)).setCell ⟨bf, 1, none⟩ (.int .i64 Q.next)).setCell ⟨bf, 2, none⟩ (.int .i64 Q.wide)).setCell ⟨bf, 3, none⟩ (.int .i64 Q.high)).setCell ⟨bf, 4, none⟩ (.slice f1 Q.gs.length h1)).setCell ⟨bf, 5, none⟩ (.slice f2 Q.os.length h2)).setCell ⟨bf, 6, none⟩ (.slice f3 Q.gold.length h3)).setCell ⟨bf, 7, none⟩ (.slice f4 Q.us.length h4)).setCell ⟨bf, 8, none⟩ (.slice f5 Q.qs.length h5))) := put_kp _ _ _ _ _ _ _ _ _ _ _
          have FS : Hid (Below w.heap.size w (((((((((v7.setCell ⟨bf, 0, none⟩ (.int .i64 Q.turn)).setCell ⟨bf, 1, none⟩ (.int .i64 Q.next)).setCell ⟨bf, 2, none⟩ (.int .i64 Q.wide)).setCell ⟨bf, 3, none⟩ (.int .i64 Q.high)).setCell ⟨bf, 4, none⟩ (.slice f1 Q.gs.length h1)).setCell ⟨bf, 5, none⟩ (.slice f2 Q.os.length h2)).setCell ⟨bf, 6, none⟩ (.slice f3 Q.gold.length h3)).setCell ⟨bf, 7, none⟩ (.slice f4 Q.us.length h4)).setCell ⟨bf, 8, none⟩ (.slice f5 Q.qs.length h5)) ∧ Bw (((((((((v7.setCell ⟨bf, 0, none⟩ (.int .i64 Q.turn)).setCell ⟨bf, 1, none⟩ (.int .i64 Q.next)).setCell ⟨bf, 2, none⟩ (.int .i64 Q.wide)).setCell ⟨bf, 3, none⟩ (.int .i64 Q.high)).setCell ⟨bf, 4, none⟩ (.slice f1 Q.gs.length h1)).setCell ⟨bf, 5, none⟩ (.slice f2 Q.os.length h2)).setCell ⟨bf, 6, none⟩ (.slice f3 Q.gold.length h3)).setCell ⟨bf, 7, none⟩ (.slice f4 Q.us.length h4)).setCell ⟨bf, 8, none⟩ (.slice f5 Q.qs.length h5)) w.heap.size X (.slice p1 X.gs.length q1) (.slice p2 X.os.length q2) (.slice p3 X.gold.length q3) (.slice p4 X.us.length q4) (.slice p5 X.qs.length q5) ∧ Wx (((((((((v7.setCell ⟨bf, 0, none⟩ (.int .i64 Q.turn)).setCell ⟨bf, 1, none⟩ (.int .i64 Q.next)).setCell ⟨bf, 2, none⟩ (.int .i64 Q.wide)).setCell ⟨bf, 3, none⟩ (.int .i64 Q.high)).setCell ⟨bf, 4, none⟩ (.slice f1 Q.gs.length h1)).setCell ⟨bf, 5, none⟩ (.slice f2 Q.os.length h2)).setCell ⟨bf, 6, none⟩ (.slice f3 Q.gold.length h3)).setCell ⟨bf, 7, none⟩ (.slice f4 Q.us.length h4)).setCell ⟨bf, 8, none⟩ (.slice f5 Q.qs.length h5)) z (.int .i64 0) (.int .i64 4) (.int .i64 4) (.int .i64 2) (.slice m1 8 n1) (.slice m2 8 n2) (.slice m3 2 n3) (.slice m4 3 n4) (.slice m5 0 n5)) := by have h9 := ZE.out.2; exact ⟨KZ.out.below F.out.1 F.out.1.size (by omega), F.out.2.1.kp9 KZ.out (by omega), F.out.2.2.1.kp KZ.out (by omega)⟩
          have WZ : Hid (Wb (((((((((v7.setCell ⟨bf, 0, none⟩ (.int .i64 Q.turn)).setCell ⟨bf, 1, none⟩ (.int .i64 Q.next)).setCell ⟨bf, 2, none⟩ (.int .i64 Q.wide)).setCell ⟨bf, 3, none⟩ (.int .i64 Q.high)).setCell ⟨bf, 4, none⟩ (.slice f1 Q.gs.length h1)).setCell ⟨bf, 5, none⟩ (.slice f2 Q.os.length h2)).setCell ⟨bf, 6, none⟩ (.slice f3 Q.gold.length h3)).setCell ⟨bf, 7, none⟩ (.slice f4 Q.us.length h4)).setCell ⟨bf, 8, none⟩ (.slice f5 Q.qs.length h5)) bf Q) := ⟨f1, h1, f2, h2, f3, h3, f4, h4, f5, h5, wx_bw (ZE.out.1.put _ _ _ _ _ _ _ _ _), (WQ.out.1.kp KZ.out WQ.out.2).l⟩
          refine st_skip rfl (((((((((v7.setCell ⟨bf, 0, none⟩ (.int .i64 Q.turn)).setCell ⟨bf, 1, none⟩ (.int .i64 Q.next)).setCell ⟨bf, 2, none⟩ (.int .i64 Q.wide)).setCell ⟨bf, 3, none⟩ (.int .i64 Q.high)).setCell ⟨bf, 4, none⟩ (.slice f1 Q.gs.length h1)).setCell ⟨bf, 5, none⟩ (.slice f2 Q.os.length h2)).setCell ⟨bf, 6, none⟩ (.slice f3 Q.gold.length h3)).setCell ⟨bf, 7, none⟩ (.slice f4 Q.us.length h4)).setCell ⟨bf, 8, none⟩ (.slice f5 Q.qs.length h5)) (by go_simp) (by go_simp) FS.out.2.2 ?_
          clear z0 z1 z2 z3 z4 z5 z6 z7 z8 t0 t1 t2 t3 t4 t5 t6 t7 t8 KZ ZE F
          generalize ((((((((v7.setCell ⟨bf, 0, none⟩ (.int .i64 Q.turn)).setCell ⟨bf, 1, none⟩ (.int .i64 Q.next)).setCell ⟨bf, 2, none⟩ (.int .i64 Q.wide)).setCell ⟨bf, 3, none⟩ (.int .i64 Q.high)).setCell ⟨bf, 4, none⟩ (.slice f1 Q.gs.length h1)).setCell ⟨bf, 5, none⟩ (.slice f2 Q.os.length h2)).setCell ⟨bf, 6, none⟩ (.slice f3 Q.gold.length h3)).setCell ⟨bf, 7, none⟩ (.slice f4 Q.us.length h4)).setCell ⟨bf, 8, none⟩ (.slice f5 Q.qs.length h5) = v8 at *
          go_simp
          refine tr_one ?_
          refine st_value rfl (.slice pe es.length qe) v8 (by go_simp) (by go_simp) FS.out.2.2 ?_
          go_simp
          unfold wpTr
          refine sched_value rfl .nilIface v8 (by go_simp) (by go_simp) trivial ?_
          go_simp
          unfold wpSched
          go_wp2_with fail
          go_meet
          case rel => exact ⟨rfl, ⟨pe, es.length, qe, rfl, QE.out.2⟩, bf, rfl, by rw [QE.out.1]; exact WZ.out, FS.out.1, FS.out.2.1⟩
      · have ba : Below v1.heap.size v1 (v1.alloc (Obj.cells #[.int .i64 0, .int .i64 0, .int .i64 0, .int .i64 0, .slice none 0 0, .slice none 0 0, .slice none 0 0, .slice none 0 0, .slice none 0 0] 29)) := (Below.refl _ _).alloc (Nat.le_refl _) _
        refine st_value rfl (.pointer (some ⟨v1.heap.size, 0, none⟩)) (v1.alloc (Obj.cells #[.int .i64 0, .int .i64 0, .int .i64 0, .int .i64 0, .slice none 0 0, .slice none 0 0, .slice none 0 0, .slice none 0 0, .slice none 0 0] 29)) (by go_simp) (by go_simp) (F.out.below ba).2.2.1 ?_
        obtain ⟨bf, hbf⟩ : ∃ g, v1.heap.size = g := ⟨_, rfl⟩
        have ZE : Hid (Wx (v1.alloc (Obj.cells #[.int .i64 0, .int .i64 0, .int .i64 0, .int .i64 0, .slice none 0 0, .slice none 0 0, .slice none 0 0, .slice none 0 0, .slice none 0 0] 29)) bf (.int .i64 0) (.int .i64 0) (.int .i64 0) (.int .i64 0) (.slice none 0 0) (.slice none 0 0) (.slice none 0 0) (.slice none 0 0) (.slice none 0 0) ∧ w.heap.size < bf ∧ z < bf) := ⟨Wx.new (w := v1) _ _ _ _ _ _ _ _ _ hbf, by rw [← hbf]; exact F.out.2.1.lt, by rw [← hbf]; exact F.out.2.2.1.lt⟩
        rw [hbf]
        have F9 : Hid (Fx w X (.slice p1 X.gs.length q1) (.slice p2 X.os.length q2) (.slice p3 X.gold.length q3) (.slice p4 X.us.length q4) (.slice p5 X.qs.length q5) z (.slice m1 8 n1) (.slice m2 8 n2) (.slice m3 2 n3) (.slice m4 3 n4) (.slice m5 0 n5) (v1.alloc (Obj.cells #[.int .i64 0, .int .i64 0, .int .i64 0, .int .i64 0, .slice none 0 0, .slice none 0 0, .slice none 0 0, .slice none 0 0, .slice none 0 0] 29))) := F.out.below ba
        clear F
        have F := F9
        clear F9
        have K9 : Hid (Kl (v1.alloc (Obj.cells #[.int .i64 0, .int .i64 0, .int .i64 0, .int .i64 0, .slice none 0 0, .slice none 0 0, .slice none 0 0, .slice none 0 0, .slice none 0 0] 29)) ku SK) := KU.out.below ba
        clear KU
        have KU := K9
        clear K9
        clear ba hbf
        generalize v1.alloc (Obj.cells #[.int .i64 0, .int .i64 0, .int .i64 0, .int .i64 0, .slice none 0 0, .slice none 0 0, .slice none 0 0, .slice none 0 0, .slice none 0 0] 29) = v9 at *
        go_simp
        refine tr_one ?_
        have ba : Below v9.heap.size v9 (v9.alloc (Obj.cells #[.int .i64 0, .int .i64 2, .int .i64 2, .int .i64 6, .int .i64 1, .int .i64 3, .int .i64 3, .int .i64 1] 40)) := (Below.refl _ _).alloc (Nat.le_refl _) _
        refine st_value rfl (.slice (some ⟨v9.heap.size, 0, none⟩) 2 2) (v9.alloc (Obj.cells #[.int .i64 0, .int .i64 2, .int .i64 2, .int .i64 6, .int .i64 1, .int .i64 3, .int .i64 3, .int .i64 1] 40)) (by go_simp) (by go_simp) (F.out.below ba).2.2.1 ?_
        obtain ⟨g, hg⟩ : ∃ g, v9.heap.size = g := ⟨_, rfl⟩
        have OL : Hid (Orl (v9.alloc (Obj.cells #[.int .i64 0, .int .i64 2, .int .i64 2, .int .i64 6, .int .i64 1, .int .i64 3, .int .i64 3, .int .i64 1] 40)) (.slice (some ⟨g, 0, none⟩) 2 2) [To.o1, To.o2]) := by rw [← hg]; exact orl_lit v9
        rw [hg]
        have F9 : Hid (Fx w X (.slice p1 X.gs.length q1) (.slice p2 X.os.length q2) (.slice p3 X.gold.length q3) (.slice p4 X.us.length q4) (.slice p5 X.qs.length q5) z (.slice m1 8 n1) (.slice m2 8 n2) (.slice m3 2 n3) (.slice m4 3 n4) (.slice m5 0 n5) (v9.alloc (Obj.cells #[.int .i64 0, .int .i64 2, .int .i64 2, .int .i64 6, .int .i64 1, .int .i64 3, .int .i64 3, .int .i64 1] 40))) := F.out.below ba
        clear F
        have F := F9
        clear F9
        have K9 : Hid (Kl (v9.alloc (Obj.cells #[.int .i64 0, .int .i64 2, .int .i64 2, .int .i64 6, .int .i64 1, .int .i64 3, .int .i64 3, .int .i64 1] 40)) ku SK) := KU.out.below ba
        clear KU
        have KU := K9
        clear K9
        have Z9 : Hid (Wx (v9.alloc (Obj.cells #[.int .i64 0, .int .i64 2, .int .i64 2, .int .i64 6, .int .i64 1, .int .i64 3, .int .i64 3, .int .i64 1] 40)) bf (.int .i64 0) (.int .i64 0) (.int .i64 0) (.int .i64 0) (.slice none 0 0) (.slice none 0 0) (.slice none 0 0) (.slice none 0 0) (.slice none 0 0) ∧ w.heap.size < bf ∧ z < bf) := ⟨ZE.out.1.below ba ZE.out.1.lt, ZE.out.2⟩
        clear ZE
        have ZE := Z9
        clear Z9
        clear ba hg
        generalize v9.alloc (Obj.cells #[.int .i64 0, .int .i64 2, .int .i64 2, .int .i64 6, .int .i64 1, .int .i64 3, .int .i64 3, .int .i64 1] 40) = v10 at *
        go_simp
        refine tr_one ?_
        refine st_call rfl 10 #[ku, .agg #[.int .i64 0, .int .i64 4, .int .i64 4, .int .i64 2, .slice m1 8 n1, .slice m2 8 n2, .slice m3 2 n3, .slice m4 3 n4, .slice m5 0 n5], .slice (some ⟨g, 0, none⟩) 2 2] (by go_simp) (by go_simp) ?_
        refine (Step_any ku _ _ SK S3 [To.o1, To.o2] v10 KU.out sm_names F.out.2.2.2.1 OL.out F.out.2.2.2.2).mono ?_
        rintro e v11 ⟨v, ev, r, rfl, hr, hf, hb⟩
        obtain ⟨rfl, es, he3, hwo, hev⟩ := To.to_fact hf hr
        obtain ⟨pe, qe, rfl⟩ := hev.len
        obtain ⟨Q, hQ⟩ : ∃ Q, (To.TW 1 20 To.hit) = Q := ⟨_, rfl⟩
        rw [hQ] at hwo
        obtain ⟨f1, h1, f2, h2, f3, h3, f4, h4, f5, h5, rfl⟩ := wl_shape9 hwo.l
        have QE : Hid ((To.TW 1 20 To.hit) = Q ∧ 3 ≤ es.length) := ⟨hQ, he3⟩
        have WQ : Hid (Wo v11 v10.heap.size (.agg #[.int .i64 Q.turn, .int .i64 Q.next, .int .i64 Q.wide, .int .i64 Q.high, .slice f1 Q.gs.length h1, .slice f2 Q.os.length h2, .slice f3 Q.gold.length h3, .slice f4 Q.us.length h4, .slice f5 Q.qs.length h5]) Q ∧ bf < v10.heap.size) := ⟨hwo, ZE.out.1.lt⟩
        have F9 : Hid (Fx w X (.slice p1 X.gs.length q1) (.slice p2 X.os.length q2) (.slice p3 X.gold.length q3) (.slice p4 X.us.length q4) (.slice p5 X.qs.length q5) z (.slice m1 8 n1) (.slice m2 8 n2) (.slice m3 2 n3) (.slice m4 3 n4) (.slice m5 0 n5) v11) := F.out.below hb
        clear F
        have F := F9
        clear F9
        have Z9 : Hid (Wx v11 bf (.int .i64 0) (.int .i64 0) (.int .i64 0) (.int .i64 0) (.slice none 0 0) (.slice none 0 0) (.slice none 0 0) (.slice none 0 0) (.slice none 0 0) ∧ w.heap.size < bf ∧ z < bf) := ⟨ZE.out.1.below hb ZE.out.1.lt, ZE.out.2⟩
        clear ZE
        have ZE := Z9
        clear Z9
        refine ⟨_, rfl, F.out.2.2.1, ?_⟩
        clear hr hf hb hwo hev hQ he3 KU OL
        go_simp
        refine tr_read rfl (.tuple #[.agg #[.int .i64 Q.turn, .int .i64 Q.next, .int .i64 Q.wide, .int .i64 Q.high, .slice f1 Q.gs.length h1, .slice f2 Q.os.length h2, .slice f3 Q.gold.length h3, .slice f4 Q.us.length h4, .slice f5 Q.qs.length h5], .slice pe es.length qe, .nilIface]) (by go_simp) (fun V hV => by go_simp) ?_
        go_simp
        refine tr_read rfl (.agg #[.int .i64 Q.turn, .int .i64 Q.next, .int .i64 Q.wide, .int .i64 Q.high, .slice f1 Q.gs.length h1, .slice f2 Q.os.length h2, .slice f3 Q.gold.length h3, .slice f4 Q.us.length h4, .slice f5 Q.qs.length h5]) (by go_simp) (fun V hV => by go_simp) ?_
        go_simp
        refine tr_read rfl (.slice pe es.length qe) (by go_simp) (fun V hV => by go_simp) ?_
        go_simp
        refine tr_read rfl (.nilIface) (by go_simp) (fun V hV => by go_simp) ?_
        go_simp
        refine tr_one ?_
        obtain ⟨z0, z1, z2, z3, z4, z5, z6, z7, z8⟩ := ZE.out.1.cells
        obtain ⟨t0, t1, t2, t3, t4, t5, t6, t7, t8⟩ := ZE.out.1.thaws
        have KZ : Hid (Kp bf v11 (((((((((v11.setCell ⟨bf, 0, none⟩ (.int .i64 Q.turn)).setCell ⟨bf, 1, none⟩ (.int .i64 Q.next)).setCell ⟨bf, 2, none⟩ (.int .i64 Q.wide)).setCell ⟨bf, 3, none⟩ (.int .i64 Q.high)).setCell ⟨bf, 4, none⟩ (.slice f1 Q.gs.length h1)).setCell ⟨bf, 5, none⟩ (.slice f2 Q.os.length h2)).setCell ⟨bf, 6, none⟩ (.slice f3 Q.gold.length h3)).setCell ⟨bf, 7, none⟩ (.slice f4 Q.us.length h4)).setCell ⟨bf, 8, none⟩ (.slice f5 Q.qs.length h5))) := put_kp _ _ _ _ _ _ _ _ _ _ _
        have FS : Hid (Below w.heap.size w (((((((((v11.setCell ⟨bf, 0, none⟩ (.int .i64 Q.turn)).setCell ⟨bf, 1, none⟩ (.int .i64 Q.next)).setCell ⟨bf, 2, none⟩ (.int .i64 Q.wide)).setCell ⟨bf, 3, none⟩ (.int .i64 Q.high)).setCell ⟨bf, 4, none⟩ (.slice f1 Q.gs.length h1)).setCell ⟨bf, 5, none⟩ (.slice f2 Q.os.length h2)).setCell ⟨bf, 6, none⟩ (.slice f3 Q.gold.length h3)).setCell ⟨bf, 7, none⟩ (.slice f4 Q.us.length h4)).setCell ⟨bf, 8, none⟩ (.slice f5 Q.qs.length h5)) ∧ Bw (((((((((v11.setCell ⟨bf, 0, none⟩ (.int .i64 Q.turn)).setCell ⟨bf, 1, none⟩ (.int .i64 Q.next)).setCell ⟨bf, 2, none⟩ (.int .i64 Q.wide)).setCell ⟨bf, 3, none⟩ (.int .i64 Q.high)).setCell ⟨bf, 4, none⟩ (.slice f1 Q.gs.length h1)).setCell ⟨bf, 5, none⟩ (.slice f2 Q.os.length h2)).setCell ⟨bf, 6, none⟩ (.slice f3 Q.gold.length h3)).setCell ⟨bf, 7, none⟩ (.slice f4 Q.us.length h4)).setCell ⟨bf, 8, none⟩ (.slice f5 Q.qs.length h5)) w.heap.size X (.slice p1 X.gs.length q1) (.slice p2 X.os.length q2) (.slice p3 X.gold.length q3) (.slice p4 X.us.length q4) (.slice p5 X.qs.length q5) ∧ Wx (((((((((v11.setCell ⟨bf, 0, none⟩ (.int .i64 Q.turn)).setCell ⟨bf, 1, none⟩ (.int .i64 Q.next)).setCell ⟨bf, 2, none⟩ (.int .i64 Q.wide)).setCell ⟨bf, 3, none⟩ (.int .i64 Q.high)).setCell ⟨bf, 4, none⟩ (.slice f1 Q.gs.length h1)).setCell ⟨bf, 5, none⟩ (.slice f2 Q.os.length h2)).setCell ⟨bf, 6, none⟩ (.slice f3 Q.gold.length h3)).setCell ⟨bf, 7, none⟩ (.slice f4 Q.us.length h4)).setCell ⟨bf, 8, none⟩ (.slice f5 Q.qs.length h5)) z (.int .i64 0) (.int .i64 4) (.int .i64 4) (.int .i64 2) (.slice m1 8 n1) (.slice m2 8 n2) (.slice m3 2 n3) (.slice m4 3 n4) (.slice m5 0 n5)) := by have h9 := ZE.out.2; exact ⟨KZ.out.below F.out.1 F.out.1.size (by omega), F.out.2.1.kp9 KZ.out (by omega), F.out.2.2.1.kp KZ.out (by omega)⟩
        have WZ : Hid (Wb (((((((((v11.setCell ⟨bf, 0, none⟩ (.int .i64 Q.turn)).setCell ⟨bf, 1, none⟩ (.int .i64 Q.next)).setCell ⟨bf, 2, none⟩ (.int .i64 Q.wide)).setCell ⟨bf, 3, none⟩ (.int .i64 Q.high)).setCell ⟨bf, 4, none⟩ (.slice f1 Q.gs.length h1)).setCell ⟨bf, 5, none⟩ (.slice f2 Q.os.length h2)).setCell ⟨bf, 6, none⟩ (.slice f3 Q.gold.length h3)).setCell ⟨bf, 7, none⟩ (.slice f4 Q.us.length h4)).setCell ⟨bf, 8, none⟩ (.slice f5 Q.qs.length h5)) bf Q) := ⟨f1, h1, f2, h2, f3, h3, f4, h4, f5, h5, wx_bw (ZE.out.1.put _ _ _ _ _ _ _ _ _), (WQ.out.1.kp KZ.out WQ.out.2).l⟩
        refine st_skip rfl (((((((((v11.setCell ⟨bf, 0, none⟩ (.int .i64 Q.turn)).setCell ⟨bf, 1, none⟩ (.int .i64 Q.next)).setCell ⟨bf, 2, none⟩ (.int .i64 Q.wide)).setCell ⟨bf, 3, none⟩ (.int .i64 Q.high)).setCell ⟨bf, 4, none⟩ (.slice f1 Q.gs.length h1)).setCell ⟨bf, 5, none⟩ (.slice f2 Q.os.length h2)).setCell ⟨bf, 6, none⟩ (.slice f3 Q.gold.length h3)).setCell ⟨bf, 7, none⟩ (.slice f4 Q.us.length h4)).setCell ⟨bf, 8, none⟩ (.slice f5 Q.qs.length h5)) (by go_simp) (by go_simp) FS.out.2.2 ?_
        clear z0 z1 z2 z3 z4 z5 z6 z7 z8 t0 t1 t2 t3 t4 t5 t6 t7 t8 KZ ZE F
        generalize ((((((((v11.setCell ⟨bf, 0, none⟩ (.int .i64 Q.turn)).setCell ⟨bf, 1, none⟩ (.int .i64 Q.next)).setCell ⟨bf, 2, none⟩ (.int .i64 Q.wide)).setCell ⟨bf, 3, none⟩ (.int .i64 Q.high)).setCell ⟨bf, 4, none⟩ (.slice f1 Q.gs.length h1)).setCell ⟨bf, 5, none⟩ (.slice f2 Q.os.length h2)).setCell ⟨bf, 6, none⟩ (.slice f3 Q.gold.length h3)).setCell ⟨bf, 7, none⟩ (.slice f4 Q.us.length h4)).setCell ⟨bf, 8, none⟩ (.slice f5 Q.qs.length h5) = v12 at *
        go_simp
        refine tr_one ?_
        refine st_value rfl (.slice pe es.length qe) v12 (by go_simp) (by go_simp) FS.out.2.2 ?_
        go_simp
        unfold wpTr
        refine sched_value rfl .nilIface v12 (by go_simp) (by go_simp) trivial ?_
        go_simp
        unfold wpSched
        go_wp2_with fail
        go_meet
        case rel => exact ⟨rfl, ⟨pe, es.length, qe, rfl, QE.out.2⟩, bf, rfl, by rw [QE.out.1]; exact WZ.out, FS.out.1, FS.out.2.1⟩
    · have ba : Below v0.heap.size v0 (v0.alloc (Obj.cells #[.int .i64 0, .int .i64 2, .int .i64 2, .int .i64 6, .int .i64 1, .int .i64 3, .int .i64 3, .int .i64 1] 40)) := (Below.refl _ _).alloc (Nat.le_refl _) _
      refine st_value rfl (.slice (some ⟨v0.heap.size, 0, none⟩) 2 2) (v0.alloc (Obj.cells #[.int .i64 0, .int .i64 2, .int .i64 2, .int .i64 6, .int .i64 1, .int .i64 3, .int .i64 3, .int .i64 1] 40)) (by go_simp) (by go_simp) (F.out.below ba).2.2.1 ?_
      obtain ⟨g, hg⟩ : ∃ g, v0.heap.size = g := ⟨_, rfl⟩
      have OL : Hid (Orl (v0.alloc (Obj.cells #[.int .i64 0, .int .i64 2, .int .i64 2, .int .i64 6, .int .i64 1, .int .i64 3, .int .i64 3, .int .i64 1] 40)) (.slice (some ⟨g, 0, none⟩) 2 2) [To.o1, To.o2]) := by rw [← hg]; exact orl_lit v0
      rw [hg]
      have F9 : Hid (Fx w X (.slice p1 X.gs.length q1) (.slice p2 X.os.length q2) (.slice p3 X.gold.length q3) (.slice p4 X.us.length q4) (.slice p5 X.qs.length q5) z (.slice m1 8 n1) (.slice m2 8 n2) (.slice m3 2 n3) (.slice m4 3 n4) (.slice m5 0 n5) (v0.alloc (Obj.cells #[.int .i64 0, .int .i64 2, .int .i64 2, .int .i64 6, .int .i64 1, .int .i64 3, .int .i64 3, .int .i64 1] 40))) := F.out.below ba
      clear F
      have F := F9
      clear F9
      clear ba hg
      generalize v0.alloc (Obj.cells #[.int .i64 0, .int .i64 2, .int .i64 2, .int .i64 6, .int .i64 1, .int .i64 3, .int .i64 3, .int .i64 1] 40) = v13 at *
      go_simp
      refine tr_two ?_ ?_
      · refine st_call rfl 11 #[] (by go_simp) (by go_simp) ?_
        refine (sorts_any v13).mono ?_
        rintro e v14 ⟨ku, rfl, hk, hb⟩
        have F9 : Hid (Fx w X (.slice p1 X.gs.length q1) (.slice p2 X.os.length q2) (.slice p3 X.gold.length q3) (.slice p4 X.us.length q4) (.slice p5 X.qs.length q5) z (.slice m1 8 n1) (.slice m2 8 n2) (.slice m3 2 n3) (.slice m4 3 n4) (.slice m5 0 n5) v14) := F.out.below hb
        clear F
        have F := F9
        clear F9
        have O9 : Hid (Orl v14 (.slice (some ⟨g, 0, none⟩) 2 2) [To.o1, To.o2]) := OL.out.below hb
        clear OL
        have OL := O9
        clear O9
        have KU : Hid (Kl v14 ku SK) := hk
        refine ⟨_, rfl, F.out.2.2.1, ?_⟩
        clear hk hb
        go_simp
        refine tr_two ?_ ?_
        · refine st_call rfl 10 #[ku, .agg #[.int .i64 0, .int .i64 4, .int .i64 4, .int .i64 2, .slice m1 8 n1, .slice m2 8 n2, .slice m3 2 n3, .slice m4 3 n4, .slice m5 0 n5], .slice (some ⟨g, 0, none⟩) 2 2] (by go_simp) (by go_simp) ?_
          refine (Step_any ku _ _ SK S3 [To.o1, To.o2] v14 KU.out sm_names F.out.2.2.2.1 OL.out F.out.2.2.2.2).mono ?_
          rintro e v15 ⟨v, ev, r, rfl, hr, hf, hb⟩
          obtain ⟨rfl, es, he3, hwo, hev⟩ := To.to_fact hf hr
          obtain ⟨pe, qe, rfl⟩ := hev.len
          obtain ⟨Q, hQ⟩ : ∃ Q, (To.TW 1 20 To.hit) = Q := ⟨_, rfl⟩
          rw [hQ] at hwo
          obtain ⟨f1, h1, f2, h2, f3, h3, f4, h4, f5, h5, rfl⟩ := wl_shape9 hwo.l
          have QE : Hid ((To.TW 1 20 To.hit) = Q ∧ 3 ≤ es.length) := ⟨hQ, he3⟩
          have LQ : Hid (Wl v15 (.agg #[.int .i64 Q.turn, .int .i64 Q.next, .int .i64 Q.wide, .int .i64 Q.high, .slice f1 Q.gs.length h1, .slice f2 Q.os.length h2, .slice f3 Q.gold.length h3, .slice f4 Q.us.length h4, .slice f5 Q.qs.length h5]) Q) := hwo.l
          have F9 : Hid (Fx w X (.slice p1 X.gs.length q1) (.slice p2 X.os.length q2) (.slice p3 X.gold.length q3) (.slice p4 X.us.length q4) (.slice p5 X.qs.length q5) z (.slice m1 8 n1) (.slice m2 8 n2) (.slice m3 2 n3) (.slice m4 3 n4) (.slice m5 0 n5) v15) := F.out.below hb
          clear F
          have F := F9
          clear F9
          refine ⟨_, rfl, F.out.2.2.1, ?_⟩
          clear hr hf hb hwo hev hQ he3 KU OL
          go_simp
          refine tr_read rfl (.tuple #[.agg #[.int .i64 Q.turn, .int .i64 Q.next, .int .i64 Q.wide, .int .i64 Q.high, .slice f1 Q.gs.length h1, .slice f2 Q.os.length h2, .slice f3 Q.gold.length h3, .slice f4 Q.us.length h4, .slice f5 Q.qs.length h5], .slice pe es.length qe, .nilIface]) (by go_simp) (fun V hV => by go_simp) ?_
          go_simp
          refine tr_read rfl (.agg #[.int .i64 Q.turn, .int .i64 Q.next, .int .i64 Q.wide, .int .i64 Q.high, .slice f1 Q.gs.length h1, .slice f2 Q.os.length h2, .slice f3 Q.gold.length h3, .slice f4 Q.us.length h4, .slice f5 Q.qs.length h5]) (by go_simp) (fun V hV => by go_simp) ?_
          go_simp
          refine tr_read rfl (.slice pe es.length qe) (by go_simp) (fun V hV => by go_simp) ?_
          go_simp
          refine tr_read rfl (.nilIface) (by go_simp) (fun V hV => by go_simp) ?_
          go_simp
          refine tr_one ?_
          have ba : Below v15.heap.size v15 (v15.alloc (Obj.cells #[.int .i64 0, .int .i64 0, .int .i64 0, .int .i64 0, .slice none 0 0, .slice none 0 0, .slice none 0 0, .slice none 0 0, .slice none 0 0] 29)) := (Below.refl _ _).alloc (Nat.le_refl _) _
          refine st_value rfl (.pointer (some ⟨v15.heap.size, 0, none⟩)) (v15.alloc (Obj.cells #[.int .i64 0, .int .i64 0, .int .i64 0, .int .i64 0, .slice none 0 0, .slice none 0 0, .slice none 0 0, .slice none 0 0, .slice none 0 0] 29)) (by go_simp) (by go_simp) (F.out.below ba).2.2.1 ?_
          obtain ⟨bf, hbf⟩ : ∃ g, v15.heap.size = g := ⟨_, rfl⟩
          have ZE : Hid (Wx (v15.alloc (Obj.cells #[.int .i64 0, .int .i64 0, .int .i64 0, .int .i64 0, .slice none 0 0, .slice none 0 0, .slice none 0 0, .slice none 0 0, .slice none 0 0] 29)) bf (.int .i64 0) (.int .i64 0) (.int .i64 0) (.int .i64 0) (.slice none 0 0) (.slice none 0 0) (.slice none 0 0) (.slice none 0 0) (.slice none 0 0) ∧ w.heap.size < bf ∧ z < bf) := ⟨Wx.new (w := v15) _ _ _ _ _ _ _ _ _ hbf, by rw [← hbf]; exact F.out.2.1.lt, by rw [← hbf]; exact F.out.2.2.1.lt⟩
          have BL : Hid (Below bf v15 (v15.alloc (Obj.cells #[.int .i64 0, .int .i64 0, .int .i64 0, .int .i64 0, .slice none 0 0, .slice none 0 0, .slice none 0 0, .slice none 0 0, .slice none 0 0] 29)) ∧ v15.heap.size = bf) := ⟨by rw [← hbf]; exact ba, hbf⟩
          rw [hbf]
          have F9 : Hid (Fx w X (.slice p1 X.gs.length q1) (.slice p2 X.os.length q2) (.slice p3 X.gold.length q3) (.slice p4 X.us.length q4) (.slice p5 X.qs.length q5) z (.slice m1 8 n1) (.slice m2 8 n2) (.slice m3 2 n3) (.slice m4 3 n4) (.slice m5 0 n5) (v15.alloc (Obj.cells #[.int .i64 0, .int .i64 0, .int .i64 0, .int .i64 0, .slice none 0 0, .slice none 0 0, .slice none 0 0, .slice none 0 0, .slice none 0 0] 29))) := F.out.below ba
          clear F
          have F := F9
          clear F9
          clear ba hbf
          generalize v15.alloc (Obj.cells #[.int .i64 0, .int .i64 0, .int .i64 0, .int .i64 0, .slice none 0 0, .slice none 0 0, .slice none 0 0, .slice none 0 0, .slice none 0 0] 29) = v16 at *
          go_simp
          refine tr_one ?_
          obtain ⟨z0, z1, z2, z3, z4, z5, z6, z7, z8⟩ := ZE.out.1.cells
          obtain ⟨t0, t1, t2, t3, t4, t5, t6, t7, t8⟩ := ZE.out.1.thaws
          have KZ : Hid (Kp bf v16 (((((((((v16.setCell ⟨bf, 0, none⟩ (.int .i64 Q.turn)).setCell ⟨bf, 1, none⟩ (.int .i64 Q.next)).setCell ⟨bf, 2, none⟩ (.int .i64 Q.wide)).setCell ⟨bf, 3, none⟩ (.int .i64 Q.high)).setCell ⟨bf, 4, none⟩ (.slice f1 Q.gs.length h1)).setCell ⟨bf, 5, none⟩ (.slice f2 Q.os.length h2)).setCell ⟨bf, 6, none⟩ (.slice f3 Q.gold.length h3)).setCell ⟨bf, 7, none⟩ (.slice f4 Q.us.length h4)).setCell ⟨bf, 8, none⟩ (.slice f5 Q.qs.length h5))) := put_kp _ _ _ _ _ _ _ _ _ _ _
          have FS : Hid (Below w.heap.size w (((((((((v16.setCell ⟨bf, 0, none⟩ (.int .i64 Q.turn)).setCell ⟨bf, 1, none⟩ (.int .i64 Q.next)).setCell ⟨bf, 2, none⟩ (.int .i64 Q.wide)).setCell ⟨bf, 3, none⟩ (.int .i64 Q.high)).setCell ⟨bf, 4, none⟩ (.slice f1 Q.gs.length h1)).setCell ⟨bf, 5, none⟩ (.slice f2 Q.os.length h2)).setCell ⟨bf, 6, none⟩ (.slice f3 Q.gold.length h3)).setCell ⟨bf, 7, none⟩ (.slice f4 Q.us.length h4)).setCell ⟨bf, 8, none⟩ (.slice f5 Q.qs.length h5)) ∧ Bw (((((((((v16.setCell ⟨bf, 0, none⟩ (.int .i64 Q.turn)).setCell ⟨bf, 1, none⟩ (.int .i64 Q.next)).setCell ⟨bf, 2, none⟩ (.int .i64 Q.wide)).setCell ⟨bf, 3, none⟩ (.int .i64 Q.high)).setCell ⟨bf, 4, none⟩ (.slice f1 Q.gs.length h1)).setCell ⟨bf, 5, none⟩ (.slice f2 Q.os.length h2)).setCell ⟨bf, 6, none⟩ (.slice f3 Q.gold.length h3)).setCell ⟨bf, 7, none⟩ (.slice f4 Q.us.length h4)).setCell ⟨bf, 8, none⟩ (.slice f5 Q.qs.length h5)) w.heap.size X (.slice p1 X.gs.length q1) (.slice p2 X.os.length q2) (.slice p3 X.gold.length q3) (.slice p4 X.us.length q4) (.slice p5 X.qs.length q5) ∧ Wx (((((((((v16.setCell ⟨bf, 0, none⟩ (.int .i64 Q.turn)).setCell ⟨bf, 1, none⟩ (.int .i64 Q.next)).setCell ⟨bf, 2, none⟩ (.int .i64 Q.wide)).setCell ⟨bf, 3, none⟩ (.int .i64 Q.high)).setCell ⟨bf, 4, none⟩ (.slice f1 Q.gs.length h1)).setCell ⟨bf, 5, none⟩ (.slice f2 Q.os.length h2)).setCell ⟨bf, 6, none⟩ (.slice f3 Q.gold.length h3)).setCell ⟨bf, 7, none⟩ (.slice f4 Q.us.length h4)).setCell ⟨bf, 8, none⟩ (.slice f5 Q.qs.length h5)) z (.int .i64 0) (.int .i64 4) (.int .i64 4) (.int .i64 2) (.slice m1 8 n1) (.slice m2 8 n2) (.slice m3 2 n3) (.slice m4 3 n4) (.slice m5 0 n5)) := by have h9 := ZE.out.2; exact ⟨KZ.out.below F.out.1 F.out.1.size (by omega), F.out.2.1.kp9 KZ.out (by omega), F.out.2.2.1.kp KZ.out (by omega)⟩
          have WZ : Hid (Wb (((((((((v16.setCell ⟨bf, 0, none⟩ (.int .i64 Q.turn)).setCell ⟨bf, 1, none⟩ (.int .i64 Q.next)).setCell ⟨bf, 2, none⟩ (.int .i64 Q.wide)).setCell ⟨bf, 3, none⟩ (.int .i64 Q.high)).setCell ⟨bf, 4, none⟩ (.slice f1 Q.gs.length h1)).setCell ⟨bf, 5, none⟩ (.slice f2 Q.os.length h2)).setCell ⟨bf, 6, none⟩ (.slice f3 Q.gold.length h3)).setCell ⟨bf, 7, none⟩ (.slice f4 Q.us.length h4)).setCell ⟨bf, 8, none⟩ (.slice f5 Q.qs.length h5)) bf Q) := ⟨f1, h1, f2, h2, f3, h3, f4, h4, f5, h5, wx_bw (ZE.out.1.put _ _ _ _ _ _ _ _ _), (LQ.out.below (by rw [BL.out.2]; exact KZ.out.below BL.out.1 (by have h9 := BL.out.1.size; have h8 := BL.out.2; omega) (Nat.le_refl _)))⟩
          refine st_skip rfl (((((((((v16.setCell ⟨bf, 0, none⟩ (.int .i64 Q.turn)).setCell ⟨bf, 1, none⟩ (.int .i64 Q.next)).setCell ⟨bf, 2, none⟩ (.int .i64 Q.wide)).setCell ⟨bf, 3, none⟩ (.int .i64 Q.high)).setCell ⟨bf, 4, none⟩ (.slice f1 Q.gs.length h1)).setCell ⟨bf, 5, none⟩ (.slice f2 Q.os.length h2)).setCell ⟨bf, 6, none⟩ (.slice f3 Q.gold.length h3)).setCell ⟨bf, 7, none⟩ (.slice f4 Q.us.length h4)).setCell ⟨bf, 8, none⟩ (.slice f5 Q.qs.length h5)) (by go_simp) (by go_simp) FS.out.2.2 ?_
          clear z0 z1 z2 z3 z4 z5 z6 z7 z8 t0 t1 t2 t3 t4 t5 t6 t7 t8 KZ ZE F
          generalize ((((((((v16.setCell ⟨bf, 0, none⟩ (.int .i64 Q.turn)).setCell ⟨bf, 1, none⟩ (.int .i64 Q.next)).setCell ⟨bf, 2, none⟩ (.int .i64 Q.wide)).setCell ⟨bf, 3, none⟩ (.int .i64 Q.high)).setCell ⟨bf, 4, none⟩ (.slice f1 Q.gs.length h1)).setCell ⟨bf, 5, none⟩ (.slice f2 Q.os.length h2)).setCell ⟨bf, 6, none⟩ (.slice f3 Q.gold.length h3)).setCell ⟨bf, 7, none⟩ (.slice f4 Q.us.length h4)).setCell ⟨bf, 8, none⟩ (.slice f5 Q.qs.length h5) = v17 at *
          go_simp
          refine tr_one ?_
          refine st_value rfl (.slice pe es.length qe) v17 (by go_simp) (by go_simp) FS.out.2.2 ?_
          go_simp
          unfold wpTr
          refine sched_value rfl .nilIface v17 (by go_simp) (by go_simp) trivial ?_
          go_simp
          unfold wpSched
          go_wp2_with fail
          go_meet
          case rel => exact ⟨rfl, ⟨pe, es.length, qe, rfl, QE.out.2⟩, bf, rfl, by rw [QE.out.1]; exact WZ.out, FS.out.1, FS.out.2.1⟩
        · have ba : Below v14.heap.size v14 (v14.alloc (Obj.cells #[.int .i64 0, .int .i64 0, .int .i64 0, .int .i64 0, .slice none 0 0, .slice none 0 0, .slice none 0 0, .slice none 0 0, .slice none 0 0] 29)) := (Below.refl _ _).alloc (Nat.le_refl _) _
          refine st_value rfl (.pointer (some ⟨v14.heap.size, 0, none⟩)) (v14.alloc (Obj.cells #[.int .i64 0, .int .i64 0, .int .i64 0, .int .i64 0, .slice none 0 0, .slice none 0 0, .slice none 0 0, .slice none 0 0, .slice none 0 0] 29)) (by go_simp) (by go_simp) (F.out.below ba).2.2.1 ?_
          obtain ⟨bf, hbf⟩ : ∃ g, v14.heap.size = g := ⟨_, rfl⟩
          have ZE : Hid (Wx (v14.alloc (Obj.cells #[.int .i64 0, .int .i64 0, .int .i64 0, .int .i64 0, .slice none 0 0, .slice none 0 0, .slice none 0 0, .slice none 0 0, .slice none 0 0] 29)) bf (.int .i64 0) (.int .i64 0) (.int .i64 0) (.int .i64 0) (.slice none 0 0) (.slice none 0 0) (.slice none 0 0) (.slice none 0 0) (.slice none 0 0) ∧ w.heap.size < bf ∧ z < bf) := ⟨Wx.new (w := v14) _ _ _ _ _ _ _ _ _ hbf, by rw [← hbf]; exact F.out.2.1.lt, by rw [← hbf]; exact F.out.2.2.1.lt⟩
          rw [hbf]
          have F9 : Hid (Fx w X (.slice p1 X.gs.length q1) (.slice p2 X.os.length q2) (.slice p3 X.gold.length q3) (.slice p4 X.us.length q4) (.slice p5 X.qs.length q5) z (.slice m1 8 n1) (.slice m2 8 n2) (.slice m3 2 n3) (.slice m4 3 n4) (.slice m5 0 n5) (v14.alloc (Obj.cells #[.int .i64 0, .int .i64 0, .int .i64 0, .int .i64 0, .slice none 0 0, .slice none 0 0, .slice none 0 0, .slice none 0 0, .slice none 0 0] 29))) := F.out.below ba
          clear F
          have F := F9
          clear F9
          have K9 : Hid (Kl (v14.alloc (Obj.cells #[.int .i64 0, .int .i64 0, .int .i64 0, .int .i64 0, .slice none 0 0, .slice none 0 0, .slice none 0 0, .slice none 0 0, .slice none 0 0] 29)) ku SK) := KU.out.below ba
          clear KU
          have KU := K9
          clear K9
          have O9 : Hid (Orl (v14.alloc (Obj.cells #[.int .i64 0, .int .i64 0, .int .i64 0, .int .i64 0, .slice none 0 0, .slice none 0 0, .slice none 0 0, .slice none 0 0, .slice none 0 0] 29)) (.slice (some ⟨g, 0, none⟩) 2 2) [To.o1, To.o2]) := OL.out.below ba
          clear OL
          have OL := O9
          clear O9
          clear ba hbf
          generalize v14.alloc (Obj.cells #[.int .i64 0, .int .i64 0, .int .i64 0, .int .i64 0, .slice none 0 0, .slice none 0 0, .slice none 0 0, .slice none 0 0, .slice none 0 0] 29) = v18 at *
          go_simp
          refine tr_one ?_
          refine st_call rfl 10 #[ku, .agg #[.int .i64 0, .int .i64 4, .int .i64 4, .int .i64 2, .slice m1 8 n1, .slice m2 8 n2, .slice m3 2 n3, .slice m4 3 n4, .slice m5 0 n5], .slice (some ⟨g, 0, none⟩) 2 2] (by go_simp) (by go_simp) ?_
          refine (Step_any ku _ _ SK S3 [To.o1, To.o2] v18 KU.out sm_names F.out.2.2.2.1 OL.out F.out.2.2.2.2).mono ?_
          rintro e v19 ⟨v, ev, r, rfl, hr, hf, hb⟩
          obtain ⟨rfl, es, he3, hwo, hev⟩ := To.to_fact hf hr
          obtain ⟨pe, qe, rfl⟩ := hev.len
          obtain ⟨Q, hQ⟩ : ∃ Q, (To.TW 1 20 To.hit) = Q := ⟨_, rfl⟩
          rw [hQ] at hwo
          obtain ⟨f1, h1, f2, h2, f3, h3, f4, h4, f5, h5, rfl⟩ := wl_shape9 hwo.l
          have QE : Hid ((To.TW 1 20 To.hit) = Q ∧ 3 ≤ es.length) := ⟨hQ, he3⟩
          have WQ : Hid (Wo v19 v18.heap.size (.agg #[.int .i64 Q.turn, .int .i64 Q.next, .int .i64 Q.wide, .int .i64 Q.high, .slice f1 Q.gs.length h1, .slice f2 Q.os.length h2, .slice f3 Q.gold.length h3, .slice f4 Q.us.length h4, .slice f5 Q.qs.length h5]) Q ∧ bf < v18.heap.size) := ⟨hwo, ZE.out.1.lt⟩
          have F9 : Hid (Fx w X (.slice p1 X.gs.length q1) (.slice p2 X.os.length q2) (.slice p3 X.gold.length q3) (.slice p4 X.us.length q4) (.slice p5 X.qs.length q5) z (.slice m1 8 n1) (.slice m2 8 n2) (.slice m3 2 n3) (.slice m4 3 n4) (.slice m5 0 n5) v19) := F.out.below hb
          clear F
          have F := F9
          clear F9
          have Z9 : Hid (Wx v19 bf (.int .i64 0) (.int .i64 0) (.int .i64 0) (.int .i64 0) (.slice none 0 0) (.slice none 0 0) (.slice none 0 0) (.slice none 0 0) (.slice none 0 0) ∧ w.heap.size < bf ∧ z < bf) := ⟨ZE.out.1.below hb ZE.out.1.lt, ZE.out.2⟩
          clear ZE
          have ZE := Z9
          clear Z9
          refine ⟨_, rfl, F.out.2.2.1, ?_⟩
          clear hr hf hb hwo hev hQ he3 KU OL
          go_simp
          refine tr_read rfl (.tuple #[.agg #[.int .i64 Q.turn, .int .i64 Q.next, .int .i64 Q.wide, .int .i64 Q.high, .slice f1 Q.gs.length h1, .slice f2 Q.os.length h2, .slice f3 Q.gold.length h3, .slice f4 Q.us.length h4, .slice f5 Q.qs.length h5], .slice pe es.length qe, .nilIface]) (by go_simp) (fun V hV => by go_simp) ?_
          go_simp
          refine tr_read rfl (.agg #[.int .i64 Q.turn, .int .i64 Q.next, .int .i64 Q.wide, .int .i64 Q.high, .slice f1 Q.gs.length h1, .slice f2 Q.os.length h2, .slice f3 Q.gold.length h3, .slice f4 Q.us.length h4, .slice f5 Q.qs.length h5]) (by go_simp) (fun V hV => by go_simp) ?_
          go_simp
          refine tr_read rfl (.slice pe es.length qe) (by go_simp) (fun V hV => by go_simp) ?_
          go_simp
          refine tr_read rfl (.nilIface) (by go_simp) (fun V hV => by go_simp) ?_
          go_simp
          refine tr_one ?_
          obtain ⟨z0, z1, z2, z3, z4, z5, z6, z7, z8⟩ := ZE.out.1.cells
          obtain ⟨t0, t1, t2, t3, t4, t5, t6, t7, t8⟩ := ZE.out.1.thaws
          have KZ : Hid (Kp bf v19 (((((((((v19.setCell ⟨bf, 0, none⟩ (.int .i64 Q.turn)).setCell ⟨bf, 1, none⟩ (.int .i64 Q.next)).setCell ⟨bf, 2, none⟩ (.int .i64 Q.wide)).setCell ⟨bf, 3, none⟩ (.int .i64 Q.high)).setCell ⟨bf, 4, none⟩ (.slice f1 Q.gs.length h1)).setCell ⟨bf, 5, none⟩ (.slice f2 Q.os.length h2)).setCell ⟨bf, 6, none⟩ (.slice f3 Q.gold.length h3)).setCell ⟨bf, 7, none⟩ (.slice f4 Q.us.length h4)).setCell ⟨bf, 8, none⟩ (.slice f5 Q.qs.length h5))) := put_kp _ _ _ _ _ _ _ _ _ _ _
          have FS : Hid (Below w.heap.size w (((((((((v19.setCell ⟨bf, 0, none⟩ (.int .i64 Q.turn)).setCell ⟨bf, 1, none⟩ (.int .i64 Q.next)).setCell ⟨bf, 2, none⟩ (.int .i64 Q.wide)).setCell ⟨bf, 3, none⟩ (.int .i64 Q.high)).setCell ⟨bf, 4, none⟩ (.slice f1 Q.gs.length h1)).setCell ⟨bf, 5, none⟩ (.slice f2 Q.os.length h2)).setCell ⟨bf, 6, none⟩ (.slice f3 Q.gold.length h3)).setCell ⟨bf, 7, none⟩ (.slice f4 Q.us.length h4)).setCell ⟨bf, 8, none⟩ (.slice f5 Q.qs.length h5)) ∧ Bw (((((((((v19.setCell ⟨bf, 0, none⟩ (.int .i64 Q.turn)).setCell ⟨bf, 1, none⟩ (.int .i64 Q.next)).setCell ⟨bf, 2, none⟩ (.int .i64 Q.wide)).setCell ⟨bf, 3, none⟩ (.int .i64 Q.high)).setCell ⟨bf, 4, none⟩ (.slice f1 Q.gs.length h1)).setCell ⟨bf, 5, none⟩ (.slice f2 Q.os.length h2)).setCell ⟨bf, 6, none⟩ (.slice f3 Q.gold.length h3)).setCell ⟨bf, 7, none⟩ (.slice f4 Q.us.length h4)).setCell ⟨bf, 8, none⟩ (.slice f5 Q.qs.length h5)) w.heap.size X (.slice p1 X.gs.length q1) (.slice p2 X.os.length q2) (.slice p3 X.gold.length q3) (.slice p4 X.us.length q4) (.slice p5 X.qs.length q5) ∧ Wx (((((((((v19.setCell ⟨bf, 0, none⟩ (.int .i64 Q.turn)).setCell ⟨bf, 1, none⟩ (.int .i64 Q.next)).setCell ⟨bf, 2, none⟩ (.int .i64 Q.wide)).setCell ⟨bf, 3, none⟩ (.int .i64 Q.high)).setCell ⟨bf, 4, none⟩ (.slice f1 Q.gs.length h1)).setCell ⟨bf, 5, none⟩ (.slice f2 Q.os.length h2)).setCell ⟨bf, 6, none⟩ (.slice f3 Q.gold.length h3)).setCell ⟨bf, 7, none⟩ (.slice f4 Q.us.length h4)).setCell ⟨bf, 8, none⟩ (.slice f5 Q.qs.length h5)) z (.int .i64 0) (.int .i64 4) (.int .i64 4) (.int .i64 2) (.slice m1 8 n1) (.slice m2 8 n2) (.slice m3 2 n3) (.slice m4 3 n4) (.slice m5 0 n5)) := by have h9 := ZE.out.2; exact ⟨KZ.out.below F.out.1 F.out.1.size (by omega), F.out.2.1.kp9 KZ.out (by omega), F.out.2.2.1.kp KZ.out (by omega)⟩
          have WZ : Hid (Wb (((((((((v19.setCell ⟨bf, 0, none⟩ (.int .i64 Q.turn)).setCell ⟨bf, 1, none⟩ (.int .i64 Q.next)).setCell ⟨bf, 2, none⟩ (.int .i64 Q.wide)).setCell ⟨bf, 3, none⟩ (.int .i64 Q.high)).setCell ⟨bf, 4, none⟩ (.slice f1 Q.gs.length h1)).setCell ⟨bf, 5, none⟩ (.slice f2 Q.os.length h2)).setCell ⟨bf, 6, none⟩ (.slice f3 Q.gold.length h3)).setCell ⟨bf, 7, none⟩ (.slice f4 Q.us.length h4)).setCell ⟨bf, 8, none⟩ (.slice f5 Q.qs.length h5)) bf Q) := ⟨f1, h1, f2, h2, f3, h3, f4, h4, f5, h5, wx_bw (ZE.out.1.put _ _ _ _ _ _ _ _ _), (WQ.out.1.kp KZ.out WQ.out.2).l⟩
          refine st_skip rfl (((((((((v19.setCell ⟨bf, 0, none⟩ (.int .i64 Q.turn)).setCell ⟨bf, 1, none⟩ (.int .i64 Q.next)).setCell ⟨bf, 2, none⟩ (.int .i64 Q.wide)).setCell ⟨bf, 3, none⟩ (.int .i64 Q.high)).setCell ⟨bf, 4, none⟩ (.slice f1 Q.gs.length h1)).setCell ⟨bf, 5, none⟩ (.slice f2 Q.os.length h2)).setCell ⟨bf, 6, none⟩ (.slice f3 Q.gold.length h3)).setCell ⟨bf, 7, none⟩ (.slice f4 Q.us.length h4)).setCell ⟨bf, 8, none⟩ (.slice f5 Q.qs.length h5)) (by go_simp) (by go_simp) FS.out.2.2 ?_
          clear z0 z1 z2 z3 z4 z5 z6 z7 z8 t0 t1 t2 t3 t4 t5 t6 t7 t8 KZ ZE F
          generalize ((((((((v19.setCell ⟨bf, 0, none⟩ (.int .i64 Q.turn)).setCell ⟨bf, 1, none⟩ (.int .i64 Q.next)).setCell ⟨bf, 2, none⟩ (.int .i64 Q.wide)).setCell ⟨bf, 3, none⟩ (.int .i64 Q.high)).setCell ⟨bf, 4, none⟩ (.slice f1 Q.gs.length h1)).setCell ⟨bf, 5, none⟩ (.slice f2 Q.os.length h2)).setCell ⟨bf, 6, none⟩ (.slice f3 Q.gold.length h3)).setCell ⟨bf, 7, none⟩ (.slice f4 Q.us.length h4)).setCell ⟨bf, 8, none⟩ (.slice f5 Q.qs.length h5) = v20 at *
          go_simp
          refine tr_one ?_
          refine st_value rfl (.slice pe es.length qe) v20 (by go_simp) (by go_simp) FS.out.2.2 ?_
          go_simp
          unfold wpTr
          refine sched_value rfl .nilIface v20 (by go_simp) (by go_simp) trivial ?_
          go_simp
          unfold wpSched
          go_wp2_with fail
          go_meet
          case rel => exact ⟨rfl, ⟨pe, es.length, qe, rfl, QE.out.2⟩, bf, rfl, by rw [QE.out.1]; exact WZ.out, FS.out.1, FS.out.2.1⟩
      · have ba : Below v13.heap.size v13 (v13.alloc (Obj.cells #[.int .i64 0, .int .i64 0, .int .i64 0, .int .i64 0, .slice none 0 0, .slice none 0 0, .slice none 0 0, .slice none 0 0, .slice none 0 0] 29)) := (Below.refl _ _).alloc (Nat.le_refl _) _
        refine st_value rfl (.pointer (some ⟨v13.heap.size, 0, none⟩)) (v13.alloc (Obj.cells #[.int .i64 0, .int .i64 0, .int .i64 0, .int .i64 0, .slice none 0 0, .slice none 0 0, .slice none 0 0, .slice none 0 0, .slice none 0 0] 29)) (by go_simp) (by go_simp) (F.out.below ba).2.2.1 ?_
        obtain ⟨bf, hbf⟩ : ∃ g, v13.heap.size = g := ⟨_, rfl⟩
        have ZE : Hid (Wx (v13.alloc (Obj.cells #[.int .i64 0, .int .i64 0, .int .i64 0, .int .i64 0, .slice none 0 0, .slice none 0 0, .slice none 0 0, .slice none 0 0, .slice none 0 0] 29)) bf (.int .i64 0) (.int .i64 0) (.int .i64 0) (.int .i64 0) (.slice none 0 0) (.slice none 0 0) (.slice none 0 0) (.slice none 0 0) (.slice none 0 0) ∧ w.heap.size < bf ∧ z < bf) := ⟨Wx.new (w := v13) _ _ _ _ _ _ _ _ _ hbf, by rw [← hbf]; exact F.out.2.1.lt, by rw [← hbf]; exact F.out.2.2.1.lt⟩
        rw [hbf]
        have F9 : Hid (Fx w X (.slice p1 X.gs.length q1) (.slice p2 X.os.length q2) (.slice p3 X.gold.length q3) (.slice p4 X.us.length q4) (.slice p5 X.qs.length q5) z (.slice m1 8 n1) (.slice m2 8 n2) (.slice m3 2 n3) (.slice m4 3 n4) (.slice m5 0 n5) (v13.alloc (Obj.cells #[.int .i64 0, .int .i64 0, .int .i64 0, .int .i64 0, .slice none 0 0, .slice none 0 0, .slice none 0 0, .slice none 0 0, .slice none 0 0] 29))) := F.out.below ba
        clear F
        have F := F9
        clear F9
        have O9 : Hid (Orl (v13.alloc (Obj.cells #[.int .i64 0, .int .i64 0, .int .i64 0, .int .i64 0, .slice none 0 0, .slice none 0 0, .slice none 0 0, .slice none 0 0, .slice none 0 0] 29)) (.slice (some ⟨g, 0, none⟩) 2 2) [To.o1, To.o2]) := OL.out.below ba
        clear OL
        have OL := O9
        clear O9
        clear ba hbf
        generalize v13.alloc (Obj.cells #[.int .i64 0, .int .i64 0, .int .i64 0, .int .i64 0, .slice none 0 0, .slice none 0 0, .slice none 0 0, .slice none 0 0, .slice none 0 0] 29) = v21 at *
        go_simp
        refine tr_one ?_
        refine st_call rfl 11 #[] (by go_simp) (by go_simp) ?_
        refine (sorts_any v21).mono ?_
        rintro e v22 ⟨ku, rfl, hk, hb⟩
        have F9 : Hid (Fx w X (.slice p1 X.gs.length q1) (.slice p2 X.os.length q2) (.slice p3 X.gold.length q3) (.slice p4 X.us.length q4) (.slice p5 X.qs.length q5) z (.slice m1 8 n1) (.slice m2 8 n2) (.slice m3 2 n3) (.slice m4 3 n4) (.slice m5 0 n5) v22) := F.out.below hb
        clear F
        have F := F9
        clear F9
        have O9 : Hid (Orl v22 (.slice (some ⟨g, 0, none⟩) 2 2) [To.o1, To.o2]) := OL.out.below hb
        clear OL
        have OL := O9
        clear O9
        have Z9 : Hid (Wx v22 bf (.int .i64 0) (.int .i64 0) (.int .i64 0) (.int .i64 0) (.slice none 0 0) (.slice none 0 0) (.slice none 0 0) (.slice none 0 0) (.slice none 0 0) ∧ w.heap.size < bf ∧ z < bf) := ⟨ZE.out.1.below hb ZE.out.1.lt, ZE.out.2⟩
        clear ZE
        have ZE := Z9
        clear Z9
        have KU : Hid (Kl v22 ku SK) := hk
        refine ⟨_, rfl, F.out.2.2.1, ?_⟩
        clear hk hb
        go_simp
        refine tr_one ?_
        refine st_call rfl 10 #[ku, .agg #[.int .i64 0, .int .i64 4, .int .i64 4, .int .i64 2, .slice m1 8 n1, .slice m2 8 n2, .slice m3 2 n3, .slice m4 3 n4, .slice m5 0 n5], .slice (some ⟨g, 0, none⟩) 2 2] (by go_simp) (by go_simp) ?_
        refine (Step_any ku _ _ SK S3 [To.o1, To.o2] v22 KU.out sm_names F.out.2.2.2.1 OL.out F.out.2.2.2.2).mono ?_
        rintro e v23 ⟨v, ev, r, rfl, hr, hf, hb⟩
        obtain ⟨rfl, es, he3, hwo, hev⟩ := To.to_fact hf hr
        obtain ⟨pe, qe, rfl⟩ := hev.len
        obtain ⟨Q, hQ⟩ : ∃ Q, (To.TW 1 20 To.hit) = Q := ⟨_, rfl⟩
        rw [hQ] at hwo
        obtain ⟨f1, h1, f2, h2, f3, h3, f4, h4, f5, h5, rfl⟩ := wl_shape9 hwo.l
        have QE : Hid ((To.TW 1 20 To.hit) = Q ∧ 3 ≤ es.length) := ⟨hQ, he3⟩
        have WQ : Hid (Wo v23 v22.heap.size (.agg #[.int .i64 Q.turn, .int .i64 Q.next, .int .i64 Q.wide, .int .i64 Q.high, .slice f1 Q.gs.length h1, .slice f2 Q.os.length h2, .slice f3 Q.gold.length h3, .slice f4 Q.us.length h4, .slice f5 Q.qs.length h5]) Q ∧ bf < v22.heap.size) := ⟨hwo, ZE.out.1.lt⟩
        have F9 : Hid (Fx w X (.slice p1 X.gs.length q1) (.slice p2 X.os.length q2) (.slice p3 X.gold.length q3) (.slice p4 X.us.length q4) (.slice p5 X.qs.length q5) z (.slice m1 8 n1) (.slice m2 8 n2) (.slice m3 2 n3) (.slice m4 3 n4) (.slice m5 0 n5) v23) := F.out.below hb
        clear F
        have F := F9
        clear F9
        have Z9 : Hid (Wx v23 bf (.int .i64 0) (.int .i64 0) (.int .i64 0) (.int .i64 0) (.slice none 0 0) (.slice none 0 0) (.slice none 0 0) (.slice none 0 0) (.slice none 0 0) ∧ w.heap.size < bf ∧ z < bf) := ⟨ZE.out.1.below hb ZE.out.1.lt, ZE.out.2⟩
        clear ZE
        have ZE := Z9
        clear Z9
        refine ⟨_, rfl, F.out.2.2.1, ?_⟩
        clear hr hf hb hwo hev hQ he3 KU OL
        go_simp
        refine tr_read rfl (.tuple #[.agg #[.int .i64 Q.turn, .int .i64 Q.next, .int .i64 Q.wide, .int .i64 Q.high, .slice f1 Q.gs.length h1, .slice f2 Q.os.length h2, .slice f3 Q.gold.length h3, .slice f4 Q.us.length h4, .slice f5 Q.qs.length h5], .slice pe es.length qe, .nilIface]) (by go_simp) (fun V hV => by go_simp) ?_
        go_simp
        refine tr_read rfl (.agg #[.int .i64 Q.turn, .int .i64 Q.next, .int .i64 Q.wide, .int .i64 Q.high, .slice f1 Q.gs.length h1, .slice f2 Q.os.length h2, .slice f3 Q.gold.length h3, .slice f4 Q.us.length h4, .slice f5 Q.qs.length h5]) (by go_simp) (fun V hV => by go_simp) ?_
        go_simp
        refine tr_read rfl (.slice pe es.length qe) (by go_simp) (fun V hV => by go_simp) ?_
        go_simp
        refine tr_read rfl (.nilIface) (by go_simp) (fun V hV => by go_simp) ?_
        go_simp
        refine tr_one ?_
        obtain ⟨z0, z1, z2, z3, z4, z5, z6, z7, z8⟩ := ZE.out.1.cells
        obtain ⟨t0, t1, t2, t3, t4, t5, t6, t7, t8⟩ := ZE.out.1.thaws
        have KZ : Hid (Kp bf v23 (((((((((v23.setCell ⟨bf, 0, none⟩ (.int .i64 Q.turn)).setCell ⟨bf, 1, none⟩ (.int .i64 Q.next)).setCell ⟨bf, 2, none⟩ (.int .i64 Q.wide)).setCell ⟨bf, 3, none⟩ (.int .i64 Q.high)).setCell ⟨bf, 4, none⟩ (.slice f1 Q.gs.length h1)).setCell ⟨bf, 5, none⟩ (.slice f2 Q.os.length h2)).setCell ⟨bf, 6, none⟩ (.slice f3 Q.gold.length h3)).setCell ⟨bf, 7, none⟩ (.slice f4 Q.us.length h4)).setCell ⟨bf, 8, none⟩ (.slice f5 Q.qs.length h5))) := put_kp _ _ _ _ _ _ _ _ _ _ _
        have FS : Hid (Below w.heap.size w (((((((((v23.setCell ⟨bf, 0, none⟩ (.int .i64 Q.turn)).setCell ⟨bf, 1, none⟩ (.int .i64 Q.next)).setCell ⟨bf, 2, none⟩ (.int .i64 Q.wide)).setCell ⟨bf, 3, none⟩ (.int .i64 Q.high)).setCell ⟨bf, 4, none⟩ (.slice f1 Q.gs.length h1)).setCell ⟨bf, 5, none⟩ (.slice f2 Q.os.length h2)).setCell ⟨bf, 6, none⟩ (.slice f3 Q.gold.length h3)).setCell ⟨bf, 7, none⟩ (.slice f4 Q.us.length h4)).setCell ⟨bf, 8, none⟩ (.slice f5 Q.qs.length h5)) ∧ Bw (((((((((v23.setCell ⟨bf, 0, none⟩ (.int .i64 Q.turn)).setCell ⟨bf, 1, none⟩ (.int .i64 Q.next)).setCell ⟨bf, 2, none⟩ (.int .i64 Q.wide)).setCell ⟨bf, 3, none⟩ (.int .i64 Q.high)).setCell ⟨bf, 4, none⟩ (.slice f1 Q.gs.length h1)).setCell ⟨bf, 5, none⟩ (.slice f2 Q.os.length h2)).setCell ⟨bf, 6, none⟩ (.slice f3 Q.gold.length h3)).setCell ⟨bf, 7, none⟩ (.slice f4 Q.us.length h4)).setCell ⟨bf, 8, none⟩ (.slice f5 Q.qs.length h5)) w.heap.size X (.slice p1 X.gs.length q1) (.slice p2 X.os.length q2) (.slice p3 X.gold.length q3) (.slice p4 X.us.length q4) (.slice p5 X.qs.length q5) ∧ Wx (((((((((v23.setCell ⟨bf, 0, none⟩ (.int .i64 Q.turn)).setCell ⟨bf, 1, none⟩ (.int .i64 Q.next)).setCell ⟨bf, 2, none⟩ (.int .i64 Q.wide)).setCell ⟨bf, 3, none⟩ (.int .i64 Q.high)).setCell ⟨bf, 4, none⟩ (.slice f1 Q.gs.length h1)).setCell ⟨bf, 5, none⟩ (.slice f2 Q.os.length h2)).setCell ⟨bf, 6, none⟩ (.slice f3 Q.gold.length h3)).setCell ⟨bf, 7, none⟩ (.slice f4 Q.us.length h4)).setCell ⟨bf, 8, none⟩ (.slice f5 Q.qs.length h5)) z (.int .i64 0) (.int .i64 4) (.int .i64 4) (.int .i64 2) (.slice m1 8 n1) (.slice m2 8 n2) (.slice m3 2 n3) (.slice m4 3 n4) (.slice m5 0 n5)) := by have h9 := ZE.out.2; exact ⟨KZ.out.below F.out.1 F.out.1.size (by omega), F.out.2.1.kp9 KZ.out (by omega), F.out.2.2.1.kp KZ.out (by omega)⟩
        have WZ : Hid (Wb (((((((((v23.setCell ⟨bf, 0, none⟩ (.int .i64 Q.turn)).setCell ⟨bf, 1, none⟩ (.int .i64 Q.next)).setCell ⟨bf, 2, none⟩ (.int .i64 Q.wide)).setCell ⟨bf, 3, none⟩ (.int .i64 Q.high)).setCell ⟨bf, 4, none⟩ (.slice f1 Q.gs.length h1)).setCell ⟨bf, 5, none⟩ (.slice f2 Q.os.length h2)).setCell ⟨bf, 6, none⟩ (.slice f3 Q.gold.length h3)).setCell ⟨bf, 7, none⟩ (.slice f4 Q.us.length h4)).setCell ⟨bf, 8, none⟩ (.slice f5 Q.qs.length h5)) bf Q) := ⟨f1, h1, f2, h2, f3, h3, f4, h4, f5, h5, wx_bw (ZE.out.1.put _ _ _ _ _ _ _ _ _), (WQ.out.1.kp KZ.out WQ.out.2).l⟩
        refine st_skip rfl (((((((((v23.setCell ⟨bf, 0, none⟩ (.int .i64 Q.turn)).setCell ⟨bf, 1, none⟩ (.int .i64 Q.next)).setCell ⟨bf, 2, none⟩ (.int .i64 Q.wide)).setCell ⟨bf, 3, none⟩ (.int .i64 Q.high)).setCell ⟨bf, 4, none⟩ (.slice f1 Q.gs.length h1)).setCell ⟨bf, 5, none⟩ (.slice f2 Q.os.length h2)).setCell ⟨bf, 6, none⟩ (.slice f3 Q.gold.length h3)).setCell ⟨bf, 7, none⟩ (.slice f4 Q.us.length h4)).setCell ⟨bf, 8, none⟩ (.slice f5 Q.qs.length h5)) (by go_simp) (by go_simp) FS.out.2.2 ?_
        clear z0 z1 z2 z3 z4 z5 z6 z7 z8 t0 t1 t2 t3 t4 t5 t6 t7 t8 KZ ZE F
        generalize ((((((((v23.setCell ⟨bf, 0, none⟩ (.int .i64 Q.turn)).setCell ⟨bf, 1, none⟩ (.int .i64 Q.next)).setCell ⟨bf, 2, none⟩ (.int .i64 Q.wide)).setCell ⟨bf, 3, none⟩ (.int .i64 Q.high)).setCell ⟨bf, 4, none⟩ (.slice f1 Q.gs.length h1)).setCell ⟨bf, 5, none⟩ (.slice f2 Q.os.length h2)).setCell ⟨bf, 6, none⟩ (.slice f3 Q.gold.length h3)).setCell ⟨bf, 7, none⟩ (.slice f4 Q.us.length h4)).setCell ⟨bf, 8, none⟩ (.slice f5 Q.qs.length h5) = v24 at *
        go_simp
        refine tr_one ?_
        refine st_value rfl (.slice pe es.length qe) v24 (by go_simp) (by go_simp) FS.out.2.2 ?_
        go_simp
        unfold wpTr
        refine sched_value rfl .nilIface v24 (by go_simp) (by go_simp) trivial ?_
        go_simp
        unfold wpSched
        go_wp2_with fail
        go_meet
        case rel => exact ⟨rfl, ⟨pe, es.length, qe, rfl, QE.out.2⟩, bf, rfl, by rw [QE.out.1]; exact WZ.out, FS.out.1, FS.out.2.1⟩
    · have ba : Below v0.heap.size v0 (v0.alloc (Obj.cells #[.int .i64 0, .int .i64 0, .int .i64 0, .int .i64 0, .slice none 0 0, .slice none 0 0, .slice none 0 0, .slice none 0 0, .slice none 0 0] 29)) := (Below.refl _ _).alloc (Nat.le_refl _) _
      refine st_value rfl (.pointer (some ⟨v0.heap.size, 0, none⟩)) (v0.alloc (Obj.cells #[.int .i64 0, .int .i64 0, .int .i64 0, .int .i64 0, .slice none 0 0, .slice none 0 0, .slice none 0 0, .slice none 0 0, .slice none 0 0] 29)) (by go_simp) (by go_simp) (F.out.below ba).2.2.1 ?_
      obtain ⟨bf, hbf⟩ : ∃ g, v0.heap.size = g := ⟨_, rfl⟩
      have ZE : Hid (Wx (v0.alloc (Obj.cells #[.int .i64 0, .int .i64 0, .int .i64 0, .int .i64 0, .slice none 0 0, .slice none 0 0, .slice none 0 0, .slice none 0 0, .slice none 0 0] 29)) bf (.int .i64 0) (.int .i64 0) (.int .i64 0) (.int .i64 0) (.slice none 0 0) (.slice none 0 0) (.slice none 0 0) (.slice none 0 0) (.slice none 0 0) ∧ w.heap.size < bf ∧ z < bf) := ⟨Wx.new (w := v0) _ _ _ _ _ _ _ _ _ hbf, by rw [← hbf]; exact F.out.2.1.lt, by rw [← hbf]; exact F.out.2.2.1.lt⟩
      rw [hbf]
      have F9 : Hid (Fx w X (.slice p1 X.gs.length q1) (.slice p2 X.os.length q2) (.slice p3 X.gold.length q3) (.slice p4 X.us.length q4) (.slice p5 X.qs.length q5) z (.slice m1 8 n1) (.slice m2 8 n2) (.slice m3 2 n3) (.slice m4 3 n4) (.slice m5 0 n5) (v0.alloc (Obj.cells #[.int .i64 0, .int .i64 0, .int .i64 0, .int .i64 0, .slice none 0 0, .slice none 0 0, .slice none 0 0, .slice none 0 0, .slice none 0 0] 29))) := F.out.below ba
      clear F
      have F := F9
      clear F9
      clear ba hbf
      generalize v0.alloc (Obj.cells #[.int .i64 0, .int .i64 0, .int .i64 0, .int .i64 0, .slice none 0 0, .slice none 0 0, .slice none 0 0, .slice none 0 0, .slice none 0 0] 29) = v25 at *
      go_simp
      refine tr_two ?_ ?_
      · refine st_call rfl 11 #[] (by go_simp) (by go_simp) ?_
        refine (sorts_any v25).mono ?_
        rintro e v26 ⟨ku, rfl, hk, hb⟩
        have F9 : Hid (Fx w X (.slice p1 X.gs.length q1) (.slice p2 X.os.length q2) (.slice p3 X.gold.length q3) (.slice p4 X.us.length q4) (.slice p5 X.qs.length q5) z (.slice m1 8 n1) (.slice m2 8 n2) (.slice m3 2 n3) (.slice m4 3 n4) (.slice m5 0 n5) v26) := F.out.below hb
        clear F
        have F := F9
        clear F9
        have Z9 : Hid (Wx v26 bf (.int .i64 0) (.int .i64 0) (.int .i64 0) (.int .i64 0) (.slice none 0 0) (.slice none 0 0) (.slice none 0 0) (.slice none 0 0) (.slice none 0 0) ∧ w.heap.size < bf ∧ z < bf) := ⟨ZE.out.1.below hb ZE.out.1.lt, ZE.out.2⟩
        clear ZE
        have ZE := Z9
        clear Z9
        have KU : Hid (Kl v26 ku SK) := hk
        refine ⟨_, rfl, F.out.2.2.1, ?_⟩
        clear hk hb
        go_simp
        refine tr_one ?_
        have ba : Below v26.heap.size v26 (v26.alloc (Obj.cells #[.int .i64 0, .int .i64 2, .int .i64 2, .int .i64 6, .int .i64 1, .int .i64 3, .int .i64 3, .int .i64 1] 40)) := (Below.refl _ _).alloc (Nat.le_refl _) _
        refine st_value rfl (.slice (some ⟨v26.heap.size, 0, none⟩) 2 2) (v26.alloc (Obj.cells #[.int .i64 0, .int .i64 2, .int .i64 2, .int .i64 6, .int .i64 1, .int .i64 3, .int .i64 3, .int .i64 1] 40)) (by go_simp) (by go_simp) (F.out.below ba).2.2.1 ?_
        obtain ⟨g, hg⟩ : ∃ g, v26.heap.size = g := ⟨_, rfl⟩
        have OL : Hid (Orl (v26.alloc (Obj.cells #[.int .i64 0, .int .i64 2, .int .i64 2, .int .i64 6, .int .i64 1, .int .i64 3, .int .i64 3, .int .i64 1] 40)) (.slice (some ⟨g, 0, none⟩) 2 2) [To.o1, To.o2]) := by rw [← hg]; exact orl_lit v26
        rw [hg]
        have F9 : Hid (Fx w X (.slice p1 X.gs.length q1) (.slice p2 X.os.length q2) (.slice p3 X.gold.length q3) (.slice p4 X.us.length q4) (.slice p5 X.qs.length q5) z (.slice m1 8 n1) (.slice m2 8 n2) (.slice m3 2 n3) (.slice m4 3 n4) (.slice m5 0 n5) (v26.alloc (Obj.cells #[.int .i64 0, .int .i64 2, .int .i64 2, .int .i64 6, .int .i64 1, .int .i64 3, .int .i64 3, .int .i64 1] 40))) := F.out.below ba
        clear F
        have F := F9
        clear F9
        have K9 : Hid (Kl (v26.alloc (Obj.cells #[.int .i64 0, .int .i64 2, .int .i64 2, .int .i64 6, .int .i64 1, .int .i64 3, .int .i64 3, .int .i64 1] 40)) ku SK) := KU.out.below ba
        clear KU
        have KU := K9
        clear K9
        have Z9 : Hid (Wx (v26.alloc (Obj.cells #[.int .i64 0, .int .i64 2, .int .i64 2, .int .i64 6, .int .i64 1, .int .i64 3, .int .i64 3, .int .i64 1] 40)) bf (.int .i64 0) (.int .i64 0) (.int .i64 0) (.int .i64 0) (.slice none 0 0) (.slice none 0 0) (.slice none 0 0) (.slice none 0 0) (.slice none 0 0) ∧ w.heap.size < bf ∧ z < bf) := ⟨ZE.out.1.below ba ZE.out.1.lt, ZE.out.2⟩
        clear ZE
        have ZE := Z9
        clear Z9
        clear ba hg
        generalize v26.alloc (Obj.cells #[.int .i64 0, .int .i64 2, .int .i64 2, .int .i64 6, .int .i64 1, .int .i64 3, .int .i64 3, .int .i64 1] 40) = v27 at *
        go_simp
        refine tr_one ?_
        refine st_call rfl 10 #[ku, .agg #[.int .i64 0, .int .i64 4, .int .i64 4, .int .i64 2, .slice m1 8 n1, .slice m2 8 n2, .slice m3 2 n3, .slice m4 3 n4, .slice m5 0 n5], .slice (some ⟨g, 0, none⟩) 2 2] (by go_simp) (by go_simp) ?_
        refine (Step_any ku _ _ SK S3 [To.o1, To.o2] v27 KU.out sm_names F.out.2.2.2.1 OL.out F.out.2.2.2.2).mono ?_
        rintro e v28 ⟨v, ev, r, rfl, hr, hf, hb⟩
        obtain ⟨rfl, es, he3, hwo, hev⟩ := To.to_fact hf hr
        obtain ⟨pe, qe, rfl⟩ := hev.len
        obtain ⟨Q, hQ⟩ : ∃ Q, (To.TW 1 20 To.hit) = Q := ⟨_, rfl⟩
        rw [hQ] at hwo
        obtain ⟨f1, h1, f2, h2, f3, h3, f4, h4, f5, h5, rfl⟩ := wl_shape9 hwo.l
        have QE : Hid ((To.TW 1 20 To.hit) = Q ∧ 3 ≤ es.length) := ⟨hQ, he3⟩
        have WQ : Hid (Wo v28 v27.heap.size (.agg #[.int .i64 Q.turn, .int .i64 Q.next, .int .i64 Q.wide, .int .i64 Q.high, .slice f1 Q.gs.length h1, .slice f2 Q.os.length h2, .slice f3 Q.gold.length h3, .slice f4 Q.us.length h4, .slice f5 Q.qs.length h5]) Q ∧ bf < v27.heap.size) := ⟨hwo, ZE.out.1.lt⟩
        have F9 : Hid (Fx w X (.slice p1 X.gs.length q1) (.slice p2 X.os.length q2) (.slice p3 X.gold.length q3) (.slice p4 X.us.length q4) (.slice p5 X.qs.length q5) z (.slice m1 8 n1) (.slice m2 8 n2) (.slice m3 2 n3) (.slice m4 3 n4) (.slice m5 0 n5) v28) := F.out.below hb
        clear F
        have F := F9
        clear F9
        have Z9 : Hid (Wx v28 bf (.int .i64 0) (.int .i64 0) (.int .i64 0) (.int .i64 0) (.slice none 0 0) (.slice none 0 0) (.slice none 0 0) (.slice none 0 0) (.slice none 0 0) ∧ w.heap.size < bf ∧ z < bf) := ⟨ZE.out.1.below hb ZE.out.1.lt, ZE.out.2⟩
        clear ZE
        have ZE := Z9
        clear Z9
        refine ⟨_, rfl, F.out.2.2.1, ?_⟩
        clear hr hf hb hwo hev hQ he3 KU OL
        go_simp
        refine tr_read rfl (.tuple #[.agg #[.int .i64 Q.turn, .int .i64 Q.next, .int .i64 Q.wide, .int .i64 Q.high, .slice f1 Q.gs.length h1, .slice f2 Q.os.length h2, .slice f3 Q.gold.length h3, .slice f4 Q.us.length h4, .slice f5 Q.qs.length h5], .slice pe es.length qe, .nilIface]) (by go_simp) (fun V hV => by go_simp) ?_
        go_simp
        refine tr_read rfl (.agg #[.int .i64 Q.turn, .int .i64 Q.next, .int .i64 Q.wide, .int .i64 Q.high, .slice f1 Q.gs.length h1, .slice f2 Q.os.length h2, .slice f3 Q.gold.length h3, .slice f4 Q.us.length h4, .slice f5 Q.qs.length h5]) (by go_simp) (fun V hV => by go_simp) ?_
        go_simp
        refine tr_read rfl (.slice pe es.length qe) (by go_simp) (fun V hV => by go_simp) ?_
        go_simp
        refine tr_read rfl (.nilIface) (by go_simp) (fun V hV => by go_simp) ?_
        go_simp
        refine tr_one ?_
        obtain ⟨z0, z1, z2, z3, z4, z5, z6, z7, z8⟩ := ZE.out.1.cells
        obtain ⟨t0, t1, t2, t3, t4, t5, t6, t7, t8⟩ := ZE.out.1.thaws
        have KZ : Hid (Kp bf v28 (((((((((v28.setCell ⟨bf, 0, none⟩ (.int .i64 Q.turn)).setCell ⟨bf, 1, none⟩ (.int .i64 Q.next)).setCell ⟨bf, 2, none⟩ (.int .i64 Q.wide)).setCell ⟨bf, 3, none⟩ (.int .i64 Q.high)).setCell ⟨bf, 4, none⟩ (.slice f1 Q.gs.length h1)).setCell ⟨bf, 5, none⟩ (.slice f2 Q.os.length h2)).setCell ⟨bf, 6, none⟩ (.slice f3 Q.gold.length h3)).setCell ⟨bf, 7, none⟩ (.slice f4 Q.us.length h4)).setCell ⟨bf, 8, none⟩ (.slice f5 Q.qs.length h5))) := put_kp _ _ _ _ _ _ _ _ _ _ _
        have FS : Hid (Below w.heap.size w (((((((((v28.setCell ⟨bf, 0, none⟩ (.int .i64 Q.turn)).setCell ⟨bf, 1, none⟩ (.int .i64 Q.next)).setCell ⟨bf, 2, none⟩ (.int .i64 Q.wide)).setCell ⟨bf, 3, none⟩ (.int .i64 Q.high)).setCell ⟨bf, 4, none⟩ (.slice f1 Q.gs.length h1)).setCell ⟨bf, 5, none⟩ (.slice f2 Q.os.length h2)).setCell ⟨bf, 6, none⟩ (.slice f3 Q.gold.length h3)).setCell ⟨bf, 7, none⟩ (.slice f4 Q.us.length h4)).setCell ⟨bf, 8, none⟩ (.slice f5 Q.qs.length h5)) ∧ Bw (((((((((v28.setCell ⟨bf, 0, none⟩ (.int .i64 Q.turn)).setCell ⟨bf, 1, none⟩ (.int .i64 Q.next)).setCell ⟨bf, 2, none⟩ (.int .i64 Q.wide)).setCell ⟨bf, 3, none⟩ (.int .i64 Q.high)).setCell ⟨bf, 4, none⟩ (.slice f1 Q.gs.length h1)).setCell ⟨bf, 5, none⟩ (.slice f2 Q.os.length h2)).setCell ⟨bf, 6, none⟩ (.slice f3 Q.gold.length h3)).setCell ⟨bf, 7, none⟩ (.slice f4 Q.us.length h4)).setCell ⟨bf, 8, none⟩ (.slice f5 Q.qs.length h5)) w.heap.size X (.slice p1 X.gs.length q1) (.slice p2 X.os.length q2) (.slice p3 X.gold.length q3) (.slice p4 X.us.length q4) (.slice p5 X.qs.length q5) ∧ Wx (((((((((v28.setCell ⟨bf, 0, none⟩ (.int .i64 Q.turn)).setCell ⟨bf, 1, none⟩ (.int .i64 Q.next)).setCell ⟨bf, 2, none⟩ (.int .i64 Q.wide)).setCell ⟨bf, 3, none⟩ (.int .i64 Q.high)).setCell ⟨bf, 4, none⟩ (.slice f1 Q.gs.length h1)).setCell ⟨bf, 5, none⟩ (.slice f2 Q.os.length h2)).setCell ⟨bf, 6, none⟩ (.slice f3 Q.gold.length h3)).setCell ⟨bf, 7, none⟩ (.slice f4 Q.us.length h4)).setCell ⟨bf, 8, none⟩ (.slice f5 Q.qs.length h5)) z (.int .i64 0) (.int .i64 4) (.int .i64 4) (.int .i64 2) (.slice m1 8 n1) (.slice m2 8 n2) (.slice m3 2 n3) (.slice m4 3 n4) (.slice m5 0 n5)) := by have h9 := ZE.out.2; exact ⟨KZ.out.below F.out.1 F.out.1.size (by omega), F.out.2.1.kp9 KZ.out (by omega), F.out.2.2.1.kp KZ.out (by omega)⟩
        have WZ : Hid (Wb (((((((((v28.setCell ⟨bf, 0, none⟩ (.int .i64 Q.turn)).setCell ⟨bf, 1, none⟩ (.int .i64 Q.next)).setCell ⟨bf, 2, none⟩ (.int .i64 Q.wide)).setCell ⟨bf, 3, none⟩ (.int .i64 Q.high)).setCell ⟨bf, 4, none⟩ (.slice f1 Q.gs.length h1)).setCell ⟨bf, 5, none⟩ (.slice f2 Q.os.length h2)).setCell ⟨bf, 6, none⟩ (.slice f3 Q.gold.length h3)).setCell ⟨bf, 7, none⟩ (.slice f4 Q.us.length h4)).setCell ⟨bf, 8, none⟩ (.slice f5 Q.qs.length h5)) bf Q) := ⟨f1, h1, f2, h2, f3, h3, f4, h4, f5, h5, wx_bw (ZE.out.1.put _ _ _ _ _ _ _ _ _), (WQ.out.1.kp KZ.out WQ.out.2).l⟩
        refine st_skip rfl (((((((((v28.setCell ⟨bf, 0, none⟩ (.int .i64 Q.turn)).setCell ⟨bf, 1, none⟩ (.int .i64 Q.next)).setCell ⟨bf, 2, none⟩ (.int .i64 Q.wide)).setCell ⟨bf, 3, none⟩ (.int .i64 Q.high)).setCell ⟨bf, 4, none⟩ (.slice f1 Q.gs.length h1)).setCell ⟨bf, 5, none⟩ (.slice f2 Q.os.length h2)).setCell ⟨bf, 6, none⟩ (.slice f3 Q.gold.length h3)).setCell ⟨bf, 7, none⟩ (.slice f4 Q.us.length h4)).setCell ⟨bf, 8, none⟩ (.slice f5 Q.qs.length h5)) (by go_simp) (by go_simp) FS.out.2.2 ?_
        clear z0 z1 z2 z3 z4 z5 z6 z7 z8 t0 t1 t2 t3 t4 t5 t6 t7 t8 KZ ZE F
        generalize ((((((((v28.setCell ⟨bf, 0, none⟩ (.int .i64 Q.turn)).setCell ⟨bf, 1, none⟩ (.int .i64 Q.next)).setCell ⟨bf, 2, none⟩ (.int .i64 Q.wide)).setCell ⟨bf, 3, none⟩ (.int .i64 Q.high)).setCell ⟨bf, 4, none⟩ (.slice f1 Q.gs.length h1)).setCell ⟨bf, 5, none⟩ (.slice f2 Q.os.length h2)).setCell ⟨bf, 6, none⟩ (.slice f3 Q.gold.length h3)).setCell ⟨bf, 7, none⟩ (.slice f4 Q.us.length h4)).setCell ⟨bf, 8, none⟩ (.slice f5 Q.qs.length h5) = v29 at *
        go_simp
        refine tr_one ?_
        refine st_value rfl (.slice pe es.length qe) v29 (by go_simp) (by go_simp) FS.out.2.2 ?_
        go_simp
        unfold wpTr
        refine sched_value rfl .nilIface v29 (by go_simp) (by go_simp) trivial ?_
        go_simp
        unfold wpSched
        go_wp2_with fail
        go_meet
        case rel => exact ⟨rfl, ⟨pe, es.length, qe, rfl, QE.out.2⟩, bf, rfl, by rw [QE.out.1]; exact WZ.out, FS.out.1, FS.out.2.1⟩
      · have ba : Below v25.heap.size v25 (v25.alloc (Obj.cells #[.int .i64 0, .int .i64 2, .int .i64 2, .int .i64 6, .int .i64 1, .int .i64 3, .int .i64 3, .int .i64 1] 40)) := (Below.refl _ _).alloc (Nat.le_refl _) _
        refine st_value rfl (.slice (some ⟨v25.heap.size, 0, none⟩) 2 2) (v25.alloc (Obj.cells #[.int .i64 0, .int .i64 2, .int .i64 2, .int .i64 6, .int .i64 1, .int .i64 3, .int .i64 3, .int .i64 1] 40)) (by go_simp) (by go_simp) (F.out.below ba).2.2.1 ?_
        obtain ⟨g, hg⟩ : ∃ g, v25.heap.size = g := ⟨_, rfl⟩
        have OL : Hid (Orl (v25.alloc (Obj.cells #[.int .i64 0, .int .i64 2, .int .i64 2, .int .i64 6, .int .i64 1, .int .i64 3, .int .i64 3, .int .i64 1] 40)) (.slice (some ⟨g, 0, none⟩) 2 2) [To.o1, To.o2]) := by rw [← hg]; exact orl_lit v25
        rw [hg]
        have F9 : Hid (Fx w X (.slice p1 X.gs.length q1) (.slice p2 X.os.length q2) (.slice p3 X.gold.length q3) (.slice p4 X.us.length q4) (.slice p5 X.qs.length q5) z (.slice m1 8 n1) (.slice m2 8 n2) (.slice m3 2 n3) (.slice m4 3 n4) (.slice m5 0 n5) (v25.alloc (Obj.cells #[.int .i64 0, .int .i64 2, .int .i64 2, .int .i64 6, .int .i64 1, .int .i64 3, .int .i64 3, .int .i64 1] 40))) := F.out.below ba
        clear F
        have F := F9
        clear F9
        have Z9 : Hid (Wx (v25.alloc (Obj.cells #[.int .i64 0, .int .i64 2, .int .i64 2, .int .i64 6, .int .i64 1, .int .i64 3, .int .i64 3, .int .i64 1] 40)) bf (.int .i64 0) (.int .i64 0) (.int .i64 0) (.int .i64 0) (.slice none 0 0) (.slice none 0 0) (.slice none 0 0) (.slice none 0 0) (.slice none 0 0) ∧ w.heap.size < bf ∧ z < bf) := ⟨ZE.out.1.below ba ZE.out.1.lt, ZE.out.2⟩
        clear ZE
        have ZE := Z9
        clear Z9
        clear ba hg
        generalize v25.alloc (Obj.cells #[.int .i64 0, .int .i64 2, .int .i64 2, .int .i64 6, .int .i64 1, .int .i64 3, .int .i64 3, .int .i64 1] 40) = v30 at *
        go_simp
        refine tr_one ?_
        refine st_call rfl 11 #[] (by go_simp) (by go_simp) ?_
        refine (sorts_any v30).mono ?_
        rintro e v31 ⟨ku, rfl, hk, hb⟩
        have F9 : Hid (Fx w X (.slice p1 X.gs.length q1) (.slice p2 X.os.length q2) (.slice p3 X.gold.length q3) (.slice p4 X.us.length q4) (.slice p5 X.qs.length q5) z (.slice m1 8 n1) (.slice m2 8 n2) (.slice m3 2 n3) (.slice m4 3 n4) (.slice m5 0 n5) v31) := F.out.below hb
        clear F
        have F := F9
        clear F9
        have O9 : Hid (Orl v31 (.slice (some ⟨g, 0, none⟩) 2 2) [To.o1, To.o2]) := OL.out.below hb
        clear OL
        have OL := O9
        clear O9
        have Z9 : Hid (Wx v31 bf (.int .i64 0) (.int .i64 0) (.int .i64 0) (.int .i64 0) (.slice none 0 0) (.slice none 0 0) (.slice none 0 0) (.slice none 0 0) (.slice none 0 0) ∧ w.heap.size < bf ∧ z < bf) := ⟨ZE.out.1.below hb ZE.out.1.lt, ZE.out.2⟩
        clear ZE
        have ZE := Z9
        clear Z9
        have KU : Hid (Kl v31 ku SK) := hk
        refine ⟨_, rfl, F.out.2.2.1, ?_⟩
        clear hk hb
        go_simp
        refine tr_one ?_
        refine st_call rfl 10 #[ku, .agg #[.int .i64 0, .int .i64 4, .int .i64 4, .int .i64 2, .slice m1 8 n1, .slice m2 8 n2, .slice m3 2 n3, .slice m4 3 n4, .slice m5 0 n5], .slice (some ⟨g, 0, none⟩) 2 2] (by go_simp) (by go_simp) ?_
        refine (Step_any ku _ _ SK S3 [To.o1, To.o2] v31 KU.out sm_names F.out.2.2.2.1 OL.out F.out.2.2.2.2).mono ?_
        rintro e v32 ⟨v, ev, r, rfl, hr, hf, hb⟩
        obtain ⟨rfl, es, he3, hwo, hev⟩ := To.to_fact hf hr
        obtain ⟨pe, qe, rfl⟩ := hev.len
        obtain ⟨Q, hQ⟩ : ∃ Q, (To.TW 1 20 To.hit) = Q := ⟨_, rfl⟩
        rw [hQ] at hwo
        obtain ⟨f1, h1, f2, h2, f3, h3, f4, h4, f5, h5, rfl⟩ := wl_shape9 hwo.l
        have QE : Hid ((To.TW 1 20 To.hit) = Q ∧ 3 ≤ es.length) := ⟨hQ, he3⟩
        have WQ : Hid (Wo v32 v31.heap.size (.agg #[.int .i64 Q.turn, .int .i64 Q.next, .int .i64 Q.wide, .int .i64 Q.high, .slice f1 Q.gs.length h1, .slice f2 Q.os.length h2, .slice f3 Q.gold.length h3, .slice f4 Q.us.length h4, .slice f5 Q.qs.length h5]) Q ∧ bf < v31.heap.size) := ⟨hwo, ZE.out.1.lt⟩
        have F9 : Hid (Fx w X (.slice p1 X.gs.length q1) (.slice p2 X.os.length q2) (.slice p3 X.gold.length q3) (.slice p4 X.us.length q4) (.slice p5 X.qs.length q5) z (.slice m1 8 n1) (.slice m2 8 n2) (.slice m3 2 n3) (.slice m4 3 n4) (.slice m5 0 n5) v32) := F.out.below hb
        clear F
        have F := F9
        clear F9
        have Z9 : Hid (Wx v32 bf (.int .i64 0) (.int .i64 0) (.int .i64 0) (.int .i64 0) (.slice none 0 0) (.slice none 0 0) (.slice none 0 0) (.slice none 0 0) (.slice none 0 0) ∧ w.heap.size < bf ∧ z < bf) := ⟨ZE.out.1.below hb ZE.out.1.lt, ZE.out.2⟩
        clear ZE
        have ZE := Z9
        clear Z9
        refine ⟨_, rfl, F.out.2.2.1, ?_⟩
        clear hr hf hb hwo hev hQ he3 KU OL
        go_simp
        refine tr_read rfl (.tuple #[.agg #[.int .i64 Q.turn, .int .i64 Q.next, .int .i64 Q.wide, .int .i64 Q.high, .slice f1 Q.gs.length h1, .slice f2 Q.os.length h2, .slice f3 Q.gold.length h3, .slice f4 Q.us.length h4, .slice f5 Q.qs.length h5], .slice pe es.length qe, .nilIface]) (by go_simp) (fun V hV => by go_simp) ?_
        go_simp
        refine tr_read rfl (.agg #[.int .i64 Q.turn, .int .i64 Q.next, .int .i64 Q.wide, .int .i64 Q.high, .slice f1 Q.gs.length h1, .slice f2 Q.os.length h2, .slice f3 Q.gold.length h3, .slice f4 Q.us.length h4, .slice f5 Q.qs.length h5]) (by go_simp) (fun V hV => by go_simp) ?_
        go_simp
        refine tr_read rfl (.slice pe es.length qe) (by go_simp) (fun V hV => by go_simp) ?_
        go_simp
        refine tr_read rfl (.nilIface) (by go_simp) (fun V hV => by go_simp) ?_
        go_simp
        refine tr_one ?_
        obtain ⟨z0, z1, z2, z3, z4, z5, z6, z7, z8⟩ := ZE.out.1.cells
        obtain ⟨t0, t1, t2, t3, t4, t5, t6, t7, t8⟩ := ZE.out.1.thaws
        have KZ : Hid (Kp bf v32 (((((((((v32.setCell ⟨bf, 0, none⟩ (.int .i64 Q.turn)).setCell ⟨bf, 1, none⟩ (.int .i64 Q.next)).setCell ⟨bf, 2, none⟩ (.int .i64 Q.wide)).setCell ⟨bf, 3, none⟩ (.int .i64 Q.high)).setCell ⟨bf, 4, none⟩ (.slice f1 Q.gs.length h1)).setCell ⟨bf, 5, none⟩ (.slice f2 Q.os.length h2)).setCell ⟨bf, 6, none⟩ (.slice f3 Q.gold.length h3)).setCell ⟨bf, 7, none⟩ (.slice f4 Q.us.length h4)).setCell ⟨bf, 8, none⟩ (.slice f5 Q.qs.length h5))) := put_kp _ _ _ _ _ _ _ _ _ _ _
        have FS : Hid (Below w.heap.size w (((((((((v32.setCell ⟨bf, 0, none⟩ (.int .i64 Q.turn)).setCell ⟨bf, 1, none⟩ (.int .i64 Q.next)).setCell ⟨bf, 2, none⟩ (.int .i64 Q.wide)).setCell ⟨bf, 3, none⟩ (.int .i64 Q.high)).setCell ⟨bf, 4, none⟩ (.slice f1 Q.gs.length h1)).setCell ⟨bf, 5, none⟩ (.slice f2 Q.os.length h2)).setCell ⟨bf, 6, none⟩ (.slice f3 Q.gold.length h3)).setCell ⟨bf, 7, none⟩ (.slice f4 Q.us.length h4)).setCell ⟨bf, 8, none⟩ (.slice f5 Q.qs.length h5)) ∧ Bw (((((((((v32.setCell ⟨bf, 0, none⟩ (.int .i64 Q.turn)).setCell ⟨bf, 1, none⟩ (.int .i64 Q.next)).setCell ⟨bf, 2, none⟩ (.int .i64 Q.wide)).setCell ⟨bf, 3, none⟩ (.int .i64 Q.high)).setCell ⟨bf, 4, none⟩ (.slice f1 Q.gs.length h1)).setCell ⟨bf, 5, none⟩ (.slice f2 Q.os.length h2)).setCell ⟨bf, 6, none⟩ (.slice f3 Q.gold.length h3)).setCell ⟨bf, 7, none⟩ (.slice f4 Q.us.length h4)).setCell ⟨bf, 8, none⟩ (.slice f5 Q.qs.length h5)) w.heap.size X (.slice p1 X.gs.length q1) (.slice p2 X.os.length q2) (.slice p3 X.gold.length q3) (.slice p4 X.us.length q4) (.slice p5 X.qs.length q5) ∧ Wx (((((((((v32.setCell ⟨bf, 0, none⟩ (.int .i64 Q.turn)).setCell ⟨bf, 1, none⟩ (.int .i64 Q.next)).setCell ⟨bf, 2, none⟩ (.int .i64 Q.wide)).setCell ⟨bf, 3, none⟩ (.int .i64 Q.high)).setCell ⟨bf, 4, none⟩ (.slice f1 Q.gs.length h1)).setCell ⟨bf, 5, none⟩ (.slice f2 Q.os.length h2)).setCell ⟨bf, 6, none⟩ (.slice f3 Q.gold.length h3)).setCell ⟨bf, 7, none⟩ (.slice f4 Q.us.length h4)).setCell ⟨bf, 8, none⟩ (.slice f5 Q.qs.length h5)) z (.int .i64 0) (.int .i64 4) (.int .i64 4) (.int .i64 2) (.slice m1 8 n1) (.slice m2 8 n2) (.slice m3 2 n3) (.slice m4 3 n4) (.slice m5 0 n5)) := by have h9 := ZE.out.2; exact ⟨KZ.out.below F.out.1 F.out.1.size (by omega), F.out.2.1.kp9 KZ.out (by omega), F.out.2.2.1.kp KZ.out (by omega)⟩
        have WZ : Hid (Wb (((((((((v32.setCell ⟨bf, 0, none⟩ (.int .i64 Q.turn)).setCell ⟨bf, 1, none⟩ (.int .i64 Q.next)).setCell ⟨bf, 2, none⟩ (.int .i64 Q.wide)).setCell ⟨bf, 3, none⟩ (.int .i64 Q.high)).setCell ⟨bf, 4, none⟩ (.slice f1 Q.gs.length h1)).setCell ⟨bf, 5, none⟩ (.slice f2 Q.os.length h2)).setCell ⟨bf, 6, none⟩ (.slice f3 Q.gold.length h3)).setCell ⟨bf, 7, none⟩ (.slice f4 Q.us.length h4)).setCell ⟨bf, 8, none⟩ (.slice f5 Q.qs.length h5)) bf Q) := ⟨f1, h1, f2, h2, f3, h3, f4, h4, f5, h5, wx_bw (ZE.out.1.put _ _ _ _ _ _ _ _ _), (WQ.out.1.kp KZ.out WQ.out.2).l⟩
        refine st_skip rfl (((((((((v32.setCell ⟨bf, 0, none⟩ (.int .i64 Q.turn)).setCell ⟨bf, 1, none⟩ (.int .i64 Q.next)).setCell ⟨bf, 2, none⟩ (.int .i64 Q.wide)).setCell ⟨bf, 3, none⟩ (.int .i64 Q.high)).setCell ⟨bf, 4, none⟩ (.slice f1 Q.gs.length h1)).setCell ⟨bf, 5, none⟩ (.slice f2 Q.os.length h2)).setCell ⟨bf, 6, none⟩ (.slice f3 Q.gold.length h3)).setCell ⟨bf, 7, none⟩ (.slice f4 Q.us.length h4)).setCell ⟨bf, 8, none⟩ (.slice f5 Q.qs.length h5)) (by go_simp) (by go_simp) FS.out.2.2 ?_
        clear z0 z1 z2 z3 z4 z5 z6 z7 z8 t0 t1 t2 t3 t4 t5 t6 t7 t8 KZ ZE F
        generalize ((((((((v32.setCell ⟨bf, 0, none⟩ (.int .i64 Q.turn)).setCell ⟨bf, 1, none⟩ (.int .i64 Q.next)).setCell ⟨bf, 2, none⟩ (.int .i64 Q.wide)).setCell ⟨bf, 3, none⟩ (.int .i64 Q.high)).setCell ⟨bf, 4, none⟩ (.slice f1 Q.gs.length h1)).setCell ⟨bf, 5, none⟩ (.slice f2 Q.os.length h2)).setCell ⟨bf, 6, none⟩ (.slice f3 Q.gold.length h3)).setCell ⟨bf, 7, none⟩ (.slice f4 Q.us.length h4)).setCell ⟨bf, 8, none⟩ (.slice f5 Q.qs.length h5) = v33 at *
        go_simp
        refine tr_one ?_
        refine st_value rfl (.slice pe es.length qe) v33 (by go_simp) (by go_simp) FS.out.2.2 ?_
        go_simp
        unfold wpTr
        refine sched_value rfl .nilIface v33 (by go_simp) (by go_simp) trivial ?_
        go_simp
        unfold wpSched
        go_wp2_with fail
        go_meet
        case rel => exact ⟨rfl, ⟨pe, es.length, qe, rfl, QE.out.2⟩, bf, rfl, by rw [QE.out.1]; exact WZ.out, FS.out.1, FS.out.2.1⟩
  case rest =>
    obtain ⟨rfl, ⟨pe, ne, qe, rfl, hne⟩, bf, rfl, hcf, hB, hX⟩ := hcut
    have B4 : Hid (Below w.heap.size w wc) := hB
    have X4 : Hid (Bw wc w.heap.size X (.slice p1 X.gs.length q1) (.slice p2 X.os.length q2) (.slice p3 X.gold.length q3) (.slice p4 X.us.length q4) (.slice p5 X.qs.length q5)) := hX
    clear hB hX
    obtain ⟨fa, fc, t0, t7, t3, t3a, t3b⟩ := fx_cells hcf
    clear hcf
    obtain ⟨x0, x1, x2, x3, x4, x5, x6, x7, x8⟩ := X4.out
    have hnei : ¬ (ne : Int) < 3 := by omega
    go_wp2_with fail
    refine (Step_any _ _ _ ks X l wc (K.out.1.below B4.out) K.out.2 (H.out.below B4.out) (L.out.below B4.out) (SDH.out.below B4.out)).mono ?_
    rintro e w5 ⟨v, ev, r, rfl, hr, hs, hb⟩
    have B5 : Hid (Below w.heap.size w w5) := B4.out.trans (hb.mono B4.out.size)
    have X5 : Hid (Bw w5 w.heap.size X (.slice p1 X.gs.length q1) (.slice p2 X.os.length q2) (.slice p3 X.gold.length q3) (.slice p4 X.us.length q4) (.slice p5 X.qs.length q5)) := X4.out.below hb X4.out.lt
    clear hb x0 x1 x2 x3 x4 x5 x6 x7 x8 t0 t7 t3 t3a t3b hne hnei
    rcases To.to_first hs hr with ⟨F, rfl⟩ | ⟨rfl, hf0, Y, es, hY, hyf, hyt, hwo⟩
    · obtain ⟨rfl, rfl⟩ := bad_shape hs hr
      clear hs hr
      go_wp2
      go_ret
      exact ⟨rfl, ⟨B5.out.os, B5.out.tape, B5.out.output, Nat.le_trans B5.out.size (by simp), fun k hk => by rw [((Below.refl w5.heap.size w5).alloc (Nat.le_refl _) _).block k (Nat.lt_of_lt_of_le hk B5.out.size)]; exact B5.out.block k hk⟩⟩
    have FA : Hid (stepFault ks X l = 0 ∧ StepR ks X l Y es ∧ Wd.wfault ks Y = 0) := ⟨hf0, hY, hyf⟩
    obtain ⟨s1, l1, s2, l2, s3, l3, s4, l4, s5, l5, rfl⟩ := wl_shape9 hwo.l
    have LY : Hid (Wl w5 (.agg #[.int .i64 Y.turn, .int .i64 Y.next, .int .i64 Y.wide, .int .i64 Y.high, .slice s1 Y.gs.length l1, .slice s2 Y.os.length l2, .slice s3 Y.gold.length l3, .slice s4 Y.us.length l4, .slice s5 Y.qs.length l5]) Y) := hwo.l
    have HYT : Hid (Y.turn = X.turn + 1) := hyt
    clear hs hr hwo hY hyf hyt
    have TB := turn_ok hf0
    have NW : IntKind.i64.wrap (X.turn + 1) = X.turn + 1 := by rw [IntKind.wrap_i64]; omega
    clear TB hf0
    have BA : Hid (Below w5.heap.size w5 (w5.alloc (Obj.cells #[.int .i64 Y.turn, .int .i64 Y.next, .int .i64 Y.wide, .int .i64 Y.high, .slice s1 Y.gs.length l1, .slice s2 Y.os.length l2, .slice s3 Y.gold.length l3, .slice s4 Y.us.length l4, .slice s5 Y.qs.length l5] 29))) := (Below.refl _ _).alloc (Nat.le_refl _) _
    obtain ⟨bx, hbx⟩ : ∃ z, w5.heap.size = z := ⟨_, rfl⟩
    have Y6 : Hid (Bw (w5.alloc (Obj.cells #[.int .i64 Y.turn, .int .i64 Y.next, .int .i64 Y.wide, .int .i64 Y.high, .slice s1 Y.gs.length l1, .slice s2 Y.os.length l2, .slice s3 Y.gold.length l3, .slice s4 Y.us.length l4, .slice s5 Y.qs.length l5] 29)) bx Y (.slice s1 Y.gs.length l1) (.slice s2 Y.os.length l2) (.slice s3 Y.gold.length l3) (.slice s4 Y.us.length l4) (.slice s5 Y.qs.length l5)) := Bw.mk' Y _ _ _ _ _ hbx
    have NX : Hid (w.heap.size < bx) := by rw [← hbx]; exact X5.out.lt
    go_upto_region 10 with fail
    (try rw [hbx])
    generalize (w5.alloc (Obj.cells #[.int .i64 Y.turn, .int .i64 Y.next, .int .i64 Y.wide, .int .i64 Y.high, .slice s1 Y.gs.length l1, .slice s2 Y.os.length l2, .slice s3 Y.gold.length l3, .slice s4 Y.us.length l4, .slice s5 Y.qs.length l5] 29)) = w6 at *
    have B6 : Hid (Below w.heap.size w w6) := B5.out.trans (BA.out.mono B5.out.size)
    have X6 : Hid (Bw w6 w.heap.size X (.slice p1 X.gs.length q1) (.slice p2 X.os.length q2) (.slice p3 X.gold.length q3) (.slice p4 X.us.length q4) (.slice p5 X.qs.length q5)) := X5.out.below BA.out X5.out.lt
    have L6 : Hid (Wl w6 (.agg #[.int .i64 Y.turn, .int .i64 Y.next, .int .i64 Y.wide, .int .i64 Y.high, .slice s1 Y.gs.length l1, .slice s2 Y.os.length l2, .slice s3 Y.gold.length l3, .slice s4 Y.us.length l4, .slice s5 Y.qs.length l5]) Y) := LY.out.below BA.out
    clear BA LY B5 X5 hbx
    obtain ⟨y0, y1, y2, y3, y4, y5, y6, y7, y8⟩ := Y6.out
    go_wp2_with fail
    refine (right_fw _ _ ks Y w6 (K.out.1.below B6.out) K.out.2 L6.out FA.out.2.2).mono ?_
    rintro e w7 ⟨rfl, hb⟩
    have B7 : Hid (Below w.heap.size w w7) := B6.out.trans (hb.mono B6.out.size)
    have X7 : Hid (Bw w7 w.heap.size X (.slice p1 X.gs.length q1) (.slice p2 X.os.length q2) (.slice p3 X.gold.length q3) (.slice p4 X.us.length q4) (.slice p5 X.qs.length q5)) := X6.out.below hb X6.out.lt
    have Y7 : Hid (Bw w7 bx Y (.slice s1 Y.gs.length l1) (.slice s2 Y.os.length l2) (.slice s3 Y.gold.length l3) (.slice s4 Y.us.length l4) (.slice s5 Y.qs.length l5)) := Y6.out.below hb Y6.out.lt
    have L7 : Hid (Wl w7 (.agg #[.int .i64 Y.turn, .int .i64 Y.next, .int .i64 Y.wide, .int .i64 Y.high, .slice s1 Y.gs.length l1, .slice s2 Y.os.length l2, .slice s3 Y.gold.length l3, .slice s4 Y.us.length l4, .slice s5 Y.qs.length l5]) Y) := L6.out.below hb
    clear hb y0 y1 y2 y3 y4 y5 y6 y7 y8 B6 X6 L6 Y6
    have y0 : w7.cell? ⟨bx, 0, none⟩ = some (.int .i64 (X.turn + 1)) := by rw [← HYT.out]; exact Y7.out.c0
    have x0 : w7.cell? ⟨w.heap.size, 0, none⟩ = some (.int .i64 X.turn) := X7.out.c0
    obtain ⟨LU, hLU⟩ : ∃ n, X.us.length = n := ⟨_, rfl⟩
    have x7 : w7.cell? ⟨w.heap.size, 7, none⟩ = some (.slice p4 LU q4) := by rw [← hLU]; exact X7.out.c7
    have HU : Hid (X.us.length = LU ∧ LU ≤ 40) := ⟨hLU, by rw [← hLU]; exact (wright_of (To.fault_turned FA.out.1).1).ul⟩
    have UL : Hid (Unl w (.slice p4 LU q4) X.us) := by unfold Hid; rw [← hLU]; exact wl_units H.out
    have ND : Hid ((X.us.map UnV.id).Nodup ∧ l.length ≤ 60) := ⟨To.ids_nodup (wright_of (To.fault_turned FA.out.1).1), (Od.faults_ok (To.fault_turned FA.out.1).2.1).1⟩
    clear hLU
    go_upto_region 15 with fail
    clear x0 y0
    go_loopw [17, 16] (fun p v W => Tl1 X.us l w7 p v W) (fun p _ _ => (intOf p + 1).toNat)
    case atStart => exact ⟨0, 3, by omega, by omega, rfl, by rw [To.tw_zero]; exact Oro.nil _ _, Below.refl _ _⟩
    case round =>
      obtain ⟨m, pp, hm, hpp, rfl, ho, hb⟩ := hrel
      have O1 : Hid (Oro wr w7.heap.size u16 (To.tw X.us l m 0 0)) := ho
      have BR : Hid (Below w7.heap.size w7 wr) := hb
      have PP : Hid (pp = 3 - (m : Int)) := hpp
      clear ho hb
      by_cases hm4 : m = 4
      case neg =>
        have hmi : (0 : Int) ≤ pp := by omega
        have x7r : wr.cell? ⟨w.heap.size, 7, none⟩ = some (.slice p4 LU q4) := by rw [BR.out.cell (p := ⟨w.heap.size, 7, none⟩) X7.out.lt]; exact x7
        have LW : IntKind.i64.wrap ((LU : Int) - 1) = (LU : Int) - 1 := by have := HU.out.2; rw [IntKind.wrap_i64]; omega
        have MW : IntKind.i64.wrap (pp - 1) = pp - 1 := by rw [IntKind.wrap_i64]; omega
        clear hpp
        go_upto_region 18 with fail
        clear x7r
        go_loopw [18, 16] (fun i v W => Tl2 X.us l m LU w7 i v W) (fun i _ _ => (intOf i + 1).toNat)
        case atStart => exact ⟨0, _, by omega, by simp, rfl, O1.out, BR.out⟩
        case round =>
          obtain ⟨k, ii, hk, hii, rfl, ho, hb⟩ := hrel
          have O2 : Hid (Oro wr w7.heap.size u16 (To.tw X.us l m k 0)) := ho
          have BR2 : Hid (Below w7.heap.size w7 wr) := hb
          clear ho hb
          by_cases hkl : k = LU
          case pos =>
            have O3 : Hid (Oro wr w7.heap.size u16 (To.tw X.us l (m + 1) 0 0)) := by have h := O2.out; rw [hkl, ← HU.out.1, To.tw_player] at h; exact h
            have hki : ¬ (0 : Int) ≤ ii := by omega
            clear hii
            go_wp2
            go_round
            case rel => exact ⟨m + 1, _, by omega, by have := PP.out; omega, rfl, O3.out, BR2.out⟩
            case measure => simp only [intOf]; omega
          case neg =>
            obtain ⟨ik, rfl⟩ : ∃ ik : Nat, ii = (ik : Nat) := ⟨ii.toNat, by omega⟩
            have IK : Hid (ik + k + 1 = LU) := by unfold Hid; omega
            have hki : (0 : Int) ≤ (ik : Int) := by omega
            have hkl2 : (ik : Int) < (LU : Int) := by omega
            have hkl3 : ik < LU := by omega
            have KWr : IntKind.i64.wrap ((ik : Int) - 1) = (ik : Int) - 1 := by have := HU.out.2; rw [IntKind.wrap_i64]; omega
            obtain ⟨v, hv⟩ : ∃ v, X.us[ik]? = some v := ⟨_, List.getElem?_eq_getElem (by have := HU.out.1; omega)⟩
            have HV : Hid (X.us[X.us.length - 1 - k]? = some v ∧ X.us[ik]? = some v) := ⟨by rw [show X.us.length - 1 - k = ik by have := HU.out.1; have := IK.out; omega]; exact hv, hv⟩
            clear hv hii
            go_upto_region 21 with fail
            go_loopw [19, 16] (fun n v W => Tl3 X.us l m k w7 n v W) (fun n _ _ => l.length - (intOf n).toNat)
            case atStart => exact ⟨0, Nat.zero_le _, rfl, O2.out, BR2.out⟩
            case round =>
              obtain ⟨n, hn, rfl, ho, hb⟩ := hrel
              have O3 : Hid (Oro wr w7.heap.size u16 (To.tw X.us l m k n)) := ho
              have BR3 : Hid (Below w7.heap.size w7 wr) := hb
              clear ho hb
              by_cases hnl : n = l.length
              case pos =>
                have O4 : Hid (Oro wr w7.heap.size u16 (To.tw X.us l m (k + 1) 0)) := by have h := O3.out; rw [hnl, To.tw_unit (by omega) (by have := HU.out.1; omega) HV.out.1] at h; exact h
                subst hnl
                go_wp2
                go_round
                case rel => exact ⟨k + 1, _, by omega, by have := IK.out; omega, rfl, O4.out, BR3.out⟩
                case measure => simp only [intOf]; omega
              case neg =>
                have hnk : n < l.length := by omega
                have hni : (n : Int) < (l.length : Nat) := by omega
                obtain ⟨o, ho⟩ : ∃ o, l[n]? = some o := ⟨_, List.getElem?_eq_getElem hnk⟩
                have HO : Hid (l[n]? = some o) := ho
                have BW : Hid (Below w.heap.size w wr) := B7.out.trans (BR3.out.mono B7.out.size)
                obtain ⟨al, cl, el, -, -, hl3⟩ := L.out.below BW.out
                injection el with el1 el2 el3
                subst el1 el3
                obtain ⟨xl, rfl, -, hxl⟩ := hl3 (by rintro rfl; simp at hnk)
                obtain ⟨r0, r1, r2, r3⟩ := hxl n o ho
                obtain ⟨au, cu, eu, -, -, hu3⟩ := UL.out.below BW.out
                injection eu with eu1 eu2 eu3
                subst eu1 eu3
                obtain ⟨xu, rfl, -, hxu⟩ := hu3 (by intro h; have h1 := HU.out.1; rw [h] at h1; simp at h1; omega)
                obtain ⟨v0, v1, v2, v3, v4, v5, v6, v7⟩ := hxu ik v HV.out.2
                have x7r : wr.cell? ⟨w.heap.size, 7, none⟩ = some (.slice (some xu) LU q4) := by rw [BR3.out.cell (p := ⟨w.heap.size, 7, none⟩) X7.out.lt]; exact x7
                clear hl3 hxl hu3 hxu ho el2 eu2 v1 v2 v3 v4 v5 v6 v7
                by_cases c1 : o.player = pp
                case neg =>
                  have c1b : (o.player == pp) = false := beq_eq_false_iff_ne.2 c1
                  have NK : Hid (To.tw X.us l m k (n + 1) = To.tw X.us l m k n) := To.tw_no HV.out.1 HO.out (fun h => c1 (by rw [PP.out]; exact h.1))
                  clear c1
                  go_upto_region 23 with fail
                  go_quiet (fail)
                  go_wp2
                  go_round
                  case rel => exact ⟨n + 1, by omega, by go_num, by rw [NK.out]; exact O3.out, below_dn BR3.out _⟩
                  case measure => simp [intOf]; omega
                have c1b : (o.player == pp) = true := beq_iff_eq.2 c1
                by_cases c2 : o.unit = v.id
                case neg =>
                  have c2b : (o.unit == v.id) = false := beq_eq_false_iff_ne.2 c2
                  have NK : Hid (To.tw X.us l m k (n + 1) = To.tw X.us l m k n) := To.tw_no HV.out.1 HO.out (fun h => c2 h.2)
                  clear c1 c2
                  go_upto_region 23 with fail
                  go_quiet (fail)
                  go_wp2
                  go_round
                  case rel => exact ⟨n + 1, by omega, by go_num, by rw [NK.out]; exact O3.out, below_dn BR3.out _⟩
                  case measure => simp [intOf]; omega
                have c2b : (o.unit == v.id) = true := beq_iff_eq.2 c2
                have NK : Hid (To.tw X.us l m k (n + 1) = To.tw X.us l m k n ++ [o]) := To.tw_yes HV.out.1 HO.out ⟨by rw [c1]; exact PP.out, c2⟩
                have KL : Hid ((To.tw X.us l m k n).length ≤ 120) := by have h1 := To.tw_len (us := X.us) (l := l) (m := m) (k := k) (n := n) ND.out.1; have h2 := ND.out.2; unfold Hid; omega
                clear c1 c2
                go_upto_region 23 with fail
                go_quiet (fail)
                go_upto_region 24 with fail
                have DQ : Hid (Below wr.heap.size wr (wr.drewN nq)) := below_dn (Below.refl _ _) _
                generalize wr.drewN nq = wq at *
                have BQ : Hid (Below w7.heap.size w7 wq) := BR3.out.trans (DQ.out.mono BR3.out.size)
                have OQ : Hid (Oro wq w7.heap.size u16 (To.tw X.us l m k n)) := O3.out.below DQ.out
                have RQ : Hid (Orc wq (xl.add (n * 4)) o) := Orc.below ⟨r0, r1, r2, r3⟩ DQ.out (cell_lt r0)
                clear r0 r1 r2 r3 v0 x7r c1b c2b
                obtain ⟨r0, r1, r2, r3⟩ := RQ.out
                have OA : Hid (Oro (wq.alloc (Obj.cells #[.int .i64 o.player, .int .i64 o.unit, .int .i64 o.what, .int .i64 o.arg] 40)) w7.heap.size u16 (To.tw X.us l m k n)) := OQ.out.alloc _
                have RC : Hid (Orc (wq.alloc (Obj.cells #[.int .i64 o.player, .int .i64 o.unit, .int .i64 o.what, .int .i64 o.arg] 40)) ⟨wq.heap.size, 0, none⟩ o) := Orc.mk' (w := wq) o rfl
                have BB : Hid (Below w7.heap.size w7 (wq.alloc (Obj.cells #[.int .i64 o.player, .int .i64 o.unit, .int .i64 o.what, .int .i64 o.arg] 40))) := BQ.out.alloc BQ.out.size _
                go_wp2_with (at_builtin; refine app_or _ rfl _ _ rfl w7.heap.size _ (To.tw X.us l m k n) rfl OA.out wq.heap.size o rfl RC.out (by have := KL.out; omega) BB.out.size ?_)
                intro g cap w5' o5 g5 a5 l5
                have B5' : Hid (Below w7.heap.size w7 w5') := BB.out.grown g5 BB.out.size (fun k hk => (OQ.out.block k hk).1)
                have O5 : Hid (Oro w5' w7.heap.size (.slice (some ⟨g, 0, none⟩) ((To.tw X.us l m k n).length + 1) cap) (To.tw X.us l m k (n + 1))) := by unfold Hid; rw [NK.out]; exact o5
                clear o5 g5 a5 l5 r0 r1 r2 r3
                go_wp2
                go_round
                case rel => exact ⟨n + 1, by omega, by go_num, O5.out, B5'.out⟩
                case measure => simp [intOf]; omega
      case pos =>
        have hmi : ¬ (0 : Int) ≤ pp := by omega
        clear hpp
        subst hm4
        obtain ⟨T, hT⟩ : ∃ T, To.trn (To.keys X.us) l = T := ⟨_, rfl⟩
        have HT : Hid (To.trn (To.keys X.us) l = T) := hT
        have O5 : Hid (Oro wr w7.heap.size u16 T) := by have h := O1.out; rw [To.tw_all, hT] at h; exact h
        obtain ⟨a16, c16, rfl⟩ := O5.out.len
        clear hT O1
        have BW : Hid (Below w.heap.size w wr) := B7.out.trans (BR.out.mono B7.out.size)
        have X8 : Hid (Bw wr w.heap.size X (.slice p1 X.gs.length q1) (.slice p2 X.os.length q2) (.slice p3 X.gold.length q3) (.slice p4 X.us.length q4) (.slice p5 X.qs.length q5)) := X7.out.below BR.out X7.out.lt
        have Y8 : Hid (Bw wr bx Y (.slice s1 Y.gs.length l1) (.slice s2 Y.os.length l2) (.slice s3 Y.gold.length l3) (.slice s4 Y.us.length l4) (.slice s5 Y.qs.length l5)) := Y7.out.below BR.out Y7.out.lt
        have L8 : Hid (Wl wr (.agg #[.int .i64 Y.turn, .int .i64 Y.next, .int .i64 Y.wide, .int .i64 Y.high, .slice s1 Y.gs.length l1, .slice s2 Y.os.length l2, .slice s3 Y.gold.length l3, .slice s4 Y.us.length l4, .slice s5 Y.qs.length l5]) Y) := L7.out.below BR.out
        clear x7
        obtain ⟨x0, x1, x2, x3, x4, x5, x6, x7, x8⟩ := X8.out
        go_wp2_with fail
        refine (Step_any _ _ _ ks X T wr (K.out.1.below BW.out) K.out.2 (H.out.below BW.out) O5.out.l (SDH.out.below BW.out)).mono ?_
        rintro e w8 ⟨v, ev2, r, rfl, hr, hs, hb⟩
        rw [← HT.out] at hr hs
        obtain ⟨rfl, hwo⟩ := To.to_second FA.out.1 FA.out.2.1 hs hr
        obtain ⟨g1, j1, g2, j2, g3, j3, g4, j4, g5, j5, rfl⟩ := wl_shape9 hwo.l
        have LZ : Hid (Wl w8 (.agg #[.int .i64 Y.turn, .int .i64 Y.next, .int .i64 Y.wide, .int .i64 Y.high, .slice g1 Y.gs.length j1, .slice g2 Y.os.length j2, .slice g3 Y.gold.length j3, .slice g4 Y.us.length j4, .slice g5 Y.qs.length j5]) Y) := hwo.l
        have B8 : Hid (Below w.heap.size w w8) := BW.out.trans (hb.mono BW.out.size)
        have Y9 : Hid (Bw w8 bx Y (.slice s1 Y.gs.length l1) (.slice s2 Y.os.length l2) (.slice s3 Y.gold.length l3) (.slice s4 Y.us.length l4) (.slice s5 Y.qs.length l5)) := Y8.out.below hb Y8.out.lt
        have L9 : Hid (Wl w8 (.agg #[.int .i64 Y.turn, .int .i64 Y.next, .int .i64 Y.wide, .int .i64 Y.high, .slice s1 Y.gs.length l1, .slice s2 Y.os.length l2, .slice s3 Y.gold.length l3, .slice s4 Y.us.length l4, .slice s5 Y.qs.length l5]) Y) := L8.out.below hb
        clear hb hs hr hwo x0 x1 x2 x3 x4 x5 x6 x7 x8 X8 Y8 L8
        have BA : Hid (Below w8.heap.size w8 (w8.alloc (Obj.cells #[.int .i64 Y.turn, .int .i64 Y.next, .int .i64 Y.wide, .int .i64 Y.high, .slice g1 Y.gs.length j1, .slice g2 Y.os.length j2, .slice g3 Y.gold.length j3, .slice g4 Y.us.length j4, .slice g5 Y.qs.length j5] 29))) := (Below.refl _ _).alloc (Nat.le_refl _) _
        obtain ⟨by_, hby⟩ : ∃ z, w8.heap.size = z := ⟨_, rfl⟩
        have Z9 : Hid (Bw (w8.alloc (Obj.cells #[.int .i64 Y.turn, .int .i64 Y.next, .int .i64 Y.wide, .int .i64 Y.high, .slice g1 Y.gs.length j1, .slice g2 Y.os.length j2, .slice g3 Y.gold.length j3, .slice g4 Y.us.length j4, .slice g5 Y.qs.length j5] 29)) by_ Y (.slice g1 Y.gs.length j1) (.slice g2 Y.os.length j2) (.slice g3 Y.gold.length j3) (.slice g4 Y.us.length j4) (.slice g5 Y.qs.length j5)) := Bw.mk' Y _ _ _ _ _ hby
        go_upto_region 26 with fail
        (try rw [hby])
        generalize (w8.alloc (Obj.cells #[.int .i64 Y.turn, .int .i64 Y.next, .int .i64 Y.wide, .int .i64 Y.high, .slice g1 Y.gs.length j1, .slice g2 Y.os.length j2, .slice g3 Y.gold.length j3, .slice g4 Y.us.length j4, .slice g5 Y.qs.length j5] 29)) = w9 at *
        have B9 : Hid (Below w.heap.size w w9) := B8.out.trans (BA.out.mono B8.out.size)
        have YA : Hid (Bw w9 bx Y (.slice s1 Y.gs.length l1) (.slice s2 Y.os.length l2) (.slice s3 Y.gold.length l3) (.slice s4 Y.us.length l4) (.slice s5 Y.qs.length l5)) := Y9.out.below BA.out Y9.out.lt
        have LA : Hid (Wl w9 (.agg #[.int .i64 Y.turn, .int .i64 Y.next, .int .i64 Y.wide, .int .i64 Y.high, .slice s1 Y.gs.length l1, .slice s2 Y.os.length l2, .slice s3 Y.gold.length l3, .slice s4 Y.us.length l4, .slice s5 Y.qs.length l5]) Y) := L9.out.below BA.out
        have LB : Hid (Wl w9 (.agg #[.int .i64 Y.turn, .int .i64 Y.next, .int .i64 Y.wide, .int .i64 Y.high, .slice g1 Y.gs.length j1, .slice g2 Y.os.length j2, .slice g3 Y.gold.length j3, .slice g4 Y.us.length j4, .slice g5 Y.qs.length j5]) Y) := LZ.out.below BA.out
        clear BA Y9 L9 LZ B8 hby
        obtain ⟨y0, y1, y2, y3, y4, y5, y6, y7, y8⟩ := YA.out
        obtain ⟨z0, z1, z2, z3, z4, z5, z6, z7, z8⟩ := Z9.out
        go_wp2_with fail
        refine (worlds_like _ _ Y w9 LA.out LB.out).mono ?_
        rintro e w10 ⟨rfl, hb⟩
        have B10 : Hid (Below w.heap.size w w10) := B9.out.trans (hb.mono B9.out.size)
        clear hb y0 y1 y2 y3 y4 y5 y6 y7 y8 z0 z1 z2 z3 z4 z5 z6 z7 z8
        go_wp2
        go_ret
        exact ⟨rfl, B10.out⟩
end Go.Proofs.YtkejdkajfnaieaaGreatDoor.turnOrder

