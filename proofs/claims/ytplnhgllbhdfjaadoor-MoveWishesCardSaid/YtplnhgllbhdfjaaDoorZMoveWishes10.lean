/- MoveWishes: the walk. -/
import Derived.Test.YtplnhgllbhdfjaaDoorZMoveWishes6
import Derived.Test.YtplnhgllbhdfjaaDoorZMoveWishes8
import Derived.Test.YtplnhgllbhdfjaaDoorZMoveWishes9
import Derived.BigQuiet
namespace Go.Proofs.YtplnhgllbhdfjaaDoor.moveWishes
open Go.RowKit
set_option linter.unusedVariables false

theorem s3_fault : Wd.wfault SK S3 = 0 := by decide +kernel
/-- the fact: who rests wishes to be where it is. -/
theorem sm_wish {c F : Int} (h : WisSays SK S3 2 c F) : c = 3 ∧ F = 0 := by
  rcases h with ⟨h, -⟩ | ⟨-, h, -⟩ | ⟨-, rfl, n, cn, Wn, Hn, u, k, hn, rfl, hu, -, -, -, -, ht, -⟩
  · exact absurd s3_fault h
  · exact absurd (by decide) h
  · obtain rfl : n = 2 := by omega
    have hu' : (⟨3, 1, 2, 3, 20, 0, 0, 0⟩ : UnV) = u := Option.some.inj hu
    subst hu'
    have := wish_rest ht rfl
    exact ⟨this.symm, rfl⟩
set_option maxRecDepth 100000 in
set_option maxHeartbeats 50000000 in
theorem walk (vk : Value) (ks : List KV) (vw : Value) (X : WV) (i : Int) (w : World)
    (h0 : Kl w vk ks ∧ ∀ k ∈ ks, k.b.size ≤ maxLen) (h1 : Wl w vw X ∧ ∀ n ∈ Wd.nums X, Wd.In64 n) (h2 : (Lit.int .i64 i).wf = true) (hsd : Sd w) :
    Calls Tryd.prog 3 #[vk, vw, .int .i64 i] w fun e w' => e = .returned (.bool true) ∧ Below w.heap.size w w' := by
  have K : Hid (Kl w vk ks ∧ ∀ k ∈ ks, k.b.size ≤ 9223372036854775807) := ⟨h0.1, fun k hk => by have := h0.2 k hk; unfold maxLen at this; omega⟩
  have H : Hid (Wl w vw X) := h1.1
  have S : Hid (Sd w) := hsd
  obtain ⟨p1, q1, p2, q2, p3, q3, p4, q4, p5, q5, rfl⟩ := wl_shape9 h1.1
  obtain ⟨pk, qk, rfl, ck1, ck2, kc⟩ := h0.1
  have KC : Hid (ks ≠ [] → ∃ x, pk = some x ∧ x.block < w.heap.size ∧ ∀ (i : Nat) k, ks[i]? = some k → Kc w (x.add (i * 11)) k) := kc
  clear h0 h1 h2 kc hsd
  go_enter Tryd.func3, Tryd.ntmps3
  go_upto_region 1 with fail
  have B0 : Hid (Below w.heap.size w (w.alloc (Obj.cells #[.int .i64 X.turn, .int .i64 X.next, .int .i64 X.wide, .int .i64 X.high, .slice p1 X.gs.length q1, .slice p2 X.os.length q2, .slice p3 X.gold.length q3, .slice p4 X.us.length q4, .slice p5 X.qs.length q5] 29))) := (Below.refl _ _).alloc (Nat.le_refl _) _
  have X0 : Hid (Bw (w.alloc (Obj.cells #[.int .i64 X.turn, .int .i64 X.next, .int .i64 X.wide, .int .i64 X.high, .slice p1 X.gs.length q1, .slice p2 X.os.length q2, .slice p3 X.gold.length q3, .slice p4 X.us.length q4, .slice p5 X.qs.length q5] 29)) w.heap.size X (.slice p1 X.gs.length q1) (.slice p2 X.os.length q2) (.slice p3 X.gold.length q3) (.slice p4 X.us.length q4) (.slice p5 X.qs.length q5)) := Bw.mk' X _ _ _ _ _ rfl
  generalize (w.alloc (Obj.cells #[.int .i64 X.turn, .int .i64 X.next, .int .i64 X.wide, .int .i64 X.high, .slice p1 X.gs.length q1, .slice p2 X.os.length q2, .slice p3 X.gold.length q3, .slice p4 X.us.length q4, .slice p5 X.qs.length q5] 29)) = w0 at *
  go_wp2_with fail
  refine (small_any w0).mono ?_
  rintro e w1 ⟨u, rfl, ho, hb⟩
  have B1 : Hid (Below w.heap.size w w1) := B0.out.trans (hb.mono B0.out.size)
  have X1 : Hid (Bw w1 w.heap.size X (.slice p1 X.gs.length q1) (.slice p2 X.os.length q2) (.slice p3 X.gold.length q3) (.slice p4 X.us.length q4) (.slice p5 X.qs.length q5)) := X0.out.below hb X0.out.lt
  have LS0 := ho.l
  obtain ⟨y1, y2, y3, y4, y5, rfl, o1, o2, o3, o4, o5⟩ := ho
  obtain ⟨m1, n1, rfl⟩ := o1.len
  obtain ⟨m2, n2, rfl⟩ := o2.len
  obtain ⟨m3, n3, rfl⟩ := o3.len
  obtain ⟨m4, n4, rfl⟩ := o4.len
  obtain ⟨m5, n5, rfl⟩ := o5.len
  have LS : Hid (Wl w1 (.agg #[.int .i64 0, .int .i64 4, .int .i64 4, .int .i64 2, .slice m1 8 n1, .slice m2 8 n2, .slice m3 2 n3, .slice m4 3 n4, .slice m5 0 n5]) S3) := LS0
  obtain ⟨g1, g2, g3, g4, g5, g6, g7, g8, g9⟩ := s3_eqs
  simp only [g1, g2, g3, g4, g5, g6, g7, g8, g9]
  clear g1 g2 g3 g4 g5 g6 g7 g8 g9 hb o1 o2 o3 o4 o5 X0 B0 LS0
  go_upto_region 2 with fail
  have BA : Hid (Below w1.heap.size w1 (w1.alloc (Obj.cells #[.int .i64 0, .int .i64 4, .int .i64 4, .int .i64 2, .slice m1 8 n1, .slice m2 8 n2, .slice m3 2 n3, .slice m4 3 n4, .slice m5 0 n5] 29))) := (Below.refl _ _).alloc (Nat.le_refl _) _
  obtain ⟨z, hz⟩ : ∃ z, w1.heap.size = z := ⟨_, rfl⟩
  have C2 : Hid ((fun V : World => V.cell? ⟨z, 0, none⟩ = some (.int .i64 0) ∧ V.cell? ⟨z, 1, none⟩ = some (.int .i64 4) ∧ V.cell? ⟨z, 2, none⟩ = some (.int .i64 4) ∧ V.cell? ⟨z, 3, none⟩ = some (.int .i64 2) ∧ V.cell? ⟨z, 4, none⟩ = some (.slice m1 8 n1) ∧ V.cell? ⟨z, 5, none⟩ = some (.slice m2 8 n2) ∧ V.cell? ⟨z, 6, none⟩ = some (.slice m3 2 n3) ∧ V.cell? ⟨z, 7, none⟩ = some (.slice m4 3 n4) ∧ V.cell? ⟨z, 8, none⟩ = some (.slice m5 0 n5)) (w1.alloc (Obj.cells #[.int .i64 0, .int .i64 4, .int .i64 4, .int .i64 2, .slice m1 8 n1, .slice m2 8 n2, .slice m3 2 n3, .slice m4 3 n4, .slice m5 0 n5] 29))) := by
    subst hz
    exact ⟨by simp, by simp, by simp, by simp, by simp, by simp, by simp, by simp, by simp⟩
  have ZL : Hid (z < (w1.alloc (Obj.cells #[.int .i64 0, .int .i64 4, .int .i64 4, .int .i64 2, .slice m1 8 n1, .slice m2 8 n2, .slice m3 2 n3, .slice m4 3 n4, .slice m5 0 n5] 29)).heap.size) := by unfold Hid; rw [← hz]; simp
  generalize (w1.alloc (Obj.cells #[.int .i64 0, .int .i64 4, .int .i64 4, .int .i64 2, .slice m1 8 n1, .slice m2 8 n2, .slice m3 2 n3, .slice m4 3 n4, .slice m5 0 n5] 29)) = w2 at *
  have B2 : Hid (Below w.heap.size w w2) := B1.out.trans (BA.out.mono B1.out.size)
  have X2 : Hid (Bw w2 w.heap.size X (.slice p1 X.gs.length q1) (.slice p2 X.os.length q2) (.slice p3 X.gold.length q3) (.slice p4 X.us.length q4) (.slice p5 X.qs.length q5)) := X1.out.below BA.out X1.out.lt
  have L2 : Hid (Wl w2 (.agg #[.int .i64 0, .int .i64 4, .int .i64 4, .int .i64 2, .slice m1 8 n1, .slice m2 8 n2, .slice m3 2 n3, .slice m4 3 n4, .slice m5 0 n5]) S3) := LS.out.below BA.out
  rw [hz]
  clear X1 B1 BA LS hz
  go_upto_region 4 with fail
  refine wp_region_two [(true, 1), (false, 0), (false, 2), (true, 3)] [(true, 4), (true, 5), (false, 6), (false, 7)] (fun V => V.cell? ⟨z, 0, none⟩ = some (.int .i64 0) ∧ V.cell? ⟨z, 1, none⟩ = some (.int .i64 4) ∧ V.cell? ⟨z, 2, none⟩ = some (.int .i64 4) ∧ V.cell? ⟨z, 3, none⟩ = some (.int .i64 2) ∧ V.cell? ⟨z, 4, none⟩ = some (.slice m1 8 n1) ∧ V.cell? ⟨z, 5, none⟩ = some (.slice m2 8 n2) ∧ V.cell? ⟨z, 6, none⟩ = some (.slice m3 2 n3) ∧ V.cell? ⟨z, 7, none⟩ = some (.slice m4 3 n4) ∧ V.cell? ⟨z, 8, none⟩ = some (.slice m5 0 n5)) (by kernel_rfl) (by kernel_rfl) (by kernel_rfl) (by decide +kernel) (by decide +kernel) C2.out ?_
  have CB : Hid (∀ (A B : World) (n : Nat), z < n → Below n A B → (fun V : World => V.cell? ⟨z, 0, none⟩ = some (.int .i64 0) ∧ V.cell? ⟨z, 1, none⟩ = some (.int .i64 4) ∧ V.cell? ⟨z, 2, none⟩ = some (.int .i64 4) ∧ V.cell? ⟨z, 3, none⟩ = some (.int .i64 2) ∧ V.cell? ⟨z, 4, none⟩ = some (.slice m1 8 n1) ∧ V.cell? ⟨z, 5, none⟩ = some (.slice m2 8 n2) ∧ V.cell? ⟨z, 6, none⟩ = some (.slice m3 2 n3) ∧ V.cell? ⟨z, 7, none⟩ = some (.slice m4 3 n4) ∧ V.cell? ⟨z, 8, none⟩ = some (.slice m5 0 n5)) A → (fun V : World => V.cell? ⟨z, 0, none⟩ = some (.int .i64 0) ∧ V.cell? ⟨z, 1, none⟩ = some (.int .i64 4) ∧ V.cell? ⟨z, 2, none⟩ = some (.int .i64 4) ∧ V.cell? ⟨z, 3, none⟩ = some (.int .i64 2) ∧ V.cell? ⟨z, 4, none⟩ = some (.slice m1 8 n1) ∧ V.cell? ⟨z, 5, none⟩ = some (.slice m2 8 n2) ∧ V.cell? ⟨z, 6, none⟩ = some (.slice m3 2 n3) ∧ V.cell? ⟨z, 7, none⟩ = some (.slice m4 3 n4) ∧ V.cell? ⟨z, 8, none⟩ = some (.slice m5 0 n5)) B) := fun A B n hn hb h => by
    obtain ⟨f0, f1, f2, f3, f4, f5, f6, f7, f8⟩ := h
    exact ⟨by rw [hb.cell (p := ⟨z, 0, none⟩) hn]; exact f0, by rw [hb.cell (p := ⟨z, 1, none⟩) hn]; exact f1, by rw [hb.cell (p := ⟨z, 2, none⟩) hn]; exact f2, by rw [hb.cell (p := ⟨z, 3, none⟩) hn]; exact f3, by rw [hb.cell (p := ⟨z, 4, none⟩) hn]; exact f4, by rw [hb.cell (p := ⟨z, 5, none⟩) hn]; exact f5, by rw [hb.cell (p := ⟨z, 6, none⟩) hn]; exact f6, by rw [hb.cell (p := ⟨z, 7, none⟩) hn]; exact f7, by rw [hb.cell (p := ⟨z, 8, none⟩) hn]; exact f8⟩
  have D3 : Hid (Below w2.heap.size w2 { w2 with drawn := w2.drawn + 1 }) := (Below.refl _ _).drew
  have C3 : Hid ((fun V : World => V.cell? ⟨z, 0, none⟩ = some (.int .i64 0) ∧ V.cell? ⟨z, 1, none⟩ = some (.int .i64 4) ∧ V.cell? ⟨z, 2, none⟩ = some (.int .i64 4) ∧ V.cell? ⟨z, 3, none⟩ = some (.int .i64 2) ∧ V.cell? ⟨z, 4, none⟩ = some (.slice m1 8 n1) ∧ V.cell? ⟨z, 5, none⟩ = some (.slice m2 8 n2) ∧ V.cell? ⟨z, 6, none⟩ = some (.slice m3 2 n3) ∧ V.cell? ⟨z, 7, none⟩ = some (.slice m4 3 n4) ∧ V.cell? ⟨z, 8, none⟩ = some (.slice m5 0 n5)) { w2 with drawn := w2.drawn + 1 }) := C2.out
  generalize ({ w2 with drawn := w2.drawn + 1 } : World) = w3 at *
  have B3 : Hid (Below w.heap.size w w3) := B2.out.trans (D3.out.mono B2.out.size)
  have X3 : Hid (Bw w3 w.heap.size X (.slice p1 X.gs.length q1) (.slice p2 X.os.length q2) (.slice p3 X.gold.length q3) (.slice p4 X.us.length q4) (.slice p5 X.qs.length q5)) := X2.out.below D3.out X2.out.lt
  have L3 : Hid (Wl w3 (.agg #[.int .i64 0, .int .i64 4, .int .i64 4, .int .i64 2, .slice m1 8 n1, .slice m2 8 n2, .slice m3 2 n3, .slice m4 3 n4, .slice m5 0 n5]) S3) := L2.out.below D3.out
  have Z3 : Hid (z < w3.heap.size) := Nat.lt_of_lt_of_le ZL.out D3.out.size
  clear X2 B2 L2 C2 D3 ZL
  refine headT_read rfl (.agg #[.int .i64 0, .int .i64 4, .int .i64 4, .int .i64 2, .slice m1 8 n1, .slice m2 8 n2, .slice m3 2 n3, .slice m4 3 n4, .slice m5 0 n5]) (by go_simp) (fun V hV => by obtain ⟨f0, f1, f2, f3, f4, f5, f6, f7, f8⟩ := hV; go_simp) ?_
  go_simp
  refine headT_call rfl 7 #[] (by go_simp) (by go_simp) ?_
  refine (sorts_any w3).mono ?_
  rintro e w4 ⟨ku, rfl, hk, hb⟩
  have K4 : Hid (Kl w4 ku SK) := hk
  have C4 : Hid ((fun V : World => V.cell? ⟨z, 0, none⟩ = some (.int .i64 0) ∧ V.cell? ⟨z, 1, none⟩ = some (.int .i64 4) ∧ V.cell? ⟨z, 2, none⟩ = some (.int .i64 4) ∧ V.cell? ⟨z, 3, none⟩ = some (.int .i64 2) ∧ V.cell? ⟨z, 4, none⟩ = some (.slice m1 8 n1) ∧ V.cell? ⟨z, 5, none⟩ = some (.slice m2 8 n2) ∧ V.cell? ⟨z, 6, none⟩ = some (.slice m3 2 n3) ∧ V.cell? ⟨z, 7, none⟩ = some (.slice m4 3 n4) ∧ V.cell? ⟨z, 8, none⟩ = some (.slice m5 0 n5)) w4) := CB.out w3 w4 _ Z3.out hb C3.out
  have B4 : Hid (Below w.heap.size w w4) := B3.out.trans (hb.mono B3.out.size)
  have X4 : Hid (Bw w4 w.heap.size X (.slice p1 X.gs.length q1) (.slice p2 X.os.length q2) (.slice p3 X.gold.length q3) (.slice p4 X.us.length q4) (.slice p5 X.qs.length q5)) := X3.out.below hb X3.out.lt
  have L4 : Hid (Wl w4 (.agg #[.int .i64 0, .int .i64 4, .int .i64 4, .int .i64 2, .slice m1 8 n1, .slice m2 8 n2, .slice m3 2 n3, .slice m4 3 n4, .slice m5 0 n5]) S3) := L3.out.below hb
  have Z4 : Hid (z < w4.heap.size) := Nat.lt_of_lt_of_le Z3.out hb.size
  clear hk hb X3 B3 L3 C3 Z3
  refine ⟨_, rfl, C4.out, ?_⟩
  go_simp
  refine headT_call rfl 6 #[ku, .agg #[.int .i64 0, .int .i64 4, .int .i64 4, .int .i64 2, .slice m1 8 n1, .slice m2 8 n2, .slice m3 2 n3, .slice m4 3 n4, .slice m5 0 n5], .int .i64 2] (by go_simp) (by go_simp) ?_
  refine (Wish_any ku _ SK S3 2 w4 K4.out sm_names L4.out (S.out.below B4.out)).mono ?_
  rintro e w5 ⟨c, r, F, rfl, hr, hy, hb⟩
  obtain ⟨rfl, rfl⟩ := sm_wish hy
  obtain rfl := er_zero hr
  have C5 : Hid ((fun V : World => V.cell? ⟨z, 0, none⟩ = some (.int .i64 0) ∧ V.cell? ⟨z, 1, none⟩ = some (.int .i64 4) ∧ V.cell? ⟨z, 2, none⟩ = some (.int .i64 4) ∧ V.cell? ⟨z, 3, none⟩ = some (.int .i64 2) ∧ V.cell? ⟨z, 4, none⟩ = some (.slice m1 8 n1) ∧ V.cell? ⟨z, 5, none⟩ = some (.slice m2 8 n2) ∧ V.cell? ⟨z, 6, none⟩ = some (.slice m3 2 n3) ∧ V.cell? ⟨z, 7, none⟩ = some (.slice m4 3 n4) ∧ V.cell? ⟨z, 8, none⟩ = some (.slice m5 0 n5)) w5) := CB.out w4 w5 _ Z4.out hb C4.out
  have B5 : Hid (Below w.heap.size w w5) := B4.out.trans (hb.mono B4.out.size)
  have X5 : Hid (Bw w5 w.heap.size X (.slice p1 X.gs.length q1) (.slice p2 X.os.length q2) (.slice p3 X.gold.length q3) (.slice p4 X.us.length q4) (.slice p5 X.qs.length q5)) := X4.out.below hb X4.out.lt
  clear hb hr hy X4 B4 L4 C4 Z4 K4
  refine ⟨_, rfl, C5.out, ?_⟩
  clear C5 CB
  go_simp
  refine headT_read rfl (.tuple #[.int .i64 3, .nilIface]) (by go_simp) (fun V hV => by go_simp) ?_
  go_simp
  refine sched_read rfl (.int .i64 3) (by go_simp) (fun V hV => by go_simp) ?_
  go_simp
  refine sched_read rfl .nilIface (by go_simp) (fun V hV => by go_simp) ?_
  go_simp
  refine sched_value rfl (.int .i64 3) w5 (by go_simp) (by go_simp) trivial ?_
  go_simp
  refine sched_value rfl .nilIface w5 (by go_simp) (by go_simp) trivial ?_
  go_simp
  unfold wpSched
  obtain ⟨x0, x1, x2, x3, x4, x5, x6, x7, x8⟩ := X5.out
  go_wp2_with fail
  refine (Wish_any _ _ ks X i w5 (K.out.1.below B5.out) K.out.2 (H.out.below B5.out) (S.out.below B5.out)).mono ?_
  rintro e w6 ⟨c, r, F, rfl, hr, hy, hb⟩
  have B6 : Hid (Below w.heap.size w w6) := B5.out.trans (hb.mono B5.out.size)
  have X6 : Hid (Bw w6 w.heap.size X (.slice p1 X.gs.length q1) (.slice p2 X.os.length q2) (.slice p3 X.gold.length q3) (.slice p4 X.us.length q4) (.slice p5 X.qs.length q5)) := X5.out.below hb X5.out.lt
  have SY : Hid (WisSays ks X i c F) := hy
  clear hb hy x0 x1 x2 x3 x4 x5 x6 x7 x8 X5 B5
  rcases hr with ⟨rfl, rfl⟩ | ⟨hf, rfl⟩
  case inr =>
    go_wp2
    go_ret
    exact ⟨rfl, B6.out⟩
  obtain ⟨WZ, n0, cn, Wn, Hn, u, k, rfl, rfl, hui, hwd, hhg, G, hkk, ht, hcn⟩ : Wd.wfault ks X = 0 ∧ ∃ (n cn Wn Hn : Nat) (u : UnV) (k : KV), i = n ∧ c = cn ∧ X.us[n]? = some u ∧ X.wide = (Wn : Nat) ∧ X.high = (Hn : Nat) ∧ Fd.Good Wn Hn X.gs X.os ∧ ks[u.kind.toNat]? = some k ∧ WishSays ks X Wn Hn u k cn ∧ cn < Wn * Hn := by
    rcases SY.out with ⟨h, h', -⟩ | ⟨-, -, h, -⟩ | ⟨h1, -, h2⟩
    · exact absurd h'.symm h
    · cases h
    · exact ⟨h1, h2⟩
  have WR : Hid (WRight ks X) := wright_of WZ
  obtain ⟨hfit, hgoal⟩ := right_fits WR.out G u (List.mem_of_getElem? hui)
  obtain ⟨an, han⟩ : ∃ n : Nat, u.at_ = n := ⟨u.at_.toNat, by have := hfit.2; omega⟩
  obtain ⟨gn, hgn⟩ : ∃ n : Nat, u.goal = n := ⟨u.goal.toNat, by omega⟩
  obtain ⟨kn, hkn⟩ : ∃ n : Nat, u.kind = n := ⟨u.kind.toNat, by have := hfit.1; omega⟩
  have hk2 : ks[kn]? = some k := by rw [hkn, Int.toNat_natCast] at hkk; exact hkk
  have hkl : kn < ks.length := (List.getElem?_eq_some_iff.1 hk2).1
  have hil : n0 < X.us.length := (List.getElem?_eq_some_iff.1 hui).1
  have GD : Hid (Fd.Good Wn Hn X.gs X.os ∧ X.wide = (Wn : Nat) ∧ X.high = (Hn : Nat) ∧ u.at_ = (an : Nat) ∧ u.goal = (gn : Nat) ∧ u.kind = (kn : Nat) ∧ an < Wn * Hn ∧ gn < Wn * Hn ∧ cn < Wn * Hn ∧ WishSays ks X Wn Hn u k cn) := ⟨G, hwd, hhg, han, hgn, hkn, by have := hfit.2; omega, by omega, hcn, ht⟩
  have NE : Hid (X.us ≠ []) := by intro h; rw [h] at hil; simp at hil
  obtain ⟨pa', pc', he, -, -, hu⟩ := H.out.slices.2.2.2.1
  obtain ⟨xu, hxu, hxul, hxuc⟩ := hu NE.out
  injection he with he1 he2 he3
  subst he1
  subst hxu
  obtain ⟨xk, hxk, hxl, hxc⟩ := KC.out (by intro h; subst h; simp at hkl)
  subst hxk
  have KK : Hid (Kc w (xk.add (kn * 11)) k ∧ (xk.add (kn * 11)).block < w.heap.size) := ⟨hxc kn k hk2, by rw [add_block]; exact hxl⟩
  obtain ⟨y0, y1, y2, y3, y4, y5, y6, y7⟩ := (hxuc n0 u hui).below B6.out (by rw [add_block]; exact hxul)
  obtain ⟨x0, x1, x2, x3, x4, x5, x6, x7, x8⟩ := X6.out
  clear hu he2 he3 hxul hxuc hxl hxc hwd hhg G hkk hk2 KC han hgn hkn hfit hgoal SY WZ hui ht hcn
  go_upto_region 11 with fail
  have BA : Hid (Below w6.heap.size w6 (w6.alloc (Obj.cells #[.int .i64 u.id, .int .i64 u.player, .int .i64 u.kind, .int .i64 u.at_, .int .i64 u.life, .int .i64 u.load, .int .i64 u.task, .int .i64 u.goal] 38))) := (Below.refl _ _).alloc (Nat.le_refl _) _
  obtain ⟨bu, hbu⟩ : ∃ z, w6.heap.size = z := ⟨_, rfl⟩
  have U7 : Hid (Unc (w6.alloc (Obj.cells #[.int .i64 u.id, .int .i64 u.player, .int .i64 u.kind, .int .i64 u.at_, .int .i64 u.life, .int .i64 u.load, .int .i64 u.task, .int .i64 u.goal] 38)) ⟨bu, 0, none⟩ u) := Unc.mk' u hbu
  rw [hbu]
  generalize (w6.alloc (Obj.cells #[.int .i64 u.id, .int .i64 u.player, .int .i64 u.kind, .int .i64 u.at_, .int .i64 u.life, .int .i64 u.load, .int .i64 u.task, .int .i64 u.goal] 38)) = w7 at *
  have B7 : Hid (Below w.heap.size w w7) := B6.out.trans (BA.out.mono B6.out.size)
  have X7 : Hid (Bw w7 w.heap.size X (.slice p1 X.gs.length q1) (.slice p2 X.os.length q2) (.slice p3 X.gold.length q3) (.slice (some xu) X.us.length q4) (.slice p5 X.qs.length q5)) := X6.out.below BA.out X6.out.lt
  clear y0 y1 y2 y3 y4 y5 y6 y7 x0 x1 x2 x3 x4 x5 x6 x7 x8 hbu BA B6 X6
  have c6 : w7.cell? ⟨bu, 6, none⟩ = some (.int .i64 u.task) := by have := U7.out.c6; rw [Nat.zero_add] at this; exact this
  have c3 : w7.cell? ⟨bu, 3, none⟩ = some (.int .i64 (an : Nat)) := by have := U7.out.c3; rw [Nat.zero_add, GD.out.2.2.2.1] at this; exact this
  by_cases ht1 : u.task = 1
  · have h10 : (u.task == 0) = false := by rw [ht1]; rfl
    have h11 : (u.task == 1) = true := by rw [ht1]; rfl
    have T1 : Hid (u.task = 1) := ht1
    clear ht1
    go_upto_region 14 with fail
    clear c6
    have CB : Hid (∀ V, Below w7.heap.size w7 V → (Bw V w.heap.size X (.slice p1 X.gs.length q1) (.slice p2 X.os.length q2) (.slice p3 X.gold.length q3) (.slice (some xu) X.us.length q4) (.slice p5 X.qs.length q5) ∧ V.cell? ⟨bu, 7, none⟩ = some (.int .i64 (gn : Nat)) ∧ V.cell? ⟨bu, 2, none⟩ = some (.int .i64 (kn : Nat)) ∧ V.cell? ⟨(xk.add (kn * 11)).block, (xk.add (kn * 11)).off + 9, none⟩ = some (.bool k.f))) := fun V hb => ⟨X7.out.below hb X7.out.lt, by have := (U7.out.below hb U7.out.lt).c7; rw [Nat.zero_add, GD.out.2.2.2.2.1] at this; exact this, by have := (U7.out.below hb U7.out.lt).c2; rw [Nat.zero_add, GD.out.2.2.2.2.2.1] at this; exact this, (KK.out.1.below (B7.out.trans (hb.mono B7.out.size)) KK.out.2).c9⟩
    refine wp_region_two [(true, 0), (true, 1), (true, 2), (true, 3), (true, 4), (true, 5), (true, 6), (true, 7), (true, 8), (true, 9), (false, 10)] [(true, 11), (true, 12), (true, 13), (true, 14), (false, 15)] (fun V => Bw V w.heap.size X (.slice p1 X.gs.length q1) (.slice p2 X.os.length q2) (.slice p3 X.gold.length q3) (.slice (some xu) X.us.length q4) (.slice p5 X.qs.length q5) ∧ V.cell? ⟨bu, 7, none⟩ = some (.int .i64 (gn : Nat)) ∧ V.cell? ⟨bu, 2, none⟩ = some (.int .i64 (kn : Nat)) ∧ V.cell? ⟨(xk.add (kn * 11)).block, (xk.add (kn * 11)).off + 9, none⟩ = some (.bool k.f)) (by kernel_rfl) (by kernel_rfl) (by kernel_rfl) (by decide +kernel) (by decide +kernel) (CB.out _ ((Below.refl _ _).drew)) ?_
    have D8 : Hid (Below w7.heap.size w7 { w7 with drawn := w7.drawn + 1 }) := (Below.refl _ _).drew
    generalize ({ w7 with drawn := w7.drawn + 1 } : World) = w8 at *
    have B8 : Hid (Below w.heap.size w w8) := B7.out.trans (D8.out.mono B7.out.size)
    refine headT_read rfl (.pointer (some ⟨w.heap.size, 2, none⟩)) (by go_simp) (fun V hV => by go_simp) ?_
    go_simp
    refine headT_read rfl (.agg #[.int .i64 X.wide, .int .i64 X.high, .slice p1 X.gs.length q1, .slice p2 X.os.length q2]) (by go_simp) (fun V hV => by obtain ⟨⟨x0, x1, x2, x3, x4, x5, x6, x7, x8⟩, d1, d2, d3⟩ := hV; go_simp) ?_
    go_simp
    refine headT_read rfl (.pointer (some ⟨bu, 7, none⟩)) (by go_simp) (fun V hV => by go_simp) ?_
    go_simp
    refine headT_read rfl (.int .i64 (gn : Nat)) (by go_simp) (fun V hV => by obtain ⟨⟨x0, x1, x2, x3, x4, x5, x6, x7, x8⟩, d1, d2, d3⟩ := hV; go_simp) ?_
    go_simp
    refine headT_read rfl (.slice (some xk) ks.length qk) (by go_simp) (fun V hV => by go_simp) ?_
    go_simp
    refine headT_read rfl (.pointer (some ⟨bu, 2, none⟩)) (by go_simp) (fun V hV => by go_simp) ?_
    go_simp
    refine headT_read rfl (.int .i64 (kn : Nat)) (by go_simp) (fun V hV => by obtain ⟨⟨x0, x1, x2, x3, x4, x5, x6, x7, x8⟩, d1, d2, d3⟩ := hV; go_simp) ?_
    go_simp
    refine headT_read rfl (.pointer (some (xk.add (kn * 11)))) (by go_simp) (fun V hV => by go_simp) ?_
    go_simp
    refine headT_read rfl (.pointer (some ⟨(xk.add (kn * 11)).block, (xk.add (kn * 11)).off + 9, none⟩)) (by go_simp) (fun V hV => by go_simp) ?_
    go_simp
    refine headT_read rfl (.bool k.f) (by go_simp) (fun V hV => by obtain ⟨⟨x0, x1, x2, x3, x4, x5, x6, x7, x8⟩, d1, d2, d3⟩ := hV; go_simp) ?_
    go_simp
    refine headT_call rfl 8 #[.agg #[.int .i64 X.wide, .int .i64 X.high, .slice p1 X.gs.length q1, .slice p2 X.os.length q2], .int .i64 (gn : Nat), .bool k.f] (by go_simp) (by go_simp) ?_
    have FL : Hid (Fl w8 (.agg #[.int .i64 X.wide, .int .i64 X.high, .slice p1 X.gs.length q1, .slice p2 X.os.length q2]) (Wn : Nat) (Hn : Nat) X.gs X.os) := by
      have := fl_of (H.out.below B8.out)
      rw [GD.out.2.1, GD.out.2.2.1] at this
      rw [GD.out.2.1, GD.out.2.2.1]
      exact this
    refine (Far_ok _ Wn Hn X.gs X.os gn k.f w8 FL.out (S.out.below B8.out) GD.out.1 GD.out.2.2.2.2.2.2.2.1).mono ?_
    rintro e w9 ⟨uf, lf, rfl, hro, ⟨hlf, -⟩, hb⟩
    have MA : Hid ((lf.getD an 0 < 0 → cn = an) ∧ (0 < lf.getD an 0 → lf.getD cn 0 < lf.getD an 0)) := wish_march GD.out.2.2.2.2.2.2.2.2.2 T1.out GD.out.2.2.2.1 GD.out.2.2.2.2.1 GD.out.2.2.2.2.2.2.1 GD.out.2.2.2.2.2.2.2.1 hlf
    have LL : Hid (lf.length = Wn * Hn) := hlf.1
    have RF : Hid (Ro w9 uf lf) := hro
    have D9 : Hid (Below w7.heap.size w7 w9) := D8.out.trans (hb.mono D8.out.size)
    refine ⟨_, rfl, CB.out _ D9.out, ?_⟩
    clear hb hro hlf FL B8 D8
    go_simp
    refine sched_read rfl (.tuple #[uf, .nilIface]) (by go_simp) (fun V hV => by go_simp) ?_
    go_simp
    refine sched_read rfl uf (by go_simp) (fun V hV => by go_simp) ?_
    go_simp
    refine sched_read rfl .nilIface (by go_simp) (fun V hV => by go_simp) ?_
    go_simp
    refine sched_read rfl uf (by go_simp) (fun V hV => by go_simp) ?_
    go_simp
    refine sched_value rfl .nilIface w9 (by go_simp) (by go_simp) trivial ?_
    go_simp
    unfold wpSched
    clear CB
    have c3' : w9.cell? ⟨bu, 3, none⟩ = some (.int .i64 (an : Nat)) := by rw [D9.out.cell (p := ⟨bu, 3, none⟩) (cell_lt c3)]; exact c3
    have hal : an < lf.length := by rw [LL.out]; exact GD.out.2.2.2.2.2.2.1
    have hcl : cn < lf.length := by rw [LL.out]; exact GD.out.2.2.2.2.2.2.2.2.1
    obtain ⟨af, cf, rfl, cf1, cf2, hca⟩ := RF.out
    obtain ⟨xf, rfl, -, hxf⟩ := hca (by intro h; rw [h] at hal; simp at hal)
    obtain ⟨d, hd⟩ : ∃ d, lf.getD an 0 = d := ⟨_, rfl⟩
    obtain ⟨d', hd'⟩ : ∃ d, lf.getD cn 0 = d := ⟨_, rfl⟩
    have cx : w9.cell? (xf.add an) = some (.int .i64 d) := hxf an d (by rw [← hd, List.getD_eq_getElem?_getD, List.getElem?_eq_getElem hal]; rfl)
    have cy : w9.cell? (xf.add cn) = some (.int .i64 d') := hxf cn d' (by rw [← hd', List.getD_eq_getElem?_getD, List.getElem?_eq_getElem hcl]; rfl)
    rw [hd, hd'] at MA
    clear hca hxf hd hd' c3
    go_upto_region 15 with fail
    go_cut [115] (fun v115 V => v115 = .bool false ∧ Below w9.heap.size w9 V)
    case first =>
      by_cases hd0 : d < 0
      · have hcn := MA.out.1 hd0
        clear cy
        subst hcn
        have hd1 : decide (d < 0) = true := decide_eq_true hd0
        have hd2 : ¬ 0 < d := by omega
        have hd3 : decide (0 < d) = false := decide_eq_false hd2
        go_quiet (fail)
        go_wp2_with fail
        go_meet
        case rel => exact ⟨rfl, ⟨rfl, rfl, rfl, Nat.le_refl _, fun _ _ => rfl⟩⟩
      · have hd1 : decide (d < 0) = false := decide_eq_false hd0
        by_cases hd2 : 0 < d
        · have hd3 : decide (0 < d) = true := decide_eq_true hd2
          have hlt := MA.out.2 hd2
          have hge : decide (d ≤ d') = false := decide_eq_false (by omega)
          go_quiet (fail)
          go_wp2_with fail
          go_meet
          case rel => exact ⟨by first | rfl | simp [hge], ⟨rfl, rfl, rfl, Nat.le_refl _, fun _ _ => rfl⟩⟩
        · have hd3 : decide (0 < d) = false := decide_eq_false hd2
          go_quiet (fail)
          go_wp2_with fail
          go_meet
          case rel => exact ⟨rfl, ⟨rfl, rfl, rfl, Nat.le_refl _, fun _ _ => rfl⟩⟩
    case rest =>
      obtain ⟨rfl, hbc⟩ := hcut
      have DC : Hid (Below w7.heap.size w7 wc) := D9.out.trans (hbc.mono D9.out.size)
      have BT : Hid (Below w.heap.size w wc) := B7.out.trans (DC.out.mono B7.out.size)
      have XT : Hid (Bw wc w.heap.size X (.slice p1 X.gs.length q1) (.slice p2 X.os.length q2) (.slice p3 X.gold.length q3) (.slice (some xu) X.us.length q4) (.slice p5 X.qs.length q5)) := X7.out.below DC.out X7.out.lt
      clear hbc cx cy c3' D9 DC B7 X7 h10 h11
      obtain ⟨x0, x1, x2, x3, x4, x5, x6, x7, x8⟩ := XT.out
      go_upto_region 18 with fail
      have BA : Hid (Below wc.heap.size wc (wc.alloc (Obj.cells #[.int .i64 X.turn, .int .i64 X.next, .int .i64 X.wide, .int .i64 X.high, .slice p1 X.gs.length q1, .slice p2 X.os.length q2, .slice p3 X.gold.length q3, .slice (some xu) X.us.length q4, .slice p5 X.qs.length q5] 29))) := (Below.refl _ _).alloc (Nat.le_refl _) _
      obtain ⟨bs, hbs⟩ : ∃ z, wc.heap.size = z := ⟨_, rfl⟩
      have R0 : Hid (Wx (wc.alloc (Obj.cells #[.int .i64 X.turn, .int .i64 X.next, .int .i64 X.wide, .int .i64 X.high, .slice p1 X.gs.length q1, .slice p2 X.os.length q2, .slice p3 X.gold.length q3, .slice (some xu) X.us.length q4, .slice p5 X.qs.length q5] 29)) bs (.int .i64 X.turn) (.int .i64 X.next) (.int .i64 X.wide) (.int .i64 X.high) (.slice p1 X.gs.length q1) (.slice p2 X.os.length q2) (.slice p3 X.gold.length q3) (.slice (some xu) X.us.length q4) (.slice p5 X.qs.length q5)) := Wx.new (.int .i64 X.turn) (.int .i64 X.next) (.int .i64 X.wide) (.int .i64 X.high) (.slice p1 X.gs.length q1) (.slice p2 X.os.length q2) (.slice p3 X.gold.length q3) (.slice (some xu) X.us.length q4) (.slice p5 X.qs.length q5) hbs
      rw [hbs]
      generalize (wc.alloc (Obj.cells #[.int .i64 X.turn, .int .i64 X.next, .int .i64 X.wide, .int .i64 X.high, .slice p1 X.gs.length q1, .slice p2 X.os.length q2, .slice p3 X.gold.length q3, .slice (some xu) X.us.length q4, .slice p5 X.qs.length q5] 29)) = v1 at *
      have BT1 : Hid (Below w.heap.size w v1) := BT.out.trans (BA.out.mono BT.out.size)
      have X1 : Hid (Bw v1 w.heap.size X (.slice p1 X.gs.length q1) (.slice p2 X.os.length q2) (.slice p3 X.gold.length q3) (.slice (some xu) X.us.length q4) (.slice p5 X.qs.length q5)) := XT.out.below BA.out XT.out.lt
      have BS : Hid (w.heap.size < bs) := by rw [← hbs]; exact XT.out.lt
      clear x0 x1 x2 x3 x4 x5 x6 x7 x8 hbs BA BT XT
      obtain ⟨-, -, -, -, -, -, -, y7, -⟩ := R0.out.cells
      have t7 := R0.out.thaw 7
      have R1 : Hid (Wx (v1.setCell ⟨bs, 7, none⟩ (.slice none 0 0)) bs (.int .i64 X.turn) (.int .i64 X.next) (.int .i64 X.wide) (.int .i64 X.high) (.slice p1 X.gs.length q1) (.slice p2 X.os.length q2) (.slice p3 X.gold.length q3) (.slice none 0 0) (.slice p5 X.qs.length q5)) := R0.out.set7 _
      have K1 : Hid (Kp bs v1 (v1.setCell ⟨bs, 7, none⟩ (.slice none 0 0))) := Kp.set _ _ _
      go_upto_region 19 with fail
      clear y7 t7
      generalize (v1.setCell ⟨bs, 7, none⟩ (.slice none 0 0)) = v2 at *
      have BT2 : Hid (Below w.heap.size w v2) := K1.out.below BT1.out BT1.out.size (by have := BS.out; omega)
      have X2 : Hid (Bw v2 w.heap.size X (.slice p1 X.gs.length q1) (.slice p2 X.os.length q2) (.slice p3 X.gold.length q3) (.slice (some xu) X.us.length q4) (.slice p5 X.qs.length q5)) := X1.out.kp9 K1.out (by have := BS.out; omega)
      clear K1 R0 BT1 X1
      obtain ⟨-, -, -, -, -, -, -, y7, -⟩ := R1.out.cells
      have x7 := X2.out.c7
      have US : Hid (Unl w (.slice (some xu) X.us.length q4) X.us) := H.out.slices.2.2.2.1
      have hul : X.us.length ≤ 40 := WR.out.ul
      go_wp2_with (at_builtin; refine app_uns _ rfl _ _ rfl v2.heap.size _ [] rfl (Uno.nil _ _) _ X.us rfl (US.out.below BT2.out) (by simp; omega) (Nat.le_refl _) ?_)
      intro av v3 ho0 hg _
      have ho : Uno v3 v2.heap.size av X.us := ho0
      clear ho0
      have BG : Hid (Below v2.heap.size v2 v3) := (Below.refl _ _).grown hg (Nat.le_refl _) (fun k hk => by cases hk)
      have BT3 : Hid (Below w.heap.size w v3) := BT2.out.trans (BG.out.mono BT2.out.size)
      have R3 : Hid (Wx v3 bs (.int .i64 X.turn) (.int .i64 X.next) (.int .i64 X.wide) (.int .i64 X.high) (.slice p1 X.gs.length q1) (.slice p2 X.os.length q2) (.slice p3 X.gold.length q3) (.slice none 0 0) (.slice p5 X.qs.length q5)) := R1.out.below BG.out R1.out.lt
      have X3 : Hid (Bw v3 w.heap.size X (.slice p1 X.gs.length q1) (.slice p2 X.os.length q2) (.slice p3 X.gold.length q3) (.slice (some xu) X.us.length q4) (.slice p5 X.qs.length q5)) := X2.out.below BG.out X2.out.lt
      have BL : Hid (bs < v2.heap.size) := R1.out.lt
      rcases ho.ub with ⟨-, hno⟩ | ⟨g, cap, rest, rfl, hbg, hkc, hcm, hcl, hub⟩
      · exact absurd hno NE.out
      have CP : Hid (v2.heap.size ≤ g ∧ X.us.length ≤ cap ∧ cap ≤ maxLen ∧ X.us.length * 8 + rest.length = cap * 8) := ⟨hbg, hkc, hcm, hcl⟩
      have U3 : Hid (Ub v3 g X.us rest) := hub
      have hcap : cap ≤ 9223372036854775807 := by unfold maxLen at hcm; omega
      have hcap' : X.us.length ≤ cap := hkc
      clear y7 x7 ho hg hbg hkc hcm hcl hub R1 X2 BG
      obtain ⟨-, -, -, -, -, -, -, y7, -⟩ := R3.out.cells
      have t7 := R3.out.thaw 7
      have R4 : Hid (Wx (v3.setCell ⟨bs, 7, none⟩ (Value.slice (some ⟨g, 0, none⟩) X.us.length cap)) bs (.int .i64 X.turn) (.int .i64 X.next) (.int .i64 X.wide) (.int .i64 X.high) (.slice p1 X.gs.length q1) (.slice p2 X.os.length q2) (.slice p3 X.gold.length q3) (Value.slice (some ⟨g, 0, none⟩) X.us.length cap) (.slice p5 X.qs.length q5)) := R3.out.set7 _
      have K4 : Hid (Kp bs v3 (v3.setCell ⟨bs, 7, none⟩ (Value.slice (some ⟨g, 0, none⟩) X.us.length cap))) := Kp.set _ _ _
      go_upto_region 20 with fail
      clear y7 t7
      generalize (v3.setCell ⟨bs, 7, none⟩ (Value.slice (some ⟨g, 0, none⟩) X.us.length cap)) = v4 at *
      have BT4 : Hid (Below w.heap.size w v4) := K4.out.below BT3.out BT3.out.size (by have := BS.out; omega)
      have U4 : Hid (Ub v4 g X.us rest) := by
        have h9 := U3.out
        unfold Ub at *
        rw [K4.out.block g (lt_of_block h9) (by have := CP.out.1; have := BL.out; omega)]
        exact h9
      have GG : Hid (w.heap.size < g ∧ bs < g) := by have := CP.out.1; have := BL.out; have := BS.out; exact ⟨by omega, by omega⟩
      clear K4 R3 BT3 X3 U3 BT2
      go_upto_region 21 with fail
      go_loopw [17] (fun v17 V => ∃ n : Nat, v17 = .int .i64 (n : Nat) ∧ n ≤ X.us.length ∧ Ub V g (restN X.us n) rest ∧ Kp g v4 V) (fun v17 _ => X.us.length - (intOf v17).toNat)
      case atStart => exact ⟨0, rfl, Nat.zero_le _, by rw [restN_zero]; exact U4.out, Kp.refl _ _⟩
      case round =>
        obtain ⟨n, rfl, hn, hub, hkp⟩ := hrel
        have U5 : Hid (Ub wr g (restN X.us n) rest) := hub
        have P5 : Hid (Kp g v4 wr) := hkp
        have R5 : Hid (Wx wr bs (.int .i64 X.turn) (.int .i64 X.next) (.int .i64 X.wide) (.int .i64 X.high) (.slice p1 X.gs.length q1) (.slice p2 X.os.length q2) (.slice p3 X.gold.length q3) (Value.slice (some ⟨g, 0, none⟩) X.us.length cap) (.slice p5 X.qs.length q5)) := R4.out.kp hkp (by have := GG.out.2; omega)
        clear hub hkp
        obtain ⟨y0, y1, y2, y3, y4, y5, y6, y7, y8⟩ := R5.out.cells
        by_cases h0 : n = X.us.length
        · subst h0
          have hnl : ¬ (((X.us.length : Nat) : Int) < (X.us.length : Nat)) := by omega
          rw [restN_all] at U5
          have B5 : Hid (Below w.heap.size w wr) := P5.out.below BT4.out BT4.out.size (by have := GG.out.1; omega)
          have L5 : Hid (Wl wr (.agg #[.int .i64 X.turn, .int .i64 X.next, .int .i64 X.wide, .int .i64 X.high, .slice p1 X.gs.length q1, .slice p2 X.os.length q2, .slice p3 X.gold.length q3, Value.slice (some ⟨g, 0, none⟩) X.us.length cap, .slice p5 X.qs.length q5]) (restW X)) := by
            obtain ⟨l1, l2, l3, -, l5⟩ := (H.out.below B5.out).slices
            refine ⟨_, _, _, _, _, rfl, l1, l2, l3, ?_, l5⟩
            have hl : (X.us.map rst).length = X.us.length := List.length_map _
            have := (U5.out.uno (base := 0) (cap := cap) (Nat.zero_le _) (by rw [hl]; exact CP.out.2.1) CP.out.2.2.1 (by rw [hl]; exact CP.out.2.2.2)).l
            rw [hl] at this
            exact this
          go_wp2_with fail
          refine (Move_any _ _ ks (restW X) wr (K.out.1.below B5.out) K.out.2 L5.out (S.out.below B5.out)).mono ?_
          rintro e v6 ⟨v, ev, r, rfl, hr, hm, hb⟩
          rw [rest_right WR.out] at hr
          obtain rfl := er_zero hr
          have B6 : Hid (Below w.heap.size w v6) := B5.out.trans (hb.mono B5.out.size)
          have R6 : Hid (Wx v6 bs (.int .i64 X.turn) (.int .i64 X.next) (.int .i64 X.wide) (.int .i64 X.high) (.slice p1 X.gs.length q1) (.slice p2 X.os.length q2) (.slice p3 X.gold.length q3) (Value.slice (some ⟨g, 0, none⟩) X.us.length cap) (.slice p5 X.qs.length q5)) := R5.out.below hb R5.out.lt
          have L6 : Hid (Wl v6 (.agg #[.int .i64 X.turn, .int .i64 X.next, .int .i64 X.wide, .int .i64 X.high, .slice p1 X.gs.length q1, .slice p2 X.os.length q2, .slice p3 X.gold.length q3, Value.slice (some ⟨g, 0, none⟩) X.us.length cap, .slice p5 X.qs.length q5]) (restW X)) := L5.out.below hb
          rcases hm with ⟨hm, -⟩ | ⟨-, Wn', Hn', -, -, -, us', evs, hmv, -, hwo, hevo⟩
          · exact absurd (rest_right WR.out) hm
          obtain ⟨rfl, rfl⟩ := moves_rest hmv (fun u hu => by
            have hu' : u ∈ X.us.map rst := hu
            obtain ⟨u0, -, rfl⟩ := List.mem_map.1 hu'
            rfl)
          obtain ⟨ae, ce, rfl⟩ := hevo.len
          have LY0 : Wl v6 v (restW X) := hwo.l
          obtain ⟨s1, r1, s2, r2, s3, r3, s4, r4, s5, r5, rfl⟩ := wl_shape9 LY0
          have LY : Hid (Wl v6 (.agg #[.int .i64 X.turn, .int .i64 X.next, .int .i64 X.wide, .int .i64 X.high, .slice s1 X.gs.length r1, .slice s2 X.os.length r2, .slice s3 X.gold.length r3, .slice s4 (restW X).us.length r4, .slice s5 X.qs.length r5]) (restW X)) := LY0
          have hl : (restW X).us.length = X.us.length := List.length_map _
          have LY1 : Hid (Wl v6 (.agg #[.int .i64 X.turn, .int .i64 X.next, .int .i64 X.wide, .int .i64 X.high, .slice s1 X.gs.length r1, .slice s2 X.os.length r2, .slice s3 X.gold.length r3, .slice s4 X.us.length r4, .slice s5 X.qs.length r5]) (restW X)) := by have := LY.out; rw [hl] at this; exact this
          have e1 : ((([] : List EvV).length : Nat) : Int) = 0 := rfl
          simp only [show (restW X).turn = X.turn from rfl, show (restW X).next = X.next from rfl, show (restW X).wide = X.wide from rfl, show (restW X).high = X.high from rfl, show (restW X).gs = X.gs from rfl, show (restW X).os = X.os from rfl, show (restW X).gold = X.gold from rfl, show (restW X).qs = X.qs from rfl, hl, List.length_nil]
          clear hb hr hmv hwo hevo LY0 LY y0 y1 y2 y3 y4 y5 y6 y7 y8 R5 L5 e1 U5 P5
          go_upto_region 26 with fail
          have BY : Hid (Below v6.heap.size v6 (v6.alloc (Obj.cells #[.int .i64 X.turn, .int .i64 X.next, .int .i64 X.wide, .int .i64 X.high, .slice s1 X.gs.length r1, .slice s2 X.os.length r2, .slice s3 X.gold.length r3, .slice s4 X.us.length r4, .slice s5 X.qs.length r5] 29))) := (Below.refl _ _).alloc (Nat.le_refl _) _
          obtain ⟨by', hby⟩ : ∃ z, v6.heap.size = z := ⟨_, rfl⟩
          have Y7 : Hid (Bw (v6.alloc (Obj.cells #[.int .i64 X.turn, .int .i64 X.next, .int .i64 X.wide, .int .i64 X.high, .slice s1 X.gs.length r1, .slice s2 X.os.length r2, .slice s3 X.gold.length r3, .slice s4 X.us.length r4, .slice s5 X.qs.length r5] 29)) by' X (.slice s1 X.gs.length r1) (.slice s2 X.os.length r2) (.slice s3 X.gold.length r3) (.slice s4 X.us.length r4) (.slice s5 X.qs.length r5)) := Bw.mk' X _ _ _ _ _ hby
          rw [hby]
          generalize (v6.alloc (Obj.cells #[.int .i64 X.turn, .int .i64 X.next, .int .i64 X.wide, .int .i64 X.high, .slice s1 X.gs.length r1, .slice s2 X.os.length r2, .slice s3 X.gold.length r3, .slice s4 X.us.length r4, .slice s5 X.qs.length r5] 29)) = v7 at *
          have B7 : Hid (Below w.heap.size w v7) := B6.out.trans (BY.out.mono B6.out.size)
          obtain ⟨y0, y1, y2, y3, y4, y5, y6, y7, y8⟩ := (R6.out.below BY.out R6.out.lt).cells
          obtain ⟨x0, x1, x2, x3, x4, x5, x6, x7, x8⟩ := Y7.out
          go_wp2_with fail
          refine (worlds_like _ _ (restW X) v7 (LY1.out.below BY.out) (L6.out.below BY.out)).mono ?_
          rintro e v8 ⟨rfl, hb⟩
          have B8 : Hid (Below w.heap.size w v8) := B7.out.trans (hb.mono B7.out.size)
          clear hb x0 x1 x2 x3 x4 x5 x6 x7 x8 y0 y1 y2 y3 y4 y5 y6 y7 y8
          go_wp2
          go_ret
          exact ⟨rfl, B8.out⟩
        · have hnl : n < X.us.length := by omega
          have hni : ((n : Nat) : Int) < (X.us.length : Nat) := by omega
          obtain ⟨z, hz⟩ : ∃ z, X.us[n]? = some z := ⟨_, List.getElem?_eq_getElem hnl⟩
          have hzn := restN_at hz
          have WN : IntKind.i64.wrap ((n : Nat) + 1 : Int) = ((n : Nat) : Int) + 1 := by rw [IntKind.wrap_i64]; omega
          have c6 := (U5.out.unc hzn).c6
          have t6 := U5.out.thaw (n * 8 + 6)
          have U6 : Hid (Ub (wr.setCell ⟨g, n * 8 + 6, none⟩ (.int .i64 0)) g ((restN X.us n).set n { z with task := 0 }) rest) := U5.out.set6 hzn 0
          have K6 : Hid (Kp g wr (wr.setCell ⟨g, n * 8 + 6, none⟩ (.int .i64 0))) := Kp.set _ _ _
          go_upto_region 24 with fail
          clear c6 t6 y0 y1 y2 y3 y4 y5 y6 y7 y8
          generalize (wr.setCell ⟨g, n * 8 + 6, none⟩ (.int .i64 0)) = v6 at *
          obtain ⟨y0, y1, y2, y3, y4, y5, y6, y7, y8⟩ := (R5.out.kp K6.out (by have := GG.out.2; omega)).cells
          have hz6 : ((restN X.us n).set n { z with task := 0 })[n]? = some { z with task := 0 } := List.getElem?_set_self (by rw [restN_len]; exact hnl)
          have c7 := (U6.out.unc hz6).c7
          have t7 := U6.out.thaw (n * 8 + 7)
          have U7 : Hid (Ub (v6.setCell ⟨g, n * 8 + 7, none⟩ (.int .i64 0)) g (restN X.us (n + 1)) rest) := by
            have h9 := U6.out.set7 hz6 0
            rw [List.set_set] at h9
            unfold Hid
            rw [← restN_next hz]
            exact h9
          have P7 : Hid (Kp g v4 (v6.setCell ⟨g, n * 8 + 7, none⟩ (.int .i64 0))) := (P5.out.trans K6.out).trans (Kp.set _ _ _)
          clear hz6 hzn hz
          go_wp2
          go_round
          case rel => exact ⟨n + 1, by go_num, by omega, U7.out, P7.out⟩
          case measure => simp [intOf]; omega
  · have h11 : (u.task == 1) = false := by rw [beq_eq_false_iff_ne]; exact ht1
    have BT : Hid (Below w.heap.size w w7) := B7.out
    have XT : Hid (Bw w7 w.heap.size X (.slice p1 X.gs.length q1) (.slice p2 X.os.length q2) (.slice p3 X.gold.length q3) (.slice (some xu) X.us.length q4) (.slice p5 X.qs.length q5)) := X7.out
    by_cases ht0 : u.task = 0
    · have h10 : (u.task == 0) = true := by rw [ht0]; rfl
      have hca : cn = an := by have h1 := wish_rest GD.out.2.2.2.2.2.2.2.2.2 ht0; have h2 := GD.out.2.2.2.1; omega
      subst hca
      clear ht0 ht1 B7 X7
      go_upto_region 17 with fail
      clear c6 c3 h10 h11
      obtain ⟨x0, x1, x2, x3, x4, x5, x6, x7, x8⟩ := XT.out
      go_upto_region 18 with fail
      have BA : Hid (Below w7.heap.size w7 (w7.alloc (Obj.cells #[.int .i64 X.turn, .int .i64 X.next, .int .i64 X.wide, .int .i64 X.high, .slice p1 X.gs.length q1, .slice p2 X.os.length q2, .slice p3 X.gold.length q3, .slice (some xu) X.us.length q4, .slice p5 X.qs.length q5] 29))) := (Below.refl _ _).alloc (Nat.le_refl _) _
      obtain ⟨bs, hbs⟩ : ∃ z, w7.heap.size = z := ⟨_, rfl⟩
      have R0 : Hid (Wx (w7.alloc (Obj.cells #[.int .i64 X.turn, .int .i64 X.next, .int .i64 X.wide, .int .i64 X.high, .slice p1 X.gs.length q1, .slice p2 X.os.length q2, .slice p3 X.gold.length q3, .slice (some xu) X.us.length q4, .slice p5 X.qs.length q5] 29)) bs (.int .i64 X.turn) (.int .i64 X.next) (.int .i64 X.wide) (.int .i64 X.high) (.slice p1 X.gs.length q1) (.slice p2 X.os.length q2) (.slice p3 X.gold.length q3) (.slice (some xu) X.us.length q4) (.slice p5 X.qs.length q5)) := Wx.new (.int .i64 X.turn) (.int .i64 X.next) (.int .i64 X.wide) (.int .i64 X.high) (.slice p1 X.gs.length q1) (.slice p2 X.os.length q2) (.slice p3 X.gold.length q3) (.slice (some xu) X.us.length q4) (.slice p5 X.qs.length q5) hbs
      rw [hbs]
      generalize (w7.alloc (Obj.cells #[.int .i64 X.turn, .int .i64 X.next, .int .i64 X.wide, .int .i64 X.high, .slice p1 X.gs.length q1, .slice p2 X.os.length q2, .slice p3 X.gold.length q3, .slice (some xu) X.us.length q4, .slice p5 X.qs.length q5] 29)) = v1 at *
      have BT1 : Hid (Below w.heap.size w v1) := BT.out.trans (BA.out.mono BT.out.size)
      have X1 : Hid (Bw v1 w.heap.size X (.slice p1 X.gs.length q1) (.slice p2 X.os.length q2) (.slice p3 X.gold.length q3) (.slice (some xu) X.us.length q4) (.slice p5 X.qs.length q5)) := XT.out.below BA.out XT.out.lt
      have BS : Hid (w.heap.size < bs) := by rw [← hbs]; exact XT.out.lt
      clear x0 x1 x2 x3 x4 x5 x6 x7 x8 hbs BA BT XT
      obtain ⟨-, -, -, -, -, -, -, y7, -⟩ := R0.out.cells
      have t7 := R0.out.thaw 7
      have R1 : Hid (Wx (v1.setCell ⟨bs, 7, none⟩ (.slice none 0 0)) bs (.int .i64 X.turn) (.int .i64 X.next) (.int .i64 X.wide) (.int .i64 X.high) (.slice p1 X.gs.length q1) (.slice p2 X.os.length q2) (.slice p3 X.gold.length q3) (.slice none 0 0) (.slice p5 X.qs.length q5)) := R0.out.set7 _
      have K1 : Hid (Kp bs v1 (v1.setCell ⟨bs, 7, none⟩ (.slice none 0 0))) := Kp.set _ _ _
      go_upto_region 19 with fail
      clear y7 t7
      generalize (v1.setCell ⟨bs, 7, none⟩ (.slice none 0 0)) = v2 at *
      have BT2 : Hid (Below w.heap.size w v2) := K1.out.below BT1.out BT1.out.size (by have := BS.out; omega)
      have X2 : Hid (Bw v2 w.heap.size X (.slice p1 X.gs.length q1) (.slice p2 X.os.length q2) (.slice p3 X.gold.length q3) (.slice (some xu) X.us.length q4) (.slice p5 X.qs.length q5)) := X1.out.kp9 K1.out (by have := BS.out; omega)
      clear K1 R0 BT1 X1
      obtain ⟨-, -, -, -, -, -, -, y7, -⟩ := R1.out.cells
      have x7 := X2.out.c7
      have US : Hid (Unl w (.slice (some xu) X.us.length q4) X.us) := H.out.slices.2.2.2.1
      have hul : X.us.length ≤ 40 := WR.out.ul
      go_wp2_with (at_builtin; refine app_uns _ rfl _ _ rfl v2.heap.size _ [] rfl (Uno.nil _ _) _ X.us rfl (US.out.below BT2.out) (by simp; omega) (Nat.le_refl _) ?_)
      intro av v3 ho0 hg _
      have ho : Uno v3 v2.heap.size av X.us := ho0
      clear ho0
      have BG : Hid (Below v2.heap.size v2 v3) := (Below.refl _ _).grown hg (Nat.le_refl _) (fun k hk => by cases hk)
      have BT3 : Hid (Below w.heap.size w v3) := BT2.out.trans (BG.out.mono BT2.out.size)
      have R3 : Hid (Wx v3 bs (.int .i64 X.turn) (.int .i64 X.next) (.int .i64 X.wide) (.int .i64 X.high) (.slice p1 X.gs.length q1) (.slice p2 X.os.length q2) (.slice p3 X.gold.length q3) (.slice none 0 0) (.slice p5 X.qs.length q5)) := R1.out.below BG.out R1.out.lt
      have X3 : Hid (Bw v3 w.heap.size X (.slice p1 X.gs.length q1) (.slice p2 X.os.length q2) (.slice p3 X.gold.length q3) (.slice (some xu) X.us.length q4) (.slice p5 X.qs.length q5)) := X2.out.below BG.out X2.out.lt
      have BL : Hid (bs < v2.heap.size) := R1.out.lt
      rcases ho.ub with ⟨-, hno⟩ | ⟨g, cap, rest, rfl, hbg, hkc, hcm, hcl, hub⟩
      · exact absurd hno NE.out
      have CP : Hid (v2.heap.size ≤ g ∧ X.us.length ≤ cap ∧ cap ≤ maxLen ∧ X.us.length * 8 + rest.length = cap * 8) := ⟨hbg, hkc, hcm, hcl⟩
      have U3 : Hid (Ub v3 g X.us rest) := hub
      have hcap : cap ≤ 9223372036854775807 := by unfold maxLen at hcm; omega
      have hcap' : X.us.length ≤ cap := hkc
      clear y7 x7 ho hg hbg hkc hcm hcl hub R1 X2 BG
      obtain ⟨-, -, -, -, -, -, -, y7, -⟩ := R3.out.cells
      have t7 := R3.out.thaw 7
      have R4 : Hid (Wx (v3.setCell ⟨bs, 7, none⟩ (Value.slice (some ⟨g, 0, none⟩) X.us.length cap)) bs (.int .i64 X.turn) (.int .i64 X.next) (.int .i64 X.wide) (.int .i64 X.high) (.slice p1 X.gs.length q1) (.slice p2 X.os.length q2) (.slice p3 X.gold.length q3) (Value.slice (some ⟨g, 0, none⟩) X.us.length cap) (.slice p5 X.qs.length q5)) := R3.out.set7 _
      have K4 : Hid (Kp bs v3 (v3.setCell ⟨bs, 7, none⟩ (Value.slice (some ⟨g, 0, none⟩) X.us.length cap))) := Kp.set _ _ _
      go_upto_region 20 with fail
      clear y7 t7
      generalize (v3.setCell ⟨bs, 7, none⟩ (Value.slice (some ⟨g, 0, none⟩) X.us.length cap)) = v4 at *
      have BT4 : Hid (Below w.heap.size w v4) := K4.out.below BT3.out BT3.out.size (by have := BS.out; omega)
      have U4 : Hid (Ub v4 g X.us rest) := by
        have h9 := U3.out
        unfold Ub at *
        rw [K4.out.block g (lt_of_block h9) (by have := CP.out.1; have := BL.out; omega)]
        exact h9
      have GG : Hid (w.heap.size < g ∧ bs < g) := by have := CP.out.1; have := BL.out; have := BS.out; exact ⟨by omega, by omega⟩
      clear K4 R3 BT3 X3 U3 BT2
      go_upto_region 21 with fail
      go_loopw [17] (fun v17 V => ∃ n : Nat, v17 = .int .i64 (n : Nat) ∧ n ≤ X.us.length ∧ Ub V g (restN X.us n) rest ∧ Kp g v4 V) (fun v17 _ => X.us.length - (intOf v17).toNat)
      case atStart => exact ⟨0, rfl, Nat.zero_le _, by rw [restN_zero]; exact U4.out, Kp.refl _ _⟩
      case round =>
        obtain ⟨n, rfl, hn, hub, hkp⟩ := hrel
        have U5 : Hid (Ub wr g (restN X.us n) rest) := hub
        have P5 : Hid (Kp g v4 wr) := hkp
        have R5 : Hid (Wx wr bs (.int .i64 X.turn) (.int .i64 X.next) (.int .i64 X.wide) (.int .i64 X.high) (.slice p1 X.gs.length q1) (.slice p2 X.os.length q2) (.slice p3 X.gold.length q3) (Value.slice (some ⟨g, 0, none⟩) X.us.length cap) (.slice p5 X.qs.length q5)) := R4.out.kp hkp (by have := GG.out.2; omega)
        clear hub hkp
        obtain ⟨y0, y1, y2, y3, y4, y5, y6, y7, y8⟩ := R5.out.cells
        by_cases h0 : n = X.us.length
        · subst h0
          have hnl : ¬ (((X.us.length : Nat) : Int) < (X.us.length : Nat)) := by omega
          rw [restN_all] at U5
          have B5 : Hid (Below w.heap.size w wr) := P5.out.below BT4.out BT4.out.size (by have := GG.out.1; omega)
          have L5 : Hid (Wl wr (.agg #[.int .i64 X.turn, .int .i64 X.next, .int .i64 X.wide, .int .i64 X.high, .slice p1 X.gs.length q1, .slice p2 X.os.length q2, .slice p3 X.gold.length q3, Value.slice (some ⟨g, 0, none⟩) X.us.length cap, .slice p5 X.qs.length q5]) (restW X)) := by
            obtain ⟨l1, l2, l3, -, l5⟩ := (H.out.below B5.out).slices
            refine ⟨_, _, _, _, _, rfl, l1, l2, l3, ?_, l5⟩
            have hl : (X.us.map rst).length = X.us.length := List.length_map _
            have := (U5.out.uno (base := 0) (cap := cap) (Nat.zero_le _) (by rw [hl]; exact CP.out.2.1) CP.out.2.2.1 (by rw [hl]; exact CP.out.2.2.2)).l
            rw [hl] at this
            exact this
          go_wp2_with fail
          refine (Move_any _ _ ks (restW X) wr (K.out.1.below B5.out) K.out.2 L5.out (S.out.below B5.out)).mono ?_
          rintro e v6 ⟨v, ev, r, rfl, hr, hm, hb⟩
          rw [rest_right WR.out] at hr
          obtain rfl := er_zero hr
          have B6 : Hid (Below w.heap.size w v6) := B5.out.trans (hb.mono B5.out.size)
          have R6 : Hid (Wx v6 bs (.int .i64 X.turn) (.int .i64 X.next) (.int .i64 X.wide) (.int .i64 X.high) (.slice p1 X.gs.length q1) (.slice p2 X.os.length q2) (.slice p3 X.gold.length q3) (Value.slice (some ⟨g, 0, none⟩) X.us.length cap) (.slice p5 X.qs.length q5)) := R5.out.below hb R5.out.lt
          have L6 : Hid (Wl v6 (.agg #[.int .i64 X.turn, .int .i64 X.next, .int .i64 X.wide, .int .i64 X.high, .slice p1 X.gs.length q1, .slice p2 X.os.length q2, .slice p3 X.gold.length q3, Value.slice (some ⟨g, 0, none⟩) X.us.length cap, .slice p5 X.qs.length q5]) (restW X)) := L5.out.below hb
          rcases hm with ⟨hm, -⟩ | ⟨-, Wn', Hn', -, -, -, us', evs, hmv, -, hwo, hevo⟩
          · exact absurd (rest_right WR.out) hm
          obtain ⟨rfl, rfl⟩ := moves_rest hmv (fun u hu => by
            have hu' : u ∈ X.us.map rst := hu
            obtain ⟨u0, -, rfl⟩ := List.mem_map.1 hu'
            rfl)
          obtain ⟨ae, ce, rfl⟩ := hevo.len
          have LY0 : Wl v6 v (restW X) := hwo.l
          obtain ⟨s1, r1, s2, r2, s3, r3, s4, r4, s5, r5, rfl⟩ := wl_shape9 LY0
          have LY : Hid (Wl v6 (.agg #[.int .i64 X.turn, .int .i64 X.next, .int .i64 X.wide, .int .i64 X.high, .slice s1 X.gs.length r1, .slice s2 X.os.length r2, .slice s3 X.gold.length r3, .slice s4 (restW X).us.length r4, .slice s5 X.qs.length r5]) (restW X)) := LY0
          have hl : (restW X).us.length = X.us.length := List.length_map _
          have LY1 : Hid (Wl v6 (.agg #[.int .i64 X.turn, .int .i64 X.next, .int .i64 X.wide, .int .i64 X.high, .slice s1 X.gs.length r1, .slice s2 X.os.length r2, .slice s3 X.gold.length r3, .slice s4 X.us.length r4, .slice s5 X.qs.length r5]) (restW X)) := by have := LY.out; rw [hl] at this; exact this
          have e1 : ((([] : List EvV).length : Nat) : Int) = 0 := rfl
          simp only [show (restW X).turn = X.turn from rfl, show (restW X).next = X.next from rfl, show (restW X).wide = X.wide from rfl, show (restW X).high = X.high from rfl, show (restW X).gs = X.gs from rfl, show (restW X).os = X.os from rfl, show (restW X).gold = X.gold from rfl, show (restW X).qs = X.qs from rfl, hl, List.length_nil]
          clear hb hr hmv hwo hevo LY0 LY y0 y1 y2 y3 y4 y5 y6 y7 y8 R5 L5 e1 U5 P5
          go_upto_region 26 with fail
          have BY : Hid (Below v6.heap.size v6 (v6.alloc (Obj.cells #[.int .i64 X.turn, .int .i64 X.next, .int .i64 X.wide, .int .i64 X.high, .slice s1 X.gs.length r1, .slice s2 X.os.length r2, .slice s3 X.gold.length r3, .slice s4 X.us.length r4, .slice s5 X.qs.length r5] 29))) := (Below.refl _ _).alloc (Nat.le_refl _) _
          obtain ⟨by', hby⟩ : ∃ z, v6.heap.size = z := ⟨_, rfl⟩
          have Y7 : Hid (Bw (v6.alloc (Obj.cells #[.int .i64 X.turn, .int .i64 X.next, .int .i64 X.wide, .int .i64 X.high, .slice s1 X.gs.length r1, .slice s2 X.os.length r2, .slice s3 X.gold.length r3, .slice s4 X.us.length r4, .slice s5 X.qs.length r5] 29)) by' X (.slice s1 X.gs.length r1) (.slice s2 X.os.length r2) (.slice s3 X.gold.length r3) (.slice s4 X.us.length r4) (.slice s5 X.qs.length r5)) := Bw.mk' X _ _ _ _ _ hby
          rw [hby]
          generalize (v6.alloc (Obj.cells #[.int .i64 X.turn, .int .i64 X.next, .int .i64 X.wide, .int .i64 X.high, .slice s1 X.gs.length r1, .slice s2 X.os.length r2, .slice s3 X.gold.length r3, .slice s4 X.us.length r4, .slice s5 X.qs.length r5] 29)) = v7 at *
          have B7 : Hid (Below w.heap.size w v7) := B6.out.trans (BY.out.mono B6.out.size)
          obtain ⟨y0, y1, y2, y3, y4, y5, y6, y7, y8⟩ := (R6.out.below BY.out R6.out.lt).cells
          obtain ⟨x0, x1, x2, x3, x4, x5, x6, x7, x8⟩ := Y7.out
          go_wp2_with fail
          refine (worlds_like _ _ (restW X) v7 (LY1.out.below BY.out) (L6.out.below BY.out)).mono ?_
          rintro e v8 ⟨rfl, hb⟩
          have B8 : Hid (Below w.heap.size w v8) := B7.out.trans (hb.mono B7.out.size)
          clear hb x0 x1 x2 x3 x4 x5 x6 x7 x8 y0 y1 y2 y3 y4 y5 y6 y7 y8
          go_wp2
          go_ret
          exact ⟨rfl, B8.out⟩
        · have hnl : n < X.us.length := by omega
          have hni : ((n : Nat) : Int) < (X.us.length : Nat) := by omega
          obtain ⟨z, hz⟩ : ∃ z, X.us[n]? = some z := ⟨_, List.getElem?_eq_getElem hnl⟩
          have hzn := restN_at hz
          have WN : IntKind.i64.wrap ((n : Nat) + 1 : Int) = ((n : Nat) : Int) + 1 := by rw [IntKind.wrap_i64]; omega
          have c6 := (U5.out.unc hzn).c6
          have t6 := U5.out.thaw (n * 8 + 6)
          have U6 : Hid (Ub (wr.setCell ⟨g, n * 8 + 6, none⟩ (.int .i64 0)) g ((restN X.us n).set n { z with task := 0 }) rest) := U5.out.set6 hzn 0
          have K6 : Hid (Kp g wr (wr.setCell ⟨g, n * 8 + 6, none⟩ (.int .i64 0))) := Kp.set _ _ _
          go_upto_region 24 with fail
          clear c6 t6 y0 y1 y2 y3 y4 y5 y6 y7 y8
          generalize (wr.setCell ⟨g, n * 8 + 6, none⟩ (.int .i64 0)) = v6 at *
          obtain ⟨y0, y1, y2, y3, y4, y5, y6, y7, y8⟩ := (R5.out.kp K6.out (by have := GG.out.2; omega)).cells
          have hz6 : ((restN X.us n).set n { z with task := 0 })[n]? = some { z with task := 0 } := List.getElem?_set_self (by rw [restN_len]; exact hnl)
          have c7 := (U6.out.unc hz6).c7
          have t7 := U6.out.thaw (n * 8 + 7)
          have U7 : Hid (Ub (v6.setCell ⟨g, n * 8 + 7, none⟩ (.int .i64 0)) g (restN X.us (n + 1)) rest) := by
            have h9 := U6.out.set7 hz6 0
            rw [List.set_set] at h9
            unfold Hid
            rw [← restN_next hz]
            exact h9
          have P7 : Hid (Kp g v4 (v6.setCell ⟨g, n * 8 + 7, none⟩ (.int .i64 0))) := (P5.out.trans K6.out).trans (Kp.set _ _ _)
          clear hz6 hzn hz
          go_wp2
          go_round
          case rel => exact ⟨n + 1, by go_num, by omega, U7.out, P7.out⟩
          case measure => simp [intOf]; omega
    · have h10 : (u.task == 0) = false := by rw [beq_eq_false_iff_ne]; exact ht0
      clear ht0 ht1 B7 X7
      go_upto_region 17 with fail
      clear c6 c3 h10 h11
      obtain ⟨x0, x1, x2, x3, x4, x5, x6, x7, x8⟩ := XT.out
      go_upto_region 18 with fail
      have BA : Hid (Below w7.heap.size w7 (w7.alloc (Obj.cells #[.int .i64 X.turn, .int .i64 X.next, .int .i64 X.wide, .int .i64 X.high, .slice p1 X.gs.length q1, .slice p2 X.os.length q2, .slice p3 X.gold.length q3, .slice (some xu) X.us.length q4, .slice p5 X.qs.length q5] 29))) := (Below.refl _ _).alloc (Nat.le_refl _) _
      obtain ⟨bs, hbs⟩ : ∃ z, w7.heap.size = z := ⟨_, rfl⟩
      have R0 : Hid (Wx (w7.alloc (Obj.cells #[.int .i64 X.turn, .int .i64 X.next, .int .i64 X.wide, .int .i64 X.high, .slice p1 X.gs.length q1, .slice p2 X.os.length q2, .slice p3 X.gold.length q3, .slice (some xu) X.us.length q4, .slice p5 X.qs.length q5] 29)) bs (.int .i64 X.turn) (.int .i64 X.next) (.int .i64 X.wide) (.int .i64 X.high) (.slice p1 X.gs.length q1) (.slice p2 X.os.length q2) (.slice p3 X.gold.length q3) (.slice (some xu) X.us.length q4) (.slice p5 X.qs.length q5)) := Wx.new (.int .i64 X.turn) (.int .i64 X.next) (.int .i64 X.wide) (.int .i64 X.high) (.slice p1 X.gs.length q1) (.slice p2 X.os.length q2) (.slice p3 X.gold.length q3) (.slice (some xu) X.us.length q4) (.slice p5 X.qs.length q5) hbs
      rw [hbs]
      generalize (w7.alloc (Obj.cells #[.int .i64 X.turn, .int .i64 X.next, .int .i64 X.wide, .int .i64 X.high, .slice p1 X.gs.length q1, .slice p2 X.os.length q2, .slice p3 X.gold.length q3, .slice (some xu) X.us.length q4, .slice p5 X.qs.length q5] 29)) = v1 at *
      have BT1 : Hid (Below w.heap.size w v1) := BT.out.trans (BA.out.mono BT.out.size)
      have X1 : Hid (Bw v1 w.heap.size X (.slice p1 X.gs.length q1) (.slice p2 X.os.length q2) (.slice p3 X.gold.length q3) (.slice (some xu) X.us.length q4) (.slice p5 X.qs.length q5)) := XT.out.below BA.out XT.out.lt
      have BS : Hid (w.heap.size < bs) := by rw [← hbs]; exact XT.out.lt
      clear x0 x1 x2 x3 x4 x5 x6 x7 x8 hbs BA BT XT
      obtain ⟨-, -, -, -, -, -, -, y7, -⟩ := R0.out.cells
      have t7 := R0.out.thaw 7
      have R1 : Hid (Wx (v1.setCell ⟨bs, 7, none⟩ (.slice none 0 0)) bs (.int .i64 X.turn) (.int .i64 X.next) (.int .i64 X.wide) (.int .i64 X.high) (.slice p1 X.gs.length q1) (.slice p2 X.os.length q2) (.slice p3 X.gold.length q3) (.slice none 0 0) (.slice p5 X.qs.length q5)) := R0.out.set7 _
      have K1 : Hid (Kp bs v1 (v1.setCell ⟨bs, 7, none⟩ (.slice none 0 0))) := Kp.set _ _ _
      go_upto_region 19 with fail
      clear y7 t7
      generalize (v1.setCell ⟨bs, 7, none⟩ (.slice none 0 0)) = v2 at *
      have BT2 : Hid (Below w.heap.size w v2) := K1.out.below BT1.out BT1.out.size (by have := BS.out; omega)
      have X2 : Hid (Bw v2 w.heap.size X (.slice p1 X.gs.length q1) (.slice p2 X.os.length q2) (.slice p3 X.gold.length q3) (.slice (some xu) X.us.length q4) (.slice p5 X.qs.length q5)) := X1.out.kp9 K1.out (by have := BS.out; omega)
      clear K1 R0 BT1 X1
      obtain ⟨-, -, -, -, -, -, -, y7, -⟩ := R1.out.cells
      have x7 := X2.out.c7
      have US : Hid (Unl w (.slice (some xu) X.us.length q4) X.us) := H.out.slices.2.2.2.1
      have hul : X.us.length ≤ 40 := WR.out.ul
      go_wp2_with (at_builtin; refine app_uns _ rfl _ _ rfl v2.heap.size _ [] rfl (Uno.nil _ _) _ X.us rfl (US.out.below BT2.out) (by simp; omega) (Nat.le_refl _) ?_)
      intro av v3 ho0 hg _
      have ho : Uno v3 v2.heap.size av X.us := ho0
      clear ho0
      have BG : Hid (Below v2.heap.size v2 v3) := (Below.refl _ _).grown hg (Nat.le_refl _) (fun k hk => by cases hk)
      have BT3 : Hid (Below w.heap.size w v3) := BT2.out.trans (BG.out.mono BT2.out.size)
      have R3 : Hid (Wx v3 bs (.int .i64 X.turn) (.int .i64 X.next) (.int .i64 X.wide) (.int .i64 X.high) (.slice p1 X.gs.length q1) (.slice p2 X.os.length q2) (.slice p3 X.gold.length q3) (.slice none 0 0) (.slice p5 X.qs.length q5)) := R1.out.below BG.out R1.out.lt
      have X3 : Hid (Bw v3 w.heap.size X (.slice p1 X.gs.length q1) (.slice p2 X.os.length q2) (.slice p3 X.gold.length q3) (.slice (some xu) X.us.length q4) (.slice p5 X.qs.length q5)) := X2.out.below BG.out X2.out.lt
      have BL : Hid (bs < v2.heap.size) := R1.out.lt
      rcases ho.ub with ⟨-, hno⟩ | ⟨g, cap, rest, rfl, hbg, hkc, hcm, hcl, hub⟩
      · exact absurd hno NE.out
      have CP : Hid (v2.heap.size ≤ g ∧ X.us.length ≤ cap ∧ cap ≤ maxLen ∧ X.us.length * 8 + rest.length = cap * 8) := ⟨hbg, hkc, hcm, hcl⟩
      have U3 : Hid (Ub v3 g X.us rest) := hub
      have hcap : cap ≤ 9223372036854775807 := by unfold maxLen at hcm; omega
      have hcap' : X.us.length ≤ cap := hkc
      clear y7 x7 ho hg hbg hkc hcm hcl hub R1 X2 BG
      obtain ⟨-, -, -, -, -, -, -, y7, -⟩ := R3.out.cells
      have t7 := R3.out.thaw 7
      have R4 : Hid (Wx (v3.setCell ⟨bs, 7, none⟩ (Value.slice (some ⟨g, 0, none⟩) X.us.length cap)) bs (.int .i64 X.turn) (.int .i64 X.next) (.int .i64 X.wide) (.int .i64 X.high) (.slice p1 X.gs.length q1) (.slice p2 X.os.length q2) (.slice p3 X.gold.length q3) (Value.slice (some ⟨g, 0, none⟩) X.us.length cap) (.slice p5 X.qs.length q5)) := R3.out.set7 _
      have K4 : Hid (Kp bs v3 (v3.setCell ⟨bs, 7, none⟩ (Value.slice (some ⟨g, 0, none⟩) X.us.length cap))) := Kp.set _ _ _
      go_upto_region 20 with fail
      clear y7 t7
      generalize (v3.setCell ⟨bs, 7, none⟩ (Value.slice (some ⟨g, 0, none⟩) X.us.length cap)) = v4 at *
      have BT4 : Hid (Below w.heap.size w v4) := K4.out.below BT3.out BT3.out.size (by have := BS.out; omega)
      have U4 : Hid (Ub v4 g X.us rest) := by
        have h9 := U3.out
        unfold Ub at *
        rw [K4.out.block g (lt_of_block h9) (by have := CP.out.1; have := BL.out; omega)]
        exact h9
      have GG : Hid (w.heap.size < g ∧ bs < g) := by have := CP.out.1; have := BL.out; have := BS.out; exact ⟨by omega, by omega⟩
      clear K4 R3 BT3 X3 U3 BT2
      go_upto_region 21 with fail
      go_loopw [17] (fun v17 V => ∃ n : Nat, v17 = .int .i64 (n : Nat) ∧ n ≤ X.us.length ∧ Ub V g (restN X.us n) rest ∧ Kp g v4 V) (fun v17 _ => X.us.length - (intOf v17).toNat)
      case atStart => exact ⟨0, rfl, Nat.zero_le _, by rw [restN_zero]; exact U4.out, Kp.refl _ _⟩
      case round =>
        obtain ⟨n, rfl, hn, hub, hkp⟩ := hrel
        have U5 : Hid (Ub wr g (restN X.us n) rest) := hub
        have P5 : Hid (Kp g v4 wr) := hkp
        have R5 : Hid (Wx wr bs (.int .i64 X.turn) (.int .i64 X.next) (.int .i64 X.wide) (.int .i64 X.high) (.slice p1 X.gs.length q1) (.slice p2 X.os.length q2) (.slice p3 X.gold.length q3) (Value.slice (some ⟨g, 0, none⟩) X.us.length cap) (.slice p5 X.qs.length q5)) := R4.out.kp hkp (by have := GG.out.2; omega)
        clear hub hkp
        obtain ⟨y0, y1, y2, y3, y4, y5, y6, y7, y8⟩ := R5.out.cells
        by_cases h0 : n = X.us.length
        · subst h0
          have hnl : ¬ (((X.us.length : Nat) : Int) < (X.us.length : Nat)) := by omega
          rw [restN_all] at U5
          have B5 : Hid (Below w.heap.size w wr) := P5.out.below BT4.out BT4.out.size (by have := GG.out.1; omega)
          have L5 : Hid (Wl wr (.agg #[.int .i64 X.turn, .int .i64 X.next, .int .i64 X.wide, .int .i64 X.high, .slice p1 X.gs.length q1, .slice p2 X.os.length q2, .slice p3 X.gold.length q3, Value.slice (some ⟨g, 0, none⟩) X.us.length cap, .slice p5 X.qs.length q5]) (restW X)) := by
            obtain ⟨l1, l2, l3, -, l5⟩ := (H.out.below B5.out).slices
            refine ⟨_, _, _, _, _, rfl, l1, l2, l3, ?_, l5⟩
            have hl : (X.us.map rst).length = X.us.length := List.length_map _
            have := (U5.out.uno (base := 0) (cap := cap) (Nat.zero_le _) (by rw [hl]; exact CP.out.2.1) CP.out.2.2.1 (by rw [hl]; exact CP.out.2.2.2)).l
            rw [hl] at this
            exact this
          go_wp2_with fail
          refine (Move_any _ _ ks (restW X) wr (K.out.1.below B5.out) K.out.2 L5.out (S.out.below B5.out)).mono ?_
          rintro e v6 ⟨v, ev, r, rfl, hr, hm, hb⟩
          rw [rest_right WR.out] at hr
          obtain rfl := er_zero hr
          have B6 : Hid (Below w.heap.size w v6) := B5.out.trans (hb.mono B5.out.size)
          have R6 : Hid (Wx v6 bs (.int .i64 X.turn) (.int .i64 X.next) (.int .i64 X.wide) (.int .i64 X.high) (.slice p1 X.gs.length q1) (.slice p2 X.os.length q2) (.slice p3 X.gold.length q3) (Value.slice (some ⟨g, 0, none⟩) X.us.length cap) (.slice p5 X.qs.length q5)) := R5.out.below hb R5.out.lt
          have L6 : Hid (Wl v6 (.agg #[.int .i64 X.turn, .int .i64 X.next, .int .i64 X.wide, .int .i64 X.high, .slice p1 X.gs.length q1, .slice p2 X.os.length q2, .slice p3 X.gold.length q3, Value.slice (some ⟨g, 0, none⟩) X.us.length cap, .slice p5 X.qs.length q5]) (restW X)) := L5.out.below hb
          rcases hm with ⟨hm, -⟩ | ⟨-, Wn', Hn', -, -, -, us', evs, hmv, -, hwo, hevo⟩
          · exact absurd (rest_right WR.out) hm
          obtain ⟨rfl, rfl⟩ := moves_rest hmv (fun u hu => by
            have hu' : u ∈ X.us.map rst := hu
            obtain ⟨u0, -, rfl⟩ := List.mem_map.1 hu'
            rfl)
          obtain ⟨ae, ce, rfl⟩ := hevo.len
          have LY0 : Wl v6 v (restW X) := hwo.l
          obtain ⟨s1, r1, s2, r2, s3, r3, s4, r4, s5, r5, rfl⟩ := wl_shape9 LY0
          have LY : Hid (Wl v6 (.agg #[.int .i64 X.turn, .int .i64 X.next, .int .i64 X.wide, .int .i64 X.high, .slice s1 X.gs.length r1, .slice s2 X.os.length r2, .slice s3 X.gold.length r3, .slice s4 (restW X).us.length r4, .slice s5 X.qs.length r5]) (restW X)) := LY0
          have hl : (restW X).us.length = X.us.length := List.length_map _
          have LY1 : Hid (Wl v6 (.agg #[.int .i64 X.turn, .int .i64 X.next, .int .i64 X.wide, .int .i64 X.high, .slice s1 X.gs.length r1, .slice s2 X.os.length r2, .slice s3 X.gold.length r3, .slice s4 X.us.length r4, .slice s5 X.qs.length r5]) (restW X)) := by have := LY.out; rw [hl] at this; exact this
          have e1 : ((([] : List EvV).length : Nat) : Int) = 0 := rfl
          simp only [show (restW X).turn = X.turn from rfl, show (restW X).next = X.next from rfl, show (restW X).wide = X.wide from rfl, show (restW X).high = X.high from rfl, show (restW X).gs = X.gs from rfl, show (restW X).os = X.os from rfl, show (restW X).gold = X.gold from rfl, show (restW X).qs = X.qs from rfl, hl, List.length_nil]
          clear hb hr hmv hwo hevo LY0 LY y0 y1 y2 y3 y4 y5 y6 y7 y8 R5 L5 e1 U5 P5
          go_upto_region 26 with fail
          have BY : Hid (Below v6.heap.size v6 (v6.alloc (Obj.cells #[.int .i64 X.turn, .int .i64 X.next, .int .i64 X.wide, .int .i64 X.high, .slice s1 X.gs.length r1, .slice s2 X.os.length r2, .slice s3 X.gold.length r3, .slice s4 X.us.length r4, .slice s5 X.qs.length r5] 29))) := (Below.refl _ _).alloc (Nat.le_refl _) _
          obtain ⟨by', hby⟩ : ∃ z, v6.heap.size = z := ⟨_, rfl⟩
          have Y7 : Hid (Bw (v6.alloc (Obj.cells #[.int .i64 X.turn, .int .i64 X.next, .int .i64 X.wide, .int .i64 X.high, .slice s1 X.gs.length r1, .slice s2 X.os.length r2, .slice s3 X.gold.length r3, .slice s4 X.us.length r4, .slice s5 X.qs.length r5] 29)) by' X (.slice s1 X.gs.length r1) (.slice s2 X.os.length r2) (.slice s3 X.gold.length r3) (.slice s4 X.us.length r4) (.slice s5 X.qs.length r5)) := Bw.mk' X _ _ _ _ _ hby
          rw [hby]
          generalize (v6.alloc (Obj.cells #[.int .i64 X.turn, .int .i64 X.next, .int .i64 X.wide, .int .i64 X.high, .slice s1 X.gs.length r1, .slice s2 X.os.length r2, .slice s3 X.gold.length r3, .slice s4 X.us.length r4, .slice s5 X.qs.length r5] 29)) = v7 at *
          have B7 : Hid (Below w.heap.size w v7) := B6.out.trans (BY.out.mono B6.out.size)
          obtain ⟨y0, y1, y2, y3, y4, y5, y6, y7, y8⟩ := (R6.out.below BY.out R6.out.lt).cells
          obtain ⟨x0, x1, x2, x3, x4, x5, x6, x7, x8⟩ := Y7.out
          go_wp2_with fail
          refine (worlds_like _ _ (restW X) v7 (LY1.out.below BY.out) (L6.out.below BY.out)).mono ?_
          rintro e v8 ⟨rfl, hb⟩
          have B8 : Hid (Below w.heap.size w v8) := B7.out.trans (hb.mono B7.out.size)
          clear hb x0 x1 x2 x3 x4 x5 x6 x7 x8 y0 y1 y2 y3 y4 y5 y6 y7 y8
          go_wp2
          go_ret
          exact ⟨rfl, B8.out⟩
        · have hnl : n < X.us.length := by omega
          have hni : ((n : Nat) : Int) < (X.us.length : Nat) := by omega
          obtain ⟨z, hz⟩ : ∃ z, X.us[n]? = some z := ⟨_, List.getElem?_eq_getElem hnl⟩
          have hzn := restN_at hz
          have WN : IntKind.i64.wrap ((n : Nat) + 1 : Int) = ((n : Nat) : Int) + 1 := by rw [IntKind.wrap_i64]; omega
          have c6 := (U5.out.unc hzn).c6
          have t6 := U5.out.thaw (n * 8 + 6)
          have U6 : Hid (Ub (wr.setCell ⟨g, n * 8 + 6, none⟩ (.int .i64 0)) g ((restN X.us n).set n { z with task := 0 }) rest) := U5.out.set6 hzn 0
          have K6 : Hid (Kp g wr (wr.setCell ⟨g, n * 8 + 6, none⟩ (.int .i64 0))) := Kp.set _ _ _
          go_upto_region 24 with fail
          clear c6 t6 y0 y1 y2 y3 y4 y5 y6 y7 y8
          generalize (wr.setCell ⟨g, n * 8 + 6, none⟩ (.int .i64 0)) = v6 at *
          obtain ⟨y0, y1, y2, y3, y4, y5, y6, y7, y8⟩ := (R5.out.kp K6.out (by have := GG.out.2; omega)).cells
          have hz6 : ((restN X.us n).set n { z with task := 0 })[n]? = some { z with task := 0 } := List.getElem?_set_self (by rw [restN_len]; exact hnl)
          have c7 := (U6.out.unc hz6).c7
          have t7 := U6.out.thaw (n * 8 + 7)
          have U7 : Hid (Ub (v6.setCell ⟨g, n * 8 + 7, none⟩ (.int .i64 0)) g (restN X.us (n + 1)) rest) := by
            have h9 := U6.out.set7 hz6 0
            rw [List.set_set] at h9
            unfold Hid
            rw [← restN_next hz]
            exact h9
          have P7 : Hid (Kp g v4 (v6.setCell ⟨g, n * 8 + 7, none⟩ (.int .i64 0))) := (P5.out.trans K6.out).trans (Kp.set _ _ _)
          clear hz6 hzn hz
          go_wp2
          go_round
          case rel => exact ⟨n + 1, by go_num, by omega, U7.out, P7.out⟩
          case measure => simp [intOf]; omega
end Go.Proofs.YtplnhgllbhdfjaaDoor.moveWishes

