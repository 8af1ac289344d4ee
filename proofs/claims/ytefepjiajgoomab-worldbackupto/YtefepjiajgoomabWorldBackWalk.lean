/- WorldBack: the walk. -/
import Derived.Test.YtefepjiajgoomabWdG
import Derived.Test.YtefepjiajgoomabWdE
import Derived.Test.YtefepjiajgoomabDcI
import Derived.Test.YtefepjiajgoomabSmW
import Derived.Test.YtefepjiajgoomabWbA
namespace Go.Proofs.Ytefepjiajgoomab.worldBack
open Go.RowKit
set_option linter.unusedVariables false

theorem small_of {X : WV} (h : Wd.Wok X) : WSmall X := ⟨Nat.le_trans h.g (by omega), Nat.le_trans h.o (by omega), Nat.le_trans h.p (by omega), Nat.le_trans h.u (by omega), Nat.le_trans h.q (by omega)⟩
theorem enc_len {X : WV} (h : Wd.Wok X) : (Wd.enc X).length ≤ 200000 := by
  have h1 := wr_len h.in_
  have h2 : (Wd.nums X).length ≤ 4000 := by
    have := h.g; have := h.o; have := h.p; have := h.u; have := h.q
    unfold Wd.nums
    simp only [List.length_append, List.length_cons, List.length_nil, flat_len (f := Wd.unums) (n := 8) (fun x => rfl), flat_len (f := Wd.jnums) (n := 4) (fun x => rfl)]
    omega
  unfold Wd.enc
  omega
theorem enc_pos (X : WV) : 0 < (Wd.enc X).length := by
  have h := Wd.num_pos X.turn
  have : Wd.enc X = Wd.num X.turn ++ Wd.wr (Wd.nums X).tail := by simp [Wd.enc, Wd.nums, Wd.wr]
  rw [this, List.length_append]
  omega
theorem nil_wl (w : World) (t : Int) : Wl w (.agg #[.int .i64 t, .int .i64 0, .int .i64 0, .int .i64 0, .slice none 0 0, .slice none 0 0, .slice none 0 0, .slice none 0 0, .slice none 0 0]) ⟨t, 0, 0, 0, [], [], [], [], []⟩ :=
  ⟨_, _, _, _, _, rfl, ⟨none, 0, rfl, Nat.le_refl _, by omega, fun h => absurd rfl h⟩, ⟨none, 0, rfl, Nat.le_refl _, by omega, fun h => absurd rfl h⟩, ⟨none, 0, rfl, Nat.le_refl _, by omega, fun h => absurd rfl h⟩, ⟨none, 0, rfl, Nat.le_refl _, by omega, fun h => absurd rfl h⟩, ⟨none, 0, rfl, Nat.le_refl _, by omega, fun h => absurd rfl h⟩⟩
set_option maxRecDepth 100000 in
set_option maxHeartbeats 8000000 in
theorem walk (v0 : Value) (X : WV) (v1 : Value) (l : List UInt8) (w : World) (h0 : Wl w v0 X ∧ (∀ n ∈ Wd.nums X, Wd.In64 n)) (s0 : WSmall X) (h1 : By w v1 l) (b1 : l.length ≤ 1048576) :
    Calls Try.prog 3 #[v0, v1] w fun e w' => e = .returned (.bool true) ∧ Below w.heap.size w w' := by
  obtain ⟨h0, hi⟩ := h0
  have H0 : Hid (Wl w v0 X) := h0
  have HI : Hid (∀ n ∈ Wd.nums X, Wd.In64 n) := hi
  have S0 : Hid (WSmall X) := s0
  have H1 : Hid (By w v1 l) := h1
  obtain ⟨u1, u2, u3, u4, u5, rfl, r1, r2, r3, r4, r5⟩ := h0
  obtain ⟨p1, q1, rfl, -⟩ := r1
  obtain ⟨p2, q2, rfl, -⟩ := r2
  obtain ⟨p3, q3, rfl, -⟩ := r3
  obtain ⟨p4, q4, rfl, -⟩ := r4
  obtain ⟨p5, q5, rfl, -⟩ := r5
  obtain ⟨ad, cap, rfl, c1, c2, -⟩ := h1
  clear hi s0
  go_enter Try.func3, Try.ntmps3
  go_wp2_with fail
  have X0 : Hid (Bw (w.alloc (Obj.cells #[.int .i64 X.turn, .int .i64 X.next, .int .i64 X.wide, .int .i64 X.high, .slice p1 X.gs.length q1, .slice p2 X.os.length q2, .slice p3 X.gold.length q3, .slice p4 X.us.length q4, .slice p5 X.qs.length q5] 28)) w.heap.size X (.slice p1 X.gs.length q1) (.slice p2 X.os.length q2) (.slice p3 X.gold.length q3) (.slice p4 X.us.length q4) (.slice p5 X.qs.length q5)) := Bw.mk' X _ _ _ _ _ rfl
  have B0 : Hid (Below w.heap.size w (w.alloc (Obj.cells #[.int .i64 X.turn, .int .i64 X.next, .int .i64 X.wide, .int .i64 X.high, .slice p1 X.gs.length q1, .slice p2 X.os.length q2, .slice p3 X.gold.length q3, .slice p4 X.us.length q4, .slice p5 X.qs.length q5] 28))) := (Below.refl _ _).alloc (Nat.le_refl _) _
  generalize (w.alloc (Obj.cells #[.int .i64 X.turn, .int .i64 X.next, .int .i64 X.wide, .int .i64 X.high, .slice p1 X.gs.length q1, .slice p2 X.os.length q2, .slice p3 X.gold.length q3, .slice p4 X.us.length q4, .slice p5 X.qs.length q5] 28)) = w1 at *
  refine (encode_any _ ⟨1, 0, 0, 0, [], [], [], [], []⟩ w1 (nil_wl _ _) ⟨by simp, by simp, by simp, by simp, by simp⟩ (by intro n hn; simp [Wd.nums] at hn; unfold Wd.In64; omega)).mono ?_
  rintro e w2 ⟨u, rfl, ho, hb⟩
  rw [enc_one] at ho
  obtain ⟨g, c, rfl, hc⟩ := ho.text (by simp)
  have d0 : w2.cell? ⟨g, 0, none⟩ = some (.int .u8 2) := by
    have := hc 0 (by simp)
    rw [Addr.add_lit, Nat.zero_add] at this
    exact this
  have X2 : Hid (Bw w2 w.heap.size X (.slice p1 X.gs.length q1) (.slice p2 X.os.length q2) (.slice p3 X.gold.length q3) (.slice p4 X.us.length q4) (.slice p5 X.qs.length q5)) := X0.out.below hb X0.out.lt
  have B2 : Hid (Below w.heap.size w w2) := B0.out.trans (hb.mono B0.out.size)
  clear hc ho hb
  have hl9 : (([2, 0, 0, 0, 0, 0, 0, 0, 0] : List UInt8).length : Nat) = 9 := rfl
  rw [hl9]
  clear hl9
  go_upto_region 4 with fail
  clear d0 X0 B0
  obtain ⟨x0, x1, x2, x3, x4, x5, x6, x7, x8⟩ := X2.out
  have hcase : (X.gs.length ≤ 200 ∧ X.os.length ≤ 200 ∧ X.gold.length ≤ 200 ∧ X.us.length ≤ 200 ∧ X.qs.length ≤ 200) ∨ (¬ (X.gs.length : Int) ≤ 200 ∨ ((X.gs.length : Int) ≤ 200 ∧ ¬ (X.os.length : Int) ≤ 200) ∨ ((X.gs.length : Int) ≤ 200 ∧ (X.os.length : Int) ≤ 200 ∧ ¬ (X.gold.length : Int) ≤ 200) ∨ ((X.gs.length : Int) ≤ 200 ∧ (X.os.length : Int) ≤ 200 ∧ (X.gold.length : Int) ≤ 200 ∧ ¬ (X.us.length : Int) ≤ 200) ∨ ((X.gs.length : Int) ≤ 200 ∧ (X.os.length : Int) ≤ 200 ∧ (X.gold.length : Int) ≤ 200 ∧ (X.us.length : Int) ≤ 200 ∧ ¬ (X.qs.length : Int) ≤ 200)) := by omega
  rcases hcase with ⟨g1, g2, g3, g4, g5⟩ | hbad
  · have OKX : Hid (Wd.Wok X) := ⟨HI.out, g1, g2, g3, g4, g5⟩
    have i1 : (X.gs.length : Int) ≤ 200 := by omega
    have i2 : (X.os.length : Int) ≤ 200 := by omega
    have i3 : (X.gold.length : Int) ≤ 200 := by omega
    have i4 : (X.us.length : Int) ≤ 200 := by omega
    have i5 : (X.qs.length : Int) ≤ 200 := by omega
    clear g1 g2 g3 g4 g5
    go_wp2_with fail
    refine (encode_any _ X w2 (H0.out.below B2.out) S0.out HI.out).mono ?_
    rintro e w3 ⟨x, rfl, ho, hb⟩
    obtain ⟨E, hE⟩ : ∃ E, Wd.enc X = E := ⟨_, rfl⟩
    have LE : Hid (0 < E.length ∧ E.length ≤ 200000) := by rw [← hE]; exact ⟨enc_pos X, enc_len OKX.out⟩
    have CU : Hid (Wd.pworld (E.take (E.length - 1)) 0 = none) := by rw [← hE]; exact Wd.dec_cut OKX.out (by have := enc_pos X; omega)
    have EN : Hid (Wd.pworld (E ++ l) 0 = some (X, E.length)) := by rw [← hE]; exact Wd.dec_enc OKX.out l
    rw [hE] at ho
    have O3 : Hid (Ob w3 w2.heap.size x E) := ho
    have B3 : Hid (Below w.heap.size w w3) := B2.out.trans (hb.mono B2.out.size)
    have S3 : Hid (w2.heap.size ≤ w3.heap.size) := hb.size
    have X3 : Hid (Bw w3 w.heap.size X (.slice p1 X.gs.length q1) (.slice p2 X.os.length q2) (.slice p3 X.gold.length q3) (.slice p4 X.us.length q4) (.slice p5 X.qs.length q5)) := X2.out.below hb X2.out.lt
    obtain ⟨g3, c3, rfl, -⟩ := ho.text LE.out.1
    have L1 := LE.out.1
    have L2 := LE.out.2
    have lc : E.length ≤ c3 ∧ c3 ≤ 9223372036854775807 := by
      obtain ⟨_, c', e', k1, k2, -⟩ := ho.by_
      injection e' with e1 e2 e3
      unfold maxLen at k2
      omega
    have lc1 := lc.1
    have lc2 := lc.2
    have SX : Hid (w.heap.size < w2.heap.size) := X2.out.lt
    clear ho hb hE x0 x1 x2 x3 x4 x5 x6 x7 x8 X2 lc
    obtain ⟨n, hn⟩ : ∃ n, E.length = n + 1 := ⟨E.length - 1, by omega⟩
    have hn1 : (E.length : Int) - 1 = (n : Nat) := by omega
    have wn1 : IntKind.i64.wrap ((n : Nat) : Int) = (n : Nat) := by rw [IntKind.wrap_i64]; omega
    have HNN : Hid (E.length = n + 1) := hn
    have hlt1 : ¬ (E.length : Int) < 1 := by omega
    have nc : n ≤ c3 := by omega
    clear hn
    go_wp2_with fail
    refine (decode_any _ (E.take n) w3 (O3.out.by_.take (by have := HNN.out; omega))).mono ?_
    rintro e w4 ⟨hs, hb⟩
    unfold DecSays at hs
    have CU2 : Wd.pworld (E.take n) 0 = none := by have := CU.out; rwa [show E.length - 1 = n from by have := HNN.out; omega] at this
    rw [CU2] at hs
    subst hs
    have B4 : Hid (Below w.heap.size w w4) := B3.out.trans (hb.mono B3.out.size)
    have S4 : Hid (w2.heap.size ≤ w4.heap.size ∧ w.heap.size < w2.heap.size) := ⟨Nat.le_trans S3.out hb.size, SX.out⟩
    have X4 : Hid (Bw w4 w.heap.size X (.slice p1 X.gs.length q1) (.slice p2 X.os.length q2) (.slice p3 X.gold.length q3) (.slice p4 X.us.length q4) (.slice p5 X.qs.length q5)) := X3.out.below hb X3.out.lt
    have O4 : Hid (Ob w4 w2.heap.size (.slice (some ⟨g3, 0, none⟩) E.length c3) E) := World.ownsRow.kept O3.out (row := none) ⟨hb.os, hb.tape, hb.output, hb.size, fun k hk _ => hb.block k hk⟩ (.inr (by simp [Value.ownBlock]))
    clear CU2 hb X3 O3
    go_wp2_with (at_builtin; refine app_bytes _ rfl _ _ rfl w2.heap.size _ E rfl (World.ownsRow.alloc O4.out _) _ l rfl ((H1.out.below B4.out).below ((Below.refl _ _).alloc (Nat.le_refl _) _)) (by have := LE.out.2; omega) (by have := S4.out; simp; omega) ?_)
    intro v5 w5 o5 g5
    have O5 : Hid (By w5 v5 (E ++ l)) := o5.by_
    have hob : ∀ b, (Value.slice (some ⟨g3, 0, none⟩) E.length c3).ownBlock = some b → w2.heap.size ≤ b := fun b hb => (O4.out.block b hb).1
    have B5 : Hid (Below w.heap.size w w5) := (B4.out.alloc B4.out.size _).grown g5 (by have := B4.out.size; simp; omega) (fun b hb => by have := hob b hb; have := S4.out; omega)
    have X5 : Hid (Bw w5 w.heap.size X (.slice p1 X.gs.length q1) (.slice p2 X.os.length q2) (.slice p3 X.gold.length q3) (.slice p4 X.us.length q4) (.slice p5 X.qs.length q5)) := (X4.out.below ((Below.refl _ _).alloc (Nat.le_refl _) _) X4.out.lt).grown g5 (fun b hb => by have := hob b hb; have := S4.out; omega)
    clear o5 g5 hob X4 O4
    go_wp2_with fail
    refine (decode_any _ (E ++ l) w5 O5.out).mono ?_
    rintro e w6 ⟨hs, hb⟩
    unfold DecSays at hs
    rw [EN.out] at hs
    obtain ⟨y, rfl, hw⟩ := hs
    have WY : Hid (Wl w6 y X) := hw.l
    obtain ⟨y1, y2, y3, y4, y5, rfl, o1, o2, o3, o4, o5⟩ := hw
    obtain ⟨a1, e1, rfl⟩ := o1.len
    obtain ⟨a2, e2, rfl⟩ := o2.len
    obtain ⟨a3, e3, rfl⟩ := o3.len
    obtain ⟨a4, e4, rfl⟩ := o4.len
    obtain ⟨a5, e5, rfl⟩ := o5.len
    have B6 : Hid (Below w.heap.size w w6) := B5.out.trans (hb.mono B5.out.size)
    have X6 : Hid (Bw w6 w.heap.size X (.slice p1 X.gs.length q1) (.slice p2 X.os.length q2) (.slice p3 X.gold.length q3) (.slice p4 X.us.length q4) (.slice p5 X.qs.length q5)) := X5.out.below hb X5.out.lt
    clear o1 o2 o3 o4 o5 hb X5
    go_upto_region 12 with fail
    have BA : Hid (Below w6.heap.size w6 (w6.alloc (Obj.cells #[.int .i64 X.turn, .int .i64 X.next, .int .i64 X.wide, .int .i64 X.high, .slice a1 X.gs.length e1, .slice a2 X.os.length e2, .slice a3 X.gold.length e3, .slice a4 X.us.length e4, .slice a5 X.qs.length e5] 28))) := (Below.refl _ _).alloc (Nat.le_refl _) _
    have Y7 : Hid (Bw (w6.alloc (Obj.cells #[.int .i64 X.turn, .int .i64 X.next, .int .i64 X.wide, .int .i64 X.high, .slice a1 X.gs.length e1, .slice a2 X.os.length e2, .slice a3 X.gold.length e3, .slice a4 X.us.length e4, .slice a5 X.qs.length e5] 28)) w6.heap.size X (.slice a1 X.gs.length e1) (.slice a2 X.os.length e2) (.slice a3 X.gold.length e3) (.slice a4 X.us.length e4) (.slice a5 X.qs.length e5)) := Bw.mk' X _ _ _ _ _ rfl
    generalize (w6.alloc (Obj.cells #[.int .i64 X.turn, .int .i64 X.next, .int .i64 X.wide, .int .i64 X.high, .slice a1 X.gs.length e1, .slice a2 X.os.length e2, .slice a3 X.gold.length e3, .slice a4 X.us.length e4, .slice a5 X.qs.length e5] 28)) = w7 at *
    have X7 : Hid (Bw w7 w.heap.size X (.slice p1 X.gs.length q1) (.slice p2 X.os.length q2) (.slice p3 X.gold.length q3) (.slice p4 X.us.length q4) (.slice p5 X.qs.length q5)) := X6.out.below BA.out X6.out.lt
    obtain ⟨x0, x1, x2, x3, x4, x5, x6, x7, x8⟩ := X7.out
    obtain ⟨z0, z1, z2, z3, z4, z5, z6, z7, z8⟩ := Y7.out
    go_wp2_with fail
    have B7 : Hid (Below w.heap.size w w7) := B6.out.trans (BA.out.mono B6.out.size)
    refine (worlds_like _ _ X w7 (WY.out.below BA.out) (H0.out.below B7.out)).mono ?_
    rintro e w8 ⟨rfl, hb⟩
    have BZ : Hid (Below w.heap.size w w8) := B7.out.trans (hb.mono B7.out.size)
    clear hb x0 x1 x2 x3 x4 x5 x6 x7 x8 z0 z1 z2 z3 z4 z5 z6 z7 z8 X6 X7 Y7 WY BA
    go_wp2_with fail
    refine (decode_any _ l _ (H1.out.below BZ.out)).mono ?_
    rintro e w9 ⟨hs, hb9⟩
    have B9 : Hid (Below w.heap.size w w9) := BZ.out.trans (hb9.mono BZ.out.size)
    unfold DecSays at hs
    cases hp : Wd.pworld l 0 with
    | none =>
      rw [hp] at hs
      subst hs
      clear hb9 hp
      go_wp2
      go_ret
      exact ⟨rfl, B9.out.alloc B9.out.size _⟩
    | some q =>
      obtain ⟨Y, n⟩ := q
      rw [hp] at hs
      obtain ⟨y, rfl, hw⟩ := hs
      obtain ⟨k1, k2, k3⟩ := Wd.dec_back hp
      have WY : Hid (Wo w9 _ y Y) := hw
      obtain ⟨y1, y2, y3, y4, y5, rfl, o1, o2, o3, o4, o5⟩ := hw
      obtain ⟨a1, e1, rfl⟩ := o1.len
      obtain ⟨a2, e2, rfl⟩ := o2.len
      obtain ⟨a3, e3, rfl⟩ := o3.len
      obtain ⟨a4, e4, rfl⟩ := o4.len
      obtain ⟨a5, e5, rfl⟩ := o5.len
      have OK : Hid (Wd.Wok Y ∧ l.take n = Wd.enc Y ∧ n ≤ l.length) := by
        refine ⟨k1, ?_, ?_⟩
        · rw [k2, k3, List.take_left]
        · have := congrArg List.length k2
          rw [List.length_append] at this
          omega
      clear o1 o2 o3 o4 o5 k1 k2 k3 hp hb9
      go_wp2_with fail
      have BA : Hid (Below w9.heap.size w9 (w9.alloc (Obj.cells #[.int .i64 Y.turn, .int .i64 Y.next, .int .i64 Y.wide, .int .i64 Y.high, .slice a1 Y.gs.length e1, .slice a2 Y.os.length e2, .slice a3 Y.gold.length e3, .slice a4 Y.us.length e4, .slice a5 Y.qs.length e5] 28))) := (Below.refl _ _).alloc (Nat.le_refl _) _
      generalize (w9.alloc (Obj.cells #[.int .i64 Y.turn, .int .i64 Y.next, .int .i64 Y.wide, .int .i64 Y.high, .slice a1 Y.gs.length e1, .slice a2 Y.os.length e2, .slice a3 Y.gold.length e3, .slice a4 Y.us.length e4, .slice a5 Y.qs.length e5] 28)) = wa at *
      refine (encode_any _ Y wa (WY.out.l.below BA.out) (small_of OK.out.1) OK.out.1.in_).mono ?_
      rintro e wb ⟨x, rfl, ho, hb⟩
      have O : Hid (By wb x (Wd.enc Y)) := ho.by_
      have BB : Hid (Below w.heap.size w wb) := (B9.out.trans (BA.out.mono B9.out.size)).trans (hb.mono (Nat.le_trans B9.out.size BA.out.size))
      obtain ⟨g9, c9, rfl, -⟩ := ho.text (enc_pos Y)
      clear ho hb
      have hn : n ≤ l.length := OK.out.2.2
      have hni : (n : Int) ≤ (l.length : Int) := by omega
      have hnc : n ≤ cap := by omega
      have T : Hid (By wb (.slice ad n cap) (l.take n)) := (H1.out.below BB.out).take hn
      go_upto_region 19 with fail
      refine wp_region_sched [(true, 0), (true, 1), (true, 2), (true, 3), (true, 4), (true, 5), (true, 6), (true, 7)] (fun W => (convert 29 9 (.slice (some ⟨g9, 0, none⟩) (Wd.enc Y).length c9)).run Try.prog W = .ok (.string ⟨(Wd.enc Y).toArray⟩) W ∧ (convert 29 9 (.slice ad n cap)).run Try.prog W = .ok (.string ⟨(Wd.enc Y).toArray⟩) W) (by kernel_rfl) (by kernel_rfl) (by kernel_rfl) (by kernel_rfl) ⟨(O.out.below (Below.refl _ _).drew).conv, by have := (T.out.below (Below.refl _ _).drew).conv; rw [OK.out.2.1] at this; exact this⟩ ?_
      have BD : Hid (Below w.heap.size w { wb with drawn := wb.drawn + 1 }) := BB.out.drew
      generalize ({ wb with drawn := wb.drawn + 1 } : World) = wd at *
      refine sched_read rfl (.slice (some ⟨g9, 0, none⟩) (Wd.enc Y).length c9) (by go_simp) (fun W hW => by go_simp) ?_
      go_simp
      refine sched_read rfl (.string ⟨(Wd.enc Y).toArray⟩) (by go_simp) (fun W hW => by obtain ⟨f1, f2⟩ := hW; go_simp) ?_
      go_simp
      refine sched_read rfl (.slice ad l.length cap) (by go_simp) (fun W hW => by go_simp) ?_
      go_simp
      refine sched_read rfl (.int .i64 (n : Nat)) (by go_simp) (fun W hW => by go_simp) ?_
      go_simp
      refine sched_read rfl (.slice ad n cap) (by go_simp) (fun W hW => by go_simp) ?_
      go_simp
      refine sched_read rfl (.string ⟨(Wd.enc Y).toArray⟩) (by go_simp) (fun W hW => by obtain ⟨f1, f2⟩ := hW; go_simp) ?_
      go_simp
      refine sched_read rfl (.bool true) (by go_simp) (fun W hW => by go_simp) ?_
      go_simp
      refine sched_read rfl (.bool true) (by go_simp) (fun W hW => by go_simp) ?_
      go_simp
      unfold wpSched
      go_wp2
      go_ret
      exact ⟨rfl, BD.out⟩
  · have BZ : Hid (Below w.heap.size w w2) := B2.out
    rcases hbad with i1 | ⟨i1, i2⟩ | ⟨i1, i2, i3⟩ | ⟨i1, i2, i3, i4⟩ | ⟨i1, i2, i3, i4, i5⟩
    all_goals
      go_wp2_with fail
      refine (decode_any _ l _ (H1.out.below BZ.out)).mono ?_
      rintro e w9 ⟨hs, hb9⟩
      have B9 : Hid (Below w.heap.size w w9) := BZ.out.trans (hb9.mono BZ.out.size)
      unfold DecSays at hs
      cases hp : Wd.pworld l 0 with
      | none =>
        rw [hp] at hs
        subst hs
        clear hb9 hp
        go_wp2
        go_ret
        exact ⟨rfl, B9.out.alloc B9.out.size _⟩
      | some q =>
        obtain ⟨Y, n⟩ := q
        rw [hp] at hs
        obtain ⟨y, rfl, hw⟩ := hs
        obtain ⟨k1, k2, k3⟩ := Wd.dec_back hp
        have WY : Hid (Wo w9 _ y Y) := hw
        obtain ⟨y1, y2, y3, y4, y5, rfl, o1, o2, o3, o4, o5⟩ := hw
        obtain ⟨a1, e1, rfl⟩ := o1.len
        obtain ⟨a2, e2, rfl⟩ := o2.len
        obtain ⟨a3, e3, rfl⟩ := o3.len
        obtain ⟨a4, e4, rfl⟩ := o4.len
        obtain ⟨a5, e5, rfl⟩ := o5.len
        have OK : Hid (Wd.Wok Y ∧ l.take n = Wd.enc Y ∧ n ≤ l.length) := by
          refine ⟨k1, ?_, ?_⟩
          · rw [k2, k3, List.take_left]
          · have := congrArg List.length k2
            rw [List.length_append] at this
            omega
        clear o1 o2 o3 o4 o5 k1 k2 k3 hp hb9
        go_wp2_with fail
        have BA : Hid (Below w9.heap.size w9 (w9.alloc (Obj.cells #[.int .i64 Y.turn, .int .i64 Y.next, .int .i64 Y.wide, .int .i64 Y.high, .slice a1 Y.gs.length e1, .slice a2 Y.os.length e2, .slice a3 Y.gold.length e3, .slice a4 Y.us.length e4, .slice a5 Y.qs.length e5] 28))) := (Below.refl _ _).alloc (Nat.le_refl _) _
        generalize (w9.alloc (Obj.cells #[.int .i64 Y.turn, .int .i64 Y.next, .int .i64 Y.wide, .int .i64 Y.high, .slice a1 Y.gs.length e1, .slice a2 Y.os.length e2, .slice a3 Y.gold.length e3, .slice a4 Y.us.length e4, .slice a5 Y.qs.length e5] 28)) = wa at *
        refine (encode_any _ Y wa (WY.out.l.below BA.out) (small_of OK.out.1) OK.out.1.in_).mono ?_
        rintro e wb ⟨x, rfl, ho, hb⟩
        have O : Hid (By wb x (Wd.enc Y)) := ho.by_
        have BB : Hid (Below w.heap.size w wb) := (B9.out.trans (BA.out.mono B9.out.size)).trans (hb.mono (Nat.le_trans B9.out.size BA.out.size))
        obtain ⟨g9, c9, rfl, -⟩ := ho.text (enc_pos Y)
        clear ho hb
        have hn : n ≤ l.length := OK.out.2.2
        have hni : (n : Int) ≤ (l.length : Int) := by omega
        have hnc : n ≤ cap := by omega
        have T : Hid (By wb (.slice ad n cap) (l.take n)) := (H1.out.below BB.out).take hn
        go_upto_region 19 with fail
        refine wp_region_sched [(true, 0), (true, 1), (true, 2), (true, 3), (true, 4), (true, 5), (true, 6), (true, 7)] (fun W => (convert 29 9 (.slice (some ⟨g9, 0, none⟩) (Wd.enc Y).length c9)).run Try.prog W = .ok (.string ⟨(Wd.enc Y).toArray⟩) W ∧ (convert 29 9 (.slice ad n cap)).run Try.prog W = .ok (.string ⟨(Wd.enc Y).toArray⟩) W) (by kernel_rfl) (by kernel_rfl) (by kernel_rfl) (by kernel_rfl) ⟨(O.out.below (Below.refl _ _).drew).conv, by have := (T.out.below (Below.refl _ _).drew).conv; rw [OK.out.2.1] at this; exact this⟩ ?_
        have BD : Hid (Below w.heap.size w { wb with drawn := wb.drawn + 1 }) := BB.out.drew
        generalize ({ wb with drawn := wb.drawn + 1 } : World) = wd at *
        refine sched_read rfl (.slice (some ⟨g9, 0, none⟩) (Wd.enc Y).length c9) (by go_simp) (fun W hW => by go_simp) ?_
        go_simp
        refine sched_read rfl (.string ⟨(Wd.enc Y).toArray⟩) (by go_simp) (fun W hW => by obtain ⟨f1, f2⟩ := hW; go_simp) ?_
        go_simp
        refine sched_read rfl (.slice ad l.length cap) (by go_simp) (fun W hW => by go_simp) ?_
        go_simp
        refine sched_read rfl (.int .i64 (n : Nat)) (by go_simp) (fun W hW => by go_simp) ?_
        go_simp
        refine sched_read rfl (.slice ad n cap) (by go_simp) (fun W hW => by go_simp) ?_
        go_simp
        refine sched_read rfl (.string ⟨(Wd.enc Y).toArray⟩) (by go_simp) (fun W hW => by obtain ⟨f1, f2⟩ := hW; go_simp) ?_
        go_simp
        refine sched_read rfl (.bool true) (by go_simp) (fun W hW => by go_simp) ?_
        go_simp
        refine sched_read rfl (.bool true) (by go_simp) (fun W hW => by go_simp) ?_
        go_simp
        unfold wpSched
        go_wp2
        go_ret
        exact ⟨rfl, BD.out⟩
end Go.Proofs.Ytefepjiajgoomab.worldBack
