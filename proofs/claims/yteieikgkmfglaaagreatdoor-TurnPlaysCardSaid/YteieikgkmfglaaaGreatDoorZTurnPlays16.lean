/- The reference's Spot. · One more unit, one more job: the run itself. · Jobs in a block that may be written. -/
import Derived.Test.YteieikgkmfglaaaGreatDoorZTurnPlays13
import Derived.Test.YteieikgkmfglaaaGreatDoorZTurnPlays15
import Derived.Test.YteieikgkmfglaaaGreatDoorZTurnPlays10
import Derived.Test.YteieikgkmfglaaaGreatDoorZTurnPlays4
import Derived.Test.YteieikgkmfglaaaGreatDoorZTurnPlays1
import Derived.Laws.MakeOwn
import Derived.Test.YteieikgkmfglaaaGreatDoorZTurnPlays5
namespace Go.Proofs.YteieikgkmfglaaaGreatDoor
open Go.RowKit Wy
set_option linter.unusedVariables false

theorem free_on {us : List UnV} {c r : Int} (h : FstU (fun u => u.at_ == c) us r) : freeAt us c = decide (r < 0) := by
  unfold freeAt
  rcases h with ⟨rfl, h⟩ | ⟨k, x, rfl, hx, hp, -⟩
  · rw [h]; decide
  · rw [List.any_eq_true.2 ⟨x, List.mem_of_getElem? hx, hp⟩]
    symm
    exact decide_eq_false (by omega)
set_option maxRecDepth 100000 in
set_option maxHeartbeats 16000000 in
theorem rspot_any (vk vw : Value) (ks : List KV) (X : WV) (an kn Wn Hn : Nat) (k : KV) (l : List Int) (w : World) (hk : Kl w vk ks) (hw : Wl w vw X) (G : Fd.Good Wn Hn X.gs X.os) (e1 : X.wide = (Wn : Nat)) (e2 : X.high = (Hn : Nat)) (ha : an < Wn * Hn)
    (hkk : ks[kn]? = some k) (hl : IsFar (Fd.near Wn Hn) (fun i _ => (X.gs.map fun g => Fd.onto g k.f).getD i 0) an (Wn * Hn) l) :
    Calls Tryz.prog 15 #[vk, vw, .int .i64 (an : Nat), .int .i64 (kn : Nat)] w fun e w' => e = .returned (.int .i64 (rsp l (freeAt X.us) (Wn * Hn)).1) ∧ Below w.heap.size w w' := by
  have GD : Hid (Fd.Good Wn Hn X.gs X.os ∧ X.wide = (Wn : Nat) ∧ X.high = (Hn : Nat) ∧ an < Wn * Hn) := ⟨G, e1, e2, ha⟩
  have EV : Hid (Even (Fd.near Wn Hn) (fun _ j => (X.gs.map fun g => Fd.onto g k.f).getD j 0) (Wn * Hn)) := even_to G.w1 X.gs k.f
  have LF : Hid (IsFar (Fd.near Wn Hn) (fun i _ => (X.gs.map fun g => Fd.onto g k.f).getD i 0) an (Wn * Hn) l) := hl
  have H : Hid (Wl w vw X) := hw
  have hkl : kn < ks.length := (List.getElem?_eq_some_iff.1 hkk).1
  have hki : ((kn : Nat) : Int) < (ks.length : Nat) := by omega
  have GL : Hid (X.gs.length = Wn * Hn) := G.gl
  obtain ⟨nm, hnm⟩ : ∃ n, X.gs.length = n := ⟨_, rfl⟩
  have NM : Hid (Wn * Hn = nm ∧ nm ≤ 144) := ⟨by rw [← hnm]; exact G.gl.symm, by have h1 := G.gl; have h2 : Wn * Hn ≤ 12 * 12 := Nat.mul_le_mul G.w2 G.h2; omega⟩
  clear hnm
  obtain ⟨p1, s1, p2, s2, p3, s3, p4, s4, p5, s5, rfl⟩ := wl_shape9 hw
  obtain ⟨pk, qk, rfl, ck1, ck2, kc⟩ := hk
  obtain ⟨xk, rfl, hxk, hkc⟩ := kc (by intro h; rw [h] at hkl; simp at hkl)
  have KC : Hid (Kc w (xk.add (kn * 11)) k ∧ (xk.add (kn * 11)).block < w.heap.size) := ⟨hkc kn k hkk, by rw [add_block]; exact hxk⟩
  obtain ⟨b, hb0⟩ : ∃ z, w.heap.size = z := ⟨_, rfl⟩
  have B0 : Hid (Below w.heap.size w (w.alloc (Obj.cells #[.int .i64 X.turn, .int .i64 X.next, .int .i64 X.wide, .int .i64 X.high, .slice p1 X.gs.length s1, .slice p2 X.os.length s2, .slice p3 X.gold.length s3, .slice p4 X.us.length s4, .slice p5 X.qs.length s5] 29))) := (Below.refl _ _).alloc (Nat.le_refl _) _
  have X0 : Hid (Bw (w.alloc (Obj.cells #[.int .i64 X.turn, .int .i64 X.next, .int .i64 X.wide, .int .i64 X.high, .slice p1 X.gs.length s1, .slice p2 X.os.length s2, .slice p3 X.gold.length s3, .slice p4 X.us.length s4, .slice p5 X.qs.length s5] 29)) b X (.slice p1 X.gs.length s1) (.slice p2 X.os.length s2) (.slice p3 X.gold.length s3) (.slice p4 X.us.length s4) (.slice p5 X.qs.length s5)) := Bw.mk' X _ _ _ _ _ hb0
  clear hw G e1 e2 ha hkk hl kc hkc hxk
  rw [NM.out.1]
  go_enter Tryz.func15, Tryz.ntmps15
  go_upto_region 1 with fail
  (try rw [hb0])
  clear hb0
  generalize w.alloc (Obj.cells #[.int .i64 X.turn, .int .i64 X.next, .int .i64 X.wide, .int .i64 X.high, .slice p1 X.gs.length s1, .slice p2 X.os.length s2, .slice p3 X.gold.length s3, .slice p4 X.us.length s4, .slice p5 X.qs.length s5] 29) = w0 at *
  go_wp2_with fail
  go_loopw [9, 10, 11] (fun v9 v10 v11 V => ∃ n : Nat, n ≤ nm ∧ v11 = .int .i64 (n : Nat) ∧ v9 = .int .i64 (rsp l (freeAt X.us) n).1 ∧ v10 = .int .i64 (rsp l (freeAt X.us) n).2 ∧ Below w0.heap.size w0 V) (fun _ _ v11 _ => nm - (intOf v11).toNat)
  case atStart => exact ⟨0, Nat.zero_le _, rfl, rfl, rfl, Below.refl _ _⟩
  case round =>
  obtain ⟨n, hn, rfl, rfl, rfl, hbr⟩ := hrel
  have BV : Hid (Below w.heap.size w wr) := B0.out.trans (hbr.mono B0.out.size)
  have XV : Hid (Bw wr b X (.slice p1 X.gs.length s1) (.slice p2 X.os.length s2) (.slice p3 X.gold.length s3) (.slice p4 X.us.length s4) (.slice p5 X.qs.length s5)) := X0.out.below hbr X0.out.lt
  have BR : Hid (Below w0.heap.size w0 wr) := hbr
  have SZ : Hid (b < w0.heap.size) := X0.out.lt
  clear hbr
  by_cases h0 : n = nm
  · have hni : ¬ ((n : Nat) : Int) < (X.gs.length : Nat) := by have := GL.out; have := NM.out.1; omega
    obtain ⟨x0, x1, x2, x3, x4, x5, x6, x7, x8⟩ := XV.out
    subst h0
    go_wp2
    go_ret
    exact ⟨rfl, BV.out⟩
  · have hni : ((n : Nat) : Int) < (X.gs.length : Nat) := by have := GL.out; have := NM.out.1; omega
    have hnl : n < nm := by omega
    obtain ⟨x0, x1, x2, x3, x4, x5, x6, x7, x8⟩ := XV.out
    obtain ⟨m, hm⟩ : ∃ m, (rsp l (freeAt X.us) n).2 = m := ⟨_, rfl⟩
    obtain ⟨bs, hbs⟩ : ∃ m, (rsp l (freeAt X.us) n).1 = m := ⟨_, rfl⟩
    have RS : Hid ((rsp l (freeAt X.us) n).2 = m ∧ (rsp l (freeAt X.us) n).1 = bs) := ⟨hm, hbs⟩
    rw [hm, hbs]
    clear hm hbs
    go_wp2_with fail
    refine (ron_any _ X (n : Nat) wr (H.out.below BV.out)).mono ?_
    rintro e w2 ⟨r, rfl, hr, hb⟩
    have FR : Hid (freeAt X.us (n : Nat) = decide (r < 0)) := free_on hr
    have BV2 : Hid (Below w.heap.size w w2) := BV.out.trans (hb.mono BV.out.size)
    have BR2 : Hid (Below w0.heap.size w0 w2) := BR.out.trans (hb.mono BR.out.size)
    have XV2 : Hid (Bw w2 b X (.slice p1 X.gs.length s1) (.slice p2 X.os.length s2) (.slice p3 X.gold.length s3) (.slice p4 X.us.length s4) (.slice p5 X.qs.length s5)) := XV.out.below hb XV.out.lt
    clear hb hr x0 x1 x2 x3 x4 x5 x6 x7 x8 XV BV BR
    go_upto_region 7 with fail
    have CB : Hid (∀ V, Below w2.heap.size w2 V → (Bw V b X (.slice p1 X.gs.length s1) (.slice p2 X.os.length s2) (.slice p3 X.gold.length s3) (.slice p4 X.us.length s4) (.slice p5 X.qs.length s5) ∧ V.cell? ⟨(xk.add (kn * 11)).block, (xk.add (kn * 11)).off + 9, none⟩ = some (.bool k.f))) := fun V hb => ⟨XV2.out.below hb XV2.out.lt, (KC.out.1.below (BV2.out.trans (hb.mono BV2.out.size)) KC.out.2).c9⟩
    refine wp_region_two [(true, 0), (true, 1), (true, 2), (true, 3), (true, 4), (true, 5), (true, 6), (true, 7), (true, 9), (false, 8)] [(true, 10), (false, 11), (false, 12)] (fun V => Bw V b X (.slice p1 X.gs.length s1) (.slice p2 X.os.length s2) (.slice p3 X.gold.length s3) (.slice p4 X.us.length s4) (.slice p5 X.qs.length s5) ∧ V.cell? ⟨(xk.add (kn * 11)).block, (xk.add (kn * 11)).off + 9, none⟩ = some (.bool k.f)) (by kernel_rfl) (by kernel_rfl) (by kernel_rfl) (by decide +kernel) (by decide +kernel) (CB.out _ ((Below.refl _ _).drew)) ?_
    have D4 : Hid (Below w2.heap.size w2 { w2 with drawn := w2.drawn + 1 }) := (Below.refl _ _).drew
    have D5 : Hid (Below w.heap.size w { w2 with drawn := w2.drawn + 1 }) := BV2.out.drew
    generalize ({ w2 with drawn := w2.drawn + 1 } : World) = wd at *
    refine headT_read rfl (.pointer (some ⟨b, 2, none⟩)) (by go_simp) (fun V hV => by go_simp) ?_
    go_simp
    refine headT_read rfl (.agg #[.int .i64 X.wide, .int .i64 X.high, .slice p1 X.gs.length s1, .slice p2 X.os.length s2]) (by go_simp) (fun V hV => by obtain ⟨⟨x0, x1, x2, x3, x4, x5, x6, x7, x8⟩, d1⟩ := hV; go_simp) ?_
    go_simp
    refine headT_read rfl (.int .i64 (n : Nat)) (by go_simp) (fun V hV => by go_simp) ?_
    go_simp
    refine headT_read rfl (.slice (some xk) ks.length qk) (by go_simp) (fun V hV => by go_simp) ?_
    go_simp
    refine headT_read rfl (.int .i64 (kn : Nat)) (by go_simp) (fun V hV => by go_simp) ?_
    go_simp
    refine headT_read rfl (.pointer (some (xk.add (kn * 11)))) (by go_simp) (fun V hV => by go_simp) ?_
    go_simp
    refine headT_read rfl (.pointer (some ⟨(xk.add (kn * 11)).block, (xk.add (kn * 11)).off + 9, none⟩)) (by go_simp) (fun V hV => by go_simp) ?_
    go_simp
    refine headT_read rfl (.bool k.f) (by go_simp) (fun V hV => by obtain ⟨⟨x0, x1, x2, x3, x4, x5, x6, x7, x8⟩, d1⟩ := hV; go_simp) ?_
    go_simp
    refine headT_read rfl (.int .i64 (an : Nat)) (by go_simp) (fun V hV => by go_simp) ?_
    go_simp
    refine headT_call rfl 39 #[.agg #[.int .i64 X.wide, .int .i64 X.high, .slice p1 X.gs.length s1, .slice p2 X.os.length s2], .int .i64 (n : Nat), .bool k.f] (by go_simp) (by go_simp) ?_
    have FLD := fl_of (H.out.below D5.out)
    rw [GD.out.2.1, GD.out.2.2.1] at FLD
    have RT := ref_to _ Wn Hn X.gs X.os n k.f wd FLD GD.out.1 (by rw [NM.out.1]; exact hnl) EV.out
    rw [← GD.out.2.1, ← GD.out.2.2.1] at RT
    refine RT.mono ?_
    rintro e wa ⟨bb, l', rfl, -, hbk, hfar, hb⟩
    have FB : l'.getD an 0 = l.getD n 0 := far_back EV.out LF.out hfar.1 GD.out.2.2.2 (by rw [NM.out.1]; exact hnl)
    obtain ⟨d, hd⟩ : ∃ d, l'[an]? = some d := ⟨_, List.getElem?_eq_getElem (by rw [hfar.1.1]; exact GD.out.2.2.2)⟩
    have DD : Hid (l.getD n 0 = d) := by unfold Hid; rw [← FB, List.getD_eq_getElem?_getD, hd]; rfl
    have cd := hbk.cell hd
    have DA : Hid (Below w2.heap.size w2 wa) := D4.out.trans (hb.mono D4.out.size)
    have hai : ((an : Nat) : Int) < ((nm : Nat) : Int) := by have := GD.out.2.2.2; have := NM.out; omega
    refine ⟨_, rfl, CB.out _ DA.out, ?_⟩
    clear hb hbk hfar FB hd D4 D5 FLD RT
    rw [NM.out.1]
    go_simp
    refine sched_read rfl (.pointer (some ⟨bb, an, none⟩)) (by go_simp) (fun V hV => by go_simp) ?_
    go_simp
    refine sched_value rfl (.int .i64 d) wa (by go_simp) (by go_simp) trivial ?_
    go_simp
    refine sched_value rfl (.int .i64 d) wa (by go_simp) (by go_simp) trivial ?_
    go_simp
    unfold wpSched
    clear cd CB
    have BRa : Hid (Below w0.heap.size w0 wa) := BR2.out.trans (DA.out.mono BR2.out.size)
    have WN : IntKind.i64.wrap ((n : Nat) + 1 : Int) = ((n : Nat) : Int) + 1 := by rw [IntKind.wrap_i64]; have := NM.out.2; omega
    by_cases hy : 0 ≤ d ∧ d < m ∧ r < 0
    · have NX : Hid (rsp l (freeAt X.us) (n + 1) = ((n : Int), d)) := by
        unfold Hid
        rw [rsp_yes (by rw [DD.out, RS.out.1, FR.out]; exact ⟨hy.1, hy.2.1, decide_eq_true hy.2.2⟩), DD.out]
      obtain ⟨y1, y2, y3⟩ := hy
      go_wp2
      go_round
      case rel => exact ⟨n + 1, by omega, by go_num, by rw [NX.out], by rw [NX.out], BRa.out⟩
      case measure => simp [intOf]; omega
    · have NX : Hid (rsp l (freeAt X.us) (n + 1) = rsp l (freeAt X.us) n) := rsp_no (by rw [DD.out, RS.out.1, FR.out, decide_eq_true_eq]; exact hy)
      have hy2 : (¬ 0 ≤ d) ∨ (0 ≤ d ∧ ¬ d < m) ∨ (0 ≤ d ∧ d < m ∧ ¬ r < 0) := by omega
      clear hy
      rcases hy2 with y1 | ⟨y1, y2⟩ | ⟨y1, y2, y3⟩
      all_goals
        go_wp2
        go_round
        case rel => exact ⟨n + 1, by omega, by go_num, by rw [NX.out, RS.out.2], by rw [NX.out, RS.out.1], BRa.out⟩
        case measure => simp [intOf]; omega
end Go.Proofs.YteieikgkmfglaaaGreatDoor

namespace Go.Proofs.YteieikgkmfglaaaGreatDoor
open Go.RowKit
set_option linter.unusedVariables false

theorem run_un (w : World) (ty : TypeId) (base : Nat) (v : Value) (ks : List UnV) (hown : Uno w base v ks) (b : Nat) (d : UnV) (hd : Unc w ⟨b, 0, none⟩ d) (hl : ks.length ≤ 1000000) (hbase : base ≤ w.heap.size) :
    ∃ g cap w', (Builtin.append_ #[26, 26] ty #[v, .slice (some ⟨b, 0, none⟩) 1 1]).run Tryz.prog w = .ok (.slice (some ⟨g, 0, none⟩) (ks.length + 1) cap) w' ∧ Uno w' base (.slice (some ⟨g, 0, none⟩) (ks.length + 1) cap) (ks ++ [d]) ∧ w.grownBy w' v.ownBlock ∧ (v.ownBlock = some g ∨ g = w.heap.size) ∧ g < w'.heap.size := by
  obtain ⟨i0, hi, hz0, hz1, hz2⟩ := info_parts info_un
  obtain ⟨g, cap, w6, hr, ho6, hg6, ha6, hl6⟩ := run_append_lies (P := Tryz.prog) w 26 26 base 44 i0 _ 8 64 Tryz.underlying26 hi hz0 hz1 hz2 rfl (by decide) v ks.length _ hown ⟨b, 0, none⟩ 1 1 (UnV.cs d) rfl (fun j u hj => by
    have hjn : j < 8 := (List.getElem?_eq_some_iff.1 hj).1
    rw [Addr.add_lit, Nat.zero_add]
    match j, hjn, hj with
    | 0, _, hj => simp [UnV.cs] at hj; subst hj; exact hd.c0
    | 1, _, hj => simp [UnV.cs] at hj; subst hj; exact hd.c1
    | 2, _, hj => simp [UnV.cs] at hj; subst hj; exact hd.c2
    | 3, _, hj => simp [UnV.cs] at hj; subst hj; exact hd.c3
    | 4, _, hj => simp [UnV.cs] at hj; subst hj; exact hd.c4
    | 5, _, hj => simp [UnV.cs] at hj; subst hj; exact hd.c5
    | 6, _, hj => simp [UnV.cs] at hj; subst hj; exact hd.c6
    | 7, _, hj => simp [UnV.cs] at hj; subst hj; exact hd.c7) (fun u hu => by
    simp [UnV.cs] at hu
    rcases hu with rfl | rfl | rfl | rfl | rfl | rfl | rfl | rfl <;> rfl) (by decide) (by unfold maxLen; omega) (by omega) hbase _ rfl
  refine ⟨g, cap, w6, hr, ?_, hg6, ha6, hl6⟩
  unfold Uno
  rw [List.length_append, List.flatMap_append]
  simpa using ho6
theorem run_jb (w : World) (ty : TypeId) (base : Nat) (v : Value) (ks : List JbV) (hown : Jbo w base v ks) (b : Nat) (d : JbV) (hd : Jbc w ⟨b, 0, none⟩ d) (hl : ks.length ≤ 1000000) (hbase : base ≤ w.heap.size) :
    ∃ g cap w', (Builtin.append_ #[27, 27] ty #[v, .slice (some ⟨b, 0, none⟩) 1 1]).run Tryz.prog w = .ok (.slice (some ⟨g, 0, none⟩) (ks.length + 1) cap) w' ∧ Jbo w' base (.slice (some ⟨g, 0, none⟩) (ks.length + 1) cap) (ks ++ [d]) ∧ w.grownBy w' v.ownBlock ∧ (v.ownBlock = some g ∨ g = w.heap.size) ∧ g < w'.heap.size := by
  obtain ⟨i0, hi, hz0, hz1, hz2⟩ := info_parts info_jb
  obtain ⟨g, cap, w6, hr, ho6, hg6, ha6, hl6⟩ := run_append_lies (P := Tryz.prog) w 27 27 base 71 i0 _ 4 32 Tryz.underlying27 hi hz0 hz1 hz2 rfl (by decide) v ks.length _ hown ⟨b, 0, none⟩ 1 1 (JbV.cs d) rfl (fun j u hj => by
    have hjn : j < 4 := (List.getElem?_eq_some_iff.1 hj).1
    rw [Addr.add_lit, Nat.zero_add]
    match j, hjn, hj with
    | 0, _, hj => simp [JbV.cs] at hj; subst hj; exact hd.c0
    | 1, _, hj => simp [JbV.cs] at hj; subst hj; exact hd.c1
    | 2, _, hj => simp [JbV.cs] at hj; subst hj; exact hd.c2
    | 3, _, hj => simp [JbV.cs] at hj; subst hj; exact hd.c3) (fun u hu => by
    simp [JbV.cs] at hu
    rcases hu with rfl | rfl | rfl | rfl <;> rfl) (by decide) (by unfold maxLen; omega) (by omega) hbase _ rfl
  refine ⟨g, cap, w6, hr, ?_, hg6, ha6, hl6⟩
  unfold Jbo
  rw [List.length_append, List.flatMap_append]
  simpa using ho6
end Go.Proofs.YteieikgkmfglaaaGreatDoor

namespace Go.Proofs.YteieikgkmfglaaaGreatDoor
open Go.RowKit
set_option linter.unusedVariables false

/-- block g has these jobs, and more behind them. -/
def Jk (w : World) (g : Nat) (ks : List JbV) (rest : List Value) : Prop := w.heap[g]? = some (.cells (ks.flatMap JbV.cs ++ rest).toArray 71 (0, 0))
theorem Jk.lt {w : World} {g : Nat} {ks : List JbV} {rest : List Value} (h : Jk w g ks rest) : g < w.heap.size := lt_of_block h
theorem Jk.thaw {w : World} {g : Nat} {ks : List JbV} {rest : List Value} (h : Jk w g ks rest) (i : Nat) : w.frozen? ⟨g, i, none⟩ = false := by
  unfold Jk at h
  simp [World.frozen?, h]
theorem Jk.below {w w' : World} {g B : Nat} {ks : List JbV} {rest : List Value} (h : Jk w g ks rest) (hb : Below B w w') (hB : g < B) : Jk w' g ks rest := by
  unfold Jk at *
  rw [hb.block g hB]; exact h
theorem Jk.at_ {w : World} {g : Nat} {ks : List JbV} {rest : List Value} (h : Jk w g ks rest) {i : Nat} {o : JbV} (ho : ks[i]? = some o) {j : Nat} (hj : j < 4) : w.cell? ⟨g, i * 4 + j, none⟩ = o.cs[j]? := by
  unfold Jk at h
  have hi : i < ks.length := (List.getElem?_eq_some_iff.1 ho).1
  simp only [World.cell?, h]
  have e : (ks.flatMap JbV.cs ++ rest).toArray[i * 4 + j]? = o.cs[j]? := by
    rw [List.getElem?_toArray, List.getElem?_append_left (by rw [len_jb]; omega), flat_jb ks i j o ho hj]
  simp only [e]
  simp
theorem Jk.jbc {w : World} {g : Nat} {ks : List JbV} {rest : List Value} (h : Jk w g ks rest) {i : Nat} {o : JbV} (ho : ks[i]? = some o) : Jbc w ⟨g, i * 4, none⟩ o :=
  ⟨h.at_ ho (j := 0) (by decide), h.at_ ho (j := 1) (by decide), h.at_ ho (j := 2) (by decide), h.at_ ho (j := 3) (by decide)⟩
theorem jflat_set : ∀ (ks : List JbV) (i : Nat) (o : JbV) (rest : List Value), i < ks.length →
    (ks.set i o).flatMap JbV.cs ++ rest = ((((ks.flatMap JbV.cs ++ rest).set (i * 4) (.int .i64 o.player)).set (i * 4 + 1) (.int .i64 o.unit)).set (i * 4 + 2) (.int .i64 o.kind)).set (i * 4 + 3) (.int .i64 o.left)
  | [], i, o, rest, h => by simp at h
  | k :: ks, 0, o, rest, _ => by
    simp [JbV.cs]
  | k :: ks, i + 1, o, rest, h => by
    have ih := jflat_set ks i o rest (by simpa using h)
    rw [show (i + 1) * 4 = i * 4 + 4 by omega, show i * 4 + 4 + 1 = i * 4 + 1 + 4 by omega, show i * 4 + 4 + 2 = i * 4 + 2 + 4 by omega, show i * 4 + 4 + 3 = i * 4 + 3 + 4 by omega, List.set_cons_succ, List.flatMap_cons, List.append_assoc, ih, List.flatMap_cons]
    simp [JbV.cs]
theorem Jk.put {w : World} {g : Nat} {ks : List JbV} {rest : List Value} (h : Jk w g ks rest) {i : Nat} (hi : i < ks.length) (o : JbV) :
    Jk ((((w.setCell ⟨g, i * 4, none⟩ (.int .i64 o.player)).setCell ⟨g, i * 4 + 1, none⟩ (.int .i64 o.unit)).setCell ⟨g, i * 4 + 2, none⟩ (.int .i64 o.kind)).setCell ⟨g, i * 4 + 3, none⟩ (.int .i64 o.left)) g (ks.set i o) rest := by
  unfold Jk at *
  have h0 := heap_setCell_same w g (i * 4) _ _ (.int .i64 o.player) h
  have h1 := heap_setCell_same _ g (i * 4 + 1) _ _ (.int .i64 o.unit) h0
  have h2 := heap_setCell_same _ g (i * 4 + 2) _ _ (.int .i64 o.kind) h1
  have h3 := heap_setCell_same _ g (i * 4 + 3) _ _ (.int .i64 o.left) h2
  rw [h3, jflat_set ks i o rest hi]
  simp
theorem jk_below {B g : Nat} {w W : World} {i : Nat} (o : JbV) (h : Below B w W) (hb : B ≤ g) : Below B w ((((W.setCell ⟨g, i * 4, none⟩ (.int .i64 o.player)).setCell ⟨g, i * 4 + 1, none⟩ (.int .i64 o.unit)).setCell ⟨g, i * 4 + 2, none⟩ (.int .i64 o.kind)).setCell ⟨g, i * 4 + 3, none⟩ (.int .i64 o.left)) :=
  (((h.setCell (p := ⟨g, i * 4, none⟩) hb _).setCell (p := ⟨g, i * 4 + 1, none⟩) hb _).setCell (p := ⟨g, i * 4 + 2, none⟩) hb _).setCell (p := ⟨g, i * 4 + 3, none⟩) hb _
theorem jflat_set3 : ∀ (ks : List JbV) (i : Nat) (o : JbV) (a : Int) (rest : List Value), ks[i]? = some o → (ks.set i { o with left := a }).flatMap JbV.cs ++ rest = (ks.flatMap JbV.cs ++ rest).set (i * 4 + 3) (.int .i64 a)
  | [], i, o, a, rest, h => by simp at h
  | k :: ks, 0, o, a, rest, h => by
    simp at h
    subst h
    simp [JbV.cs]
  | k :: ks, i + 1, o, a, rest, h => by
    have ih := jflat_set3 ks i o a rest (by simpa using h)
    rw [show (i + 1) * 4 + 3 = i * 4 + 3 + 4 by omega, List.set_cons_succ, List.flatMap_cons, List.append_assoc, ih, List.flatMap_cons]
    simp [JbV.cs]
theorem Jk.set3 {w : World} {g : Nat} {ks : List JbV} {rest : List Value} (h : Jk w g ks rest) {i : Nat} {o : JbV} (ho : ks[i]? = some o) (a : Int) : Jk (w.setCell ⟨g, i * 4 + 3, none⟩ (.int .i64 a)) g (ks.set i { o with left := a }) rest := by
  unfold Jk at *
  have h0 := heap_setCell_same w g (i * 4 + 3) _ _ (.int .i64 a) h
  rw [h0, jflat_set3 ks i o a rest ho]
  simp
/-- a list of its own, as a block. -/
theorem Jbo.jk {w : World} {base : Nat} {v : Value} {ks : List JbV} (h : Jbo w base v ks) : (v = .slice none 0 0 ∧ ks = []) ∨ ∃ g cap rest, v = .slice (some ⟨g, 0, none⟩) ks.length cap ∧ base ≤ g ∧ ks.length ≤ cap ∧ cap ≤ maxLen ∧ ks.length * 4 + rest.length = cap * 4 ∧ Jk w g ks rest := by
  rcases h.2 with ⟨h1, h2⟩ | ⟨g, cap, cur, h1, h2, h3, h4, h5, h6, h7⟩
  · exact .inl ⟨h1, List.length_eq_zero_iff.1 h2⟩
  · refine .inr ⟨g, cap, cur.toList.drop (ks.length * 4), h1, h2, h4, h5, ?_, ?_⟩
    · have e6 : cur.toList.length = cap * 4 := by simpa using h6
      rw [List.length_drop, e6]
      have : ks.length * 4 ≤ cap * 4 := Nat.mul_le_mul_right _ h4
      omega
    · unfold Jk
      rw [← h7, List.take_append_drop, Array.toArray_toList]
      exact h3
theorem Jk.jbo {w : World} {base g cap : Nat} {ks : List JbV} {rest : List Value} (h : Jk w g ks rest) (hb : base ≤ g) (h1 : ks.length ≤ cap) (h2 : cap ≤ maxLen) (h3 : ks.length * 4 + rest.length = cap * 4) : Jbo w base (.slice (some ⟨g, 0, none⟩) ks.length cap) ks := by
  refine ⟨len_jb ks, .inr ⟨g, cap, _, rfl, hb, h, h1, h2, ?_, ?_⟩⟩
  · simp only [List.size_toArray, List.length_append, len_jb]; omega
  · show (ks.flatMap JbV.cs ++ rest).take (ks.length * 4) = _
    rw [List.take_append_of_le_length (by rw [len_jb]; exact Nat.le_refl _), List.take_of_length_le (by rw [len_jb]; exact Nat.le_refl _)]
/-- the first m of them, and the others behind. -/
theorem Jk.take {w : World} {g : Nat} {ks : List JbV} {rest : List Value} (h : Jk w g ks rest) (m : Nat) : Jk w g (ks.take m) ((ks.drop m).flatMap JbV.cs ++ rest) := by
  unfold Jk at *
  rw [← List.append_assoc, ← List.flatMap_append, List.take_append_drop]
  exact h
end Go.Proofs.YteieikgkmfglaaaGreatDoor

