/- The reference's Fight. -/
import Derived.Test.YteieikgkmfglaaaGreatDoorZTurnPlays21
import Derived.Test.YteieikgkmfglaaaGreatDoorZTurnPlays22
import Derived.Test.YteieikgkmfglaaaGreatDoorZTurnPlays5
namespace Go.Proofs.YteieikgkmfglaaaGreatDoor
open Go.RowKit
set_option linter.unusedVariables false

theorem gb_low {a b c : World} {r : Option Nat} {B : Nat} (h : a.grownBy b r) (k : Below B b c) (hB : a.heap.size ≤ B) : a.grownBy c r :=
  ⟨k.os.trans h.os, k.tape.trans h.tape, k.output.trans h.output, Nat.le_trans h.size k.size, fun i hi hn => (k.block i (by omega)).trans (h.block i hi hn)⟩
set_option maxRecDepth 100000 in
set_option maxHeartbeats 16000000 in
theorem rfight_any (vk vw : Value) (ks : List KV) (X : WV) (Wn : Nat) (w : World) (hk : Kl w vk ks) (hw : Wl w vw X) (hr : WRight ks X) (hwd : X.wide = (Wn : Nat)) :
    Calls Tryz.prog 49 #[vk, vw] w fun e w' => ∃ v ev, e = .returned (.tuple #[v, ev]) ∧ Wo w' w.heap.size v (fought ks Wn X) ∧ Evo w' w.heap.size ev (fevents ks Wn X) ∧ Below w.heap.size w w' := by
  have K : Hid (Kl w vk ks) := hk
  have H : Hid (Wl w vw X) := hw
  have WR : Hid (WRight ks X) := hr
  have GD : Hid (X.wide = (Wn : Nat)) := hwd
  have FT : Hid (∀ h ∈ X.us, InF h ∧ 0 ≤ h.life ∧ h.life ≤ 1000000) := right_fit hr
  have hul : X.us.length ≤ 40 := hr.ul
  obtain ⟨p1, q1, p2, q2, p3, q3, p4, q4, p5, q5, rfl⟩ := wl_shape9 hw
  obtain ⟨pk, qk, rfl, ck1, ck2, kc⟩ := hk
  have KC : Hid (ks ≠ [] → ∃ x, pk = some x ∧ x.block < w.heap.size ∧ ∀ (i : Nat) k, ks[i]? = some k → Kc w (x.add (i * 11)) k) := kc
  clear hw hr hwd kc
  go_enter Tryz.func49, Tryz.ntmps49
  go_upto_region 1 with fail
  have B0 : Hid (Below w.heap.size w ((w.alloc (Obj.cells #[.int .i64 X.turn, .int .i64 X.next, .int .i64 X.wide, .int .i64 X.high, .slice p1 X.gs.length q1, .slice p2 X.os.length q2, .slice p3 X.gold.length q3, .slice p4 X.us.length q4, .slice p5 X.qs.length q5] 29)).alloc (Obj.cells #[.int .i64 0, .int .i64 0, .int .i64 0, .int .i64 0, .slice none 0 0, .slice none 0 0, .slice none 0 0, .slice none 0 0, .slice none 0 0] 29))) := ((Below.refl _ _).alloc (Nat.le_refl _) _).alloc (by simp) _
  have X0 : Hid (Bw ((w.alloc (Obj.cells #[.int .i64 X.turn, .int .i64 X.next, .int .i64 X.wide, .int .i64 X.high, .slice p1 X.gs.length q1, .slice p2 X.os.length q2, .slice p3 X.gold.length q3, .slice p4 X.us.length q4, .slice p5 X.qs.length q5] 29)).alloc (Obj.cells #[.int .i64 0, .int .i64 0, .int .i64 0, .int .i64 0, .slice none 0 0, .slice none 0 0, .slice none 0 0, .slice none 0 0, .slice none 0 0] 29)) w.heap.size X (.slice p1 X.gs.length q1) (.slice p2 X.os.length q2) (.slice p3 X.gold.length q3) (.slice p4 X.us.length q4) (.slice p5 X.qs.length q5)) := (Bw.mk' (w := w) X _ _ _ _ _ rfl).below ((Below.refl _ _).alloc (Nat.le_refl _) _) (by simp)
  have Z0 : Hid (Wx ((w.alloc (Obj.cells #[.int .i64 X.turn, .int .i64 X.next, .int .i64 X.wide, .int .i64 X.high, .slice p1 X.gs.length q1, .slice p2 X.os.length q2, .slice p3 X.gold.length q3, .slice p4 X.us.length q4, .slice p5 X.qs.length q5] 29)).alloc (Obj.cells #[.int .i64 0, .int .i64 0, .int .i64 0, .int .i64 0, .slice none 0 0, .slice none 0 0, .slice none 0 0, .slice none 0 0, .slice none 0 0] 29)) (w.heap.size + 1) (.int .i64 0) (.int .i64 0) (.int .i64 0) (.int .i64 0) (.slice none 0 0) (.slice none 0 0) (.slice none 0 0) (.slice none 0 0) (.slice none 0 0)) := Wx.new _ _ _ _ _ _ _ _ _ (by simp)
  have N0 : Hid (((w.alloc (Obj.cells #[.int .i64 X.turn, .int .i64 X.next, .int .i64 X.wide, .int .i64 X.high, .slice p1 X.gs.length q1, .slice p2 X.os.length q2, .slice p3 X.gold.length q3, .slice p4 X.us.length q4, .slice p5 X.qs.length q5] 29)).alloc (Obj.cells #[.int .i64 0, .int .i64 0, .int .i64 0, .int .i64 0, .slice none 0 0, .slice none 0 0, .slice none 0 0, .slice none 0 0, .slice none 0 0] 29)).heap.size = w.heap.size + 2) := by unfold Hid; simp
  generalize ((w.alloc (Obj.cells #[.int .i64 X.turn, .int .i64 X.next, .int .i64 X.wide, .int .i64 X.high, .slice p1 X.gs.length q1, .slice p2 X.os.length q2, .slice p3 X.gold.length q3, .slice p4 X.us.length q4, .slice p5 X.qs.length q5] 29)).alloc (Obj.cells #[.int .i64 0, .int .i64 0, .int .i64 0, .int .i64 0, .slice none 0 0, .slice none 0 0, .slice none 0 0, .slice none 0 0, .slice none 0 0] 29)) = w0 at *
  obtain ⟨x0, x1, x2, x3, x4, x5, x6, x7, x8⟩ := X0.out
  go_wp2_with fail
  refine (rcopy_any _ X w0 (H.out.below B0.out) WR.out.len).mono ?_
  rintro e w1 ⟨cu, rfl, ⟨k1, k2, k3, k4, k5, rfl, ⟨o1, o2, o3, o4, o5⟩, -, -, d14, d15, -, d24, d25, d34, d35, d45⟩, hb⟩
  obtain ⟨a1, r1, rfl⟩ := o1.len
  obtain ⟨a2, r2, rfl⟩ := o2.len
  obtain ⟨a3, r3, rfl⟩ := o3.len
  obtain ⟨a4, r4, rfl⟩ := o4.len
  obtain ⟨a5, r5, rfl⟩ := o5.len
  rw [N0.out] at o1 o2 o3 o4 o5
  clear x0 x1 x2 x3 x4 x5 x6 x7 x8
  go_upto_region 2 with fail
  have BA : Hid (Below w1.heap.size w1 (w1.alloc (Obj.cells #[.int .i64 X.turn, .int .i64 X.next, .int .i64 X.wide, .int .i64 X.high, Value.slice a1 X.gs.length r1, Value.slice a2 X.os.length r2, Value.slice a3 X.gold.length r3, Value.slice a4 X.us.length r4, Value.slice a5 X.qs.length r5] 29))) := (Below.refl _ _).alloc (Nat.le_refl _) _
  obtain ⟨bx, hbx⟩ : ∃ z, w1.heap.size = z := ⟨_, rfl⟩
  have X2 : Hid (Wx (w1.alloc (Obj.cells #[.int .i64 X.turn, .int .i64 X.next, .int .i64 X.wide, .int .i64 X.high, Value.slice a1 X.gs.length r1, Value.slice a2 X.os.length r2, Value.slice a3 X.gold.length r3, Value.slice a4 X.us.length r4, Value.slice a5 X.qs.length r5] 29)) bx (.int .i64 X.turn) (.int .i64 X.next) (.int .i64 X.wide) (.int .i64 X.high) (Value.slice a1 X.gs.length r1) (Value.slice a2 X.os.length r2) (Value.slice a3 X.gold.length r3) (Value.slice a4 X.us.length r4) (Value.slice a5 X.qs.length r5)) := Wx.new _ _ _ _ _ _ _ _ _ hbx
  have N2 : Hid ((w1.alloc (Obj.cells #[.int .i64 X.turn, .int .i64 X.next, .int .i64 X.wide, .int .i64 X.high, Value.slice a1 X.gs.length r1, Value.slice a2 X.os.length r2, Value.slice a3 X.gold.length r3, Value.slice a4 X.us.length r4, Value.slice a5 X.qs.length r5] 29)).heap.size = bx + 1) := by unfold Hid; simp [hbx]
  have BL : Hid (w.heap.size + 2 ≤ bx) := by have h1 := hb.size; have h2 := N0.out; unfold Hid; omega
  rw [hbx]
  generalize (w1.alloc (Obj.cells #[.int .i64 X.turn, .int .i64 X.next, .int .i64 X.wide, .int .i64 X.high, Value.slice a1 X.gs.length r1, Value.slice a2 X.os.length r2, Value.slice a3 X.gold.length r3, Value.slice a4 X.us.length r4, Value.slice a5 X.qs.length r5] 29)) = w2 at *
  have B2 : Hid (Below w.heap.size w w2) := (B0.out.trans (hb.mono B0.out.size)).trans (BA.out.mono (by rw [hbx]; have := BL.out; omega))
  have Y2 : Hid (Bw w2 w.heap.size X (.slice p1 X.gs.length q1) (.slice p2 X.os.length q2) (.slice p3 X.gold.length q3) (.slice p4 X.us.length q4) (.slice p5 X.qs.length q5)) := (X0.out.below hb X0.out.lt).below BA.out (by rw [hbx]; have := BL.out; omega)
  have Z2 : Hid (Wx w2 (w.heap.size + 1) (.int .i64 0) (.int .i64 0) (.int .i64 0) (.int .i64 0) (.slice none 0 0) (.slice none 0 0) (.slice none 0 0) (.slice none 0 0) (.slice none 0 0)) := (Z0.out.below hb Z0.out.lt).below BA.out (by rw [hbx]; have := BL.out; omega)
  have O2 : Hid (Ow w2 (w.heap.size + 2) (Value.slice a1 X.gs.length r1) X.gs ∧ Ow w2 (w.heap.size + 2) (Value.slice a2 X.os.length r2) X.os ∧ Ow w2 (w.heap.size + 2) (Value.slice a3 X.gold.length r3) X.gold ∧ Uno w2 (w.heap.size + 2) (Value.slice a4 X.us.length r4) X.us ∧ Jbo w2 (w.heap.size + 2) (Value.slice a5 X.qs.length r5) X.qs) := ⟨o1.below BA.out, o2.below BA.out, o3.below BA.out, o4.below BA.out, o5.below BA.out⟩
  have LB : Hid ((∀ b, (Value.slice a1 X.gs.length r1).ownBlock = some b → b < bx) ∧ (∀ b, (Value.slice a2 X.os.length r2).ownBlock = some b → b < bx) ∧ (∀ b, (Value.slice a3 X.gold.length r3).ownBlock = some b → b < bx) ∧ (∀ b, (Value.slice a4 X.us.length r4).ownBlock = some b → w.heap.size + 2 ≤ b ∧ b < bx) ∧ (∀ b, (Value.slice a5 X.qs.length r5).ownBlock = some b → b < bx)) := by
    rw [← hbx]
    exact ⟨fun b h => (o1.block b h).2, fun b h => (o2.block b h).2, fun b h => (o3.block b h).2, fun b h => o4.block b h, fun b h => (o5.block b h).2⟩
  have DD : Hid (Dif (Value.slice a1 X.gs.length r1) (Value.slice a4 X.us.length r4) ∧ Dif (Value.slice a2 X.os.length r2) (Value.slice a4 X.us.length r4) ∧ Dif (Value.slice a3 X.gold.length r3) (Value.slice a4 X.us.length r4) ∧ Dif (Value.slice a4 X.us.length r4) (Value.slice a5 X.qs.length r5)) := ⟨d14, d24, d34, d45⟩
  clear o1 o2 o3 o4 o5 d14 d15 d24 d25 d34 d35 d45 hb hbx BA X0 Z0 B0 N0
  have R0 : Hid (Uno w2 (w.heap.size + 2) (Value.slice a4 X.us.length r4) (hurt X.us (strikes ks Wn X.us (X.us.take 0)).1)) := by
    have e : hurt X.us (strikes ks Wn X.us (X.us.take 0)).1 = X.us := hurt_zero X.us
    unfold Hid
    rw [e]
    exact O2.out.2.2.2.1
  go_upto_region 4 with fail
  go_loopw [7, 8] (fun v7 v8 V => ∃ (n : Nat) (ev : Value), v8 = .int .i64 (n : Nat) ∧ ev = v7 ∧ n ≤ X.us.length ∧ Uno V (w.heap.size + 2) (Value.slice a4 X.us.length r4) (hurt X.us (strikes ks Wn X.us (X.us.take n)).1) ∧ Evo V (bx + 1) ev (strikes ks Wn X.us (X.us.take n)).2 ∧ (strikes ks Wn X.us (X.us.take n)).2.length ≤ n ∧ w2.grownBy V (Value.slice a4 X.us.length r4).ownBlock) (fun _ v8 _ => X.us.length - (intOf v8).toNat)
  case atStart => exact ⟨0, _, rfl, rfl, Nat.zero_le _, R0.out, Evo.nil _ _, Nat.le_refl _, gb_below (Below.refl _ _)⟩
  case round =>
    obtain ⟨n, ev, rfl, rfl, hn, hus, hev, hel, hgb⟩ := hrel
    have L1 : Hid (Uno wr (w.heap.size + 2) (Value.slice a4 X.us.length r4) (hurt X.us (strikes ks Wn X.us (X.us.take n)).1)) := hus
    have E1 : Hid (Evo wr (bx + 1) ev (strikes ks Wn X.us (X.us.take n)).2 ∧ (strikes ks Wn X.us (X.us.take n)).2.length ≤ n) := ⟨hev, hel⟩
    have G1 : Hid (w2.grownBy wr (Value.slice a4 X.us.length r4).ownBlock) := hgb
    have BG : Hid (Below (w.heap.size + 2) w2 wr) := (Below.refl _ _).grown hgb (by have := N2.out; have := BL.out; omega) (fun b h => (LB.out.2.2.2.1 b h).1)
    have BB : Hid (Below w.heap.size w wr) := B2.out.trans (BG.out.mono (by omega))
    have Y1 : Hid (Bw wr w.heap.size X (.slice p1 X.gs.length q1) (.slice p2 X.os.length q2) (.slice p3 X.gold.length q3) (.slice p4 X.us.length q4) (.slice p5 X.qs.length q5)) := Y2.out.below BG.out (by omega)
    have X1 : Hid (Wx wr bx (.int .i64 X.turn) (.int .i64 X.next) (.int .i64 X.wide) (.int .i64 X.high) (Value.slice a1 X.gs.length r1) (Value.slice a2 X.os.length r2) (Value.slice a3 X.gold.length r3) (Value.slice a4 X.us.length r4) (Value.slice a5 X.qs.length r5)) := (hgb.block bx (by have := N2.out; omega) (fun h => by have := (LB.out.2.2.2.1 bx h.symm).2; omega)).trans X2.out
    have Z1 : Hid (Wx wr (w.heap.size + 1) (.int .i64 0) (.int .i64 0) (.int .i64 0) (.int .i64 0) (.slice none 0 0) (.slice none 0 0) (.slice none 0 0) (.slice none 0 0) (.slice none 0 0)) := Z2.out.below BG.out (by omega)
    have SZ : Hid (bx + 1 ≤ wr.heap.size) := by have := N2.out; have := hgb.size; unfold Hid; omega
    clear hus hev hel hgb
    have y7 := Y1.out.c7
    by_cases h0 : n = X.us.length
    · subst h0
      have hnl : ¬ (((X.us.length : Nat) : Int) < (X.us.length : Nat)) := by omega
      rw [List.take_of_length_le (Nat.le_refl _)] at L1 E1
      obtain ⟨hs, hhs⟩ : ∃ l, hurt X.us (strikes ks Wn X.us X.us).1 = l := ⟨_, rfl⟩
      obtain ⟨es, hes⟩ : ∃ l, (strikes ks Wn X.us X.us).2 = l := ⟨_, rfl⟩
      have HS : Hid (struck ks Wn X = hs ∧ (strikes ks Wn X.us X.us).2 = es ∧ hs.length = X.us.length ∧ es.length ≤ X.us.length) := ⟨hhs, hes, by rw [← hhs]; exact hurt_len strikes_len', by rw [← hes]; exact E1.out.2⟩
      rw [hhs] at L1
      rw [hes] at E1
      generalize wr = w3 at *
      have O3 : Hid (Ow w3 (w.heap.size + 2) (Value.slice a1 X.gs.length r1) X.gs ∧ Ow w3 (w.heap.size + 2) (Value.slice a2 X.os.length r2) X.os ∧ Ow w3 (w.heap.size + 2) (Value.slice a3 X.gold.length r3) X.gold ∧ Jbo w3 (w.heap.size + 2) (Value.slice a5 X.qs.length r5) X.qs) := ⟨own_gb O2.out.1 G1.out (fun b h1 h2 => DD.out.1 b h1 h2), own_gb O2.out.2.1 G1.out (fun b h1 h2 => DD.out.2.1 b h1 h2), own_gb O2.out.2.2.1 G1.out (fun b h1 h2 => DD.out.2.2.1 b h1 h2), own_gb O2.out.2.2.2.2 G1.out (fun b h1 h2 => DD.out.2.2.2 b h2 h1)⟩
      clear hhs hes G1 BG
      go_upto_region 12 with fail
      clear y7 hnl
      go_loopw [7, 10, 11] (fun v7 v10 v11 V => ∃ (n : Nat) (ev lf : Value), v11 = .int .i64 (n : Nat) ∧ ev = v7 ∧ lf = v10 ∧ n ≤ X.us.length ∧ Evo V (bx + 1) ev (es ++ ((hs.take n).filter fallenU).map fellE) ∧ Uno V (bx + 1) lf ((hs.take n).filter (fun u => !fallenU u)) ∧ Dif ev lf ∧ Below (bx + 1) w3 V) (fun _ _ v11 _ => X.us.length - (intOf v11).toNat)
      case atStart => exact ⟨0, _, _, rfl, rfl, rfl, Nat.zero_le _, by simpa using E1.out.1, Uno.nil _ _, (fun b h1 h2 => by cases h2), Below.refl _ _⟩
      case round =>
        obtain ⟨n, ev5, lf, rfl, rfl, rfl, hn, hev, hlf, hdf, hbb⟩ := hrel
        have E5 : Hid (Evo wr (bx + 1) ev5 (es ++ ((hs.take n).filter fallenU).map fellE)) := hev
        have F5 : Hid (Uno wr (bx + 1) lf ((hs.take n).filter (fun u => !fallenU u))) := hlf
        have D5 : Hid (Dif ev5 lf) := hdf
        have BB5 : Hid (Below (bx + 1) w3 wr) := hbb
        have UL : Hid (Unl wr (Value.slice a4 X.us.length r4) hs) := Uno.l (own_low L1.out hbb (fun b h => by have := (LB.out.2.2.2.1 b h).2; omega))
        have X5 : Hid (Wx wr bx (.int .i64 X.turn) (.int .i64 X.next) (.int .i64 X.wide) (.int .i64 X.high) (Value.slice a1 X.gs.length r1) (Value.slice a2 X.os.length r2) (Value.slice a3 X.gold.length r3) (Value.slice a4 X.us.length r4) (Value.slice a5 X.qs.length r5)) := X1.out.below hbb (by omega)
        have S5 : Hid (bx + 1 ≤ wr.heap.size) := Nat.le_trans SZ.out hbb.size
        clear hev hlf hdf hbb
        by_cases h0 : n = X.us.length
        · subst h0
          have hnl : ¬ (((X.us.length : Nat) : Int) < (X.us.length : Nat)) := by omega
          rw [List.take_of_length_le (by rw [HS.out.2.2.1]; exact Nat.le_refl _)] at E5 F5
          obtain ⟨fs, hfs⟩ : ∃ l, es ++ (hs.filter fallenU).map fellE = l := ⟨_, rfl⟩
          obtain ⟨st, hst⟩ : ∃ l, hs.filter (fun u => !fallenU u) = l := ⟨_, rfl⟩
          have FE : Hid (fevents ks Wn X = fs ∧ stays ks Wn X = st) := by
            refine ⟨?_, ?_⟩
            · unfold fevents; rw [HS.out.1, HS.out.2.1]; exact hfs
            · unfold stays; rw [HS.out.1]; exact hst
          rw [hfs] at E5
          rw [hst] at F5
          obtain ⟨a6, r6, hlf⟩ := F5.out.len
          subst hlf
          generalize wr = w5 at *
          have Z5 : Hid (Wx w5 (w.heap.size + 1) (.int .i64 0) (.int .i64 0) (.int .i64 0) (.int .i64 0) (.slice none 0 0) (.slice none 0 0) (.slice none 0 0) (.slice none 0 0) (.slice none 0 0)) := Z1.out.below BB5.out (by have := BL.out; omega)
          have B5 : Hid (Below w.heap.size w w5) := BB.out.trans (BB5.out.mono (by have := BL.out; omega))
          have O5 : Hid (Ow w5 (w.heap.size + 2) (Value.slice a1 X.gs.length r1) X.gs ∧ Ow w5 (w.heap.size + 2) (Value.slice a2 X.os.length r2) X.os ∧ Ow w5 (w.heap.size + 2) (Value.slice a3 X.gold.length r3) X.gold ∧ Jbo w5 (w.heap.size + 2) (Value.slice a5 X.qs.length r5) X.qs) := ⟨own_low O3.out.1 BB5.out (fun b h => by have := LB.out.1 b h; omega), own_low O3.out.2.1 BB5.out (fun b h => by have := LB.out.2.1 b h; omega), own_low O3.out.2.2.1 BB5.out (fun b h => by have := LB.out.2.2.1 b h; omega), own_low O3.out.2.2.2 BB5.out (fun b h => by have := LB.out.2.2.2.2 b h; omega)⟩
          clear hfs hst UL BB5 L1 O3 X1 Y1 Z1 BB SZ E1 D5
          obtain ⟨-, -, -, -, -, -, -, x7, -⟩ := X5.out.cells
          have t7 := X5.out.thaw 7
          have X6 : Hid (Wx (w5.setCell ⟨bx, 7, none⟩ (.slice a6 st.length r6)) bx (.int .i64 X.turn) (.int .i64 X.next) (.int .i64 X.wide) (.int .i64 X.high) (Value.slice a1 X.gs.length r1) (Value.slice a2 X.os.length r2) (Value.slice a3 X.gold.length r3) (Value.slice a6 st.length r6) (Value.slice a5 X.qs.length r5)) := X5.out.set7 _
          have K6 : Hid (Kp bx w5 (w5.setCell ⟨bx, 7, none⟩ (.slice a6 st.length r6))) := Kp.set _ _ _
          go_upto_region 20 with fail
          clear x7 t7
          generalize (w5.setCell ⟨bx, 7, none⟩ (.slice a6 st.length r6)) = w6 at *
          have E6 : Hid (Evo w6 (bx + 1) ev5 fs) := E5.out.kp9 K6.out (by omega)
          have U6 : Hid (Uno w6 (bx + 1) (.slice a6 st.length r6) st) := F5.out.kp K6.out (by omega)
          have O6 : Hid (Ow w6 (w.heap.size + 2) (Value.slice a1 X.gs.length r1) X.gs ∧ Ow w6 (w.heap.size + 2) (Value.slice a2 X.os.length r2) X.os ∧ Ow w6 (w.heap.size + 2) (Value.slice a3 X.gold.length r3) X.gold ∧ Jbo w6 (w.heap.size + 2) (Value.slice a5 X.qs.length r5) X.qs) := ⟨own_gb O5.out.1 (gb_kp K6.out) (fun b h1 h2 => by have := LB.out.1 b h1; injection h2; omega), own_gb O5.out.2.1 (gb_kp K6.out) (fun b h1 h2 => by have := LB.out.2.1 b h1; injection h2; omega), own_gb O5.out.2.2.1 (gb_kp K6.out) (fun b h1 h2 => by have := LB.out.2.2.1 b h1; injection h2; omega), own_gb O5.out.2.2.2 (gb_kp K6.out) (fun b h1 h2 => by have := LB.out.2.2.2.2 b h1; injection h2; omega)⟩
          have Z6 : Hid (Wx w6 (w.heap.size + 1) (.int .i64 0) (.int .i64 0) (.int .i64 0) (.int .i64 0) (.slice none 0 0) (.slice none 0 0) (.slice none 0 0) (.slice none 0 0) (.slice none 0 0)) := Z5.out.kp K6.out (by have := BL.out; omega)
          have B6 : Hid (Below w.heap.size w w6) := K6.out.below B5.out B5.out.size (by have := BL.out; omega)
          obtain ⟨b6, hb6⟩ : ∃ z, w6.heap.size = z := ⟨_, rfl⟩
          have N6 : Hid (w6.heap.size = b6 ∧ bx + 1 ≤ b6) := ⟨hb6, by rw [← hb6]; exact Nat.le_trans S5.out K6.out.size⟩
          clear hb6 K6 E5 F5 O5 Z5 B5 X5 S5
          go_loopw [12, 13] (fun v12 v13 V => ∃ (n : Nat) (q : Value), v13 = .int .i64 (n : Nat) ∧ q = v12 ∧ n ≤ X.qs.length ∧ Jbo V b6 q ((X.qs.take n).filter (fun j => !orphanJ st j)) ∧ Below b6 w6 V) (fun _ v13 _ => X.qs.length - (intOf v13).toNat)
          case atStart => exact ⟨0, _, rfl, rfl, Nat.zero_le _, Jbo.nil _ _, Below.refl _ _⟩
          case round =>
            obtain ⟨n, q, rfl, rfl, hn, hq, hbb⟩ := hrel
            have J7 : Hid (Jbo wr b6 q ((X.qs.take n).filter (fun j => !orphanJ st j))) := hq
            have BB7 : Hid (Below b6 w6 wr) := hbb
            have X7 : Hid (Wx wr bx (.int .i64 X.turn) (.int .i64 X.next) (.int .i64 X.wide) (.int .i64 X.high) (Value.slice a1 X.gs.length r1) (Value.slice a2 X.os.length r2) (Value.slice a3 X.gold.length r3) (Value.slice a6 st.length r6) (Value.slice a5 X.qs.length r5)) := X6.out.below hbb (by have := N6.out.2; omega)
            have U7 : Hid (Uno wr (bx + 1) (.slice a6 st.length r6) st) := own_low U6.out hbb (fun b h => by have := (U6.out.block b h).2; have := N6.out.1; omega)
            have O7 : Hid (Ow wr (w.heap.size + 2) (Value.slice a1 X.gs.length r1) X.gs ∧ Ow wr (w.heap.size + 2) (Value.slice a2 X.os.length r2) X.os ∧ Ow wr (w.heap.size + 2) (Value.slice a3 X.gold.length r3) X.gold ∧ Jbo wr (w.heap.size + 2) (Value.slice a5 X.qs.length r5) X.qs) := ⟨own_low O6.out.1 hbb (fun b h => by have := LB.out.1 b h; have := N6.out.2; omega), own_low O6.out.2.1 hbb (fun b h => by have := LB.out.2.1 b h; have := N6.out.2; omega), own_low O6.out.2.2.1 hbb (fun b h => by have := LB.out.2.2.1 b h; have := N6.out.2; omega), own_low O6.out.2.2.2 hbb (fun b h => by have := LB.out.2.2.2.2 b h; have := N6.out.2; omega)⟩
            have S7 : Hid (b6 ≤ wr.heap.size) := by have := N6.out.1; have := hbb.size; unfold Hid; omega
            clear hq hbb
            obtain ⟨-, -, -, -, -, -, -, -, x8⟩ := X7.out.cells
            by_cases h0 : n = X.qs.length
            · subst h0
              have hnl : ¬ (((X.qs.length : Nat) : Int) < (X.qs.length : Nat)) := by omega
              rw [List.take_of_length_le (Nat.le_refl _)] at J7
              obtain ⟨qs', hqs⟩ : ∃ l, X.qs.filter (fun j => !orphanJ st j) = l := ⟨_, rfl⟩
              have FO : Hid (fought ks Wn X = { X with us := st, qs := qs' }) := by unfold Hid fought; rw [FE.out.2, hqs]
              rw [hqs] at J7
              obtain ⟨a8, r8, hq⟩ := J7.out.len
              subst hq
              generalize wr = w7 at *
              have E7 : Hid (Evo w7 (bx + 1) ev5 fs) := own_low E6.out BB7.out (fun b h => by have := (E6.out.block b h).2; have := N6.out.1; omega)
              have Z7 : Hid (Wx w7 (w.heap.size + 1) (.int .i64 0) (.int .i64 0) (.int .i64 0) (.int .i64 0) (.slice none 0 0) (.slice none 0 0) (.slice none 0 0) (.slice none 0 0) (.slice none 0 0)) := Z6.out.below BB7.out (by have := N6.out.2; have := BL.out; omega)
              have B7 : Hid (Below w.heap.size w w7) := B6.out.trans (BB7.out.mono (by have := N6.out.2; have := BL.out; omega))
              have t8 := X7.out.thaw 8
              have X9 : Hid (Wx (w7.setCell ⟨bx, 8, none⟩ (.slice a8 qs'.length r8)) bx (.int .i64 X.turn) (.int .i64 X.next) (.int .i64 X.wide) (.int .i64 X.high) (Value.slice a1 X.gs.length r1) (Value.slice a2 X.os.length r2) (Value.slice a3 X.gold.length r3) (Value.slice a6 st.length r6) (Value.slice a8 qs'.length r8)) := X7.out.set8 _
              have K9 : Hid (Kp bx w7 (w7.setCell ⟨bx, 8, none⟩ (.slice a8 qs'.length r8))) := Kp.set _ _ _
              clear hqs BB7
              go_upto_region 26 with fail
              clear x8 t8
              generalize (w7.setCell ⟨bx, 8, none⟩ (.slice a8 qs'.length r8)) = w9 at *
              have E9 : Hid (Evo w9 (bx + 1) ev5 fs) := E7.out.kp9 K9.out (by omega)
              have U9 : Hid (Uno w9 (bx + 1) (.slice a6 st.length r6) st) := U7.out.kp K9.out (by omega)
              have J9 : Hid (Jbo w9 b6 (.slice a8 qs'.length r8) qs') := J7.out.kp K9.out (by have := N6.out.2; omega)
              have O9 : Hid (Ow w9 (w.heap.size + 2) (Value.slice a1 X.gs.length r1) X.gs ∧ Ow w9 (w.heap.size + 2) (Value.slice a2 X.os.length r2) X.os ∧ Ow w9 (w.heap.size + 2) (Value.slice a3 X.gold.length r3) X.gold) := ⟨own_gb O7.out.1 (gb_kp K9.out) (fun b h1 h2 => by have := LB.out.1 b h1; injection h2; omega), own_gb O7.out.2.1 (gb_kp K9.out) (fun b h1 h2 => by have := LB.out.2.1 b h1; injection h2; omega), own_gb O7.out.2.2.1 (gb_kp K9.out) (fun b h1 h2 => by have := LB.out.2.2.1 b h1; injection h2; omega)⟩
              have Z9 : Hid (Wx w9 (w.heap.size + 1) (.int .i64 0) (.int .i64 0) (.int .i64 0) (.int .i64 0) (.slice none 0 0) (.slice none 0 0) (.slice none 0 0) (.slice none 0 0) (.slice none 0 0)) := Z7.out.kp K9.out (by have := BL.out; omega)
              have B9 : Hid (Below w.heap.size w w9) := K9.out.below B7.out B7.out.size (by have := BL.out; omega)
              clear K9 E7 U7 J7 O7 Z7 B7 X7
              obtain ⟨x0, x1, x2, x3, x4, x5, x6, x7, x8⟩ := X9.out.cells
              obtain ⟨z0, z1, z2, z3, z4, z5, z6, z7, z8⟩ := Z9.out.cells
              obtain ⟨t0, t1, t2, t3, t4, t5, t6, t7, t8⟩ := Z9.out.thaws
              have KZ : Hid (Kp (w.heap.size + 1) w9 (((((((((w9.setCell ⟨w.heap.size + 1, 0, none⟩ (.int .i64 X.turn)).setCell ⟨w.heap.size + 1, 1, none⟩ (.int .i64 X.next)).setCell ⟨w.heap.size + 1, 2, none⟩ (.int .i64 X.wide)).setCell ⟨w.heap.size + 1, 3, none⟩ (.int .i64 X.high)).setCell ⟨w.heap.size + 1, 4, none⟩ (Value.slice a1 X.gs.length r1)).setCell ⟨w.heap.size + 1, 5, none⟩ (Value.slice a2 X.os.length r2)).setCell ⟨w.heap.size + 1, 6, none⟩ (Value.slice a3 X.gold.length r3)).setCell ⟨w.heap.size + 1, 7, none⟩ (Value.slice a6 st.length r6)).setCell ⟨w.heap.size + 1, 8, none⟩ (Value.slice a8 qs'.length r8))) := put_kp _ _ _ _ _ _ _ _ _ _ _
              obtain ⟨y0, y1, y2, y3, y4, y5, y6, y7, y8⟩ := (Z9.out.put (.int .i64 X.turn) (.int .i64 X.next) (.int .i64 X.wide) (.int .i64 X.high) (Value.slice a1 X.gs.length r1) (Value.slice a2 X.os.length r2) (Value.slice a3 X.gold.length r3) (Value.slice a6 st.length r6) (Value.slice a8 qs'.length r8)).cells
              go_wp2
              clear x0 x1 x2 x3 x4 x5 x6 x7 x8 z0 z1 z2 z3 z4 z5 z6 z7 z8 t0 t1 t2 t3 t4 t5 t6 t7 t8
              generalize (((((((((w9.setCell ⟨w.heap.size + 1, 0, none⟩ (.int .i64 X.turn)).setCell ⟨w.heap.size + 1, 1, none⟩ (.int .i64 X.next)).setCell ⟨w.heap.size + 1, 2, none⟩ (.int .i64 X.wide)).setCell ⟨w.heap.size + 1, 3, none⟩ (.int .i64 X.high)).setCell ⟨w.heap.size + 1, 4, none⟩ (Value.slice a1 X.gs.length r1)).setCell ⟨w.heap.size + 1, 5, none⟩ (Value.slice a2 X.os.length r2)).setCell ⟨w.heap.size + 1, 6, none⟩ (Value.slice a3 X.gold.length r3)).setCell ⟨w.heap.size + 1, 7, none⟩ (Value.slice a6 st.length r6)).setCell ⟨w.heap.size + 1, 8, none⟩ (Value.slice a8 qs'.length r8)) = wz at *
              refine bodyPost_ret (v := .tuple #[.agg #[.int .i64 X.turn, .int .i64 X.next, .int .i64 X.wide, .int .i64 X.high, Value.slice a1 X.gs.length r1, Value.slice a2 X.os.length r2, Value.slice a3 X.gold.length r3, Value.slice a6 st.length r6, Value.slice a8 qs'.length r8], ev5]) (by simp [results, Tryz.results49, go_sem, y0, y1, y2, y3, y4, y5, y6, y7, y8]) rfl ⟨_, _, rfl, ?_, ?_, KZ.out.below B9.out B9.out.size (by omega)⟩
              · rw [FO.out]
                have h := BL.out
                have h' := N6.out.2
                exact ⟨_, _, _, _, _, rfl, (O9.out.1.kp KZ.out (by omega)).mono (by omega), (O9.out.2.1.kp KZ.out (by omega)).mono (by omega), (O9.out.2.2.kp KZ.out (by omega)).mono (by omega), (U9.out.kp KZ.out (by omega)).mono (by omega), (J9.out.kp KZ.out (by omega)).mono (by omega)⟩
              · have h := BL.out
                rw [FE.out.1]
                exact (E9.out.kp9 KZ.out (by omega)).mono (by omega)
            · have hnl : n < X.qs.length := by omega
              have hni : ((n : Nat) : Int) < (X.qs.length : Nat) := by omega
              obtain ⟨j, hj⟩ : ∃ j, X.qs[n]? = some j := ⟨_, List.getElem?_eq_getElem hnl⟩
              obtain ⟨pj, cj, he, -, -, hjx⟩ := O7.out.2.2.2.l
              obtain ⟨xj, hxj, hxjl, hxjc⟩ := hjx (by intro h; rw [h] at hnl; simp at hnl)
              injection he with he1 he2 he3
              subst he1
              subst hxj
              have JC : Hid (Jbc wr (xj.add (n * 4)) j ∧ (xj.add (n * 4)).block < wr.heap.size) := ⟨hxjc n j hj, by rw [add_block]; exact hxjl⟩
              obtain ⟨qq, hqq⟩ : ∃ l, (X.qs.take n).filter (fun j => !orphanJ st j) = l := ⟨_, rfl⟩
              have NQ : Hid ((X.qs.take (n + 1)).filter (fun j => !orphanJ st j) = qq ++ (if orphanJ st j then [] else [j])) := by
                unfold Hid
                rw [List.take_succ_eq_append_getElem hnl, List.filter_append, hqq, (List.getElem?_eq_some_iff.1 hj).2]
                cases h : orphanJ st j <;> simp [h]
              have QL : Hid (qq.length ≤ 12) := by
                have h1 : ((X.qs.take n).filter (fun j => !orphanJ st j)).length ≤ (X.qs.take n).length := List.length_filter_le _ _
                have h2 : (X.qs.take n).length ≤ n := by simp; omega
                have h3 := WR.out.ql
                unfold Hid
                rw [← hqq]
                omega
              rw [hqq] at J7
              have WN : IntKind.i64.wrap ((n : Nat) + 1 : Int) = ((n : Nat) : Int) + 1 := by have := WR.out.ql; rw [IntKind.wrap_i64]; omega
              have WL : Hid (∀ V, Below wr.heap.size wr V → Wl V (.agg #[.int .i64 X.turn, .int .i64 X.next, .int .i64 X.wide, .int .i64 X.high, Value.slice a1 X.gs.length r1, Value.slice a2 X.os.length r2, Value.slice a3 X.gold.length r3, Value.slice a6 st.length r6, Value.slice (some xj) X.qs.length r5]) { X with us := st }) := fun V hV => Wl.below ⟨_, _, _, _, _, rfl, O7.out.1.ro, O7.out.2.1.ro, O7.out.2.2.1.ro, U7.out.l, O7.out.2.2.2.l⟩ hV
              clear hj he2 he3 hjx hxjl hxjc hqq
              go_upto_region 22 with fail
              have CB : Hid (∀ V, Below wr.heap.size wr V → (Wx V bx (.int .i64 X.turn) (.int .i64 X.next) (.int .i64 X.wide) (.int .i64 X.high) (Value.slice a1 X.gs.length r1) (Value.slice a2 X.os.length r2) (Value.slice a3 X.gold.length r3) (Value.slice a6 st.length r6) (Value.slice (some xj) X.qs.length r5) ∧ V.cell? ⟨(xj.add (n * 4)).block, (xj.add (n * 4)).off + 1, none⟩ = some (.int .i64 j.unit))) := fun V hV => ⟨X7.out.below hV X7.out.lt, (JC.out.1.below hV JC.out.2).c1⟩
              refine wp_region_two [(true, 0), (true, 1), (true, 2), (true, 3), (true, 4), (true, 5), (true, 6), (false, 7)] [(false, 8)] (fun V => Wx V bx (.int .i64 X.turn) (.int .i64 X.next) (.int .i64 X.wide) (.int .i64 X.high) (Value.slice a1 X.gs.length r1) (Value.slice a2 X.os.length r2) (Value.slice a3 X.gold.length r3) (Value.slice a6 st.length r6) (Value.slice (some xj) X.qs.length r5) ∧ V.cell? ⟨(xj.add (n * 4)).block, (xj.add (n * 4)).off + 1, none⟩ = some (.int .i64 j.unit)) (by kernel_rfl) (by kernel_rfl) (by kernel_rfl) (by decide +kernel) (by decide +kernel) (CB.out _ ((Below.refl _ _).drew)) ?_
              have D8 : Hid (Below wr.heap.size wr { wr with drawn := wr.drawn + 1 }) := (Below.refl _ _).drew
              generalize ({ wr with drawn := wr.drawn + 1 } : World) = w8 at *
              clear x8
              refine headT_read rfl (.agg #[.int .i64 X.turn, .int .i64 X.next, .int .i64 X.wide, .int .i64 X.high, Value.slice a1 X.gs.length r1, Value.slice a2 X.os.length r2, Value.slice a3 X.gold.length r3, Value.slice a6 st.length r6, Value.slice (some xj) X.qs.length r5]) (by go_simp) (fun V hV => by obtain ⟨d0, d1, d2, d3, d4, d5, d6, d7, d8⟩ := hV.1.cells; go_simp) ?_
              go_simp
              refine headT_read rfl (.pointer (some ⟨bx, 8, none⟩)) (by go_simp) (fun V hV => by go_simp) ?_
              go_simp
              refine headT_read rfl (.slice (some xj) X.qs.length r5) (by go_simp) (fun V hV => by obtain ⟨d0, d1, d2, d3, d4, d5, d6, d7, d8⟩ := hV.1.cells; go_simp) ?_
              go_simp
              refine headT_read rfl (.int .i64 (n : Nat)) (by go_simp) (fun V hV => by go_simp) ?_
              go_simp
              refine headT_read rfl (.pointer (some (xj.add (n * 4)))) (by go_simp) (fun V hV => by go_simp) ?_
              go_simp
              refine headT_read rfl (.pointer (some ⟨(xj.add (n * 4)).block, (xj.add (n * 4)).off + 1, none⟩)) (by go_simp) (fun V hV => by go_simp) ?_
              go_simp
              refine headT_read rfl (.int .i64 j.unit) (by go_simp) (fun V hV => by obtain ⟨-, d0⟩ := hV; go_simp) ?_
              go_simp
              refine headT_call rfl 14 #[.agg #[.int .i64 X.turn, .int .i64 X.next, .int .i64 X.wide, .int .i64 X.high, Value.slice a1 X.gs.length r1, Value.slice a2 X.os.length r2, Value.slice a3 X.gold.length r3, Value.slice a6 st.length r6, Value.slice (some xj) X.qs.length r5], .int .i64 j.unit] (by go_simp) (by go_simp) ?_
              refine (rfind_any _ { X with us := st } j.unit w8 (WL.out _ D8.out)).mono ?_
              rintro e w10 ⟨r, rfl, hf, hb⟩
              have D10 : Hid (Below wr.heap.size wr w10) := D8.out.trans (hb.mono D8.out.size)
              refine ⟨_, rfl, CB.out _ D10.out, ?_⟩
              go_simp
              unfold wpHeadT
              refine sched_value rfl (.int .i64 r) w10 (by go_simp) (by go_simp) trivial ?_
              go_simp
              unfold wpSched
              have J10 : Hid (Jbo w10 b6 q qq) := J7.out.below D10.out
              have BB10 : Hid (Below b6 w6 w10) := BB7.out.trans (D10.out.mono S7.out)
              have S10 : Hid (b6 ≤ w10.heap.size) := Nat.le_trans S7.out D10.out.size
              rcases hf with ⟨rfl, hf⟩ | ⟨m, y, rfl, hmy, hm, -⟩
              · have NZ : Hid ((X.qs.take (n + 1)).filter (fun j => !orphanJ st j) = qq) := by
                  have h : orphanJ st j = true := by unfold orphanJ; rw [show st.any (fun u => u.id == j.unit) = false from hf]; rfl
                  unfold Hid
                  rw [NQ.out, h]
                  simp
                clear hf hb
                go_wp2
                go_round
                case rel => exact ⟨n + 1, _, by go_num, rfl, by omega, by rw [NZ.out]; exact J10.out, BB10.out⟩
                case measure => simp [intOf]; omega
              · have NZ : Hid ((X.qs.take (n + 1)).filter (fun j => !orphanJ st j) = qq ++ [j]) := by
                  have h : orphanJ st j = false := by unfold orphanJ; rw [List.any_eq_true.2 ⟨y, List.mem_of_getElem? hmy, hm⟩]; rfl
                  unfold Hid
                  rw [NQ.out, h]
                  simp
                have hr0 : 0 ≤ ((m : Nat) : Int) := by omega
                obtain ⟨c0, c1, c2, c3⟩ := JC.out.1.below D10.out JC.out.2
                obtain ⟨-, -, -, -, -, -, -, -, x8⟩ := (X7.out.below D10.out X7.out.lt).cells
                have BA : Hid (Below w10.heap.size w10 (w10.alloc (Obj.cells #[.int .i64 j.player, .int .i64 j.unit, .int .i64 j.kind, .int .i64 j.left] 71))) := (Below.refl _ _).alloc (Nat.le_refl _) _
                have EC : Hid (Jbc (w10.alloc (Obj.cells #[.int .i64 j.player, .int .i64 j.unit, .int .i64 j.kind, .int .i64 j.left] 71)) ⟨w10.heap.size, 0, none⟩ j) := Jbc.mk' j rfl
                have J11 : Hid (Jbo (w10.alloc (Obj.cells #[.int .i64 j.player, .int .i64 j.unit, .int .i64 j.kind, .int .i64 j.left] 71)) b6 q qq) := J10.out.below BA.out
                have B11 : Hid (Below b6 w6 (w10.alloc (Obj.cells #[.int .i64 j.player, .int .i64 j.unit, .int .i64 j.kind, .int .i64 j.left] 71))) := BB10.out.trans (BA.out.mono S10.out)
                have S11 : Hid (b6 ≤ (w10.alloc (Obj.cells #[.int .i64 j.player, .int .i64 j.unit, .int .i64 j.kind, .int .i64 j.left] 71)).heap.size) := Nat.le_trans S10.out BA.out.size
                clear hb hmy hm
                go_wp2_with (at_builtin; refine app_jb _ rfl _ _ rfl b6 _ qq rfl J11.out _ j rfl EC.out (by have := QL.out; omega) S11.out ?_)
                intro gg gc w12 o12 g12 _ _
                have J12 : Hid (Jbo w12 b6 (.slice (some ⟨gg, 0, none⟩) (qq.length + 1) gc) (qq ++ [j])) := o12
                have B12 : Hid (Below b6 w6 w12) := B11.out.grown g12 S11.out (fun k hk => (J11.out.block k hk).1)
                clear o12 g12 c0 c1 c2 c3 x8 BA EC J11 B11 S11
                go_wp2
                go_round
                case rel => exact ⟨n + 1, _, by go_num, rfl, by omega, by rw [NZ.out]; exact J12.out, B12.out⟩
                case measure => simp [intOf]; omega
        · have hnl : n < X.us.length := by omega
          have hnh : n < hs.length := by rw [HS.out.2.2.1]; exact hnl
          have hni : ((n : Nat) : Int) < (X.us.length : Nat) := by omega
          obtain ⟨y, hy⟩ : ∃ y, hs[n]? = some y := ⟨_, List.getElem?_eq_getElem hnh⟩
          obtain ⟨pa, pc, he, -, -, hux⟩ := UL.out
          obtain ⟨xu, hxu, hxl, hxc⟩ := hux (by intro h; rw [h] at hnh; simp at hnh)
          injection he with he1 he2 he3
          subst he1
          subst hxu
          obtain ⟨c0, c1, c2, c3, c4, c5, c6, c7⟩ := hxc n y hy
          have NX := fell_next hy
          have WN : IntKind.i64.wrap ((n : Nat) + 1 : Int) = ((n : Nat) : Int) + 1 := by rw [IntKind.wrap_i64]; omega
          obtain ⟨fs, hfs⟩ : ∃ l, es ++ ((hs.take n).filter fallenU).map fellE = l := ⟨_, rfl⟩
          obtain ⟨ss, hss⟩ : ∃ l, (hs.take n).filter (fun u => !fallenU u) = l := ⟨_, rfl⟩
          have FL : Hid (fs.length ≤ 80 ∧ ss.length ≤ 40) := by
            have h1 : ((hs.take n).filter fallenU).length ≤ (hs.take n).length := List.length_filter_le _ _
            have h4 : ((hs.take n).filter (fun u => !fallenU u)).length ≤ (hs.take n).length := List.length_filter_le _ _
            have h2 : (hs.take n).length ≤ n := by simp; omega
            have h3 := HS.out.2.2.2
            refine ⟨?_, ?_⟩
            · rw [← hfs, List.length_append, List.length_map]
              omega
            · rw [← hss]
              omega
          have NY : Hid (es ++ ((hs.take (n + 1)).filter fallenU).map fellE = fs ++ (if fallenU y then [fellE y] else [])) := by unfold Hid; rw [NX, ← List.append_assoc, hfs]
          have NS : Hid ((hs.take (n + 1)).filter (fun u => !fallenU u) = ss ++ (if fallenU y then [] else [y])) := by
            unfold Hid
            rw [List.take_succ_eq_append_getElem hnh, List.filter_append, hss, (List.getElem?_eq_some_iff.1 hy).2]
            cases h : fallenU y <;> simp [h]
          rw [hfs] at E5
          rw [hss] at F5
          clear hux he2 he3 hxl hxc hy NX hfs hss
          obtain ⟨-, -, -, -, -, -, -, x7, -⟩ := X5.out.cells
          by_cases hy1 : y.life < 1
          · have hfl : fallenU y = true := decide_eq_true (by omega)
            have NZ : Hid (es ++ ((hs.take (n + 1)).filter fallenU).map fellE = fs ++ [fellE y] ∧ (hs.take (n + 1)).filter (fun u => !fallenU u) = ss) := by
              refine ⟨?_, ?_⟩
              · rw [NY.out, hfl]; simp
              · rw [NS.out, hfl]; simp
            have BA : Hid (Below wr.heap.size wr (wr.alloc (Obj.cells #[.int .i64 3, .int .i64 y.id, .int .i64 0] 73))) := (Below.refl _ _).alloc (Nat.le_refl _) _
            have EC : Hid (Evc (wr.alloc (Obj.cells #[.int .i64 3, .int .i64 y.id, .int .i64 0] 73)) ⟨wr.heap.size, 0, none⟩ (fellE y)) := Evc.mk' (fellE y) rfl
            have E8 : Hid (Evo (wr.alloc (Obj.cells #[.int .i64 3, .int .i64 y.id, .int .i64 0] 73)) (bx + 1) ev5 fs) := E5.out.below BA.out
            have F8 : Hid (Uno (wr.alloc (Obj.cells #[.int .i64 3, .int .i64 y.id, .int .i64 0] 73)) (bx + 1) lf ss) := F5.out.below BA.out
            have B8 : Hid (Below (bx + 1) w3 (wr.alloc (Obj.cells #[.int .i64 3, .int .i64 y.id, .int .i64 0] 73))) := BB5.out.trans (BA.out.mono S5.out)
            have S8 : Hid (bx + 1 ≤ (wr.alloc (Obj.cells #[.int .i64 3, .int .i64 y.id, .int .i64 0] 73)).heap.size) := Nat.le_trans S5.out BA.out.size
            clear hfl NY NS
            go_wp2_with (at_builtin; refine app_ev _ rfl _ _ rfl (bx + 1) _ fs rfl E8.out _ (fellE y) rfl EC.out (by have := FL.out.1; omega) S8.out ?_)
            intro gg gc w9 o9 g9 hor _
            have E9 : Hid (Evo w9 (bx + 1) (.slice (some ⟨gg, 0, none⟩) (fs.length + 1) gc) (fs ++ [fellE y])) := o9
            have F9 : Hid (Uno w9 (bx + 1) lf ss) := own_gb F8.out g9 (fun b h1 h2 => D5.out b h2 h1)
            have B9 : Hid (Below (bx + 1) w3 w9) := B8.out.grown g9 S8.out (fun k hk => (E8.out.block k hk).1)
            have D9 : Hid (Dif (.slice (some ⟨gg, 0, none⟩) (fs.length + 1) gc) lf) := fun b h1 h2 => by
              have hb : gg = b := by injection h1
              subst hb
              rcases hor with h | h
              · exact D5.out _ h h2
              · have := (F5.out.block _ h2).2
                omega
            clear o9 g9 hor c0 c1 c2 c3 c4 c5 c6 c7 BA EC E8 F8 B8 S8
            go_wp2
            go_round
            case rel => exact ⟨n + 1, _, _, by go_num, rfl, rfl, by omega, by rw [NZ.out.1]; exact E9.out, by rw [NZ.out.2]; exact F9.out, D9.out, B9.out⟩
            case measure => simp [intOf]; omega
          · have hfl : fallenU y = false := decide_eq_false (by omega)
            have NZ : Hid (es ++ ((hs.take (n + 1)).filter fallenU).map fellE = fs ∧ (hs.take (n + 1)).filter (fun u => !fallenU u) = ss ++ [y]) := by
              refine ⟨?_, ?_⟩
              · rw [NY.out, hfl]; simp
              · rw [NS.out, hfl]; simp
            have BA : Hid (Below wr.heap.size wr (wr.alloc (Obj.cells #[.int .i64 y.id, .int .i64 y.player, .int .i64 y.kind, .int .i64 y.at_, .int .i64 y.life, .int .i64 y.load, .int .i64 y.task, .int .i64 y.goal] 44))) := (Below.refl _ _).alloc (Nat.le_refl _) _
            have EC : Hid (Unc (wr.alloc (Obj.cells #[.int .i64 y.id, .int .i64 y.player, .int .i64 y.kind, .int .i64 y.at_, .int .i64 y.life, .int .i64 y.load, .int .i64 y.task, .int .i64 y.goal] 44)) ⟨wr.heap.size, 0, none⟩ y) := Unc.mk' y rfl
            have E8 : Hid (Evo (wr.alloc (Obj.cells #[.int .i64 y.id, .int .i64 y.player, .int .i64 y.kind, .int .i64 y.at_, .int .i64 y.life, .int .i64 y.load, .int .i64 y.task, .int .i64 y.goal] 44)) (bx + 1) ev5 fs) := E5.out.below BA.out
            have F8 : Hid (Uno (wr.alloc (Obj.cells #[.int .i64 y.id, .int .i64 y.player, .int .i64 y.kind, .int .i64 y.at_, .int .i64 y.life, .int .i64 y.load, .int .i64 y.task, .int .i64 y.goal] 44)) (bx + 1) lf ss) := F5.out.below BA.out
            have B8 : Hid (Below (bx + 1) w3 (wr.alloc (Obj.cells #[.int .i64 y.id, .int .i64 y.player, .int .i64 y.kind, .int .i64 y.at_, .int .i64 y.life, .int .i64 y.load, .int .i64 y.task, .int .i64 y.goal] 44))) := BB5.out.trans (BA.out.mono S5.out)
            have S8 : Hid (bx + 1 ≤ (wr.alloc (Obj.cells #[.int .i64 y.id, .int .i64 y.player, .int .i64 y.kind, .int .i64 y.at_, .int .i64 y.life, .int .i64 y.load, .int .i64 y.task, .int .i64 y.goal] 44)).heap.size) := Nat.le_trans S5.out BA.out.size
            clear hfl NY NS
            go_wp2_with (at_builtin; refine app_un _ rfl _ _ rfl (bx + 1) _ ss rfl F8.out _ y rfl EC.out (by have := FL.out.2; omega) S8.out ?_)
            intro gg gc w9 o9 g9 hor _
            have F9 : Hid (Uno w9 (bx + 1) (.slice (some ⟨gg, 0, none⟩) (ss.length + 1) gc) (ss ++ [y])) := o9
            have E9 : Hid (Evo w9 (bx + 1) ev5 fs) := own_gb E8.out g9 (fun b h1 h2 => D5.out b h1 h2)
            have B9 : Hid (Below (bx + 1) w3 w9) := B8.out.grown g9 S8.out (fun k hk => (F8.out.block k hk).1)
            have D9 : Hid (Dif ev5 (.slice (some ⟨gg, 0, none⟩) (ss.length + 1) gc)) := fun b h1 h2 => by
              have hb : gg = b := by injection h2
              subst hb
              rcases hor with h | h
              · exact D5.out _ h1 h
              · have := (E5.out.block _ h1).2
                omega
            clear o9 g9 hor c0 c1 c2 c3 c4 c5 c6 c7 BA EC E8 F8 B8 S8
            go_wp2
            go_round
            case rel => exact ⟨n + 1, _, _, by go_num, rfl, rfl, by omega, by rw [NZ.out.1]; exact E9.out, by rw [NZ.out.2]; exact F9.out, D9.out, B9.out⟩
            case measure => simp [intOf]; omega
    · have hnl : n < X.us.length := by omega
      have hni : ((n : Nat) : Int) < (X.us.length : Nat) := by omega
      obtain ⟨u, hu⟩ : ∃ u, X.us[n]? = some u := ⟨_, List.getElem?_eq_getElem hnl⟩
      obtain ⟨k, fu⟩ := WR.out.fine hu
      obtain ⟨kn, hkn⟩ : ∃ n : Nat, u.kind = n := ⟨u.kind.toNat, by have := fu.k0.1; omega⟩
      have hkk : ks[kn]? = some k := by have := fu.kk; rw [hkn, Int.toNat_natCast] at this; exact this
      have hkl : kn < ks.length := (List.getElem?_eq_some_iff.1 hkk).1
      have UK : Hid (X.us[n]? = some u ∧ u.kind = (kn : Nat) ∧ ks[u.kind.toNat]? = some k) := ⟨hu, hkn, fu.kk⟩
      obtain ⟨xk, hxk, hxkl, hxkc⟩ := KC.out (by intro h; subst h; simp at hkl)
      subst hxk
      have KK : Hid (Kc w (xk.add (kn * 11)) k ∧ (xk.add (kn * 11)).block < w.heap.size) := ⟨hxkc kn k hkk, by rw [add_block]; exact hxkl⟩
      obtain ⟨pa, pc, he, -, -, hux⟩ := H.out.slices.2.2.2.1
      obtain ⟨xu, hxu, hxul, hxuc⟩ := hux (by intro h; rw [h] at hnl; simp at hnl)
      injection he with he1 he2 he3
      subst he1
      subst hxu
      have UC : Hid (∀ (i : Nat) k, X.us[i]? = some k → Unc w (xu.add (i * 8)) k) := hxuc
      have UL : Hid (xu.block < w.heap.size) := hxul
      have NX : Hid (strikes ks Wn X.us (X.us.take (n + 1)) = stk ks Wn X.us (strikes ks Wn X.us (X.us.take n)) u) := strikes_next (ks := ks) (W := Wn) (us := X.us) hu
      have WN : IntKind.i64.wrap ((n : Nat) + 1 : Int) = ((n : Nat) : Int) + 1 := by rw [IntKind.wrap_i64]; omega
      clear hu fu hkn hkk hxkl hxkc hux he2 he3 hxul hxuc
      obtain ⟨y0, y1, y2, y3, y4, y5, y6, y7, y8⟩ := Y1.out
      go_wp2_with fail
      refine (rtarget_any _ _ ks X n Wn u k wr (K.out.below BB.out) (H.out.below BB.out) WR.out UK.out.1 GD.out UK.out.2.2).mono ?_
      rintro e w3 ⟨rfl, hb⟩
      obtain ⟨t, ht⟩ : ∃ t, tgt Wn u k X.us = t := ⟨_, rfl⟩
      have TW := tg_who WR.out (tg_is Wn u k X.us)
      rw [ht] at TW ⊢
      have TQ : Hid (tgtOf ks Wn X.us u = t) := by unfold Hid; rw [tgtOf_some UK.out.2.2]; exact ht
      have B3 : Hid (Below w.heap.size w w3) := BB.out.trans (hb.mono BB.out.size)
      have L3 : Hid (Uno w3 (w.heap.size + 2) (Value.slice a4 X.us.length r4) (hurt X.us (strikes ks Wn X.us (X.us.take n)).1)) := L1.out.below hb
      have E3 : Hid (Evo w3 (bx + 1) ev (strikes ks Wn X.us (X.us.take n)).2) := E1.out.1.below hb
      have G3 : Hid (w2.grownBy w3 (Value.slice a4 X.us.length r4).ownBlock) := gb_trans G1.out (gb_below hb)
      have X3 : Hid (Wx w3 bx (.int .i64 X.turn) (.int .i64 X.next) (.int .i64 X.wide) (.int .i64 X.high) (Value.slice a1 X.gs.length r1) (Value.slice a2 X.os.length r2) (Value.slice a3 X.gold.length r3) (Value.slice a4 X.us.length r4) (Value.slice a5 X.qs.length r5)) := X1.out.below hb X1.out.lt
      have Y3 : Hid (Bw w3 w.heap.size X (.slice p1 X.gs.length q1) (.slice p2 X.os.length q2) (.slice p3 X.gold.length q3) (.slice (some xu) X.us.length q4) (.slice p5 X.qs.length q5)) := Y1.out.below hb Y1.out.lt
      have S3 : Hid (bx + 1 ≤ w3.heap.size) := Nat.le_trans SZ.out hb.size
      clear hb y0 y1 y2 y3 y4 y5 y6 y7 y8 L1 G1 X1 Y1 BB BG SZ ht
      rcases TW with ⟨rfl, -⟩ | ⟨hn1, tn, x, f0, tl, rfl, hx, -, -⟩
      · have SAME : Hid (strikes ks Wn X.us (X.us.take (n + 1)) = (strikes ks Wn X.us (X.us.take n))) := by
          unfold Hid
          rw [NX.out]
          unfold stk
          rw [TQ.out, if_pos rfl]
        go_wp2
        go_round
        case rel => exact ⟨n + 1, _, by go_num, rfl, by omega, by rw [SAME.out]; exact L3.out, by rw [SAME.out]; exact E3.out, by rw [SAME.out]; have := E1.out.2; omega, G3.out⟩
        case measure => simp [intOf]; omega
      · have htl : tn < X.us.length := (List.getElem?_eq_some_iff.1 hx).1
        obtain ⟨ls, hls⟩ : ∃ l, (strikes ks Wn X.us (X.us.take n)).1 = l := ⟨_, rfl⟩
        obtain ⟨es, hes⟩ : ∃ l, (strikes ks Wn X.us (X.us.take n)).2 = l := ⟨_, rfl⟩
        have hll : ls.length = X.us.length := by rw [← hls]; exact strikes_len'
        obtain ⟨ln, hln⟩ : ∃ x, ls[tn]? = some x := ⟨_, List.getElem?_eq_getElem (by omega)⟩
        have UPT := strikes_upto (W := Wn) (us := X.us) WR.out.kinds n hn
        rw [hls] at UPT
        have lnb := UPT ln (List.mem_of_getElem? hln)
        have hitb := hit_in WR.out.kinds u
        rw [hitOf_some UK.out.2.2] at hitb
        have xlb := (FT.out x (List.mem_of_getElem? hx)).2
        obtain ⟨lf, hlf⟩ : ∃ l, x.life - ln = l := ⟨_, rfl⟩
        have wsub : IntKind.i64.wrap (lf - k.n1) = lf - k.n1 := by rw [IntKind.wrap_i64]; omega
        have NEW : Hid (strikes ks Wn X.us (X.us.take (n + 1)) = (ls.set tn (ln + k.n1), es ++ [⟨2, u.id, x.id⟩])) := by
          unfold Hid
          rw [NX.out]
          unfold stk
          rw [TQ.out, if_neg (by omega), Int.toNat_natCast, hitOf_some UK.out.2.2, hls, hes, hx, List.getD_eq_getElem?_getD, hln]
          rfl
        rw [hls] at L3
        rw [hes] at E3
        have EL : Hid (es.length ≤ n) := by rw [← hes]; exact E1.out.2
        have HA : Hid ((hurt X.us ls)[tn]? = some { x with life := lf }) := by unfold Hid; rw [← hlf]; exact hurt_at hx hln
        have HS : Hid ((hurt X.us ls).set tn { x with life := lf - k.n1 } = hurt X.us (ls.set tn (ln + k.n1))) := hurt_set hx hln (by omega)
        have UT : Hid (Unc w (xu.add (tn * 8)) x ∧ (xu.add (tn * 8)).block < w.heap.size ∧ Unc w (xu.add (n * 8)) u ∧ (xu.add (n * 8)).block < w.heap.size) := ⟨UC.out tn x hx, by rw [add_block]; exact UL.out, UC.out n u UK.out.1, by rw [add_block]; exact UL.out⟩
        have htu : ((tn : Nat) : Int) < (X.us.length : Nat) := by omega
        have ht0 : ¬ ((tn : Nat) : Int) < 0 := by omega
        have HL : Hid ((hurt X.us ls).length = X.us.length) := hurt_len hll
        -- the block of the copy's units
        obtain ⟨g, rest, hg0, hgb, hgu, hgc⟩ : ∃ g rest, a4 = some ⟨g, 0, none⟩ ∧ (w.heap.size + 2 ≤ g ∧ g < bx) ∧ Ub w3 g (hurt X.us ls) rest ∧ (X.us.length ≤ r4 ∧ r4 ≤ maxLen ∧ X.us.length * 8 + rest.length = r4 * 8) := by
          rcases L3.out.ub with ⟨-, h⟩ | ⟨g, cap, rest, h1, h2, h3, h4, h5, h6⟩
          · rw [h] at HL
            have := HL.out
            simp at this
            omega
          · rw [HL.out] at h1 h3 h5
            injection h1 with h1 h1' h1''
            subst h1
            subst h1''
            exact ⟨g, rest, rfl, LB.out.2.2.2.1 g rfl, h6, h3, h4, h5⟩
        subst hg0
        have GB : Hid ((w.heap.size + 2 ≤ g ∧ g < bx) ∧ (X.us.length ≤ r4 ∧ r4 ≤ maxLen ∧ X.us.length * 8 + rest.length = r4 * 8)) := ⟨hgb, hgc⟩
        have U3 : Hid (Ub w3 g (hurt X.us ls) rest) := hgu
        clear hx NX UPT lnb hitb hn1 E1 hls hes hll hln TQ xlb hlf hgb hgu hgc L3
        go_upto_region 8 with fail
        have CB : Hid (∀ V, Below w.heap.size w V → Ub V g (hurt X.us ls) rest → Wx V bx (.int .i64 X.turn) (.int .i64 X.next) (.int .i64 X.wide) (.int .i64 X.high) (Value.slice a1 X.gs.length r1) (Value.slice a2 X.os.length r2) (Value.slice a3 X.gold.length r3) (Value.slice (some ⟨g, 0, none⟩) X.us.length r4) (Value.slice a5 X.qs.length r5) → Bw V w.heap.size X (.slice p1 X.gs.length q1) (.slice p2 X.os.length q2) (.slice p3 X.gold.length q3) (.slice (some xu) X.us.length q4) (.slice p5 X.qs.length q5) → (V.cell? ⟨bx, 7, none⟩ = some (.slice (some ⟨g, 0, none⟩) X.us.length r4) ∧ V.cell? ⟨g, tn * 8 + 4, none⟩ = some (.int .i64 lf) ∧ V.cell? ⟨w.heap.size, 7, none⟩ = some (.slice (some xu) X.us.length q4) ∧ V.cell? ⟨(xu.add (n * 8)).block, (xu.add (n * 8)).off + 2, none⟩ = some (.int .i64 (kn : Nat)) ∧ V.cell? ⟨(xk.add (kn * 11)).block, (xk.add (kn * 11)).off + 2, none⟩ = some (.int .i64 k.n1))) := fun V hb hu hx hy => ⟨hx.cells.2.2.2.2.2.2.2.1, (hu.unc HA.out).c4, hy.c7, by have := (UT.out.2.2.1.below hb UT.out.2.2.2).c2; rw [UK.out.2.1] at this; exact this, (KK.out.1.below hb KK.out.2).c2⟩
        refine wp_region_two [(true, 0), (true, 1), (true, 2), (true, 3), (true, 4), (true, 5), (true, 6), (true, 7), (true, 8), (true, 9), (true, 10), (true, 11), (true, 12), (true, 13), (true, 14), (true, 15), (true, 16), (true, 17), (true, 18), (true, 19), (true, 20), (true, 21)] [(false, 22)] (fun V => V.cell? ⟨bx, 7, none⟩ = some (.slice (some ⟨g, 0, none⟩) X.us.length r4) ∧ V.cell? ⟨g, tn * 8 + 4, none⟩ = some (.int .i64 lf) ∧ V.cell? ⟨w.heap.size, 7, none⟩ = some (.slice (some xu) X.us.length q4) ∧ V.cell? ⟨(xu.add (n * 8)).block, (xu.add (n * 8)).off + 2, none⟩ = some (.int .i64 (kn : Nat)) ∧ V.cell? ⟨(xk.add (kn * 11)).block, (xk.add (kn * 11)).off + 2, none⟩ = some (.int .i64 k.n1)) (by kernel_rfl) (by kernel_rfl) (by kernel_rfl) (by decide +kernel) (by decide +kernel) (CB.out _ B3.out.drew (U3.out.below ((Below.refl _ _).drew) U3.out.lt) X3.out.drew (Y3.out.below ((Below.refl _ _).drew) Y3.out.lt)) ?_
        have D4 : Hid (Below w3.heap.size w3 { w3 with drawn := w3.drawn + 1 }) := (Below.refl _ _).drew
        generalize ({ w3 with drawn := w3.drawn + 1 } : World) = w4 at *
        have B4 : Hid (Below w.heap.size w w4) := B3.out.trans (D4.out.mono B3.out.size)
        have U4 : Hid (Ub w4 g (hurt X.us ls) rest) := U3.out.below D4.out U3.out.lt
        have E4 : Hid (Evo w4 (bx + 1) ev es) := E3.out.below D4.out
        have G4 : Hid (w2.grownBy w4 (some g)) := gb_trans G3.out (gb_below D4.out)
        have X4 : Hid (Wx w4 bx (.int .i64 X.turn) (.int .i64 X.next) (.int .i64 X.wide) (.int .i64 X.high) (Value.slice a1 X.gs.length r1) (Value.slice a2 X.os.length r2) (Value.slice a3 X.gold.length r3) (Value.slice (some ⟨g, 0, none⟩) X.us.length r4) (Value.slice a5 X.qs.length r5)) := X3.out.below D4.out X3.out.lt
        have Y4 : Hid (Bw w4 w.heap.size X (.slice p1 X.gs.length q1) (.slice p2 X.os.length q2) (.slice p3 X.gold.length q3) (.slice (some xu) X.us.length q4) (.slice p5 X.qs.length q5)) := Y3.out.below D4.out Y3.out.lt
        have S4 : Hid (bx + 1 ≤ w4.heap.size) := Nat.le_trans S3.out D4.out.size
        clear B3 U3 E3 G3 X3 Y3 S3 D4
        refine headT_read rfl (.pointer (some ⟨bx, 7, none⟩)) (by go_simp) (fun V hV => by go_simp) ?_
        go_simp
        refine headT_read rfl (.slice (some ⟨g, 0, none⟩) X.us.length r4) (by go_simp) (fun V hV => by obtain ⟨d1, d2, d3, d4, d5⟩ := hV; go_simp) ?_
        go_simp
        refine headT_read rfl (.int .i64 (tn : Nat)) (by go_simp) (fun V hV => by go_simp) ?_
        go_simp
        refine headT_read rfl (.pointer (some ⟨bx, 7, none⟩)) (by go_simp) (fun V hV => by go_simp) ?_
        go_simp
        refine headT_read rfl (.slice (some ⟨g, 0, none⟩) X.us.length r4) (by go_simp) (fun V hV => by obtain ⟨d1, d2, d3, d4, d5⟩ := hV; go_simp) ?_
        go_simp
        refine headT_read rfl (.int .i64 (tn : Nat)) (by go_simp) (fun V hV => by go_simp) ?_
        go_simp
        refine headT_read rfl (.pointer (some ⟨g, tn * 8, none⟩)) (by go_simp) (fun V hV => by go_simp) ?_
        go_simp
        refine headT_read rfl (.pointer (some ⟨g, tn * 8 + 4, none⟩)) (by go_simp) (fun V hV => by go_simp) ?_
        go_simp
        refine headT_read rfl (.int .i64 lf) (by go_simp) (fun V hV => by obtain ⟨d1, d2, d3, d4, d5⟩ := hV; go_simp) ?_
        go_simp
        refine headT_read rfl (.slice (some xk) ks.length qk) (by go_simp) (fun V hV => by go_simp) ?_
        go_simp
        refine headT_read rfl (.pointer (some ⟨w.heap.size, 7, none⟩)) (by go_simp) (fun V hV => by go_simp) ?_
        go_simp
        refine headT_read rfl (.slice (some xu) X.us.length q4) (by go_simp) (fun V hV => by obtain ⟨d1, d2, d3, d4, d5⟩ := hV; go_simp) ?_
        go_simp
        refine headT_read rfl (.int .i64 (n : Nat)) (by go_simp) (fun V hV => by go_simp) ?_
        go_simp
        refine headT_read rfl (.pointer (some (xu.add (n * 8)))) (by go_simp) (fun V hV => by go_simp) ?_
        go_simp
        refine headT_read rfl (.pointer (some ⟨(xu.add (n * 8)).block, (xu.add (n * 8)).off + 2, none⟩)) (by go_simp) (fun V hV => by go_simp) ?_
        go_simp
        refine headT_read rfl (.int .i64 (kn : Nat)) (by go_simp) (fun V hV => by obtain ⟨d1, d2, d3, d4, d5⟩ := hV; go_simp) ?_
        go_simp
        refine headT_read rfl (.pointer (some (xk.add (kn * 11)))) (by go_simp) (fun V hV => by go_simp) ?_
        go_simp
        refine headT_read rfl (.pointer (some ⟨(xk.add (kn * 11)).block, (xk.add (kn * 11)).off + 2, none⟩)) (by go_simp) (fun V hV => by go_simp) ?_
        go_simp
        refine headT_read rfl (.int .i64 k.n1) (by go_simp) (fun V hV => by obtain ⟨d1, d2, d3, d4, d5⟩ := hV; go_simp) ?_
        go_simp
        refine headT_read rfl (.int .i64 (lf - k.n1)) (by go_simp) (fun V hV => by go_simp) ?_
        go_simp
        refine headT_read rfl (.pointer (some ⟨g, tn * 8, none⟩)) (by go_simp) (fun V hV => by go_simp) ?_
        go_simp
        refine headT_read rfl (.pointer (some ⟨g, tn * 8 + 4, none⟩)) (by go_simp) (fun V hV => by go_simp) ?_
        go_simp
        unfold wpHeadT
        have t4 := U4.out.thaw (tn * 8 + 4)
        have c4 := (U4.out.unc HA.out).c4
        have U5 : Hid (Ub (w4.setCell ⟨g, tn * 8 + 4, none⟩ (.int .i64 (lf - k.n1))) g (hurt X.us (ls.set tn (ln + k.n1))) rest) := by
          unfold Hid
          rw [← HS.out]
          exact U4.out.set4 HA.out _
        have K5 : Hid (Kp g w4 (w4.setCell ⟨g, tn * 8 + 4, none⟩ (.int .i64 (lf - k.n1)))) := Kp.set _ _ _
        refine sched_skip rfl (w4.setCell ⟨g, tn * 8 + 4, none⟩ (.int .i64 (lf - k.n1))) (by go_simp) (by go_simp) trivial ?_
        go_simp
        clear t4 c4
        generalize (w4.setCell ⟨g, tn * 8 + 4, none⟩ (.int .i64 (lf - k.n1))) = w5 at *
        have B5 : Hid (Below w.heap.size w w5) := K5.out.below B4.out B4.out.size (by have := GB.out.1; omega)
        have E5 : Hid (Evo w5 (bx + 1) ev es) := E4.out.kp9 K5.out (by have := GB.out.1; omega)
        have G5 : Hid (w2.grownBy w5 (some g)) := gb_trans G4.out (gb_kp K5.out)
        have X5 : Hid (Wx w5 bx (.int .i64 X.turn) (.int .i64 X.next) (.int .i64 X.wide) (.int .i64 X.high) (Value.slice a1 X.gs.length r1) (Value.slice a2 X.os.length r2) (Value.slice a3 X.gold.length r3) (Value.slice (some ⟨g, 0, none⟩) X.us.length r4) (Value.slice a5 X.qs.length r5)) := X4.out.kp K5.out (by have := GB.out.1; omega)
        have Y5 : Hid (Bw w5 w.heap.size X (.slice p1 X.gs.length q1) (.slice p2 X.os.length q2) (.slice p3 X.gold.length q3) (.slice (some xu) X.us.length q4) (.slice p5 X.qs.length q5)) := Y4.out.kp9 K5.out (by have := GB.out.1; omega)
        have S5 : Hid (bx + 1 ≤ w5.heap.size) := Nat.le_trans S4.out K5.out.size
        unfold wpSched
        clear B4 U4 E4 G4 X4 Y4 S4 K5 CB
        go_upto_region 9 with fail
        have CB : Hid (∀ V, Below w.heap.size w V → Bw V w.heap.size X (.slice p1 X.gs.length q1) (.slice p2 X.os.length q2) (.slice p3 X.gold.length q3) (.slice (some xu) X.us.length q4) (.slice p5 X.qs.length q5) → (V.cell? ⟨w.heap.size, 7, none⟩ = some (.slice (some xu) X.us.length q4) ∧ V.cell? (xu.add (n * 8)) = some (.int .i64 u.id) ∧ V.cell? (xu.add (tn * 8)) = some (.int .i64 x.id))) := fun V hb hy => ⟨hy.c7, (UT.out.2.2.1.below hb UT.out.2.2.2).c0, (UT.out.1.below hb UT.out.2.1).c0⟩
        refine wp_region_two [(true, 0), (true, 1), (true, 2), (true, 3), (true, 4), (true, 5), (true, 6), (true, 7), (true, 8), (true, 9), (true, 10), (true, 11), (true, 12), (true, 13), (false, 14), (false, 15)] [(false, 16)] (fun V => V.cell? ⟨w.heap.size, 7, none⟩ = some (.slice (some xu) X.us.length q4) ∧ V.cell? (xu.add (n * 8)) = some (.int .i64 u.id) ∧ V.cell? (xu.add (tn * 8)) = some (.int .i64 x.id)) (by kernel_rfl) (by kernel_rfl) (by kernel_rfl) (by decide +kernel) (by decide +kernel) (CB.out _ B5.out.drew (Y5.out.below ((Below.refl _ _).drew) Y5.out.lt)) ?_
        have D6 : Hid (Below w5.heap.size w5 { w5 with drawn := w5.drawn + 1 }) := (Below.refl _ _).drew
        generalize ({ w5 with drawn := w5.drawn + 1 } : World) = w6 at *
        have B6 : Hid (Below w.heap.size w w6) := B5.out.trans (D6.out.mono B5.out.size)
        have U6 : Hid (Ub w6 g (hurt X.us (ls.set tn (ln + k.n1))) rest) := U5.out.below D6.out U5.out.lt
        have E6 : Hid (Evo w6 (bx + 1) ev es) := E5.out.below D6.out
        have G6 : Hid (w2.grownBy w6 (some g)) := gb_trans G5.out (gb_below D6.out)
        have Y6 : Hid (Bw w6 w.heap.size X (.slice p1 X.gs.length q1) (.slice p2 X.os.length q2) (.slice p3 X.gold.length q3) (.slice (some xu) X.us.length q4) (.slice p5 X.qs.length q5)) := Y5.out.below D6.out Y5.out.lt
        have S6 : Hid (bx + 1 ≤ w6.heap.size) := Nat.le_trans S5.out D6.out.size
        clear B5 U5 E5 G5 X5 Y5 S5 D6
        refine headT_read rfl (ev) (by go_simp) (fun V hV => by go_simp) ?_
        go_simp
        refine headT_read rfl (.pointer (some ⟨w.heap.size, 7, none⟩)) (by go_simp) (fun V hV => by go_simp) ?_
        go_simp
        refine headT_read rfl (.slice (some xu) X.us.length q4) (by go_simp) (fun V hV => by obtain ⟨d1, d2, d3⟩ := hV; go_simp) ?_
        go_simp
        refine headT_read rfl (.int .i64 (n : Nat)) (by go_simp) (fun V hV => by go_simp) ?_
        go_simp
        refine headT_read rfl (.pointer (some (xu.add (n * 8)))) (by go_simp) (fun V hV => by go_simp) ?_
        go_simp
        refine headT_read rfl (.pointer (some (xu.add (n * 8)))) (by go_simp) (fun V hV => by go_simp) ?_
        go_simp
        refine headT_read rfl (.int .i64 u.id) (by go_simp) (fun V hV => by obtain ⟨d1, d2, d3⟩ := hV; go_simp) ?_
        go_simp
        refine headT_read rfl (.pointer (some ⟨w.heap.size, 7, none⟩)) (by go_simp) (fun V hV => by go_simp) ?_
        go_simp
        refine headT_read rfl (.slice (some xu) X.us.length q4) (by go_simp) (fun V hV => by obtain ⟨d1, d2, d3⟩ := hV; go_simp) ?_
        go_simp
        refine headT_read rfl (.int .i64 (tn : Nat)) (by go_simp) (fun V hV => by go_simp) ?_
        go_simp
        refine headT_read rfl (.pointer (some (xu.add (tn * 8)))) (by go_simp) (fun V hV => by go_simp) ?_
        go_simp
        refine headT_read rfl (.pointer (some (xu.add (tn * 8)))) (by go_simp) (fun V hV => by go_simp) ?_
        go_simp
        refine headT_read rfl (.int .i64 x.id) (by go_simp) (fun V hV => by obtain ⟨d1, d2, d3⟩ := hV; go_simp) ?_
        go_simp
        refine headT_read rfl (.agg #[.int .i64 2, .int .i64 u.id, .int .i64 x.id]) (by go_simp) (fun V hV => by go_simp) ?_
        go_simp
        have BA : Hid (Below w6.heap.size w6 (w6.alloc (Obj.cells #[.int .i64 2, .int .i64 u.id, .int .i64 x.id] 73))) := (Below.refl _ _).alloc (Nat.le_refl _) _
        have EC : Hid (Evc (w6.alloc (Obj.cells #[.int .i64 2, .int .i64 u.id, .int .i64 x.id] 73)) ⟨w6.heap.size, 0, none⟩ ⟨2, u.id, x.id⟩) := Evc.mk' ⟨2, u.id, x.id⟩ rfl
        refine headT_value rfl (.slice (some ⟨w6.heap.size, 0, none⟩) 1 1) (w6.alloc (Obj.cells #[.int .i64 2, .int .i64 u.id, .int .i64 x.id] 73)) (by go_simp) (by go_simp) (CB.out _ (B6.out.trans (BA.out.mono B6.out.size)) (Y6.out.below BA.out Y6.out.lt)) ?_
        go_simp
        generalize (w6.alloc (Obj.cells #[.int .i64 2, .int .i64 u.id, .int .i64 x.id] 73)) = w7 at *
        have B7 : Hid (Below w.heap.size w w7) := B6.out.trans (BA.out.mono B6.out.size)
        have U7 : Hid (Ub w7 g (hurt X.us (ls.set tn (ln + k.n1))) rest) := U6.out.below BA.out U6.out.lt
        have E7 : Hid (Evo w7 (bx + 1) ev es) := E6.out.below BA.out
        have G7 : Hid (w2.grownBy w7 (some g)) := gb_trans G6.out (gb_below BA.out)
        have Y7 : Hid (Bw w7 w.heap.size X (.slice p1 X.gs.length q1) (.slice p2 X.os.length q2) (.slice p3 X.gold.length q3) (.slice (some xu) X.us.length q4) (.slice p5 X.qs.length q5)) := Y6.out.below BA.out Y6.out.lt
        have S7 : Hid (bx + 1 ≤ w7.heap.size) := Nat.le_trans S6.out BA.out.size
        clear B6 U6 E6 G6 Y6 S6 BA
        obtain ⟨gg, gc, w8, hr, ho8, hg8, -, -⟩ := run_ev w7 31 (bx + 1) ev es E7.out _ _ EC.out (by have := EL.out; omega) S7.out
        have BG : Hid (Below (bx + 1) w7 w8) := (Below.refl _ _).grown hg8 S7.out (fun b hb => (E7.out.block b hb).1)
        have B8 : Hid (Below w.heap.size w w8) := B7.out.trans (BG.out.mono (by have := BL.out; omega))
        have U8 : Hid (Ub w8 g (hurt X.us (ls.set tn (ln + k.n1))) rest) := U7.out.below BG.out (by have := GB.out.1; omega)
        have G8 : Hid (w2.grownBy w8 (some g)) := gb_low G7.out BG.out (by have := N2.out; omega)
        have Y8 : Hid (Bw w8 w.heap.size X (.slice p1 X.gs.length q1) (.slice p2 X.os.length q2) (.slice p3 X.gold.length q3) (.slice (some xu) X.us.length q4) (.slice p5 X.qs.length q5)) := Y7.out.below BG.out (by have := BL.out; omega)
        have O8 : Hid (Evo w8 (bx + 1) (.slice (some ⟨gg, 0, none⟩) (es.length + 1) gc) (es ++ [⟨2, u.id, x.id⟩])) := ho8
        have N8 : Hid (Uno w8 (w.heap.size + 2) (.slice (some ⟨g, 0, none⟩) X.us.length r4) (hurt X.us (ls.set tn (ln + k.n1)))) := by
          have hl : (hurt X.us (ls.set tn (ln + k.n1))).length = X.us.length := by rw [← HS.out, List.length_set]; exact HL.out
          have := U8.out.uno (base := w.heap.size + 2) GB.out.1.1 (by rw [hl]; exact GB.out.2.1) GB.out.2.2.1 (by rw [hl]; exact GB.out.2.2.2)
          rw [hl] at this
          exact this
        refine headT_value rfl (.slice (some ⟨gg, 0, none⟩) (es.length + 1) gc) w8 (by go_simp) (exec_append _ _ _ _ rfl _ _ (by go_simp) (by go_simp) hr) (CB.out _ B8.out Y8.out) ?_
        clear hr ho8 hg8 B7 U7 E7 G7 Y7 S7 BG EC
        go_simp
        unfold wpHeadT
        refine sched_value rfl (.slice (some ⟨gg, 0, none⟩) (es.length + 1) gc) w8 (by go_simp) (by go_simp) trivial ?_
        go_simp
        unfold wpSched
        go_wp2
        go_round
        case rel => exact ⟨n + 1, _, by go_num, rfl, by omega, by rw [NEW.out]; exact N8.out, by rw [NEW.out]; exact O8.out, by rw [NEW.out]; have := EL.out; simp; omega, G8.out⟩
        case measure => simp [intOf]; omega
end Go.Proofs.YteieikgkmfglaaaGreatDoor

