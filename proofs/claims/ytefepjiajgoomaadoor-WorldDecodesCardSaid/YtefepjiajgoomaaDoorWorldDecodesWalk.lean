/- WorldDecodes: the walk. -/
import Derived.Test.YtefepjiajgoomaaDoorRwD
import Derived.Test.YtefepjiajgoomaaDoorDcI
import Derived.Test.YtefepjiajgoomaaDoorSmW
import Derived.Test.YtefepjiajgoomaaDoorSaE
import Derived.Test.YtefepjiajgoomaaDoorWdG
namespace Go.Proofs.YtefepjiajgoomaaDoor.worldDecodes
open Go.RowKit
set_option linter.unusedVariables false

theorem zero_wl (w : World) : Wl w (.agg #[.int .i64 0, .int .i64 0, .int .i64 0, .int .i64 0, .slice none 0 0, .slice none 0 0, .slice none 0 0, .slice none 0 0, .slice none 0 0]) WV.zero :=
  ⟨_, _, _, _, _, rfl, ⟨none, 0, rfl, Nat.le_refl _, by omega, fun h => absurd rfl h⟩, ⟨none, 0, rfl, Nat.le_refl _, by omega, fun h => absurd rfl h⟩, ⟨none, 0, rfl, Nat.le_refl _, by omega, fun h => absurd rfl h⟩, ⟨none, 0, rfl, Nat.le_refl _, by omega, fun h => absurd rfl h⟩, ⟨none, 0, rfl, Nat.le_refl _, by omega, fun h => absurd rfl h⟩⟩
theorem Wl.shape {w : World} {v : Value} {X : WV} (h : Wl w v X) : ∃ p1 q1 p2 q2 p3 q3 p4 q4 p5 q5, v = .agg #[.int .i64 X.turn, .int .i64 X.next, .int .i64 X.wide, .int .i64 X.high, .slice p1 X.gs.length q1, .slice p2 X.os.length q2, .slice p3 X.gold.length q3, .slice p4 X.us.length q4, .slice p5 X.qs.length q5] := by
  obtain ⟨u1, u2, u3, u4, u5, rfl, ⟨p1, q1, rfl, -⟩, ⟨p2, q2, rfl, -⟩, ⟨p3, q3, rfl, -⟩, ⟨p4, q4, rfl, -⟩, ⟨p5, q5, rfl, -⟩⟩ := h
  exact ⟨_, _, _, _, _, _, _, _, _, _, rfl⟩
/-- both answers, whichever they are. -/
theorem says (l : List UInt8) : ∃ (X : WV) (n : Nat) (ok : Bool), (∀ w e w', RdSays l w e w' → ∃ u, e = .returned (.tuple #[u, .int .i64 (n : Nat), .bool ok]) ∧ Wl w' u X) ∧ (∀ w e w', DecSays l w e w' → ∃ u r, e = .returned (.tuple #[u, .int .i64 (n : Nat), r]) ∧ Wl w' u X ∧ Er r (if ok = true then 0 else 9)) := by
  cases h : Wd.pworld l 0 with
  | none =>
    refine ⟨WV.zero, 0, false, fun w e w' hh => ?_, fun w e w' hh => ?_⟩
    · unfold RdSays at hh
      rw [h] at hh
      exact ⟨_, hh, zero_wl _⟩
    · unfold DecSays at hh
      rw [h] at hh
      exact ⟨_, _, hh, zero_wl _, Er.no (by decide)⟩
  | some p =>
    obtain ⟨X, n⟩ := p
    refine ⟨X, n, true, fun w e w' hh => ?_, fun w e w' hh => ?_⟩
    · unfold RdSays at hh
      rw [h] at hh
      exact hh
    · unfold DecSays at hh
      rw [h] at hh
      obtain ⟨u, h1, h2⟩ := hh
      exact ⟨u, _, h1, h2.l, Er.nil⟩
set_option maxRecDepth 100000 in
set_option maxHeartbeats 8000000 in
theorem walk (v0 : Value) (l : List UInt8) (w : World) (h0 : By w v0 l) (hg : Et w) :
    Calls Tryd.prog 7 #[v0] w fun e w' => e = .returned (.bool true) ∧ Below w.heap.size w w' := by
  have H0 : Hid (By w v0 l) := h0
  have HG : Hid (Et w) := hg
  obtain ⟨ad, cap, rfl, c1, c2, -⟩ := h0
  clear hg c1 c2
  go_enter Tryd.func7, Tryd.ntmps7
  go_wp2_with fail
  refine (rdecode_any _ l w H0.out).mono ?_
  rintro e w1 ⟨hs, hb1⟩
  have B1 : Hid (Below w.heap.size w w1) := hb1
  obtain ⟨X, n, ok, hr, hd⟩ := says l
  obtain ⟨u, rfl, hw⟩ := hr _ _ _ hs
  have DS : Hid (∀ w e w', DecSays l w e w' → ∃ u r, e = .returned (.tuple #[u, .int .i64 (n : Nat), r]) ∧ Wl w' u X ∧ Er r (if ok = true then 0 else 9)) := hd
  have WX : Hid (Wl w1 u X) := hw
  obtain ⟨p1, q1, p2, q2, p3, q3, p4, q4, p5, q5, rfl⟩ := Wl.shape hw
  clear hw hb1 hs hr hd
  cases ok
  all_goals
    go_upto_region 5 with fail
    have X2 : Hid (Bw (w1.alloc (Obj.cells #[.int .i64 X.turn, .int .i64 X.next, .int .i64 X.wide, .int .i64 X.high, .slice p1 X.gs.length q1, .slice p2 X.os.length q2, .slice p3 X.gold.length q3, .slice p4 X.us.length q4, .slice p5 X.qs.length q5] 49)) w1.heap.size X (.slice p1 X.gs.length q1) (.slice p2 X.os.length q2) (.slice p3 X.gold.length q3) (.slice p4 X.us.length q4) (.slice p5 X.qs.length q5)) := Bw.mk' X _ _ _ _ _ rfl
    have BA : Hid (Below w1.heap.size w1 (w1.alloc (Obj.cells #[.int .i64 X.turn, .int .i64 X.next, .int .i64 X.wide, .int .i64 X.high, .slice p1 X.gs.length q1, .slice p2 X.os.length q2, .slice p3 X.gold.length q3, .slice p4 X.us.length q4, .slice p5 X.qs.length q5] 49))) := (Below.refl _ _).alloc (Nat.le_refl _) _
    generalize (w1.alloc (Obj.cells #[.int .i64 X.turn, .int .i64 X.next, .int .i64 X.wide, .int .i64 X.high, .slice p1 X.gs.length q1, .slice p2 X.os.length q2, .slice p3 X.gold.length q3, .slice p4 X.us.length q4, .slice p5 X.qs.length q5] 49)) = w2 at *
    have B2 : Hid (Below w.heap.size w w2) := B1.out.trans (BA.out.mono B1.out.size)
    have W2 : Hid (Wl w2 (.agg #[.int .i64 X.turn, .int .i64 X.next, .int .i64 X.wide, .int .i64 X.high, .slice p1 X.gs.length q1, .slice p2 X.os.length q2, .slice p3 X.gold.length q3, .slice p4 X.us.length q4, .slice p5 X.qs.length q5]) X) := WX.out.below BA.out
    clear WX BA B1
    go_wp2_with fail
    refine (decode_any _ l w2 (H0.out.below B2.out)).mono ?_
    rintro e w3 ⟨hs, hb3⟩
    obtain ⟨y, r, rfl, hw, her⟩ := DS.out _ _ _ hs
    have WY : Hid (Wl w3 y X) := hw
    have ER : Hid (Er r _) := her
    simp only [if_true, Bool.false_eq_true, if_false] at ER
    obtain ⟨a1, e1, a2, e2, a3, e3, a4, e4, a5, e5, rfl⟩ := Wl.shape hw
    clear hs her
    have B3 : Hid (Below w.heap.size w w3) := B2.out.trans (hb3.mono B2.out.size)
    have X3 : Hid (Bw w3 w1.heap.size X (.slice p1 X.gs.length q1) (.slice p2 X.os.length q2) (.slice p3 X.gold.length q3) (.slice p4 X.us.length q4) (.slice p5 X.qs.length q5)) := X2.out.below hb3 X2.out.lt
    have W3 : Hid (Wl w3 (.agg #[.int .i64 X.turn, .int .i64 X.next, .int .i64 X.wide, .int .i64 X.high, .slice p1 X.gs.length q1, .slice p2 X.os.length q2, .slice p3 X.gold.length q3, .slice p4 X.us.length q4, .slice p5 X.qs.length q5]) X) := W2.out.below hb3
    clear hw hb3 X2 W2
    go_upto_region 6 with fail
    have Y4 : Hid (Bw (w3.alloc (Obj.cells #[.int .i64 X.turn, .int .i64 X.next, .int .i64 X.wide, .int .i64 X.high, .slice a1 X.gs.length e1, .slice a2 X.os.length e2, .slice a3 X.gold.length e3, .slice a4 X.us.length e4, .slice a5 X.qs.length e5] 49)) w3.heap.size X (.slice a1 X.gs.length e1) (.slice a2 X.os.length e2) (.slice a3 X.gold.length e3) (.slice a4 X.us.length e4) (.slice a5 X.qs.length e5)) := Bw.mk' X _ _ _ _ _ rfl
    have BA : Hid (Below w3.heap.size w3 (w3.alloc (Obj.cells #[.int .i64 X.turn, .int .i64 X.next, .int .i64 X.wide, .int .i64 X.high, .slice a1 X.gs.length e1, .slice a2 X.os.length e2, .slice a3 X.gold.length e3, .slice a4 X.us.length e4, .slice a5 X.qs.length e5] 49))) := (Below.refl _ _).alloc (Nat.le_refl _) _
    generalize (w3.alloc (Obj.cells #[.int .i64 X.turn, .int .i64 X.next, .int .i64 X.wide, .int .i64 X.high, .slice a1 X.gs.length e1, .slice a2 X.os.length e2, .slice a3 X.gold.length e3, .slice a4 X.us.length e4, .slice a5 X.qs.length e5] 49)) = w4 at *
    have B4 : Hid (Below w.heap.size w w4) := B3.out.trans (BA.out.mono B3.out.size)
    have X4 : Hid (Bw w4 w1.heap.size X (.slice p1 X.gs.length q1) (.slice p2 X.os.length q2) (.slice p3 X.gold.length q3) (.slice p4 X.us.length q4) (.slice p5 X.qs.length q5)) := X3.out.below BA.out X3.out.lt
    have W4 : Hid (Wl w4 (.agg #[.int .i64 X.turn, .int .i64 X.next, .int .i64 X.wide, .int .i64 X.high, .slice p1 X.gs.length q1, .slice p2 X.os.length q2, .slice p3 X.gold.length q3, .slice p4 X.us.length q4, .slice p5 X.qs.length q5]) X ∧ Wl w4 (.agg #[.int .i64 X.turn, .int .i64 X.next, .int .i64 X.wide, .int .i64 X.high, .slice a1 X.gs.length e1, .slice a2 X.os.length e2, .slice a3 X.gold.length e3, .slice a4 X.us.length e4, .slice a5 X.qs.length e5]) X) := ⟨W3.out.below BA.out, WY.out.below BA.out⟩
    clear BA X3 W3 WY
    go_wp2_with fail
    refine (er_same _ _ w4 ER.out (HG.out.below B4.out)).mono ?_
    rintro e w5 ⟨rfl, hb5⟩
    have B5 : Hid (Below w.heap.size w w5) := B4.out.trans (hb5.mono B4.out.size)
    have X5 : Hid (Bw w5 w1.heap.size X (.slice p1 X.gs.length q1) (.slice p2 X.os.length q2) (.slice p3 X.gold.length q3) (.slice p4 X.us.length q4) (.slice p5 X.qs.length q5)) := X4.out.below hb5 X4.out.lt
    have Y5 : Hid (Bw w5 w3.heap.size X (.slice a1 X.gs.length e1) (.slice a2 X.os.length e2) (.slice a3 X.gold.length e3) (.slice a4 X.us.length e4) (.slice a5 X.qs.length e5)) := Y4.out.below hb5 Y4.out.lt
    have W5 : Hid (Wl w5 (.agg #[.int .i64 X.turn, .int .i64 X.next, .int .i64 X.wide, .int .i64 X.high, .slice a1 X.gs.length e1, .slice a2 X.os.length e2, .slice a3 X.gold.length e3, .slice a4 X.us.length e4, .slice a5 X.qs.length e5]) X ∧ Wl w5 (.agg #[.int .i64 X.turn, .int .i64 X.next, .int .i64 X.wide, .int .i64 X.high, .slice p1 X.gs.length q1, .slice p2 X.os.length q2, .slice p3 X.gold.length q3, .slice p4 X.us.length q4, .slice p5 X.qs.length q5]) X) := ⟨W4.out.2.below hb5, W4.out.1.below hb5⟩
    clear hb5 X4 Y4 W4
    obtain ⟨x0, x1, x2, x3, x4, x5, x6, x7, x8⟩ := X5.out
    obtain ⟨y0, y1, y2, y3, y4, y5, y6, y7, y8⟩ := Y5.out
    go_wp2_with fail
    refine (worlds_like _ _ X w5 W5.out.1 W5.out.2).mono ?_
    rintro e w6 ⟨rfl, hb6⟩
    have B6 : Hid (Below w.heap.size w w6) := B5.out.trans (hb6.mono B5.out.size)
    clear hb6 x0 x1 x2 x3 x4 x5 x6 x7 x8 y0 y1 y2 y3 y4 y5 y6 y7 y8
    go_wp2
    go_ret
    exact ⟨rfl, B6.out⟩
end Go.Proofs.YtefepjiajgoomaaDoor.worldDecodes
