/- turn.Give. · What is wanted of orders and of turns, and what the program tells of them: plain mathematics. · What plain.Told and marchsame.Error answer of nil, and of an Errno: errors.As is walked at the target *api.Errno. · An error that is told is the reference's. · Lists of integers: what marchsame.Ints answers. -/
import Derived.Test.YteieikgkmfglaaaGreatDoorZTurnPlays30
import Derived.Test.YteieikgkmfglaaaGreatDoorZTurnPlays4
import Derived.Test.YteieikgkmfglaaaGreatDoorZTurnPlays33
import Derived.Test.YteieikgkmfglaaaGreatDoorRows
import Derived.WalkKit
import Derived.WalkSpells
import Derived.WalkLawsBesides
import Derived.LaidEql
import Derived.Stop.Asserts
import Derived.RowKitTokens
import Derived.Test.YteieikgkmfglaaaGreatDoorZTurnPlays2
import Derived.Test.YteieikgkmfglaaaGreatDoorZTurnPlays1
namespace Go.Proofs.YteieikgkmfglaaaGreatDoor
open Go.RowKit Go.Proofs.YteieikgkmfglaaaGreatDoor.So
set_option linter.unusedVariables false

def gfault (ks : List KV) (X : WV) (l : List OrV) : Int := if Wd.wfault ks X = 0 then Od.faults l else Wd.wfault ks X
/-- what Give tells. -/
def GivenSays (ks : List KV) (X : WV) (l : List OrV) (w w' : World) (v ur : Value) : Prop :=
  (gfault ks X l ≠ 0 ∧ v = .agg #[.int .i64 0, .int .i64 0, .int .i64 0, .int .i64 0, .slice none 0 0, .slice none 0 0, .slice none 0 0, .slice none 0 0, .slice none 0 0] ∧ ur = .slice none 0 0)
  ∨ (gfault ks X l = 0 ∧ Wd.wfault ks X = 0 ∧ Od.faults l = 0 ∧ ∃ out, LastSays l out ∧ Wo w' w.heap.size v (gv ks X out out.length).1 ∧ Ow w' w.heap.size ur (gv ks X out out.length).2)
set_option maxRecDepth 100000 in
set_option maxHeartbeats 16000000 in
theorem Give_any (vk vw vl : Value) (ks : List KV) (X : WV) (l : List OrV) (w : World) (hk : Kl w vk ks) (hb : ∀ k ∈ ks, k.b.size ≤ 9223372036854775807) (hw : Wl w vw X) (hl : Orl w vl l) :
    Calls Tryz.prog 19 #[vk, vw, vl] w fun e w' => ∃ v ur r, e = .returned (.tuple #[v, ur, r]) ∧ Er r (gfault ks X l) ∧ GivenSays ks X l w w' v ur ∧ Below w.heap.size w w' := by
  have L : Hid (Orl w vl l) := hl
  obtain ⟨pl, ql, rfl, cl1, cl2, lc⟩ := hl
  have K : Hid (Kl w vk ks ∧ ∀ k ∈ ks, k.b.size ≤ 9223372036854775807) := ⟨hk, hb⟩
  have H : Hid (Wl w vw X) := hw
  obtain ⟨p1, q1, p2, q2, p3, q3, p4, q4, p5, q5, rfl⟩ := wl_shape9 hw
  obtain ⟨pk, qk, rfl, ck1, ck2, kc⟩ := hk
  clear hb hw kc lc
  go_enter Tryz.func19, Tryz.ntmps19
  go_upto_region 1 with fail
  have B0 : Hid (Below w.heap.size w ((w.alloc (Obj.cells #[.int .i64 X.turn, .int .i64 X.next, .int .i64 X.wide, .int .i64 X.high, .slice p1 X.gs.length q1, .slice p2 X.os.length q2, .slice p3 X.gold.length q3, .slice p4 X.us.length q4, .slice p5 X.qs.length q5] 29)).alloc (Obj.cells #[.int .i64 0, .int .i64 0, .int .i64 0, .int .i64 0, .slice none 0 0, .slice none 0 0, .slice none 0 0, .slice none 0 0, .slice none 0 0] 29))) := ((Below.refl _ _).alloc (Nat.le_refl _) _).alloc (by simp) _
  have X0 : Hid (Wx ((w.alloc (Obj.cells #[.int .i64 X.turn, .int .i64 X.next, .int .i64 X.wide, .int .i64 X.high, .slice p1 X.gs.length q1, .slice p2 X.os.length q2, .slice p3 X.gold.length q3, .slice p4 X.us.length q4, .slice p5 X.qs.length q5] 29)).alloc (Obj.cells #[.int .i64 0, .int .i64 0, .int .i64 0, .int .i64 0, .slice none 0 0, .slice none 0 0, .slice none 0 0, .slice none 0 0, .slice none 0 0] 29)) (w.heap.size) (.int .i64 X.turn) (.int .i64 X.next) (.int .i64 X.wide) (.int .i64 X.high) (.slice p1 X.gs.length q1) (.slice p2 X.os.length q2) (.slice p3 X.gold.length q3) (.slice p4 X.us.length q4) (.slice p5 X.qs.length q5)) := (Wx.new (.int .i64 X.turn) (.int .i64 X.next) (.int .i64 X.wide) (.int .i64 X.high) (.slice p1 X.gs.length q1) (.slice p2 X.os.length q2) (.slice p3 X.gold.length q3) (.slice p4 X.us.length q4) (.slice p5 X.qs.length q5) rfl).below ((Below.refl _ _).alloc (Nat.le_refl _) _) (by simp)
  have Z0 : Hid (Wx ((w.alloc (Obj.cells #[.int .i64 X.turn, .int .i64 X.next, .int .i64 X.wide, .int .i64 X.high, .slice p1 X.gs.length q1, .slice p2 X.os.length q2, .slice p3 X.gold.length q3, .slice p4 X.us.length q4, .slice p5 X.qs.length q5] 29)).alloc (Obj.cells #[.int .i64 0, .int .i64 0, .int .i64 0, .int .i64 0, .slice none 0 0, .slice none 0 0, .slice none 0 0, .slice none 0 0, .slice none 0 0] 29)) (w.heap.size + 1) (.int .i64 0) (.int .i64 0) (.int .i64 0) (.int .i64 0) (.slice none 0 0) (.slice none 0 0) (.slice none 0 0) (.slice none 0 0) (.slice none 0 0)) := Wx.new (.int .i64 0) (.int .i64 0) (.int .i64 0) (.int .i64 0) (.slice none 0 0) (.slice none 0 0) (.slice none 0 0) (.slice none 0 0) (.slice none 0 0) (by simp)
  generalize ((w.alloc (Obj.cells #[.int .i64 X.turn, .int .i64 X.next, .int .i64 X.wide, .int .i64 X.high, .slice p1 X.gs.length q1, .slice p2 X.os.length q2, .slice p3 X.gold.length q3, .slice p4 X.us.length q4, .slice p5 X.qs.length q5] 29)).alloc (Obj.cells #[.int .i64 0, .int .i64 0, .int .i64 0, .int .i64 0, .slice none 0 0, .slice none 0 0, .slice none 0 0, .slice none 0 0, .slice none 0 0] 29)) = w0 at *
  obtain ⟨x0, x1, x2, x3, x4, x5, x6, x7, x8⟩ := X0.out.cells
  go_wp2_with fail
  refine (wcheck_any _ _ ks X w0 (K.out.1.below B0.out) K.out.2 (H.out.below B0.out)).mono ?_
  rintro e w1 ⟨r, rfl, hr, hb⟩
  obtain ⟨fw, hfw⟩ : ∃ f, Wd.wfault ks X = f := ⟨_, rfl⟩
  have FW : Hid (Wd.wfault ks X = fw) := hfw
  rw [hfw] at hr
  have B1 : Hid (Below w.heap.size w w1) := B0.out.trans (hb.mono B0.out.size)
  have X1 : Hid (Wx w1 (w.heap.size) (.int .i64 X.turn) (.int .i64 X.next) (.int .i64 X.wide) (.int .i64 X.high) (.slice p1 X.gs.length q1) (.slice p2 X.os.length q2) (.slice p3 X.gold.length q3) (.slice p4 X.us.length q4) (.slice p5 X.qs.length q5)) := X0.out.below hb X0.out.lt
  have Z1 : Hid (Wx w1 (w.heap.size + 1) (.int .i64 0) (.int .i64 0) (.int .i64 0) (.int .i64 0) (.slice none 0 0) (.slice none 0 0) (.slice none 0 0) (.slice none 0 0) (.slice none 0 0)) := Z0.out.below hb Z0.out.lt
  clear hb hfw x0 x1 x2 x3 x4 x5 x6 x7 x8 X0 B0 Z0
  rcases hr with ⟨rfl, rfl⟩ | ⟨hf, rfl⟩
  case inr =>
    have HF : Hid (fw ≠ 0) := hf
    clear hf
    obtain ⟨z0, z1, z2, z3, z4, z5, z6, z7, z8⟩ := Z1.out.cells
    obtain ⟨t0, t1, t2, t3, t4, t5, t6, t7, t8⟩ := Z1.out.thaws
    have KZ : Hid (Kp (w.heap.size + 1) w1 (((((((((w1.setCell ⟨w.heap.size + 1, 0, none⟩ (.int .i64 0)).setCell ⟨w.heap.size + 1, 1, none⟩ (.int .i64 0)).setCell ⟨w.heap.size + 1, 2, none⟩ (.int .i64 0)).setCell ⟨w.heap.size + 1, 3, none⟩ (.int .i64 0)).setCell ⟨w.heap.size + 1, 4, none⟩ (.slice none 0 0)).setCell ⟨w.heap.size + 1, 5, none⟩ (.slice none 0 0)).setCell ⟨w.heap.size + 1, 6, none⟩ (.slice none 0 0)).setCell ⟨w.heap.size + 1, 7, none⟩ (.slice none 0 0)).setCell ⟨w.heap.size + 1, 8, none⟩ (.slice none 0 0))) := put_kp _ _ _ _ _ _ _ _ _ _ _
    obtain ⟨y0, y1, y2, y3, y4, y5, y6, y7, y8⟩ := (Z1.out.put (.int .i64 0) (.int .i64 0) (.int .i64 0) (.int .i64 0) (.slice none 0 0) (.slice none 0 0) (.slice none 0 0) (.slice none 0 0) (.slice none 0 0)).cells
    go_wp2
    clear z0 z1 z2 z3 z4 z5 z6 z7 z8 t0 t1 t2 t3 t4 t5 t6 t7 t8
    generalize (((((((((w1.setCell ⟨w.heap.size + 1, 0, none⟩ (.int .i64 0)).setCell ⟨w.heap.size + 1, 1, none⟩ (.int .i64 0)).setCell ⟨w.heap.size + 1, 2, none⟩ (.int .i64 0)).setCell ⟨w.heap.size + 1, 3, none⟩ (.int .i64 0)).setCell ⟨w.heap.size + 1, 4, none⟩ (.slice none 0 0)).setCell ⟨w.heap.size + 1, 5, none⟩ (.slice none 0 0)).setCell ⟨w.heap.size + 1, 6, none⟩ (.slice none 0 0)).setCell ⟨w.heap.size + 1, 7, none⟩ (.slice none 0 0)).setCell ⟨w.heap.size + 1, 8, none⟩ (.slice none 0 0)) = w9 at *
    refine bodyPost_ret (v := .tuple #[.agg #[.int .i64 0, .int .i64 0, .int .i64 0, .int .i64 0, .slice none 0 0, .slice none 0 0, .slice none 0 0, .slice none 0 0, .slice none 0 0], .slice none 0 0, .iface 77 (.int .i64 fw)]) (by simp [results, Tryz.results19, go_sem, y0, y1, y2, y3, y4, y5, y6, y7, y8]) rfl ⟨_, _, _, rfl, by unfold gfault; rw [FW.out, if_neg HF.out]; exact Er.no HF.out, .inl ⟨by unfold gfault; rw [FW.out, if_neg HF.out]; exact HF.out, rfl, rfl⟩, KZ.out.below B1.out B1.out.size (by omega)⟩
  have WR : Hid (WRight ks X) := wright_of FW.out
  have GF : Hid (gfault ks X l = Od.faults l) := by unfold Hid gfault; rw [if_pos FW.out]
  obtain ⟨x0, x1, x2, x3, x4, x5, x6, x7, x8⟩ := X1.out.cells
  go_wp2_with fail
  refine (give_any _ _ _ ks X l w1 (K.out.1.below B1.out) (H.out.below B1.out) (L.out.below B1.out) WR.out).mono ?_
  rintro e w2 ⟨v, ur, r, rfl, hr, hs, hb⟩
  have Z2 : Hid (Wx w2 (w.heap.size + 1) (.int .i64 0) (.int .i64 0) (.int .i64 0) (.int .i64 0) (.slice none 0 0) (.slice none 0 0) (.slice none 0 0) (.slice none 0 0) (.slice none 0 0)) := Z1.out.below hb Z1.out.lt
  have B2 : Hid (Below w.heap.size w w2) := B1.out.trans (hb.mono B1.out.size)
  have ER : Hid (Er r (Od.faults l)) := hr
  have S1 : Hid (w.heap.size + 1 < w1.heap.size) := Z1.out.lt
  clear hb hr x0 x1 x2 x3 x4 x5 x6 x7 x8 X1 Z1
  rcases hs with ⟨hf, rfl, rfl⟩ | ⟨hf, out, hls, hwo, how⟩
  case inl =>
    have HF : Hid (Od.faults l ≠ 0) := hf
    clear hf
    obtain ⟨z0, z1, z2, z3, z4, z5, z6, z7, z8⟩ := Z2.out.cells
    obtain ⟨t0, t1, t2, t3, t4, t5, t6, t7, t8⟩ := Z2.out.thaws
    have KZ : Hid (Kp (w.heap.size + 1) w2 (((((((((w2.setCell ⟨w.heap.size + 1, 0, none⟩ (.int .i64 0)).setCell ⟨w.heap.size + 1, 1, none⟩ (.int .i64 0)).setCell ⟨w.heap.size + 1, 2, none⟩ (.int .i64 0)).setCell ⟨w.heap.size + 1, 3, none⟩ (.int .i64 0)).setCell ⟨w.heap.size + 1, 4, none⟩ (.slice none 0 0)).setCell ⟨w.heap.size + 1, 5, none⟩ (.slice none 0 0)).setCell ⟨w.heap.size + 1, 6, none⟩ (.slice none 0 0)).setCell ⟨w.heap.size + 1, 7, none⟩ (.slice none 0 0)).setCell ⟨w.heap.size + 1, 8, none⟩ (.slice none 0 0))) := put_kp _ _ _ _ _ _ _ _ _ _ _
    obtain ⟨y0, y1, y2, y3, y4, y5, y6, y7, y8⟩ := (Z2.out.put (.int .i64 0) (.int .i64 0) (.int .i64 0) (.int .i64 0) (.slice none 0 0) (.slice none 0 0) (.slice none 0 0) (.slice none 0 0) (.slice none 0 0)).cells
    go_wp2
    clear z0 z1 z2 z3 z4 z5 z6 z7 z8 t0 t1 t2 t3 t4 t5 t6 t7 t8
    generalize ((((((((w2.setCell ⟨w.heap.size + 1, 0, none⟩ (.int .i64 0)).setCell ⟨w.heap.size + 1, 1, none⟩ (.int .i64 0)).setCell ⟨w.heap.size + 1, 2, none⟩ (.int .i64 0)).setCell ⟨w.heap.size + 1, 3, none⟩ (.int .i64 0)).setCell ⟨w.heap.size + 1, 4, none⟩ (.slice none 0 0)).setCell ⟨w.heap.size + 1, 5, none⟩ (.slice none 0 0)).setCell ⟨w.heap.size + 1, 6, none⟩ (.slice none 0 0)).setCell ⟨w.heap.size + 1, 7, none⟩ (.slice none 0 0)).setCell ⟨w.heap.size + 1, 8, none⟩ (.slice none 0 0) = w9 at *
    refine bodyPost_ret (v := .tuple #[.agg #[.int .i64 0, .int .i64 0, .int .i64 0, .int .i64 0, .slice none 0 0, .slice none 0 0, .slice none 0 0, .slice none 0 0, .slice none 0 0], .slice none 0 0, r]) (by simp [results, Tryz.results19, go_sem, y0, y1, y2, y3, y4, y5, y6, y7, y8]) rfl ⟨_, _, _, rfl, by rw [GF.out]; exact ER.out, .inl ⟨by rw [GF.out]; exact HF.out, rfl, rfl⟩, KZ.out.below B2.out B2.out.size (by omega)⟩
  case inr =>
    have HF : Hid (Od.faults l = 0) := hf
    have LS : Hid (LastSays l out) := hls
    obtain ⟨Y, hY⟩ : ∃ Y, (gv ks X out out.length).1 = Y := ⟨_, rfl⟩
    obtain ⟨ref, hR⟩ : ∃ r, (gv ks X out out.length).2 = r := ⟨_, rfl⟩
    have HY : Hid ((gv ks X out out.length).1 = Y ∧ (gv ks X out out.length).2 = ref) := ⟨hY, hR⟩
    rw [hY] at hwo
    rw [hR] at how
    have WO : Hid (Wo w2 w1.heap.size v Y) := hwo
    have OW : Hid (Ow w2 w1.heap.size ur ref) := how
    obtain ⟨k1, k2, k3, k4, k5, rfl, o1, o2, o3, o4, o5⟩ := hwo
    obtain ⟨a1, h1, rfl⟩ := o1.len
    obtain ⟨a2, h2, rfl⟩ := o2.len
    obtain ⟨a3, h3, rfl⟩ := o3.len
    obtain ⟨a4, h4, rfl⟩ := o4.len
    obtain ⟨a5, h5, rfl⟩ := o5.len
    obtain ⟨ra, rc, rfl⟩ := how.len
    clear hf hls hY hR how o1 o2 o3 o4 o5
    obtain ⟨z0, z1, z2, z3, z4, z5, z6, z7, z8⟩ := Z2.out.cells
    obtain ⟨t0, t1, t2, t3, t4, t5, t6, t7, t8⟩ := Z2.out.thaws
    have KZ : Hid (Kp (w.heap.size + 1) w2 (((((((((w2.setCell ⟨w.heap.size + 1, 0, none⟩ (.int .i64 Y.turn)).setCell ⟨w.heap.size + 1, 1, none⟩ (.int .i64 Y.next)).setCell ⟨w.heap.size + 1, 2, none⟩ (.int .i64 Y.wide)).setCell ⟨w.heap.size + 1, 3, none⟩ (.int .i64 Y.high)).setCell ⟨w.heap.size + 1, 4, none⟩ (.slice a1 Y.gs.length h1)).setCell ⟨w.heap.size + 1, 5, none⟩ (.slice a2 Y.os.length h2)).setCell ⟨w.heap.size + 1, 6, none⟩ (.slice a3 Y.gold.length h3)).setCell ⟨w.heap.size + 1, 7, none⟩ (.slice a4 Y.us.length h4)).setCell ⟨w.heap.size + 1, 8, none⟩ (.slice a5 Y.qs.length h5))) := put_kp _ _ _ _ _ _ _ _ _ _ _
    obtain ⟨y0, y1, y2, y3, y4, y5, y6, y7, y8⟩ := (Z2.out.put (.int .i64 Y.turn) (.int .i64 Y.next) (.int .i64 Y.wide) (.int .i64 Y.high) (.slice a1 Y.gs.length h1) (.slice a2 Y.os.length h2) (.slice a3 Y.gold.length h3) (.slice a4 Y.us.length h4) (.slice a5 Y.qs.length h5)).cells
    go_wp2
    clear z0 z1 z2 z3 z4 z5 z6 z7 z8 t0 t1 t2 t3 t4 t5 t6 t7 t8
    generalize ((((((((w2.setCell ⟨w.heap.size + 1, 0, none⟩ (.int .i64 Y.turn)).setCell ⟨w.heap.size + 1, 1, none⟩ (.int .i64 Y.next)).setCell ⟨w.heap.size + 1, 2, none⟩ (.int .i64 Y.wide)).setCell ⟨w.heap.size + 1, 3, none⟩ (.int .i64 Y.high)).setCell ⟨w.heap.size + 1, 4, none⟩ (.slice a1 Y.gs.length h1)).setCell ⟨w.heap.size + 1, 5, none⟩ (.slice a2 Y.os.length h2)).setCell ⟨w.heap.size + 1, 6, none⟩ (.slice a3 Y.gold.length h3)).setCell ⟨w.heap.size + 1, 7, none⟩ (.slice a4 Y.us.length h4)).setCell ⟨w.heap.size + 1, 8, none⟩ (.slice a5 Y.qs.length h5) = w9 at *
    refine bodyPost_ret (v := .tuple #[.agg #[.int .i64 Y.turn, .int .i64 Y.next, .int .i64 Y.wide, .int .i64 Y.high, .slice a1 Y.gs.length h1, .slice a2 Y.os.length h2, .slice a3 Y.gold.length h3, .slice a4 Y.us.length h4, .slice a5 Y.qs.length h5], .slice ra ref.length rc, r]) (by simp [results, Tryz.results19, go_sem, y0, y1, y2, y3, y4, y5, y6, y7, y8]) rfl ⟨_, _, _, rfl, by rw [GF.out]; exact ER.out, .inr ⟨by rw [GF.out]; exact HF.out, FW.out, HF.out, out, LS.out, by rw [HY.out.1]; exact (WO.out.kp KZ.out S1.out).mono B1.out.size, by rw [HY.out.2]; exact (OW.out.kp KZ.out S1.out).mono B1.out.size⟩, KZ.out.below B2.out B2.out.size (by omega)⟩
end Go.Proofs.YteieikgkmfglaaaGreatDoor

namespace Go.Proofs.YteieikgkmfglaaaGreatDoor
open Go.RowKit Go.Proofs.YteieikgkmfglaaaGreatDoor.So
set_option linter.unusedVariables false

/-- what is wanted of orders that are given. -/
def WantG (ks : List KV) (X : WV) (l : List OrV) (D : WV) (rf : List Int) : Prop :=
  (gfault ks X l ≠ 0 → D = WV.zero ∧ rf = []) ∧ (gfault ks X l = 0 → ∃ out, LastSays l out ∧ D = (gv ks X out out.length).1 ∧ rf = (gv ks X out out.length).2)
theorem give_is {ks : List KV} {X D : WV} {l : List OrV} {rf : List Int} {w w' : World} {v ur : Value} (h : WantG ks X l D rf) (hy : GivenSays ks X l w w' v ur) : Wl w' v D ∧ Ro w' ur rf := by
  rcases hy with ⟨h1, rfl, rfl⟩ | ⟨h1, -, -, out, h2, h3, h4⟩
  · obtain ⟨rfl, rfl⟩ := h.1 h1
    exact ⟨(zero_wo w' 0).l, (Ow.nil w' 0).ro⟩
  · obtain ⟨out', g1, rfl, rfl⟩ := h.2 h1
    obtain rfl := h2.one g1
    exact ⟨h3.l, h4.ro⟩
/-- what is wanted of a turn. -/
def WantS (ks : List KV) (X : WV) (l : List OrV) (Y : WV) (es : List EvV) : Prop :=
  (stepFault ks X l ≠ 0 → Y = WV.zero ∧ es = []) ∧ (stepFault ks X l = 0 → StepR ks X l Y es)
theorem step_want {ks : List KV} {X : WV} {l : List OrV} {w w' : World} {v ev : Value} (hy : StepSays ks X l w w' v ev) : ∃ Y es, WantS ks X l Y es ∧ Wl w' v Y ∧ Evl w' ev es := by
  rcases hy with ⟨h1, rfl, rfl⟩ | ⟨h1, Y, es, h2, h3, h4⟩
  · exact ⟨_, _, ⟨fun _ => ⟨rfl, rfl⟩, fun h => absurd h h1⟩, (zero_wo w' 0).l, (Evo.nil w' 0).l⟩
  · exact ⟨Y, es, ⟨fun h => absurd h1 h, fun _ => h2⟩, h3.l, h4.l⟩
theorem step_is {ks : List KV} {X Y : WV} {l : List OrV} {es : List EvV} {w w' : World} {v ev : Value} (h : WantS ks X l Y es) (hy : StepSays ks X l w w' v ev) : Wl w' v Y ∧ Evl w' ev es := by
  rcases hy with ⟨h1, rfl, rfl⟩ | ⟨h1, Y', es', h2, h3, h4⟩
  · obtain ⟨rfl, rfl⟩ := h.1 h1
    exact ⟨(zero_wo w' 0).l, (Evo.nil w' 0).l⟩
  · obtain ⟨rfl, rfl⟩ := step_uniq h2 (h.2 h1)
    exact ⟨h3.l, h4.l⟩
/-- what is wanted of turns, one behind the other: what is wrong, and the world. -/
def PlayW (ks : List KV) (X : WV) (ls : List (List OrV)) (F : Int) (D : WV) : Prop :=
  (F ≠ 0 ∧ D = WV.zero ∧ ((Wd.wfault ks X ≠ 0 ∧ F = Wd.wfault ks X) ∨ (Wd.wfault ks X = 0 ∧ 200 < ls.length ∧ F = 4) ∨ (Wd.wfault ks X = 0 ∧ ls.length ≤ 200 ∧ ∃ n Y l, PlayR ks X ls n Y ∧ ls[n]? = some l ∧ stepFault ks Y l = F)))
  ∨ (F = 0 ∧ Wd.wfault ks X = 0 ∧ ls.length ≤ 200 ∧ PlayR ks X ls ls.length D)
/-- the first turn that is wrong is one. -/
theorem play_first {ks : List KV} {X : WV} {ls : List (List OrV)} {n m : Nat} {Y Z : WV} {l : List OrV} (h : PlayR ks X ls n Y) (k : PlayR ks X ls m Z) (hl : ls[n]? = some l) (hf : stepFault ks Y l ≠ 0) : m ≤ n := by
  by_cases hm : m ≤ n
  · exact hm
  · obtain ⟨W, w1, w2⟩ := play_back k n (by omega)
    obtain rfl := play_uniq w1 h
    obtain ⟨l', e, f⟩ := w2 (by omega)
    rw [hl] at e
    injection e with e
    subst e
    exact absurd f hf
theorem play_is {ks : List KV} {X D : WV} {ls : List (List OrV)} {F F' : Int} {w w' : World} {v : Value} (h : PlayW ks X ls F D) (hy : PlaySays ks X ls F' w w' v) : F' = F ∧ Wl w' v D := by
  have zw : Wl w' (.agg #[.int .i64 0, .int .i64 0, .int .i64 0, .int .i64 0, .slice none 0 0, .slice none 0 0, .slice none 0 0, .slice none 0 0, .slice none 0 0]) WV.zero := (zero_wo w' 0).l
  rcases hy with ⟨a1, rfl, a2⟩ | ⟨rfl, a1, a2, Y, a3, a4⟩
  · rcases h with ⟨b1, rfl, b2⟩ | ⟨rfl, b1, b2, b3⟩
    · refine ⟨?_, zw⟩
      rcases a2 with ⟨p1, rfl⟩ | ⟨p1, p2, rfl⟩ | ⟨p1, p2, n, Y, l, p3, p4, p5⟩
      · rcases b2 with ⟨q1, rfl⟩ | ⟨q1, q2, rfl⟩ | ⟨q1, q2, -⟩
        · rfl
        · exact absurd q1 p1
        · exact absurd q1 p1
      · rcases b2 with ⟨q1, rfl⟩ | ⟨q1, q2, rfl⟩ | ⟨q1, q2, -⟩
        · exact absurd p1 q1
        · rfl
        · omega
      · rcases b2 with ⟨q1, rfl⟩ | ⟨q1, q2, rfl⟩ | ⟨q1, q2, m, Z, k, q3, q4, q5⟩
        · exact absurd p1 q1
        · omega
        · have h1 := play_first p3 q3 p4 (by rw [p5]; exact a1)
          have h2 := play_first q3 p3 q4 (by rw [q5]; exact b1)
          obtain rfl : m = n := by omega
          obtain rfl := play_uniq p3 q3
          rw [p4] at q4
          injection q4 with e
          subst e
          exact p5.symm.trans q5
    · exfalso
      rcases a2 with ⟨p1, rfl⟩ | ⟨p1, p2, rfl⟩ | ⟨p1, p2, n, Y, l, p3, p4, p5⟩
      · exact p1 b1
      · omega
      · have h1 := play_first p3 b3 p4 (by rw [p5]; exact a1)
        have := (List.getElem?_eq_some_iff.1 p4).1
        omega
  · rcases h with ⟨b1, rfl, b2⟩ | ⟨rfl, b1, b2, b3⟩
    · exfalso
      rcases b2 with ⟨p1, rfl⟩ | ⟨p1, p2, rfl⟩ | ⟨p1, p2, n, Z, l, p3, p4, p5⟩
      · exact p1 a1
      · omega
      · have h1 := play_first p3 a3 p4 (by rw [p5]; exact b1)
        have := (List.getElem?_eq_some_iff.1 p4).1
        omega
    · obtain rfl := play_uniq a3 b3
      exact ⟨rfl, a4.l⟩
theorem step_own {ks : List KV} {X : WV} {l : List OrV} {w w' : World} {v ev : Value} (hy : StepSays ks X l w w' v ev) : ∃ Y es, WantS ks X l Y es ∧ Wo w' w.heap.size v Y ∧ Evl w' ev es := by
  rcases hy with ⟨h1, rfl, rfl⟩ | ⟨h1, Y, es, h2, h3, h4⟩
  · exact ⟨_, _, ⟨fun _ => ⟨rfl, rfl⟩, fun h => absurd h h1⟩, zero_wo w' _, (Evo.nil w' 0).l⟩
  · exact ⟨Y, es, ⟨fun h => absurd h1 h, fun _ => h2⟩, h3, h4.l⟩
/-- how far turns are: what is wrong so far, and the world. -/
def PlayL (ks : List KV) (X : WV) (ls : List (List OrV)) (n : Nat) (e : Int) (D : WV) : Prop :=
  (e = 0 ∧ Wd.wfault ks X = 0 ∧ ls.length ≤ 200 ∧ PlayR ks X ls n D)
  ∨ (e ≠ 0 ∧ ((Wd.wfault ks X ≠ 0 ∧ e = Wd.wfault ks X) ∨ (Wd.wfault ks X = 0 ∧ 200 < ls.length ∧ e = 4) ∨ (Wd.wfault ks X = 0 ∧ ls.length ≤ 200 ∧ ∃ n Y l, PlayR ks X ls n Y ∧ ls[n]? = some l ∧ stepFault ks Y l = e)))
theorem PlayL.zero {ks : List KV} {X D : WV} {ls : List (List OrV)} {n : Nat} (h : PlayL ks X ls n 0 D) : Wd.wfault ks X = 0 ∧ ls.length ≤ 200 ∧ PlayR ks X ls n D := by
  rcases h with ⟨-, h⟩ | ⟨h, -⟩
  · exact h
  · exact absurd rfl h
theorem PlayL.first {ks : List KV} {X : WV} {ls : List (List OrV)} {f g : Int} (hf : Wd.wfault ks X = f) (hg : (if f = 0 ∧ 200 < ls.length then (4 : Int) else f) = g) : PlayL ks X ls 0 g X := by
  subst hf
  by_cases h : Wd.wfault ks X = 0
  · by_cases h2 : 200 < ls.length
    · rw [if_pos ⟨h, h2⟩] at hg
      subst hg
      exact .inr ⟨by decide, .inr (.inl ⟨h, h2, rfl⟩)⟩
    · rw [if_neg (fun k => h2 k.2)] at hg
      subst hg
      exact .inl ⟨h, h, by omega, .zero⟩
  · rw [if_neg (fun k => h k.1)] at hg
    subst hg
    exact .inr ⟨h, .inl ⟨h, rfl⟩⟩
theorem PlayL.next {ks : List KV} {X D Q : WV} {ls : List (List OrV)} {n : Nat} {l : List OrV} {F : Int} {es : List EvV} (h : PlayL ks X ls n 0 D) (hl : ls[n]? = some l) (hf : stepFault ks D l = F) (hs : WantS ks D l Q es) : PlayL ks X ls (n + 1) F Q := by
  obtain ⟨h1, h2, h3⟩ := h.zero
  by_cases hF : F = 0
  · subst hF
    exact .inl ⟨rfl, h1, h2, .turn h3 hl hf (hs.2 hf)⟩
  · exact .inr ⟨hF, .inr (.inr ⟨h1, h2, n, D, l, h3, hl, hf⟩)⟩
theorem PlayL.good {ks : List KV} {X D : WV} {ls : List (List OrV)} {n : Nat} (h : PlayL ks X ls n 0 D) (hn : n = ls.length) : PlayW ks X ls 0 D := by
  obtain ⟨h1, h2, h3⟩ := h.zero
  subst hn
  exact .inr ⟨rfl, h1, h2, h3⟩
theorem PlayL.bad {ks : List KV} {X D : WV} {ls : List (List OrV)} {n : Nat} {e : Int} (h : PlayL ks X ls n e D) (he : e ≠ 0) : PlayW ks X ls e WV.zero := by
  rcases h with ⟨h, -⟩ | ⟨-, h⟩
  · exact absurd h he
  · exact .inl ⟨he, rfl, h⟩
end Go.Proofs.YteieikgkmfglaaaGreatDoor

namespace Go.Proofs.YteieikgkmfglaaaGreatDoor
open Go.RowKit Go.Extern.Stop Go.Stop Go.Extern

/-- the cell of errors.errorType. -/
def Et (w : World) : Prop := w.cell? ⟨0, 0, none⟩ = some (.iface 169 (.agg #[.pointer (some ⟨2, 35, none⟩)]))

theorem Et.lt {w : World} (h : Et w) : 0 < w.heap.size := by
  rcases Nat.lt_or_ge 0 w.heap.size with h1 | h1
  · exact h1
  · unfold Et at h
    simp [World.cell?, Array.getElem?_eq_none h1] at h
theorem Et.below {w w' : World} (h : Et w) (hb : Below w.heap.size w w') : Et w' := by
  unfold Et
  rw [hb.cell (p := ⟨0, 0, none⟩) h.lt]
  exact h
theorem Et.alloc {w : World} (h : Et w) (o : Obj) : Et (w.alloc o) := h.below ((Below.refl _ _).alloc (Nat.le_refl _) _)
theorem Et.drew {w : World} (h : Et w) : Et w.drew := h.below (Below.refl _ _).drew

theorem tk_valueOfP (t : Addr) (w : World) : (ReflectliteValue.unpack (.iface 105 (.pointer (some t)))).run Tryz.prog w
    = .ok (.agg #[.pointer (some ⟨2, 105, none⟩), .pointer (some ⟨w.heap.size, 0, none⟩), .int .u64 150]) (w.alloc (.cells #[.pointer (some t)] 105)) := by kernel_rfl
theorem tk_typeP (a : Addr) (w : World) : (ReflectliteValue.methodAny (ReflectliteValue.valueError "reflectlite.Value.Type" 0) (fun t _ _ _ => ReflectliteType.toType t) #[.agg #[.pointer (some ⟨2, 105, none⟩), .pointer (some a), .int .u64 150]]).run Tryz.prog w
    = .ok (.iface 169 (.agg #[.pointer (some ⟨2, 105, none⟩)])) w := by kernel_rfl
theorem tk_methodKind (h : Value) (w : World) : (Go.method 358 169 (.agg #[h]) "Kind").run Tryz.prog w = .ok (197, h) w := by kernel_rfl
theorem tk_kindP (w : World) : ((ReflectliteType.abiMethod fun t => (fun a : Nat => Value.int IntKind.u8 (a : Int)) <$> Rtype.kind t) #[.pointer (some ⟨2, 105, none⟩)]).run Tryz.prog w = .ok (.int .u8 22) w := by kernel_rfl
theorem tk_kindE (w : World) : ((ReflectliteType.abiMethod fun t => (fun a : Nat => Value.int IntKind.u8 (a : Int)) <$> Rtype.kind t) #[.pointer (some ⟨2, 77, none⟩)]).run Tryz.prog w = .ok (.int .u8 2) w := by kernel_rfl
theorem tk_open (z : Sem Value) (f : TypeId → Addr → Nat → Nat → Sem Value) (v : Value) :
    ReflectliteValue.method z f #[v] = (ReflectliteValue.parts v >>= fun o => o.elim z fun q => f q.1 q.2.1 q.2.2 (q.2.2 % 32)) := by
  refine (show ReflectliteValue.method z f #[v] = (ReflectliteValue.parts v >>= _) from rfl).trans ?_
  refine congrArg (ReflectliteValue.parts v >>= ·) (funext fun o => ?_)
  cases o <;> rfl
theorem tk_partsP (a : Addr) (w : World) : (ReflectliteValue.parts (.agg #[.pointer (some ⟨2, 105, none⟩), .pointer (some a), .int .u64 150])).run Tryz.prog w = .ok (some (105, a, 150)) w := by kernel_rfl
theorem tk_isNilP (a p : Addr) (W : World) (ha : W.cell? a = some (.pointer (some p))) :
    (ReflectliteValue.method (ReflectliteValue.valueError "reflectlite.Value.IsNil" 0) ReflectliteValue.isNil #[.agg #[.pointer (some ⟨2, 105, none⟩), .pointer (some a), .int .u64 150]]).run Tryz.prog W = .ok (.bool false) W := by
  rw [tk_open]
  simp only [Sem.run_bind, tk_partsP, Result.andThen]
  simp [ReflectliteValue.isNil, loadVar, isAgg, underlying, Tryz.underlying105, ha, Result.andThen]
theorem tk_methodElem (h : Value) (w : World) : (Go.method 358 169 (.agg #[h]) "Elem").run Tryz.prog w = .ok (207, .agg #[h]) w := by kernel_rfl
theorem tk_methodImplements (h : Value) (w : World) : (Go.method 358 169 (.agg #[h]) "Implements").run Tryz.prog w = .ok (208, .agg #[h]) w := by kernel_rfl
theorem tk_methodAssignableTo (h : Value) (w : World) : (Go.method 358 169 (.agg #[h]) "AssignableTo").run Tryz.prog w = .ok (205, .agg #[h]) w := by kernel_rfl
theorem tk_elemP (w : World) : (ReflectliteType.method ReflectliteType.elem #[.agg #[.pointer (some ⟨2, 105, none⟩)]]).run Tryz.prog w = .ok (.iface 169 (.agg #[.pointer (some ⟨2, 77, none⟩)])) w := by kernel_rfl
theorem tk_implementsE (w : World) : (ReflectliteType.relation "Implements" ReflectliteType.implements_ #[.agg #[.pointer (some ⟨2, 77, none⟩)], .iface 169 (.agg #[.pointer (some ⟨2, 35, none⟩)])]).run Tryz.prog w = .ok (.bool true) w := by kernel_rfl
theorem tk_typeOfE (v : Value) (w : World) : (ReflectliteType.typeOf #[.iface 77 v]).run Tryz.prog w = .ok (.iface 169 (.agg #[.pointer (some ⟨2, 77, none⟩)])) w := by kernel_rfl
theorem tk_assignableE (w : World) : (ReflectliteType.relation "AssignableTo" ReflectliteType.assignableTo #[.agg #[.pointer (some ⟨2, 77, none⟩)], .iface 169 (.agg #[.pointer (some ⟨2, 77, none⟩)])]).run Tryz.prog w = .ok (.bool true) w := by kernel_rfl
theorem tk_valueOfE (n : Int) (w : World) : (ReflectliteValue.unpack (.iface 77 (.int .i64 n))).run Tryz.prog w
    = .ok (.agg #[.pointer (some ⟨2, 77, none⟩), .pointer (some ⟨w.heap.size, 0, none⟩), .int .u64 130]) (w.alloc (.cells #[.int .i64 n] 77)) := by kernel_rfl
theorem tk_elemOfP (w : World) : (Rtype.elem? 105).run Tryz.prog w = .ok (some 77) w := by kernel_rfl
theorem tk_mkE (p : Addr) (w : World) : (ReflectliteValue.mk 77 p ReflectliteValue.flagAddr).run Tryz.prog w = .ok (.agg #[.pointer (some ⟨2, 77, none⟩), .pointer (some p), .int .u64 386]) w := by kernel_rfl
theorem tk_elemV (a p : Addr) (W : World) (ha : W.cell? a = some (.pointer (some p))) :
    (ReflectliteValue.method (ReflectliteValue.valueError "reflectlite.Value.Elem" 0) ReflectliteValue.elem #[.agg #[.pointer (some ⟨2, 105, none⟩), .pointer (some a), .int .u64 150]]).run Tryz.prog W
      = .ok (.agg #[.pointer (some ⟨2, 77, none⟩), .pointer (some p), .int .u64 386]) W := by
  rw [tk_open]
  simp only [Sem.run_bind, tk_partsP, Result.andThen]
  simp [ReflectliteValue.elem, loadVar, isAgg, underlying, Tryz.underlying105, ha, Result.andThen, tk_elemOfP, tk_mkE]
theorem tk_partsEa (a : Addr) (w : World) : (ReflectliteValue.parts (.agg #[.pointer (some ⟨2, 77, none⟩), .pointer (some a), .int .u64 386])).run Tryz.prog w = .ok (some (77, a, 386)) w := by kernel_rfl
theorem tk_partsE (a : Addr) (w : World) : (ReflectliteValue.parts (.agg #[.pointer (some ⟨2, 77, none⟩), .pointer (some a), .int .u64 130])).run Tryz.prog w = .ok (some (77, a, 130)) w := by kernel_rfl
theorem tk_directE (w : World) : (Rtype.directlyAssignable 77 77).run Tryz.prog w = .ok true w := by kernel_rfl
theorem tk_setE (ta b : Addr) (n : Int) (old : Value) (W : World) (hb : W.cell? b = some (.int .i64 n)) (ht : W.cell? ta = some old) (hf : W.frozen? ta = false) :
    (ReflectliteValue.set #[.agg #[.pointer (some ⟨2, 77, none⟩), .pointer (some ta), .int .u64 386], .agg #[.pointer (some ⟨2, 77, none⟩), .pointer (some b), .int .u64 130]]).run Tryz.prog W
      = .ok (.tuple #[]) (W.setCell ta (.int .i64 n)) := by
  rw [show ∀ X Y : Value, ReflectliteValue.set #[X, Y] = (ReflectliteValue.parts X >>= fun p => ReflectliteValue.parts Y >>= fun q => _) from fun _ _ => rfl]
  simp only [Sem.run_bind, tk_partsEa, tk_partsE, Result.andThen]
  simp [ReflectliteValue.flagAddr, loadVar, isAgg, underlying, Tryz.underlying77, hb, Result.andThen, tk_directE, storeVar, Value.cells, storeCells, Addr.add]
  rw [run_store Tryz.prog W ta _ _ (by rfl)]
  simp [ht, hf]

set_option maxHeartbeats 4000000 in
theorem as_hit (n : Int) (t : Addr) (old : Value) (w : World) (hg : w.cell? ⟨0, 0, none⟩ = some (.iface 169 (.agg #[.pointer (some ⟨2, 35, none⟩)]))) (ht0 : w.cell? t = some old) (hf0 : w.frozen? t = false) :
    Calls Tryz.prog 62 #[.iface 77 (.int .i64 n), .iface 105 (.pointer (some t))] w fun ev w' => ev = .returned (.bool true) ∧ w' = ((((w.alloc (.cells #[.pointer (some t)] 105)).alloc (.cells #[.pointer (some ⟨2, 105, none⟩), .pointer (some ⟨w.heap.size, 0, none⟩), .int .u64 150] 134)).alloc (.cells #[.pointer (some ⟨2, 105, none⟩), .pointer (some ⟨w.heap.size, 0, none⟩), .int .u64 150] 134)).alloc (.cells #[.int .i64 n] 77)).setCell t (.int .i64 n) := by
  have h6 := @run_callFunc_extern Tryz.prog 94 _ (fun args => ReflectliteValue.unpack (args.getD 0 (.tuple #[]))) Tryz.func94 (by kernel_rfl) (by kernel_rfl) (by kernel_rfl) (by kernel_rfl)
  have h7 := @run_callFunc_extern Tryz.prog 95 _ (ReflectliteValue.methodAny (ReflectliteValue.valueError "reflectlite.Value.Type" 0) (fun t _ _ _ => ReflectliteType.toType t)) Tryz.func95 (by kernel_rfl) (by kernel_rfl) (by kernel_rfl) (by kernel_rfl)
  have h8 := @run_callFunc_extern Tryz.prog 96 _ (ReflectliteValue.method (ReflectliteValue.valueError "reflectlite.Value.IsNil" 0) ReflectliteValue.isNil) Tryz.func96 (by kernel_rfl) (by kernel_rfl) (by kernel_rfl) (by kernel_rfl)
  have h27 := @run_callFunc_extern Tryz.prog 197 _ (ReflectliteType.abiMethod fun t => do pure (.int .u8 (← Rtype.kind t))) Tryz.func197 (by kernel_rfl) (by kernel_rfl) (by kernel_rfl) (by kernel_rfl)
  have h37 := @run_callFunc_extern Tryz.prog 207 _ (ReflectliteType.method ReflectliteType.elem) Tryz.func207 (by kernel_rfl) (by kernel_rfl) (by kernel_rfl) (by kernel_rfl)
  have h38 := @run_callFunc_extern Tryz.prog 208 _ (ReflectliteType.relation "Implements" ReflectliteType.implements_) Tryz.func208 (by kernel_rfl) (by kernel_rfl) (by kernel_rfl) (by kernel_rfl)
  have h10 := @run_callFunc_extern Tryz.prog 122 _ ReflectliteType.typeOf Tryz.func122 (by kernel_rfl) (by kernel_rfl) (by kernel_rfl) (by kernel_rfl)
  have h35 := @run_callFunc_extern Tryz.prog 205 _ (ReflectliteType.relation "AssignableTo" ReflectliteType.assignableTo) Tryz.func205 (by kernel_rfl) (by kernel_rfl) (by kernel_rfl) (by kernel_rfl)
  have h11 := @run_callFunc_extern Tryz.prog 123 _ (ReflectliteValue.method (ReflectliteValue.valueError "reflectlite.Value.Elem" 0) ReflectliteValue.elem) Tryz.func123 (by kernel_rfl) (by kernel_rfl) (by kernel_rfl) (by kernel_rfl)
  have h12 := @run_callFunc_extern Tryz.prog 124 _ ReflectliteValue.set Tryz.func124 (by kernel_rfl) (by kernel_rfl) (by kernel_rfl) (by kernel_rfl)
  have tO := tk_typeOfE
  have mA := tk_methodAssignableTo
  have a25 := tk_assignableE
  have v25 := tk_valueOfE
  have f6 := tk_valueOfP
  have f7 := tk_typeP
  have mK := tk_methodKind
  have mE := tk_methodElem
  have mI := tk_methodImplements
  have k27 := tk_kindP
  have k25 := tk_kindE
  have e27 := tk_elemP
  have i25 := tk_implementsE
  have n8 := tk_isNilP ⟨w.heap.size, 0, none⟩ t ((w.alloc (.cells #[.pointer (some t)] 105)).alloc (.cells #[.pointer (some ⟨2, 105, none⟩), .pointer (some ⟨w.heap.size, 0, none⟩), .int .u64 150] 134)) (by simp)
  have hlt : 0 < w.heap.size := Et.lt hg
  have hg2 : ((w.alloc (.cells #[.pointer (some t)] 105)).alloc (.cells #[.pointer (some ⟨2, 105, none⟩), .pointer (some ⟨w.heap.size, 0, none⟩), .int .u64 150] 134)).cell? ⟨0, 0, none⟩ = some (.iface 169 (.agg #[.pointer (some ⟨2, 35, none⟩)])) := by
    rw [World.cell?_alloc_lt _ _ ⟨0, 0, none⟩ (by simp; try omega), World.cell?_alloc_lt _ _ ⟨0, 0, none⟩ hlt]; exact hg
  have htl : t.block < w.heap.size := by
    rcases Nat.lt_or_ge t.block w.heap.size with h | h
    · exact h
    · simp [World.cell?, Array.getElem?_eq_none h] at ht0
  have el := tk_elemV ⟨w.heap.size, 0, none⟩ t (((w.alloc (.cells #[.pointer (some t)] 105)).alloc (.cells #[.pointer (some ⟨2, 105, none⟩), .pointer (some ⟨w.heap.size, 0, none⟩), .int .u64 150] 134)).alloc (.cells #[.pointer (some ⟨2, 105, none⟩), .pointer (some ⟨w.heap.size, 0, none⟩), .int .u64 150] 134)) (by rw [World.cell?_alloc_lt _ _ ⟨w.heap.size, 0, none⟩ (by simp; omega)]; simp)
  have st := tk_setE t ⟨w.heap.size + 1 + 1 + 1, 0, none⟩ n old ((((w.alloc (.cells #[.pointer (some t)] 105)).alloc (.cells #[.pointer (some ⟨2, 105, none⟩), .pointer (some ⟨w.heap.size, 0, none⟩), .int .u64 150] 134)).alloc (.cells #[.pointer (some ⟨2, 105, none⟩), .pointer (some ⟨w.heap.size, 0, none⟩), .int .u64 150] 134)).alloc (.cells #[.int .i64 n] 77))
    (by rw [World.cell?_alloc_at _ _ _ _ (by simp)]; rfl)
    (by rw [World.cell?_alloc_lt _ _ t (by simp; omega), World.cell?_alloc_lt _ _ t (by simp; omega), World.cell?_alloc_lt _ _ t (by simp; omega), World.cell?_alloc_lt _ _ t htl]; exact ht0)
    (by rw [World.frozen?_alloc_old _ _ t (by simp; omega), World.frozen?_alloc_old _ _ t (by simp; omega), World.frozen?_alloc_old _ _ t (by simp; omega), World.frozen?_alloc_old _ _ t (Nat.ne_of_lt htl)]; exact hf0)
  go_enter Tryz.func62, Tryz.ntmps62
  go_wp2
  refine wp_loop_rounds 1 ?_
  rw [rounds_succ]
  go_wp2
  go_ret
  exact ⟨rfl, rfl⟩

set_option maxHeartbeats 400000 in
theorem told_nil (w : World) : Calls Tryz.prog 35 #[.nilIface] w fun e w' => e = .returned (.int .i64 0) ∧ w' = w := by
  go_enter Tryz.func35, Tryz.ntmps35
  go_wp2
  go_ret
  exact ⟨rfl, rfl⟩

set_option maxHeartbeats 1000000 in
theorem told_hit (n : Int) (w : World) (hg : Et w) :
    Calls Tryz.prog 35 #[.iface 77 (.int .i64 n)] w fun e w' => e = .returned (.int .i64 n) ∧ Below w.heap.size w w' := by
  have hA : (w.alloc (.cells #[.int .i64 0] 77)).cell? ⟨0, 0, none⟩ = some (.iface 169 (.agg #[.pointer (some ⟨2, 35, none⟩)])) := hg.alloc _
  have hB : (w.alloc (.cells #[.int .i64 0] 77)).cell? ⟨w.heap.size, 0, none⟩ = some (.int .i64 0) := by simp
  have hC : (w.alloc (.cells #[.int .i64 0] 77)).frozen? ⟨w.heap.size, 0, none⟩ = false := by simp
  go_enter Tryz.func35, Tryz.ntmps35
  go_wp2_with (go_at_call 62; refine (as_hit _ _ (.int .i64 0) _ hA hB hC).mono ?_; rintro e w' ⟨rfl, rfl⟩)
  go_ret
  refine ⟨rfl, ?_⟩
  repeat (first | exact Below.refl _ _ | refine Below.alloc ?_ (by simp; try omega) _)

set_option maxHeartbeats 400000 in
theorem same_nil (x : Int) (w : World) : Calls Tryz.prog 10 #[.nilIface, .int .i64 x] w fun e w' => e = .returned (.bool (0 == x)) ∧ w' = w := by
  go_enter Tryz.func10, Tryz.ntmps10
  go_wp2_with (go_at_call 35; refine (told_nil _).mono ?_; rintro e w' ⟨rfl, rfl⟩)
  go_ret
  exact ⟨rfl, rfl⟩

set_option maxHeartbeats 400000 in
theorem same_hit (n x : Int) (w : World) (hg : Et w) : Calls Tryz.prog 10 #[.iface 77 (.int .i64 n), .int .i64 x] w fun e w' => e = .returned (.bool (n == x)) ∧ Below w.heap.size w w' := by
  have Hg : Hid (Et w) := hg
  clear hg
  go_enter Tryz.func10, Tryz.ntmps10
  go_wp2_with fail
  refine (told_hit _ _ Hg).mono ?_
  rintro e w1 ⟨rfl, hb⟩
  have Hb : Hid (Below w.heap.size w w1) := hb
  clear hb
  go_wp2
  go_ret
  exact ⟨rfl, Hb⟩
end Go.Proofs.YteieikgkmfglaaaGreatDoor

namespace Go.Proofs.YteieikgkmfglaaaGreatDoor
open Go.RowKit

theorem er_same (u : Value) (n : Int) (w : World) (h : Er u n) (hg : Et w) :
    Calls Tryz.prog 10 #[u, .int .i64 n] w fun e w' => e = .returned (.bool true) ∧ Below w.heap.size w w' := by
  rcases h with ⟨rfl, rfl⟩ | ⟨h0, rfl⟩
  · exact (same_nil 0 w).mono fun e w' ⟨h1, h2⟩ => ⟨h1, by rw [h2]; exact Below.refl _ _⟩
  · exact (same_hit n n w hg).mono fun e w' ⟨h1, h2⟩ => ⟨by rw [h1, beq_self_eq_true], h2⟩
end Go.Proofs.YteieikgkmfglaaaGreatDoor

namespace Go.Proofs.YteieikgkmfglaaaGreatDoor
open Go.RowKit

set_option maxHeartbeats 400000 in
theorem ints_any (u v : Value) (xs ys : List Int) (w : World) (hu : Ro w u xs) (hv : Ro w v ys) :
    Calls Tryz.prog 20 #[u, v] w fun e w' => e = .returned (.bool (decide (xs = ys))) ∧ ∃ n, w' = w.drewN n := by
  obtain ⟨a, c, rfl, hc1, hc2, ha⟩ := hu
  obtain ⟨b, d, rfl, hd1, hd2, hb⟩ := hv
  have Ha : Hid (Cells w a xs) := ha
  have Hb : Hid (Cells w b ys) := hb
  clear ha hb
  by_cases hl : xs.length = ys.length
  · have Hl : Hid (xs.length = ys.length) := hl
    rw [← hl] at hd1 ⊢
    clear hl
    go_enter Tryz.func20, Tryz.ntmps20
    go_wp2_with fail
    go_loopw [5] (fun i W => ∃ (k q : Nat), k ≤ xs.length ∧ i = .int .i64 (k : Nat) ∧ xs.take k = ys.take k ∧ W = w.drewN q) (fun i _ => xs.length - (intOf i).toNat)
    case atStart => exact ⟨0, 0, Nat.zero_le _, rfl, by simp, rfl⟩
    case round =>
      obtain ⟨k, q, hk, rfl, ht, rfl⟩ := hrel
      have Ht : Hid (xs.take k = ys.take k) := ht
      clear ht
      by_cases h0 : k = xs.length
      · subst h0
        go_wp2
        go_ret
        refine ⟨?_, q, rfl⟩
        have e := Ht.out
        rw [List.take_of_length_le (Nat.le_refl _), Hl.out, List.take_of_length_le (Nat.le_refl _)] at e
        simp [e]
      · have hkx : k < xs.length := by omega
        have hky : k < ys.length := by rw [← Hl.out]; exact hkx
        obtain ⟨x, rfl, -, hx⟩ := Ha.out (by intro h; rw [h] at hkx; simp at hkx)
        obtain ⟨y, rfl, -, hy⟩ := Hb.out (by intro h; rw [h] at hky; simp at hky)
        have cx := hx k xs[k] (List.getElem?_eq_getElem hkx)
        have cy := hy k ys[k] (List.getElem?_eq_getElem hky)
        have Te : Hid (xs.take (k + 1) = ys.take (k + 1) ↔ xs[k] = ys[k]) := by
          unfold Hid
          rw [List.take_succ_eq_append_getElem hkx, List.take_succ_eq_append_getElem hky, Ht.out]
          exact ⟨fun h => (List.cons.inj (List.append_cancel_left h)).1, fun h => by rw [h]⟩
        generalize xs[k] = p at *
        generalize ys[k] = r at *
        clear hx hy
        by_cases hpr : p = r
        · subst hpr
          go_wp2
          go_quiet (fail)
          go_wp2
          go_round
          case rel => exact ⟨k + 1, q + nq, by omega, by go_num, by first | exact Te.out.2 rfl | exact Te.out.2 trivial, rfl⟩
          case measure => simp [intOf]; omega
        · go_wp2
          go_quiet (fail)
          go_wp2
          go_ret
          refine ⟨?_, q + nq, by rw [World.drewN_drewN]⟩
          have : xs ≠ ys := fun h => hpr (Te.out.1 (by rw [h]))
          simp [this]
  · go_enter Tryz.func20, Tryz.ntmps20
    go_wp2
    go_ret
    refine ⟨?_, 0, rfl⟩
    have : xs ≠ ys := fun h => hl (by rw [h])
    simp [this]
end Go.Proofs.YteieikgkmfglaaaGreatDoor

