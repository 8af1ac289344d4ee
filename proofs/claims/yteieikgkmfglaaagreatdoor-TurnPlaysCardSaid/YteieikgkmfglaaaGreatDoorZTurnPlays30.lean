/- turn.give. · A map of integers by integers that a call makes. · works.Train$1: whether a job is its unit's first. · world.checkPlace. · world.Place. -/
import Derived.Test.YteieikgkmfglaaaGreatDoorZTurnPlays5
import Derived.Test.YteieikgkmfglaaaGreatDoorZTurnPlays26
import Derived.Test.YteieikgkmfglaaaGreatDoorZTurnPlays29
import Derived.Test.YteieikgkmfglaaaGreatDoorZTurnPlays4
import Derived.Test.YteieikgkmfglaaaGreatDoorZTurnPlays9
import Derived.Deep.DeepCutAuto
import Derived.Test.YteieikgkmfglaaaGreatDoorZTurnPlays1
import Derived.Maps.Own
import Derived.Maps.OwnOps
import Derived.Maps.Views
import Derived.Carry
import Derived.DeepKeys4
import Derived.Test.YteieikgkmfglaaaGreatDoorZTurnPlays7
namespace Go.Proofs.YteieikgkmfglaaaGreatDoor
open Go.RowKit Go.Proofs.YteieikgkmfglaaaGreatDoor.So
set_option linter.unusedVariables false

def GiveTells (ks : List KV) (X : WV) (l : List OrV) (w : World) (e : Ending) (w' : World) : Prop := ∃ v ur r, e = .returned (.tuple #[v, ur, r]) ∧ Er r (Od.faults l) ∧ ((Od.faults l ≠ 0 ∧ v = .agg #[.int .i64 0, .int .i64 0, .int .i64 0, .int .i64 0, .slice none 0 0, .slice none 0 0, .slice none 0 0, .slice none 0 0, .slice none 0 0] ∧ ur = .slice none 0 0) ∨ (Od.faults l = 0 ∧ ∃ out, LastSays l out ∧ Wo w' w.heap.size v (gv ks X out out.length).1 ∧ Ow w' w.heap.size ur (gv ks X out out.length).2)) ∧ Below w.heap.size w w'
def GvI (ks : List KV) (X : WV) (out : List OrV) (b1 z : Nat) (w1 : World) (ur j : Value) (V : World) : Prop := ∃ (q : Nat) (u1 u2 u3 u4 u5 : Value), q ≤ out.length ∧ j = .int .i64 (q : Nat) ∧ (gv ks X out q).2.length ≤ q ∧ GvS ks (gv ks X out q).1 (gv ks X out q).2 b1 z w1 u1 u2 u3 u4 u5 ur V
set_option maxRecDepth 100000 in
set_option maxHeartbeats 16000000 in
theorem give_any (vk vw vl : Value) (ks : List KV) (X : WV) (l : List OrV) (w : World) (hk : Kl w vk ks) (hw : Wl w vw X) (hl : Orl w vl l) (hr : WRight ks X) :
    Calls Tryz.prog 47 #[vk, vw, vl] w (GiveTells ks X l w) := by
  have K : Hid (Kl w vk ks) := hk
  have H : Hid (Wl w vw X) := hw
  have L : Hid (Orl w vl l) := hl
  have R : Hid (WRight ks X) := hr
  obtain ⟨p1, q1, p2, q2, p3, q3, p4, q4, p5, q5, rfl⟩ := wl_shape9 hw
  obtain ⟨pk, qk, rfl, ck1, ck2, kc⟩ := hk
  obtain ⟨pl, ql, rfl, cl1, cl2, lc⟩ := hl
  have kl8 : ks.length ≤ 8 := hr.gfit.kinds.1
  clear hw kc lc hr
  go_enter Tryz.func47, Tryz.ntmps47
  go_upto_region 1 with fail
  have B0 : Hid (Below w.heap.size w ((w.alloc (Obj.cells #[.int .i64 X.turn, .int .i64 X.next, .int .i64 X.wide, .int .i64 X.high, .slice p1 X.gs.length q1, .slice p2 X.os.length q2, .slice p3 X.gold.length q3, .slice p4 X.us.length q4, .slice p5 X.qs.length q5] 29)).alloc (Obj.cells #[.int .i64 0, .int .i64 0, .int .i64 0, .int .i64 0, .slice none 0 0, .slice none 0 0, .slice none 0 0, .slice none 0 0, .slice none 0 0] 29))) := ((Below.refl _ _).alloc (Nat.le_refl _) _).alloc (by simp) _
  have X0 : Hid (Wx ((w.alloc (Obj.cells #[.int .i64 X.turn, .int .i64 X.next, .int .i64 X.wide, .int .i64 X.high, .slice p1 X.gs.length q1, .slice p2 X.os.length q2, .slice p3 X.gold.length q3, .slice p4 X.us.length q4, .slice p5 X.qs.length q5] 29)).alloc (Obj.cells #[.int .i64 0, .int .i64 0, .int .i64 0, .int .i64 0, .slice none 0 0, .slice none 0 0, .slice none 0 0, .slice none 0 0, .slice none 0 0] 29)) w.heap.size (.int .i64 X.turn) (.int .i64 X.next) (.int .i64 X.wide) (.int .i64 X.high) (.slice p1 X.gs.length q1) (.slice p2 X.os.length q2) (.slice p3 X.gold.length q3) (.slice p4 X.us.length q4) (.slice p5 X.qs.length q5)) := (Wx.new (w := w) _ _ _ _ _ _ _ _ _ rfl).below ((Below.refl _ _).alloc (Nat.le_refl _) _) (by simp)
  have Z0 : Hid (Wx ((w.alloc (Obj.cells #[.int .i64 X.turn, .int .i64 X.next, .int .i64 X.wide, .int .i64 X.high, .slice p1 X.gs.length q1, .slice p2 X.os.length q2, .slice p3 X.gold.length q3, .slice p4 X.us.length q4, .slice p5 X.qs.length q5] 29)).alloc (Obj.cells #[.int .i64 0, .int .i64 0, .int .i64 0, .int .i64 0, .slice none 0 0, .slice none 0 0, .slice none 0 0, .slice none 0 0, .slice none 0 0] 29)) (w.heap.size + 1) (.int .i64 0) (.int .i64 0) (.int .i64 0) (.int .i64 0) (.slice none 0 0) (.slice none 0 0) (.slice none 0 0) (.slice none 0 0) (.slice none 0 0)) := Wx.new (w := w.alloc (Obj.cells #[.int .i64 X.turn, .int .i64 X.next, .int .i64 X.wide, .int .i64 X.high, .slice p1 X.gs.length q1, .slice p2 X.os.length q2, .slice p3 X.gold.length q3, .slice p4 X.us.length q4, .slice p5 X.qs.length q5] 29)) _ _ _ _ _ _ _ _ _ (by simp)
  have S0 : Hid (((w.alloc (Obj.cells #[.int .i64 X.turn, .int .i64 X.next, .int .i64 X.wide, .int .i64 X.high, .slice p1 X.gs.length q1, .slice p2 X.os.length q2, .slice p3 X.gold.length q3, .slice p4 X.us.length q4, .slice p5 X.qs.length q5] 29)).alloc (Obj.cells #[.int .i64 0, .int .i64 0, .int .i64 0, .int .i64 0, .slice none 0 0, .slice none 0 0, .slice none 0 0, .slice none 0 0, .slice none 0 0] 29)).heap.size = w.heap.size + 1 + 1) := by unfold Hid; simp
  generalize ((w.alloc (Obj.cells #[.int .i64 X.turn, .int .i64 X.next, .int .i64 X.wide, .int .i64 X.high, .slice p1 X.gs.length q1, .slice p2 X.os.length q2, .slice p3 X.gold.length q3, .slice p4 X.us.length q4, .slice p5 X.qs.length q5] 29)).alloc (Obj.cells #[.int .i64 0, .int .i64 0, .int .i64 0, .int .i64 0, .slice none 0 0, .slice none 0 0, .slice none 0 0, .slice none 0 0, .slice none 0 0] 29)) = w0 at *
  obtain ⟨z, hz⟩ : ∃ z, w.heap.size = z := ⟨_, rfl⟩
  have HZ : Hid (w.heap.size = z) := hz
  rw [hz] at X0 Z0 S0 ⊢
  clear hz
  go_wp2_with fail
  refine Calls.mono (last_any _ l w0 (L.out.below B0.out)) ?_
  rintro e w1 ⟨ul, rl, rfl, hrl, hul, b1'⟩
  have B1 : Hid (Below w.heap.size w w1) := B0.out.trans (b1'.mono B0.out.size)
  have X1 : Hid (Wx w1 z (.int .i64 X.turn) (.int .i64 X.next) (.int .i64 X.wide) (.int .i64 X.high) (.slice p1 X.gs.length q1) (.slice p2 X.os.length q2) (.slice p3 X.gold.length q3) (.slice p4 X.us.length q4) (.slice p5 X.qs.length q5)) := X0.out.below b1' X0.out.lt
  have Z1 : Hid (Wx w1 (z + 1) (.int .i64 0) (.int .i64 0) (.int .i64 0) (.int .i64 0) (.slice none 0 0) (.slice none 0 0) (.slice none 0 0) (.slice none 0 0) (.slice none 0 0)) := Z0.out.below b1' Z0.out.lt
  obtain ⟨F, hF⟩ : ∃ F, Od.faults l = F := ⟨_, rfl⟩
  have HF : Hid (Od.faults l = F) := hF
  rw [hF] at hrl hul
  clear hF b1' X0 Z0
  rcases hrl with ⟨rfl, rfl⟩ | ⟨hF, rfl⟩
  case inr =>
    have HN : Hid (F ≠ 0) := hF
    clear hF hul
    obtain ⟨z0, z1, z2, z3, z4, z5, z6, z7, z8⟩ := Z1.out.cells
    obtain ⟨t0, t1, t2, t3, t4, t5, t6, t7, t8⟩ := Z1.out.thaws
    have KZ : Hid (Kp (z + 1) w1 ((((((((((w1.setCell ⟨z + 1, 0, none⟩ (.int .i64 0)).setCell ⟨z + 1, 1, none⟩ (.int .i64 0)).setCell ⟨z + 1, 2, none⟩ (.int .i64 0)).setCell ⟨z + 1, 3, none⟩ (.int .i64 0)).setCell ⟨z + 1, 4, none⟩ (.slice none 0 0)).setCell ⟨z + 1, 5, none⟩ (.slice none 0 0)).setCell ⟨z + 1, 6, none⟩ (.slice none 0 0)).setCell ⟨z + 1, 7, none⟩ (.slice none 0 0)).setCell ⟨z + 1, 8, none⟩ (.slice none 0 0)))) := put_kp _ _ _ _ _ _ _ _ _ _ _
    obtain ⟨y0, y1, y2, y3, y4, y5, y6, y7, y8⟩ := (Z1.out.put (.int .i64 0) (.int .i64 0) (.int .i64 0) (.int .i64 0) (.slice none 0 0) (.slice none 0 0) (.slice none 0 0) (.slice none 0 0) (.slice none 0 0)).cells
    go_wp2
    clear z0 z1 z2 z3 z4 z5 z6 z7 z8 t0 t1 t2 t3 t4 t5 t6 t7 t8
    generalize (((((((((w1.setCell ⟨z + 1, 0, none⟩ (.int .i64 0)).setCell ⟨z + 1, 1, none⟩ (.int .i64 0)).setCell ⟨z + 1, 2, none⟩ (.int .i64 0)).setCell ⟨z + 1, 3, none⟩ (.int .i64 0)).setCell ⟨z + 1, 4, none⟩ (.slice none 0 0)).setCell ⟨z + 1, 5, none⟩ (.slice none 0 0)).setCell ⟨z + 1, 6, none⟩ (.slice none 0 0)).setCell ⟨z + 1, 7, none⟩ (.slice none 0 0)).setCell ⟨z + 1, 8, none⟩ (.slice none 0 0)) = w9 at *
    refine bodyPost_ret (v := .tuple #[.agg #[.int .i64 0, .int .i64 0, .int .i64 0, .int .i64 0, .slice none 0 0, .slice none 0 0, .slice none 0 0, .slice none 0 0, .slice none 0 0], .slice none 0 0, .iface 77 (.int .i64 F)]) (by simp [results, Tryz.results47, go_sem, y0, y1, y2, y3, y4, y5, y6, y7, y8]) rfl ⟨_, _, _, rfl, by rw [HF.out]; exact Er.no HN.out, .inl ⟨by rw [HF.out]; exact HN.out, rfl, rfl⟩, KZ.out.below B1.out B1.out.size (by rw [HZ.out]; omega)⟩
  obtain ⟨out, hls, ho⟩ : ∃ out, LastSays l out ∧ Oro w1 w0.heap.size ul out := by
    rcases hul with ⟨h, -⟩ | ⟨-, h⟩
    · exact absurd rfl h
    · exact h
  have LS : Hid (LastSays l out) := hls
  have OB : Hid (∀ o ∈ out, ¬ Od.bad o) := fun o h => (Od.faults_ok HF.out).2 o (hls.mem h)
  have OL : Hid (out.length ≤ 60) := Nat.le_trans hls.len (Od.faults_ok HF.out).1
  obtain ⟨plo, clo, rfl⟩ := ho.len
  have O1 : Hid (Oro w1 (z + 1 + 1) (.slice plo out.length clo) out) := by have h := ho; rw [S0.out] at h; exact h
  clear hls ho hul
  obtain ⟨x0, x1, x2, x3, x4, x5, x6, x7, x8⟩ := X1.out.cells
  go_wp2_with fail
  refine (copy_any _ X w1 (H.out.below B1.out) R.out.len).mono ?_
  rintro e w2 ⟨cu, rfl, ⟨k1, k2, k3, k4, k5, rfl, ⟨o1, o2, o3, o4, o5⟩, d12, d13, d14, d15, d23, d24, d25, d34, d35, d45⟩, hb⟩
  obtain ⟨b1, hb1⟩ : ∃ b, w1.heap.size = b := ⟨_, rfl⟩
  have HB1 : Hid (w1.heap.size = b1 ∧ z + 1 < b1) := ⟨hb1, by rw [← hb1]; exact Z1.out.lt⟩
  rw [hb1] at o1 o2 o3 o4 o5
  have X2 : Hid (Wx w2 z (.int .i64 X.turn) (.int .i64 X.next) (.int .i64 X.wide) (.int .i64 X.high) (.slice p1 X.gs.length q1) (.slice p2 X.os.length q2) (.slice p3 X.gold.length q3) (.slice p4 X.us.length q4) (.slice p5 X.qs.length q5)) := X1.out.below hb X1.out.lt
  obtain ⟨t0, t1, t2, t3, t4, t5, t6, t7, t8⟩ := X2.out.thaws
  obtain ⟨y0, y1, y2, y3, y4, y5, y6, y7, y8⟩ := X2.out.cells
  have KZ : Hid (Kp z w2 ((((((((((w2.setCell ⟨z, 0, none⟩ (.int .i64 X.turn)).setCell ⟨z, 1, none⟩ (.int .i64 X.next)).setCell ⟨z, 2, none⟩ (.int .i64 X.wide)).setCell ⟨z, 3, none⟩ (.int .i64 X.high)).setCell ⟨z, 4, none⟩ (k1)).setCell ⟨z, 5, none⟩ (k2)).setCell ⟨z, 6, none⟩ (k3)).setCell ⟨z, 7, none⟩ (k4)).setCell ⟨z, 8, none⟩ (k5)))) := put_kp _ _ _ _ _ _ _ _ _ _ _
  have X3 : Hid (Wx ((((((((((w2.setCell ⟨z, 0, none⟩ (.int .i64 X.turn)).setCell ⟨z, 1, none⟩ (.int .i64 X.next)).setCell ⟨z, 2, none⟩ (.int .i64 X.wide)).setCell ⟨z, 3, none⟩ (.int .i64 X.high)).setCell ⟨z, 4, none⟩ (k1)).setCell ⟨z, 5, none⟩ (k2)).setCell ⟨z, 6, none⟩ (k3)).setCell ⟨z, 7, none⟩ (k4)).setCell ⟨z, 8, none⟩ (k5))) z (.int .i64 X.turn) (.int .i64 X.next) (.int .i64 X.wide) (.int .i64 X.high) k1 k2 k3 k4 k5) := X2.out.put _ _ _ _ _ _ _ _ _
  have G3 : Hid (GvS ks X [] b1 z w1 k1 k2 k3 k4 k5 (.slice none 0 0) ((((((((((w2.setCell ⟨z, 0, none⟩ (.int .i64 X.turn)).setCell ⟨z, 1, none⟩ (.int .i64 X.next)).setCell ⟨z, 2, none⟩ (.int .i64 X.wide)).setCell ⟨z, 3, none⟩ (.int .i64 X.high)).setCell ⟨z, 4, none⟩ (k1)).setCell ⟨z, 5, none⟩ (k2)).setCell ⟨z, 6, none⟩ (k3)).setCell ⟨z, 7, none⟩ (k4)).setCell ⟨z, 8, none⟩ (k5)))) := by
    have hz1 := HB1.out.2
    refine ⟨X3.out, o1.kp KZ.out (by omega), o2.kp KZ.out (by omega), o3.kp KZ.out (by omega), o4.kp KZ.out (by omega), o5.kp KZ.out (by omega), Ow.nil _ _, ?_, (Kp.of hb).trans KZ.out, R.out.gfit⟩
    have dn : ∀ u, Dif u (.slice none 0 0) := fun u k h1 h2 => by cases h2
    simp only [List.pairwise_cons, List.mem_cons, List.not_mem_nil, or_false, forall_eq_or_imp, forall_eq]
    exact ⟨⟨d12, d13, d14, d15, dn _⟩, ⟨d23, d24, d25, dn _⟩, ⟨d34, d35, dn _⟩, ⟨d45, dn _⟩, dn _, by simp, by simp⟩
  obtain ⟨kp1, kc1, rfl⟩ := o1.len
  obtain ⟨kp2, kc2, rfl⟩ := o2.len
  obtain ⟨kp3, kc3, rfl⟩ := o3.len
  obtain ⟨kp4, kc4, rfl⟩ := o4.len
  obtain ⟨kp5, kc5, rfl⟩ := o5.len
  clear hb hb1 x0 x1 x2 x3 x4 x5 x6 x7 x8 o1 o2 o3 o4 o5 d12 d13 d14 d15 d23 d24 d25 d34 d35 d45 X1
  go_upto_region 5 with fail
  clear t0 t1 t2 t3 t4 t5 t6 t7 t8 y0 y1 y2 y3 y4 y5 y6 y7 y8
  generalize (((((((((w2.setCell ⟨z, 0, none⟩ (.int .i64 X.turn)).setCell ⟨z, 1, none⟩ (.int .i64 X.next)).setCell ⟨z, 2, none⟩ (.int .i64 X.wide)).setCell ⟨z, 3, none⟩ (.int .i64 X.high)).setCell ⟨z, 4, none⟩ (.slice kp1 X.gs.length kc1)).setCell ⟨z, 5, none⟩ (.slice kp2 X.os.length kc2)).setCell ⟨z, 6, none⟩ (.slice kp3 X.gold.length kc3)).setCell ⟨z, 7, none⟩ (.slice kp4 X.us.length kc4)).setCell ⟨z, 8, none⟩ (.slice kp5 X.qs.length kc5)) = w3 at *
  have ZZ : Hid (∀ V, Kp z w1 V → Wx V (z + 1) (.int .i64 0) (.int .i64 0) (.int .i64 0) (.int .i64 0) (.slice none 0 0) (.slice none 0 0) (.slice none 0 0) (.slice none 0 0) (.slice none 0 0)) := fun V hV => Z1.out.kp hV (by omega)
  have OO : Hid (∀ V, Kp z w1 V → Oro V (z + 1 + 1) (.slice plo out.length clo) out) := fun V hV => owns_kp O1.out hV (by omega)
  have BV : Hid (∀ V, Kp z w1 V → Below w.heap.size w V) := fun V hV => hV.below B1.out B1.out.size (by rw [HZ.out]; omega)
  have ol : out.length ≤ 60 := OL.out
  clear KZ X2 X3
  go_wp2_with fail
  go_loopw [11, 29] (fun ur j V => GvI ks X out b1 z w1 ur j V) (fun _ j _ => out.length - (intOf j).toNat)
  case atStart => exact ⟨0, _, _, _, _, _, Nat.zero_le _, rfl, Nat.le_refl _, G3.out⟩
  case round =>
    obtain ⟨q, u1, u2, u3, u4, u5, hq, rfl, hrl, hg⟩ := hrel
    obtain ⟨Y, hY⟩ : ∃ Y, (gv ks X out q).1 = Y := ⟨_, rfl⟩
    obtain ⟨ref, hR⟩ : ∃ r, (gv ks X out q).2 = r := ⟨_, rfl⟩
    have HY : Hid ((gv ks X out q).1 = Y ∧ (gv ks X out q).2 = ref) := ⟨hY, hR⟩
    rw [hY, hR] at hg
    rw [hR] at hrl
    have GQ : Hid (GvS ks Y ref b1 z w1 u1 u2 u3 u4 u5 u11 wr) := hg
    have RL : Hid (ref.length ≤ q) := hrl
    clear hY hR
    obtain ⟨ra, rc, rfl⟩ := hg.r.len
    obtain ⟨a1, h1, rfl⟩ := hg.o1.len
    obtain ⟨a2, h2, rfl⟩ := hg.o2.len
    obtain ⟨a3, h3, rfl⟩ := hg.o3.len
    obtain ⟨a4, h4, rfl⟩ := hg.o4.len
    obtain ⟨a5, h5, rfl⟩ := hg.o5.len
    clear hg hrl
    by_cases hqo : q = out.length
    · have FIN : Hid ((gv ks X out out.length).1 = Y ∧ (gv ks X out out.length).2 = ref) := by rw [← hqo]; exact HY.out
      subst hqo
      obtain ⟨x0, x1, x2, x3, x4, x5, x6, x7, x8⟩ := GQ.out.x.cells
      obtain ⟨z0, z1, z2, z3, z4, z5, z6, z7, z8⟩ := (ZZ.out _ GQ.out.k).cells
      obtain ⟨t0, t1, t2, t3, t4, t5, t6, t7, t8⟩ := (ZZ.out _ GQ.out.k).thaws
      have KZ : Hid (Kp (z + 1) wr ((((((((((wr.setCell ⟨z + 1, 0, none⟩ (.int .i64 Y.turn)).setCell ⟨z + 1, 1, none⟩ (.int .i64 Y.next)).setCell ⟨z + 1, 2, none⟩ (.int .i64 Y.wide)).setCell ⟨z + 1, 3, none⟩ (.int .i64 Y.high)).setCell ⟨z + 1, 4, none⟩ (.slice a1 Y.gs.length h1)).setCell ⟨z + 1, 5, none⟩ (.slice a2 Y.os.length h2)).setCell ⟨z + 1, 6, none⟩ (.slice a3 Y.gold.length h3)).setCell ⟨z + 1, 7, none⟩ (.slice a4 Y.us.length h4)).setCell ⟨z + 1, 8, none⟩ (.slice a5 Y.qs.length h5)))) := put_kp _ _ _ _ _ _ _ _ _ _ _
      obtain ⟨y0, y1, y2, y3, y4, y5, y6, y7, y8⟩ := ((ZZ.out _ GQ.out.k).put (.int .i64 Y.turn) (.int .i64 Y.next) (.int .i64 Y.wide) (.int .i64 Y.high) (.slice a1 Y.gs.length h1) (.slice a2 Y.os.length h2) (.slice a3 Y.gold.length h3) (.slice a4 Y.us.length h4) (.slice a5 Y.qs.length h5)).cells
      go_wp2
      clear x0 x1 x2 x3 x4 x5 x6 x7 x8 z0 z1 z2 z3 z4 z5 z6 z7 z8 t0 t1 t2 t3 t4 t5 t6 t7 t8
      generalize (((((((((wr.setCell ⟨z + 1, 0, none⟩ (.int .i64 Y.turn)).setCell ⟨z + 1, 1, none⟩ (.int .i64 Y.next)).setCell ⟨z + 1, 2, none⟩ (.int .i64 Y.wide)).setCell ⟨z + 1, 3, none⟩ (.int .i64 Y.high)).setCell ⟨z + 1, 4, none⟩ (.slice a1 Y.gs.length h1)).setCell ⟨z + 1, 5, none⟩ (.slice a2 Y.os.length h2)).setCell ⟨z + 1, 6, none⟩ (.slice a3 Y.gold.length h3)).setCell ⟨z + 1, 7, none⟩ (.slice a4 Y.us.length h4)).setCell ⟨z + 1, 8, none⟩ (.slice a5 Y.qs.length h5)) = w9 at *
      refine bodyPost_ret (v := .tuple #[.agg #[.int .i64 Y.turn, .int .i64 Y.next, .int .i64 Y.wide, .int .i64 Y.high, .slice a1 Y.gs.length h1, .slice a2 Y.os.length h2, .slice a3 Y.gold.length h3, .slice a4 Y.us.length h4, .slice a5 Y.qs.length h5], .slice ra ref.length rc, .nilIface]) (by simp [results, Tryz.results47, go_sem, y0, y1, y2, y3, y4, y5, y6, y7, y8]) rfl ⟨_, _, _, rfl, by rw [HF.out]; exact Er.nil, .inr ⟨HF.out, out, LS.out, ?_, ?_⟩, ?_⟩
      · rw [FIN.out.1]
        exact (GQ.out.wo.kp KZ.out HB1.out.2).mono (by have h1 := HB1.out; have h2 := HZ.out; omega)
      · rw [FIN.out.2]
        exact (GQ.out.r.kp KZ.out HB1.out.2).mono (by have h1 := HB1.out; have h2 := HZ.out; omega)
      · exact KZ.out.below (BV.out _ GQ.out.k) (BV.out _ GQ.out.k).size (by rw [HZ.out]; omega)
    · have hqk : q < out.length := by omega
      obtain ⟨o, ho⟩ : ∃ o, out[q]? = some o := ⟨_, List.getElem?_eq_getElem hqk⟩
      have HO : Hid (out[q]? = some o) := ho
      have OBK : Hid (¬ Od.bad o) := OB.out o (List.mem_of_getElem? ho)
      obtain ⟨a', c', e, -, -, hx⟩ := (OO.out _ GQ.out.k).l
      injection e with e1 e2 e3
      subst e1 e3
      obtain ⟨xo, rfl, -, hxo⟩ := hx (by rintro hn; rw [hn] at hqk; simp at hqk)
      obtain ⟨r0, r1, r2, r3⟩ := hxo q o ho
      clear hx hxo e2 ho
      have hqi : ((q : Nat) : Int) < (out.length : Nat) := by omega
      go_upto_region 9 with fail
      have BA : Hid (Below wr.heap.size wr (wr.alloc (Obj.cells #[.int .i64 o.player, .int .i64 o.unit, .int .i64 o.what, .int .i64 o.arg] 89))) := (Below.refl _ _).alloc (Nat.le_refl _) _
      have OA : Hid (Orc (wr.alloc (Obj.cells #[.int .i64 o.player, .int .i64 o.unit, .int .i64 o.what, .int .i64 o.arg] 89)) ⟨wr.heap.size, 0, none⟩ o) := Orc.mk' (w := wr) o rfl
      obtain ⟨y, hy⟩ : ∃ y, wr.heap.size = y := ⟨_, rfl⟩
      have YL : Hid (wr.heap.size = y ∧ b1 ≤ y) := ⟨hy, by rw [← hy, ← HB1.out.1]; exact GQ.out.k.size⟩
      rw [hy] at OA ⊢
      clear r0 r1 r2 r3 hy
      generalize wr.alloc (Obj.cells #[.int .i64 o.player, .int .i64 o.unit, .int .i64 o.what, .int .i64 o.arg] 89) = w4 at *
      have G4 : Hid (GvS ks Y ref b1 z w1 (.slice a1 Y.gs.length h1) (.slice a2 Y.os.length h2) (.slice a3 Y.gold.length h3) (.slice a4 Y.us.length h4) (.slice a5 Y.qs.length h5) (.slice ra ref.length rc) w4) := GQ.out.below BA.out
      have yl4 : Hid (y < w4.heap.size) := OA.out.lt
      clear BA GQ
      obtain ⟨x0, x1, x2, x3, x4, x5, x6, x7, x8⟩ := G4.out.x.cells
      go_wp2_with fail
      refine (idxm_any 70 (by intro args w; go_simp) _ #[.pointer (some ⟨y, 0, none⟩)] Y.us (askU o) w4 G4.out.o4.l (fun W hW u hu => ?_)).mono ?_
      · obtain ⟨c0, c1, -, -⟩ := OA.out.below hW yl4.out
        simp only [Nat.zero_add] at c1
        exact ask_fn o u y W c0 c1
      rintro e w5 ⟨r, rfl, hfr, b5⟩
      have G5 : Hid (GvS ks Y ref b1 z w1 (.slice a1 Y.gs.length h1) (.slice a2 Y.os.length h2) (.slice a3 Y.gold.length h3) (.slice a4 Y.us.length h4) (.slice a5 Y.qs.length h5) (.slice ra ref.length rc) w5) := G4.out.below b5
      have O5 : Hid (Orc w5 ⟨y, 0, none⟩ o) := OA.out.below b5 yl4.out
      clear b5 x0 x1 x2 x3 x4 x5 x6 x7 x8 G4 OA
      have kl8i : ks.length ≤ 8 := kl8
      rcases hfr with ⟨rfl, hnone⟩ | ⟨i, u, rfl, hu, hask, hfirst⟩
      · have GN : Hid (given1 ks Y o = none) := by unfold Hid given1; rw [ask_none hnone]
        clear hnone
        go_upto_region 11 with fail
        go_quiet (fail)
        have D6 : Hid (Below w5.heap.size w5 (w5.drewN nq)) := ⟨rfl, rfl, rfl, Nat.le_refl _, fun _ _ => rfl⟩
        generalize w5.drewN nq = w6 at *
        have G6 : Hid (GvS ks Y ref b1 z w1 (.slice a1 Y.gs.length h1) (.slice a2 Y.os.length h2) (.slice a3 Y.gold.length h3) (.slice a4 Y.us.length h4) (.slice a5 Y.qs.length h5) (.slice ra ref.length rc) w6) := G5.out.below D6.out
        have NX : Hid (gv ks X out (q + 1) = (Y, ref ++ [(q : Int)])) := by
          have h9 := gv_no (ks := ks) (Y := X) HO.out (by rw [HY.out.1]; exact GN.out)
          unfold Hid
          rw [h9, HY.out.1, HY.out.2]
        have BA : Hid (Below w6.heap.size w6 (w6.alloc (Obj.cells #[.int .i64 (q : Nat)] 3))) := (Below.refl _ _).alloc (Nat.le_refl _) _
        have GA : Hid (GvS ks Y ref b1 z w1 (.slice a1 Y.gs.length h1) (.slice a2 Y.os.length h2) (.slice a3 Y.gold.length h3) (.slice a4 Y.us.length h4) (.slice a5 Y.qs.length h5) (.slice ra ref.length rc) (w6.alloc (Obj.cells #[.int .i64 (q : Nat)] 3))) := G6.out.below BA.out
        have SB : Hid (b1 ≤ (w6.alloc (Obj.cells #[.int .i64 (q : Nat)] 3)).heap.size) := Nat.le_trans (by have h1 := G6.out.k.size; rw [HB1.out.1] at h1; exact h1) BA.out.size
        go_wp2_with (at_builtin; refine app_int _ rfl _ _ rfl b1 _ ref rfl GA.out.r ⟨w6.heap.size, 0, none⟩ (q : Int) rfl (by simp) (by have := RL.out; omega) SB.out ?_)
        intro g7 c7 w7 o7 gr7 a7 l7
        have G7 : Hid (GvS ks Y (ref ++ [(q : Int)]) b1 z w1 (.slice a1 Y.gs.length h1) (.slice a2 Y.os.length h2) (.slice a3 Y.gold.length h3) (.slice a4 Y.us.length h4) (.slice a5 Y.qs.length h5) (.slice (some ⟨g7, 0, none⟩) (ref.length + 1) c7) w7) := GA.out.refuse (by have := HB1.out.2; omega) HB1.out.1 gr7 o7 (by
          rcases a7 with h | h
          · exact .inl h.symm
          · exact .inr ⟨g7, rfl, by rw [h]; simp⟩)
        clear o7 gr7 a7 l7
        go_wp2
        go_round
        case rel => exact ⟨q + 1, _, _, _, _, _, by omega, by go_num, by rw [NX.out]; have := RL.out; simp; omega, by rw [NX.out]; exact G7.out⟩
        case measure => simp [intOf]; omega
      · have FI : Hid (Y.us.findIdx? (askU o) = some i ∧ Y.us[i]? = some u) := ⟨ask_some hu hask hfirst, hu⟩
        obtain ⟨⟨kn, k, hkn, hkk⟩, pn, hpn, hpl⟩ := G5.out.f.units u (List.mem_of_getElem? hu)
        have hap : u.player = o.player := (of_decide_eq_true hask).2
        have KU : Hid (u.kind = (kn : Nat) ∧ ks[kn]? = some k ∧ o.player = (pn : Nat) ∧ pn < Y.gold.length) := ⟨hkn, hkk, by rw [← hap]; exact hpn, hpl⟩
        have hil : i < Y.us.length := (List.getElem?_eq_some_iff.1 hu).1
        have hkl : kn < ks.length := (List.getElem?_eq_some_iff.1 hkk).1
        have G1 : Hid (given1 ks Y o = if mayB ks Y k o = true then some (if o.what = 3 then hired ks Y o else sentW Y i u o) else none) := by
          unfold Hid given1
          rw [FI.out.1]
          simp only [FI.out.2]
          rw [KU.out.1, Int.toNat_natCast]
          simp only [KU.out.2.1]
        obtain ⟨gu, cap, urest, e4, hgu, hc1, hc2, hc3, hub⟩ : ∃ gu cap rest, Value.slice a4 Y.us.length h4 = .slice (some ⟨gu, 0, none⟩) Y.us.length cap ∧ b1 ≤ gu ∧ Y.us.length ≤ cap ∧ cap ≤ maxLen ∧ Y.us.length * 8 + rest.length = cap * 8 ∧ Ub w5 gu Y.us rest := by
          rcases G5.out.o4.ub with ⟨-, h⟩ | ⟨gu, cap, rest, h⟩
          · rw [h] at hil; simp at hil
          · exact ⟨gu, cap, rest, h⟩
        injection e4 with e41 e42 e43
        subst e41 e43
        have UG : Hid (b1 ≤ gu ∧ Y.us.length ≤ h4 ∧ h4 ≤ maxLen ∧ Y.us.length * 8 + urest.length = h4 * 8 ∧ Ub w5 gu Y.us urest) := ⟨hgu, hc1, hc2, hc3, hub⟩
        have UB : Hid (∀ V, Below w5.heap.size w5 V → Ub V gu Y.us urest) := fun V hV => hub.below hV hub.lt
        obtain ⟨xk, rfl, hxk1, hxk⟩ : ∃ xk, pk = some xk ∧ xk.block < w.heap.size ∧ ∀ (i : Nat) k, ks[i]? = some k → Kc w (xk.add (i * 11)) k := by
          obtain ⟨a', c', e', -, -, hx⟩ := K.out
          injection e' with e1' e2' e3'
          subst e1'
          exact hx (by rintro hn; rw [hn] at hkl; simp at hkl)
        have BW : Hid (∀ V, Below w5.heap.size w5 V → Below w.heap.size w V) := fun V hV => (BV.out _ G5.out.k).trans (hV.mono (BV.out _ G5.out.k).size)
        have KX : Hid (∀ V, Below w5.heap.size w5 V → ∀ (j : Nat) kk, ks[j]? = some kk → Kc V (xk.add (j * 11)) kk) := fun V hV j kk hj => (hxk j kk hj).below (BW.out V hV) (by rw [add_block]; exact hxk1)
        have C5 : Hid (∀ V, Below w5.heap.size w5 V → (Wx V z (.int .i64 Y.turn) (.int .i64 Y.next) (.int .i64 Y.wide) (.int .i64 Y.high) (.slice a1 Y.gs.length h1) (.slice a2 Y.os.length h2) (.slice a3 Y.gold.length h3) (.slice (some ⟨gu, 0, none⟩) Y.us.length h4) (.slice a5 Y.qs.length h5) ∧ Unc V ⟨gu, i * 8, none⟩ u ∧ Kc V (xk.add (kn * 11)) k ∧ Orc V ⟨y, 0, none⟩ o)) := fun V hV => ⟨G5.out.x.below hV G5.out.x.lt, (UB.out V hV).unc FI.out.2, KX.out V hV kn k KU.out.2.1, O5.out.below hV O5.out.lt⟩
        have hkni : ((kn : Nat) : Int) < (ks.length : Nat) := by omega
        have hii : ((i : Nat) : Int) < (Y.us.length : Nat) := by omega
        have hi0 : ¬ ((i : Nat) : Int) < 0 := by omega
        have D5 : Hid (Below w5.heap.size w5 { w5 with drawn := w5.drawn + 1 }) := (Below.refl _ _).drew
        clear hu hask hfirst hkk hap hpn hpl hgu hc1 hc2 hc3 hub e42 hxk hxk1 hkn hil hkl
        go_upto_region 11 with fail
        refine wp_region_two [(true, 0), (true, 1), (true, 2), (true, 3), (true, 4), (true, 5), (true, 6), (true, 7), (true, 8), (true, 9), (true, 10), (true, 11), (true, 12), (true, 13), (true, 14), (false, 15)] [(false, 16), (false, 17)] (fun V => Wx V z (.int .i64 Y.turn) (.int .i64 Y.next) (.int .i64 Y.wide) (.int .i64 Y.high) (.slice a1 Y.gs.length h1) (.slice a2 Y.os.length h2) (.slice a3 Y.gold.length h3) (.slice (some ⟨gu, 0, none⟩) Y.us.length h4) (.slice a5 Y.qs.length h5) ∧ Unc V ⟨gu, i * 8, none⟩ u ∧ Kc V (xk.add (kn * 11)) k ∧ Orc V ⟨y, 0, none⟩ o) (by kernel_rfl) (by kernel_rfl) (by kernel_rfl) (by decide +kernel) (by decide +kernel) (C5.out _ D5.out) ?_
        generalize ({ w5 with drawn := w5.drawn + 1 } : World) = w6 at *
        refine headT_read rfl (.int .i64 (i : Nat)) (by go_simp) (fun V hV => by go_simp) ?_
        go_simp
        refine headT_read rfl (.bool false) (by go_simp) (fun V hV => by go_simp) ?_
        go_simp
        refine headT_read rfl (.bool false) (by go_simp) (fun V hV => by go_simp) ?_
        go_simp
        refine headT_read rfl (.slice (some xk) ks.length qk) (by go_simp) (fun V hV => by go_simp) ?_
        go_simp
        refine headT_read rfl (.agg #[.int .i64 Y.turn, .int .i64 Y.next, .int .i64 Y.wide, .int .i64 Y.high, .slice a1 Y.gs.length h1, .slice a2 Y.os.length h2, .slice a3 Y.gold.length h3, .slice (some ⟨gu, 0, none⟩) Y.us.length h4, .slice a5 Y.qs.length h5]) (by go_simp) (fun V hV => by obtain ⟨hX, hU, hK, hO⟩ := hV; obtain ⟨x0, x1, x2, x3, x4, x5, x6, x7, x8⟩ := hX.cells; obtain ⟨y0, y1, y2, y3, y4, y5, y6, y7⟩ := hU; obtain ⟨k0, k1, k2, k3, k4, k5, k6, k7, k8, k9, k10⟩ := hK; obtain ⟨o0, o1, o2, o3⟩ := hO; simp only [Nat.zero_add] at o1 o2 o3; go_simp) ?_
        go_simp
        refine headT_read rfl (.slice (some xk) ks.length qk) (by go_simp) (fun V hV => by go_simp) ?_
        go_simp
        refine headT_read rfl (.pointer (some ⟨z, 7, none⟩)) (by go_simp) (fun V hV => by go_simp) ?_
        go_simp
        refine headT_read rfl (.slice (some ⟨gu, 0, none⟩) Y.us.length h4) (by go_simp) (fun V hV => by obtain ⟨hX, hU, hK, hO⟩ := hV; obtain ⟨x0, x1, x2, x3, x4, x5, x6, x7, x8⟩ := hX.cells; obtain ⟨y0, y1, y2, y3, y4, y5, y6, y7⟩ := hU; obtain ⟨k0, k1, k2, k3, k4, k5, k6, k7, k8, k9, k10⟩ := hK; obtain ⟨o0, o1, o2, o3⟩ := hO; simp only [Nat.zero_add] at o1 o2 o3; go_simp) ?_
        go_simp
        refine headT_read rfl (.int .i64 (i : Nat)) (by go_simp) (fun V hV => by go_simp) ?_
        go_simp
        refine headT_read rfl (.pointer (some ⟨gu, i * 8, none⟩)) (by go_simp) (fun V hV => by go_simp) ?_
        go_simp
        refine headT_read rfl (.pointer (some ⟨gu, i * 8 + 2, none⟩)) (by go_simp) (fun V hV => by go_simp) ?_
        go_simp
        refine headT_read rfl (.int .i64 (kn : Nat)) (by go_simp) (fun V hV => by obtain ⟨hX, hU, hK, hO⟩ := hV; obtain ⟨x0, x1, x2, x3, x4, x5, x6, x7, x8⟩ := hX.cells; obtain ⟨y0, y1, y2, y3, y4, y5, y6, y7⟩ := hU; obtain ⟨k0, k1, k2, k3, k4, k5, k6, k7, k8, k9, k10⟩ := hK; obtain ⟨o0, o1, o2, o3⟩ := hO; simp only [Nat.zero_add] at o1 o2 o3; rw [KU.out.1] at y2; go_simp) ?_
        go_simp
        refine headT_read rfl (.pointer (some (xk.add (kn * 11)))) (by go_simp) (fun V hV => by go_simp) ?_
        go_simp
        refine headT_read rfl (.agg #[.string k.b, .int .i64 k.n0, .int .i64 k.n1, .int .i64 k.n2, .int .i64 k.n3, .int .i64 k.n4, .int .i64 k.n5, .int .i64 k.n6, .int .i64 k.n7, .bool k.f, .bool k.t]) (by go_simp) (fun V hV => by obtain ⟨hX, hU, hK, hO⟩ := hV; obtain ⟨x0, x1, x2, x3, x4, x5, x6, x7, x8⟩ := hX.cells; obtain ⟨y0, y1, y2, y3, y4, y5, y6, y7⟩ := hU; obtain ⟨k0, k1, k2, k3, k4, k5, k6, k7, k8, k9, k10⟩ := hK; obtain ⟨o0, o1, o2, o3⟩ := hO; simp only [Nat.zero_add] at o1 o2 o3; go_simp) ?_
        go_simp
        refine headT_read rfl (.agg #[.int .i64 o.player, .int .i64 o.unit, .int .i64 o.what, .int .i64 o.arg]) (by go_simp) (fun V hV => by obtain ⟨hX, hU, hK, hO⟩ := hV; obtain ⟨x0, x1, x2, x3, x4, x5, x6, x7, x8⟩ := hX.cells; obtain ⟨y0, y1, y2, y3, y4, y5, y6, y7⟩ := hU; obtain ⟨k0, k1, k2, k3, k4, k5, k6, k7, k8, k9, k10⟩ := hK; obtain ⟨o0, o1, o2, o3⟩ := hO; simp only [Nat.zero_add] at o1 o2 o3; go_simp) ?_
        go_simp
        refine headT_call rfl 71 #[.slice (some xk) ks.length qk, .agg #[.int .i64 Y.turn, .int .i64 Y.next, .int .i64 Y.wide, .int .i64 Y.high, .slice a1 Y.gs.length h1, .slice a2 Y.os.length h2, .slice a3 Y.gold.length h3, .slice (some ⟨gu, 0, none⟩) Y.us.length h4, .slice a5 Y.qs.length h5], .agg #[.string k.b, .int .i64 k.n0, .int .i64 k.n1, .int .i64 k.n2, .int .i64 k.n3, .int .i64 k.n4, .int .i64 k.n5, .int .i64 k.n6, .int .i64 k.n7, .bool k.f, .bool k.t], .agg #[.int .i64 o.player, .int .i64 o.unit, .int .i64 o.what, .int .i64 o.arg]] (by go_simp) (by go_simp) ?_
        have GW : Hid (GvS ks Y ref b1 z w1 (.slice a1 Y.gs.length h1) (.slice a2 Y.os.length h2) (.slice a3 Y.gold.length h3) (.slice (some ⟨gu, 0, none⟩) Y.us.length h4) (.slice a5 Y.qs.length h5) (.slice ra ref.length rc) w6) := G5.out.below D5.out
        refine Calls.mono (maybe_any _ _ ks Y k o w6 (K.out.below (BW.out w6 D5.out)) GW.out.wo.l GW.out.f OBK.out (by rw [KU.out.2.2.1, Int.toNat_natCast]; exact KU.out.2.2.2)) ?_
        rintro e w7 ⟨rfl, b7⟩
        have D7 : Hid (Below w5.heap.size w5 w7) := D5.out.trans (b7.mono D5.out.size)
        refine ⟨_, rfl, C5.out _ D7.out, ?_⟩
        obtain ⟨mb, hmb⟩ : ∃ b, mayB ks Y k o = b := ⟨_, rfl⟩
        have MB : Hid (mayB ks Y k o = mb) := hmb
        rw [hmb]
        clear b7 hmb
        go_simp
        refine sched_value rfl (.bool (!mb)) w7 (by go_simp) (by go_simp) trivial ?_
        go_simp
        refine sched_value rfl (.bool (!mb)) w7 (by go_simp) (by go_simp) trivial ?_
        go_simp
        unfold wpSched
        have G7' : Hid (GvS ks Y ref b1 z w1 (.slice a1 Y.gs.length h1) (.slice a2 Y.os.length h2) (.slice a3 Y.gold.length h3) (.slice (some ⟨gu, 0, none⟩) Y.us.length h4) (.slice a5 Y.qs.length h5) (.slice ra ref.length rc) w7) := G5.out.below D7.out
        cases mb with
        | false =>
          have GN : Hid (given1 ks Y o = none) := by unfold Hid; rw [G1.out, MB.out]; simp
          have NX : Hid (gv ks X out (q + 1) = (Y, ref ++ [(q : Int)])) := by
            have h9 := gv_no (ks := ks) (Y := X) HO.out (by rw [HY.out.1]; exact GN.out)
            unfold Hid
            rw [h9, HY.out.1, HY.out.2]
          have BA : Hid (Below w7.heap.size w7 (w7.alloc (Obj.cells #[.int .i64 (q : Nat)] 3))) := (Below.refl _ _).alloc (Nat.le_refl _) _
          have GA : Hid (GvS ks Y ref b1 z w1 (.slice a1 Y.gs.length h1) (.slice a2 Y.os.length h2) (.slice a3 Y.gold.length h3) (.slice (some ⟨gu, 0, none⟩) Y.us.length h4) (.slice a5 Y.qs.length h5) (.slice ra ref.length rc) (w7.alloc (Obj.cells #[.int .i64 (q : Nat)] 3))) := G7'.out.below BA.out
          have SB : Hid (b1 ≤ (w7.alloc (Obj.cells #[.int .i64 (q : Nat)] 3)).heap.size) := Nat.le_trans (by have h1 := G7'.out.k.size; rw [HB1.out.1] at h1; exact h1) BA.out.size
          go_wp2_with (at_builtin; refine app_int _ rfl _ _ rfl b1 _ ref rfl GA.out.r ⟨w7.heap.size, 0, none⟩ (q : Int) rfl (by simp) (by have := RL.out; omega) SB.out ?_)
          intro g7 c7 w8 o7 gr7 a7 l7
          have G8 : Hid (GvS ks Y (ref ++ [(q : Int)]) b1 z w1 (.slice a1 Y.gs.length h1) (.slice a2 Y.os.length h2) (.slice a3 Y.gold.length h3) (.slice (some ⟨gu, 0, none⟩) Y.us.length h4) (.slice a5 Y.qs.length h5) (.slice (some ⟨g7, 0, none⟩) (ref.length + 1) c7) w8) := GA.out.refuse (by have := HB1.out.2; omega) HB1.out.1 gr7 o7 (by
            rcases a7 with h | h
            · exact .inl h.symm
            · exact .inr ⟨g7, rfl, by rw [h]; simp⟩)
          clear o7 gr7 a7 l7
          go_wp2
          go_round
          case rel => exact ⟨q + 1, _, _, _, _, _, by omega, by go_num, by rw [NX.out]; have := RL.out; simp; omega, by rw [NX.out]; exact G8.out⟩
          case measure => simp [intOf]; omega
        | true =>
          have GY : Hid (given1 ks Y o = some (if o.what = 3 then hired ks Y o else sentW Y i u o)) := by unfold Hid; rw [G1.out, MB.out]; simp
          obtain ⟨c0, c1, c2, c3⟩ := (C5.out _ D7.out).2.2.2
          simp only [Nat.zero_add] at c1 c2 c3
          by_cases hw3 : o.what = 3
          · have hw3b : (o.what == 3) = true := beq_iff_eq.2 hw3
            have HW3 : Hid (o.what = 3) := hw3
            have M3 : Hid (k.t = true ∧ o.arg < (ks.length : Int) ∧ priceOf ks o.arg ≤ Y.gold.getD o.player.toNat 0 ∧ Y.qs.length < 12) := by
              have h9 := MB.out
              unfold mayB at h9
              rw [if_neg (by omega), if_neg (by omega), if_pos hw3] at h9
              unfold Hid
              exact of_decide_eq_true h9
            have A0 : 0 ≤ o.arg := by have h9 := Od.ok_of OBK.out; omega
            obtain ⟨an, han⟩ : ∃ an : Nat, o.arg = an := ⟨o.arg.toNat, by omega⟩
            obtain ⟨kk, hkk⟩ : ∃ kk, ks[an]? = some kk := ⟨_, List.getElem?_eq_getElem (by have := M3.out.2.1; omega)⟩
            have AK : Hid (o.arg = (an : Nat) ∧ ks[an]? = some kk) := ⟨han, hkk⟩
            have hani : ((an : Nat) : Int) < (ks.length : Nat) := by have := M3.out.2.1; omega
            obtain ⟨g, hgp⟩ : ∃ g, Y.gold[pn]? = some g := ⟨_, List.getElem?_eq_getElem KU.out.2.2.2⟩
            have GP : Hid (Y.gold[pn]? = some g) := hgp
            obtain ⟨gg, cg, grest, e3, hgg, hd1, hd2, hd3, hbk⟩ : ∃ g cap rest, Value.slice a3 Y.gold.length h3 = .slice (some ⟨g, 0, none⟩) Y.gold.length cap ∧ b1 ≤ g ∧ Y.gold.length ≤ cap ∧ cap ≤ maxLen ∧ Y.gold.length + rest.size = cap ∧ Bk w7 g Y.gold rest := by
              rcases G7'.out.o3.bk with ⟨-, h⟩ | h
              · have := KU.out.2.2.2; rw [h] at this; simp at this
              · exact h
            injection e3 with e31 e32 e33
            subst e31 e33
            have GG : Hid (b1 ≤ gg ∧ Y.gold.length ≤ h3 ∧ h3 ≤ maxLen ∧ Y.gold.length + grest.size = h3 ∧ Bk w7 gg Y.gold grest) := ⟨hgg, hd1, hd2, hd3, hbk⟩
            have EG : Hid ((hired ks Y o).gold = Y.gold.set pn (g - kk.n5)) := by
              unfold Hid hired priceOf
              simp only [KU.out.2.2.1, AK.out.1, Int.toNat_natCast, AK.out.2, List.getD_eq_getElem?_getD, GP.out, Option.getD_some]
            have EQ : Hid ((hired ks Y o).qs = Y.qs ++ [⟨o.player, o.unit, o.arg, max kk.n6 1⟩]) := by
              unfold Hid hired turnsOf
              simp only [AK.out.1, Int.toNat_natCast, AK.out.2]
            have NX : Hid (gv ks X out (q + 1) = (hired ks Y o, ref)) := by
              have h9 := gv_yes (ks := ks) (Y := X) HO.out (Z := hired ks Y o) (by rw [HY.out.1, GY.out, if_pos hw3])
              unfold Hid
              rw [h9, HY.out.2]
            have CE : Hid (∀ V, Below w7.heap.size w7 V → (Kc V (xk.add (an * 11)) kk ∧ Orc V ⟨y, 0, none⟩ o)) := fun V hV => ⟨KX.out V (D7.out.trans (hV.mono D7.out.size)) an kk AK.out.2, (C5.out V (D7.out.trans (hV.mono D7.out.size))).2.2.2⟩
            have D8 : Hid (Below w7.heap.size w7 { w7 with drawn := w7.drawn + 1 }) := (Below.refl _ _).drew
            clear hw3 A0 han hkk hgp hgg hd1 hd2 hd3 hbk e32
            go_upto_region 14 with fail
            clear c0 c1 c2 c3 hw3b
            refine wp_region_two [(true, 0), (true, 1), (true, 2), (true, 3), (true, 4), (true, 5)] [(false, 6)] (fun V => Kc V (xk.add (an * 11)) kk ∧ Orc V ⟨y, 0, none⟩ o) (by kernel_rfl) (by kernel_rfl) (by kernel_rfl) (by decide +kernel) (by decide +kernel) (CE.out _ D8.out) ?_
            generalize ({ w7 with drawn := w7.drawn + 1 } : World) = w8 at *
            refine headT_read rfl (.slice (some xk) ks.length qk) (by go_simp) (fun V hV => by go_simp) ?_
            go_simp
            refine headT_read rfl (.pointer (some ⟨y, 3, none⟩)) (by go_simp) (fun V hV => by go_simp) ?_
            go_simp
            refine headT_read rfl (.int .i64 (an : Nat)) (by go_simp) (fun V hV => by obtain ⟨hK, hO⟩ := hV; obtain ⟨o0, o1, o2, o3⟩ := hO; simp only [Nat.zero_add] at o1 o2 o3; rw [AK.out.1] at o3; go_simp) ?_
            go_simp
            refine headT_read rfl (.pointer (some (xk.add (an * 11)))) (by go_simp) (fun V hV => by go_simp) ?_
            go_simp
            refine headT_read rfl (.agg #[.string kk.b, .int .i64 kk.n0, .int .i64 kk.n1, .int .i64 kk.n2, .int .i64 kk.n3, .int .i64 kk.n4, .int .i64 kk.n5, .int .i64 kk.n6, .int .i64 kk.n7, .bool kk.f, .bool kk.t]) (by go_simp) (fun V hV => by obtain ⟨hK, hO⟩ := hV; obtain ⟨k0, k1, k2, k3, k4, k5, k6, k7, k8, k9, k10⟩ := hK; obtain ⟨o0, o1, o2, o3⟩ := hO; simp only [Nat.zero_add] at o1 o2 o3; go_simp) ?_
            go_simp
            refine headT_read rfl (.agg #[.int .i64 o.player, .int .i64 o.unit, .int .i64 o.what, .int .i64 o.arg]) (by go_simp) (fun V hV => by obtain ⟨hK, hO⟩ := hV; obtain ⟨o0, o1, o2, o3⟩ := hO; simp only [Nat.zero_add] at o1 o2 o3; go_simp) ?_
            go_simp
            unfold wpHeadT
            have G8 : Hid (GvS ks Y ref b1 z w1 (.slice a1 Y.gs.length h1) (.slice a2 Y.os.length h2) (.slice (some ⟨gg, 0, none⟩) Y.gold.length h3) (.slice (some ⟨gu, 0, none⟩) Y.us.length h4) (.slice a5 Y.qs.length h5) (.slice ra ref.length rc) w8) := G7'.out.below D8.out
            have B8 : Hid (Bk w8 gg Y.gold grest) := GG.out.2.2.2.2.below D8.out
            have KM : Hid (0 ≤ kk.n5 ∧ kk.n5 ≤ 1000 ∧ 0 ≤ kk.n6 ∧ kk.n6 ≤ 1000) := G8.out.f.kinds.2 kk (List.mem_of_getElem? AK.out.2)
            refine sched_call rfl 72 #[.pointer (some ⟨z, 0, none⟩), .agg #[.string kk.b, .int .i64 kk.n0, .int .i64 kk.n1, .int .i64 kk.n2, .int .i64 kk.n3, .int .i64 kk.n4, .int .i64 kk.n5, .int .i64 kk.n6, .int .i64 kk.n7, .bool kk.f, .bool kk.t], .agg #[.int .i64 o.player, .int .i64 o.unit, .int .i64 o.what, .int .i64 o.arg]] (by go_simp) (by go_simp) ?_
            refine Calls.mono (hire_any z gg Y.gold.length h3 b1 _ _ _ _ _ _ _ Y.gold grest a5 h5 Y.qs kk o pn g w8 G8.out.x B8.out G8.out.o5 KU.out.2.2.1 KU.out.2.2.2 GP.out (G8.out.f.gold g (List.mem_of_getElem? GP.out)) ⟨KM.out.1, KM.out.2.1⟩ KM.out.2.2 G8.out.f.ql (by have := HB1.out.2; omega) GG.out.1 (by have h1 := G8.out.k.size; rw [HB1.out.1] at h1; exact h1) (fun h => G8.out.difs.2.2.1.2.1 gg rfl h)) ?_
            rintro e w9 ⟨rfl, a8', h8', hx, hbk, hj, hf, hn⟩
            refine ⟨_, rfl, trivial, ?_⟩
            have G9 : Hid (GvS ks (hired ks Y o) ref b1 z w1 (.slice a1 Y.gs.length h1) (.slice a2 Y.os.length h2) (.slice (some ⟨gg, 0, none⟩) Y.gold.length h3) (.slice (some ⟨gu, 0, none⟩) Y.us.length h4) (.slice a8' (Y.qs.length + 1) h8') (.slice ra ref.length rc) w9) := G8.out.hire (pn := pn) (g := g) (rest := grest) (by have := HB1.out.2; omega) HB1.out.1 GG.out.1 GG.out.2.1 GG.out.2.2.1 GG.out.2.2.2.1 hx (by rw [EG.out]; exact hbk) (by rw [EQ.out]; exact hj) hf hn (G8.out.f.hire M3.out.2.2.1 (by rw [KU.out.2.2.1, Int.toNat_natCast]; exact KU.out.2.2.2) M3.out.2.2.2)
            clear hx hbk hj hf hn
            go_simp
            unfold wpSched
            go_wp2
            go_round
            case rel => exact ⟨q + 1, _, _, _, _, _, by omega, by go_num, by rw [NX.out]; have := RL.out; show ref.length ≤ q + 1; omega, by rw [NX.out]; exact G9.out⟩
            case measure => simp [intOf]; omega
          · have hw3b : (o.what == 3) = false := beq_eq_false_iff_ne.2 hw3
            have NX : Hid (gv ks X out (q + 1) = (sentW Y i u o, ref)) := by
              have h9 := gv_yes (ks := ks) (Y := X) HO.out (Z := sentW Y i u o) (by rw [HY.out.1, GY.out, if_neg hw3])
              unfold Hid
              rw [h9, HY.out.2]
            have WH : Hid (o.what = 0 ∧ o.arg = 0 ∨ o.what = 1 ∨ o.what = 2) := by have h9 := Od.ok_of OBK.out; unfold Hid; omega
            have CE : Hid (∀ V, Below w7.heap.size w7 V → (Wx V z (.int .i64 Y.turn) (.int .i64 Y.next) (.int .i64 Y.wide) (.int .i64 Y.high) (.slice a1 Y.gs.length h1) (.slice a2 Y.os.length h2) (.slice a3 Y.gold.length h3) (.slice (some ⟨gu, 0, none⟩) Y.us.length h4) (.slice a5 Y.qs.length h5) ∧ Unc V ⟨gu, i * 8, none⟩ u ∧ Kc V (xk.add (kn * 11)) k ∧ Orc V ⟨y, 0, none⟩ o)) := fun V hV => C5.out V (D7.out.trans (hV.mono D7.out.size))
            have D8 : Hid (Below w7.heap.size w7 { w7 with drawn := w7.drawn + 1 }) := (Below.refl _ _).drew
            clear hw3
            go_upto_region 15 with fail
            clear c0 c1 c2 c3
            refine wp_region_two [(true, 0), (true, 1), (true, 2), (true, 3), (true, 4)] [(false, 5)] (fun V => Wx V z (.int .i64 Y.turn) (.int .i64 Y.next) (.int .i64 Y.wide) (.int .i64 Y.high) (.slice a1 Y.gs.length h1) (.slice a2 Y.os.length h2) (.slice a3 Y.gold.length h3) (.slice (some ⟨gu, 0, none⟩) Y.us.length h4) (.slice a5 Y.qs.length h5) ∧ Unc V ⟨gu, i * 8, none⟩ u ∧ Kc V (xk.add (kn * 11)) k ∧ Orc V ⟨y, 0, none⟩ o) (by kernel_rfl) (by kernel_rfl) (by kernel_rfl) (by decide +kernel) (by decide +kernel) (CE.out _ D8.out) ?_
            generalize ({ w7 with drawn := w7.drawn + 1 } : World) = w8 at *
            refine headT_read rfl (.pointer (some ⟨z, 7, none⟩)) (by go_simp) (fun V hV => by go_simp) ?_
            go_simp
            refine headT_read rfl (.slice (some ⟨gu, 0, none⟩) Y.us.length h4) (by go_simp) (fun V hV => by obtain ⟨hX, hU, hK, hO⟩ := hV; obtain ⟨x0, x1, x2, x3, x4, x5, x6, x7, x8⟩ := hX.cells; obtain ⟨y0, y1, y2, y3, y4, y5, y6, y7⟩ := hU; obtain ⟨k0, k1, k2, k3, k4, k5, k6, k7, k8, k9, k10⟩ := hK; obtain ⟨o0, o1, o2, o3⟩ := hO; simp only [Nat.zero_add] at o1 o2 o3; go_simp) ?_
            go_simp
            refine headT_read rfl (.int .i64 (i : Nat)) (by go_simp) (fun V hV => by go_simp) ?_
            go_simp
            refine headT_read rfl (.pointer (some ⟨gu, i * 8, none⟩)) (by go_simp) (fun V hV => by go_simp) ?_
            go_simp
            refine headT_read rfl (.agg #[.int .i64 o.player, .int .i64 o.unit, .int .i64 o.what, .int .i64 o.arg]) (by go_simp) (fun V hV => by obtain ⟨hX, hU, hK, hO⟩ := hV; obtain ⟨x0, x1, x2, x3, x4, x5, x6, x7, x8⟩ := hX.cells; obtain ⟨y0, y1, y2, y3, y4, y5, y6, y7⟩ := hU; obtain ⟨k0, k1, k2, k3, k4, k5, k6, k7, k8, k9, k10⟩ := hK; obtain ⟨o0, o1, o2, o3⟩ := hO; simp only [Nat.zero_add] at o1 o2 o3; go_simp) ?_
            go_simp
            unfold wpHeadT
            have G8 : Hid (GvS ks Y ref b1 z w1 (.slice a1 Y.gs.length h1) (.slice a2 Y.os.length h2) (.slice a3 Y.gold.length h3) (.slice (some ⟨gu, 0, none⟩) Y.us.length h4) (.slice a5 Y.qs.length h5) (.slice ra ref.length rc) w8) := G7'.out.below D8.out
            refine sched_call rfl 73 #[.pointer (some ⟨gu, i * 8, none⟩), .agg #[.int .i64 o.player, .int .i64 o.unit, .int .i64 o.what, .int .i64 o.arg]] (by go_simp) (by go_simp) ?_
            refine Calls.mono (send_any gu i Y.us urest u o w8 (UB.out _ (D7.out.trans (D8.out.mono D7.out.size))) FI.out.2 WH.out) ?_
            rintro e w9 ⟨rfl, hub, hkp⟩
            refine ⟨_, rfl, trivial, ?_⟩
            have G9 : Hid (GvS ks (sentW Y i u o) ref b1 z w1 (.slice a1 Y.gs.length h1) (.slice a2 Y.os.length h2) (.slice a3 Y.gold.length h3) (.slice (some ⟨gu, 0, none⟩) Y.us.length h4) (.slice a5 Y.qs.length h5) (.slice ra ref.length rc) w9) := G8.out.send (by have := HB1.out.2; omega) HB1.out.1 FI.out.2 UG.out.1 UG.out.2.1 UG.out.2.2.1 UG.out.2.2.2.1 hub hkp
            clear hub hkp
            go_simp
            unfold wpSched
            go_wp2
            go_round
            case rel => exact ⟨q + 1, _, _, _, _, _, by omega, by go_num, by rw [NX.out]; have := RL.out; show ref.length ≤ q + 1; omega, by rw [NX.out]; exact G9.out⟩
            case measure => simp [intOf]; omega
end Go.Proofs.YteieikgkmfglaaaGreatDoor

namespace Go.Proofs.YteieikgkmfglaaaGreatDoor
open Go.RowKit
set_option linter.unusedVariables false
set_option maxRecDepth 100000

theorem im_law : Maps.Keyed Tryz.prog 3 := Maps.int_keyed Tryz.underlying3
theorem im_key {p : Int} (hp : (Lit.int .i64 p).wf = true) : ∃ kl, keyOf Tryz.prog 3 (.int .i64 p) = some kl := ⟨_, Maps.keyOf_int_mk Tryz.underlying3 hp⟩
theorem im_zero (w : World) : (zeroValue 3).run Tryz.prog w = .ok (.int .i64 0) w := by kernel_rfl
theorem wfi64 {n : Int} (h0 : -9223372036854775808 ≤ n) (h1 : n ≤ 9223372036854775807) : (Lit.int .i64 n).wf = true := WalkArith.wf_i64 (by omega)
/-- block b is a map: f tells what stands at each number. -/
def Im (w : World) (b n : Nat) (f : Int → Int) : Prop := ∃ D : DataW Unit, w.ownsMap Tryz.prog 3 (plainElem Tryz.prog 3) b n D ∧ Maps.IsMap D ∧ ∀ p kl, keyOf Tryz.prog 3 (.int .i64 p) = some kl → D.atKey kl (.lit (.int .i64 0)) = .lit (.int .i64 (f p))
def updI (f : Int → Int) (p v : Int) : Int → Int := fun p' => if p' = p then v else f p'
theorem im_made (w : World) : Im (w.alloc (.map #[] 0)) w.heap.size 0 (fun _ => 0) :=
  ⟨.map [], World.ownsMap_made _ _ _ _, Maps.isMap_empty, fun p kl _ => Maps.atKey_of_not_has rfl _⟩
theorem Im.lt {w : World} {b n : Nat} {f : Int → Int} (h : Im w b n f) : b < w.heap.size := by
  obtain ⟨D, h1, -⟩ := h
  exact h1.lt
theorem Im.gb {w w' : World} {b n : Nat} {f : Int → Int} {r : Option Nat} (h : Im w b n f) (g : w.grownBy w' r) (hr : some b ≠ r) : Im w' b n f := by
  obtain ⟨D, h1, h2⟩ := h
  exact ⟨D, h1.kept g hr, h2⟩
theorem Im.below {w w' : World} {b n : Nat} {f : Int → Int} (h : Im w b n f) (g : Below w.heap.size w w') : Im w' b n f :=
  h.gb (r := none) ⟨g.os, g.tape, g.output, g.size, fun k hk _ => g.block k hk⟩ (by simp)
theorem Im.put {w : World} {b n : Nat} {f : Int → Int} (h : Im w b n f) (hn : n < maxLen) {p v : Int} (hp : (Lit.int .i64 p).wf = true) (hv : (Lit.int .i64 v).wf = true) :
    ∃ w', (Instr.mapUpdate 80 (.map (some b)) (.int .i64 p) (.int .i64 v)).run Tryz.prog w = .ok () w' ∧ Im w' b (n + 1) (updI f p v) ∧ w.grownBy w' (some b) := by
  obtain ⟨D, h1, hD, h2⟩ := h
  obtain ⟨kl, hk⟩ := im_key hp
  obtain ⟨w', r, o, g⟩ := World.ownsMap.update h1 im_law Tryz.underlying80 hn hk (plainElem_int Tryz.underlying3 hv)
  refine ⟨w', r, ⟨_, o, hD.put _ _, fun p' kl' hk' => ?_⟩, g⟩
  unfold updI
  by_cases e : kl' = kl
  · subst e
    have ei := im_law.inj hk hk'
    simp only [Value.int.injEq, true_and] at ei
    rw [if_pos ei.symm]
    exact Maps.atKey_put_same hD (im_law.key hk) _ _
  · rw [Maps.atKey_put_other e, if_neg, h2 p' kl' hk']
    rintro rfl
    exact e (Option.some.inj (hk'.symm.trans hk))
theorem Im.look {w : World} {b n : Nat} {f : Int → Int} (h : Im w b n f) {p : Int} (hp : (Lit.int .i64 p).wf = true) :
    (Instr.lookup 80 (.map (some b)) (.int .i64 p) false).run Tryz.prog w = .ok (.int .i64 (f p)) w := by
  obtain ⟨D, h1, hD, h2⟩ := h
  obtain ⟨kl, hk⟩ := im_key hp
  obtain ⟨c, hr, hat, -⟩ := h1.lookup_int im_law Tryz.underlying80 Tryz.underlying3 (im_zero w) hk
  rw [h2 p kl hk] at hat
  injection hat with e
  injection e with _ e
  rw [e]
  exact hr
end Go.Proofs.YteieikgkmfglaaaGreatDoor

namespace Go.Proofs.YteieikgkmfglaaaGreatDoor
open Go.RowKit
set_option linter.unusedVariables false

set_option maxRecDepth 100000 in
set_option maxHeartbeats 4000000 in
theorem isfirst_any (j : JbV) (bc bm n : Nat) (f : Int → Int) (w : World) (hc : w.cell? ⟨bc, 0, none⟩ = some (.map (some bm))) (hm : Im w bm n f) (hne : bc ≠ bm) (hn : n ≤ 1000) (hf : 0 ≤ f j.unit ∧ f j.unit ≤ 1000) (hu : (Lit.int .i64 j.unit).wf = true) :
    Calls Tryz.prog 37 #[j.val, .pointer (some ⟨bc, 0, none⟩)] w fun e w' => ∃ b : Bool, b = (f j.unit == 0) ∧ e = .returned (.bool b) ∧ Im w' bm (n + 1) (updI f j.unit (f j.unit + 1)) ∧ Fr (fun q => q = bm) w w' := by
  have HC : Hid (w.cell? ⟨bc, 0, none⟩ = some (.map (some bm))) := hc
  have HM : Hid (Im w bm n f) := hm
  have WF : Hid ((Lit.int .i64 j.unit).wf = true ∧ (Lit.int .i64 (f j.unit + 1)).wf = true) := ⟨hu, wfi64 (by omega) (by omega)⟩
  obtain ⟨fu, hfu⟩ : ∃ x, f j.unit = x := ⟨_, rfl⟩
  have FU : Hid (f j.unit = fu) := hfu
  rw [hfu] at hf
  clear hc hm hu hfu
  unfold JbV.val
  go_enter Tryz.func37, Tryz.ntmps37
  go_upto_region 1 with fail
  have B1 : Hid (Below w.heap.size w (w.alloc (Obj.cells #[.int .i64 j.player, .int .i64 j.unit, .int .i64 j.kind, .int .i64 j.left] 71))) := (Below.refl _ _).alloc (Nat.le_refl _) _
  obtain ⟨z, hz⟩ : ∃ z, w.heap.size = z := ⟨_, rfl⟩
  have X1 : Hid (Jbc (w.alloc (Obj.cells #[.int .i64 j.player, .int .i64 j.unit, .int .i64 j.kind, .int .i64 j.left] 71)) ⟨z, 0, none⟩ j) := Jbc.mk' (w := w) j hz
  have ZM : Hid (bm < z ∧ bc < z) := by unfold Hid; rw [← hz]; exact ⟨HM.out.lt, cell_lt HC.out⟩
  rw [hz]
  clear hz
  generalize w.alloc (Obj.cells #[.int .i64 j.player, .int .i64 j.unit, .int .i64 j.kind, .int .i64 j.left] 71) = w1 at *
  have c1 : w1.cell? ⟨bc, 0, none⟩ = some (.map (some bm)) := by rw [B1.out.cell (p := ⟨bc, 0, none⟩) (cell_lt HC.out)]; exact HC.out
  have m1 := HM.out.below B1.out
  have j1 : w1.cell? ⟨z, 1, none⟩ = some (.int .i64 j.unit) := X1.out.c1
  have l1 := m1.look WF.out.1
  rw [FU.out] at l1
  obtain ⟨w2, u2, o2, g2⟩ := m1.put (by unfold maxLen; omega) WF.out.1 WF.out.2
  rw [FU.out] at u2
  have M2 : Hid (Im w2 bm (n + 1) (updI f j.unit (f j.unit + 1))) := o2
  have G2 : Hid (w1.grownBy w2 (some bm)) := g2
  have L2 := o2.look WF.out.1
  have e2 : updI f j.unit (f j.unit + 1) j.unit = fu + 1 := by unfold updI; rw [if_pos rfl, FU.out]
  rw [e2] at L2
  have c2 : w2.cell? ⟨bc, 0, none⟩ = some (.map (some bm)) := by
    have := G2.out.block bc (Nat.lt_trans ZM.out.2 X1.out.lt) (by simp; omega)
    unfold World.cell? at c1 ⊢
    rw [this]
    exact c1
  have j2 : w2.cell? ⟨z, 1, none⟩ = some (.int .i64 j.unit) := by
    have := G2.out.block z X1.out.lt (by simp; have := ZM.out; omega)
    unfold World.cell? at j1 ⊢
    rw [this]
    exact j1
  have wf1 : IntKind.i64.wrap (fu + 1) = fu + 1 := by rw [IntKind.wrap_i64]; omega
  have FR : Hid (Fr (fun q => q = bm) w w2) := (Fr.below B1.out).trans (Fr.gb G2.out (fun k hk => by injection hk with hk; exact hk.symm))
  clear m1 o2 g2 e2
  by_cases h0 : fu = 0
  · subst h0
    simp only [Int.zero_add] at u2 L2 wf1
    go_wp2
    go_ret
    exact ⟨true, by rw [FU.out]; rfl, rfl, by rw [FU.out] at M2; rw [FU.out]; exact M2.out, FR.out⟩
  · have h1 : (fu + 1 == 1) = false := by rw [beq_eq_false_iff_ne]; omega
    have h1' : ¬ fu + 1 = 1 := by omega
    go_wp2
    go_ret
    exact ⟨false, by rw [FU.out]; exact (beq_eq_false_iff_ne.2 h0).symm, rfl, by rw [FU.out] at M2; rw [FU.out]; exact M2.out, FR.out⟩
end Go.Proofs.YteieikgkmfglaaaGreatDoor

namespace Go.Proofs.YteieikgkmfglaaaGreatDoor
open Go.RowKit
set_option linter.unusedVariables false

set_option maxRecDepth 100000 in
set_option maxHeartbeats 4000000 in
theorem cplace_any (vk vw : Value) (ks : List KV) (W : WV) (pl kd at_ : Int) (w : World) (hk : Kl w vk ks) (hw : Wl w vw W) (hr : WRight ks W) :
    Calls Tryz.prog 98 #[vk, vw, .int .i64 pl, .int .i64 kd, .int .i64 at_] w fun e w' => ∃ r, e = .returned r ∧ Er r (Wd.placeFault ks W pl kd at_) ∧ Below w.heap.size w w' := by
  have K : Hid (Kl w vk ks) := hk
  have H : Hid (Wl w vw W) := hw
  have R : Hid (WRight ks W) := hr
  obtain ⟨u1, u2, u3, u4, u5, rfl, r1, r2, r3, r4, r5⟩ := hw
  obtain ⟨p1, q1, rfl, -⟩ := r1
  obtain ⟨p2, q2, rfl, -⟩ := r2
  obtain ⟨p3, q3, rfl, -⟩ := r3
  obtain ⟨p4, q4, rfl, -⟩ := r4
  obtain ⟨p5, q5, rfl, -⟩ := r5
  obtain ⟨pk, qk, rfl, -, -, kc⟩ := hk
  have KC : Hid (ks ≠ [] → ∃ x, pk = some x ∧ x.block < w.heap.size ∧ ∀ (i : Nat) k, ks[i]? = some k → Kc w (x.add (i * 11)) k) := kc
  have lk : ks.length ≤ 8 := kinds_len hr.kinds
  have lg : W.gold.length ≤ 4 := (nums_ok hr.nums).2
  have lu : W.us.length ≤ 40 := hr.ul
  have lc : W.gs.length ≤ 144 := by
    obtain ⟨Wn, Hn, -, -, G⟩ := hr.good
    have h1 := G.pos
    have h2 := G.gl
    omega
  clear hr kc
  go_enter Tryz.func98, Tryz.ntmps98
  go_upto_region 1 with fail
  have B0 : Hid (Below w.heap.size w (w.alloc (Obj.cells #[.int .i64 W.turn, .int .i64 W.next, .int .i64 W.wide, .int .i64 W.high, .slice p1 W.gs.length q1, .slice p2 W.os.length q2, .slice p3 W.gold.length q3, .slice p4 W.us.length q4, .slice p5 W.qs.length q5] 29))) := (Below.refl _ _).alloc (Nat.le_refl _) _
  have X0 : Hid (Bw (w.alloc (Obj.cells #[.int .i64 W.turn, .int .i64 W.next, .int .i64 W.wide, .int .i64 W.high, .slice p1 W.gs.length q1, .slice p2 W.os.length q2, .slice p3 W.gold.length q3, .slice p4 W.us.length q4, .slice p5 W.qs.length q5] 29)) w.heap.size W (.slice p1 W.gs.length q1) (.slice p2 W.os.length q2) (.slice p3 W.gold.length q3) (.slice p4 W.us.length q4) (.slice p5 W.qs.length q5)) := Bw.mk' W _ _ _ _ _ rfl
  generalize (w.alloc (Obj.cells #[.int .i64 W.turn, .int .i64 W.next, .int .i64 W.wide, .int .i64 W.high, .slice p1 W.gs.length q1, .slice p2 W.os.length q2, .slice p3 W.gold.length q3, .slice p4 W.us.length q4, .slice p5 W.qs.length q5] 29)) = w0 at *
  obtain ⟨x0, x1, x2, x3, x4, x5, x6, x7, x8⟩ := X0.out
  by_cases h40 : (40 : Int) ≤ (W.us.length : Int)
  · go_wp2
    go_ret
    exact ⟨_, rfl, by rw [Wd.pf4 (.inl h40)]; exact Er.no (by decide), B0.out⟩
  by_cases hnx : (1000000 : Int) ≤ W.next
  · go_wp2
    go_ret
    exact ⟨_, rfl, by rw [Wd.pf4 (.inr hnx)]; exact Er.no (by decide), B0.out⟩
  have HF : Hid (¬ (40 ≤ (W.us.length : Int) ∨ 1000000 ≤ W.next)) := fun h => h.elim h40 hnx
  by_cases h1 : 0 ≤ pl ∧ pl < (W.gold.length : Int)
  case neg =>
    have t1 : decide (0 ≤ pl ∧ pl < (W.gold.length : Int)) = false := decide_eq_false h1
    have F : Hid (Wd.placeFault ks W pl kd at_ = 1) := Wd.pf1 HF.out (.inl h1)
    clear h1
    go_wp2_with fail
    refine (isone_ints _ _ _ _ _ (by omega)).mono ?_
    rintro e w1 ⟨rfl, hww⟩
    obtain rfl := hww.symm
    rw [t1]
    clear t1
    go_wp2
    go_ret
    exact ⟨_, rfl, by rw [F.out]; exact Er.no (by decide), B0.out⟩
  have t1 : decide (0 ≤ pl ∧ pl < (W.gold.length : Int)) = true := decide_eq_true h1
  have H1 : Hid (0 ≤ pl ∧ pl < (W.gold.length : Int)) := h1
  clear h1
  go_wp2_with fail
  refine (isone_ints _ _ _ _ _ (by omega)).mono ?_
  rintro e w1 ⟨rfl, hww⟩
  obtain rfl := hww.symm
  rw [t1]
  clear t1
  by_cases h2 : 0 ≤ kd ∧ kd < (ks.length : Int)
  case neg =>
    have t1 : decide (0 ≤ kd ∧ kd < (ks.length : Int)) = false := decide_eq_false h2
    have F : Hid (Wd.placeFault ks W pl kd at_ = 1) := Wd.pf1 HF.out (.inr h2)
    clear h2
    go_wp2_with fail
    refine (isone_kinds _ _ _ _ _ (by omega)).mono ?_
    rintro e w1 ⟨rfl, hww⟩
    obtain rfl := hww.symm
    rw [t1]
    clear t1
    go_wp2
    go_ret
    exact ⟨_, rfl, by rw [F.out]; exact Er.no (by decide), B0.out⟩
  have t1 : decide (0 ≤ kd ∧ kd < (ks.length : Int)) = true := decide_eq_true h2
  have H2 : Hid (0 ≤ kd ∧ kd < (ks.length : Int)) := h2
  clear h2
  go_wp2_with fail
  refine (isone_kinds _ _ _ _ _ (by omega)).mono ?_
  rintro e w1 ⟨rfl, hww⟩
  obtain rfl := hww.symm
  rw [t1]
  clear t1
  by_cases h3 : 0 ≤ at_ ∧ at_ < (W.gs.length : Int)
  case neg =>
    have t1 : decide (0 ≤ at_ ∧ at_ < (W.gs.length : Int)) = false := decide_eq_false h3
    have F : Hid (Wd.placeFault ks W pl kd at_ = 6) := Wd.pf6 HF.out H1.out H2.out h3
    clear h3
    go_wp2_with fail
    refine (isone_ints _ _ _ _ _ (by omega)).mono ?_
    rintro e w1 ⟨rfl, hww⟩
    obtain rfl := hww.symm
    rw [t1]
    clear t1
    go_wp2
    go_ret
    exact ⟨_, rfl, by rw [F.out]; exact Er.no (by decide), B0.out⟩
  have t1 : decide (0 ≤ at_ ∧ at_ < (W.gs.length : Int)) = true := decide_eq_true h3
  have H3 : Hid (0 ≤ at_ ∧ at_ < (W.gs.length : Int)) := h3
  go_wp2_with fail
  refine (isone_ints _ _ _ _ _ (by omega)).mono ?_
  rintro e w1 ⟨rfl, hww⟩
  obtain rfl := hww.symm
  rw [t1]
  clear t1
  obtain ⟨an, ea⟩ : ∃ an : Nat, at_ = an := ⟨at_.toNat, by omega⟩
  obtain ⟨kn, ek⟩ : ∃ kn : Nat, kd = kn := ⟨kd.toNat, by have := H2.out; omega⟩
  subst ea
  subst ek
  have hkl : kn < ks.length := by have := H2.out; omega
  have hki : (kn : Int) < (ks.length : Int) := by omega
  obtain ⟨k, hk⟩ : ∃ k, ks[kn]? = some k := ⟨_, List.getElem?_eq_getElem hkl⟩
  obtain ⟨g, hg0⟩ : ∃ g, W.gs[an]? = some g := ⟨_, List.getElem?_eq_getElem (by omega)⟩
  have FK : Hid (Wd.placeFault ks W pl (kn : Nat) (an : Nat) = if Wd.open_ W.gs W.us (an : Nat) k.f = false then 7 else 0) := Wd.pfk HF.out H1.out H2.out H3.out (by simpa using hk)
  have hgan : Hid (W.gs[an]? = some g) := hg0
  obtain ⟨xk, rfl, hxl, hxc⟩ := KC.out (by intro e; rw [e] at hkl; simp at hkl)
  have hkc : Hid (Kc w0 (xk.add (kn * 11)) k) := (hxc kn k hk).below B0.out (by rw [add_block]; exact hxl)
  have FC : Hid (∀ V, Below w0.heap.size w0 V → V.cell? ⟨w.heap.size, 2, none⟩ = some (.int .i64 W.wide) ∧ V.cell? ⟨w.heap.size, 3, none⟩ = some (.int .i64 W.high) ∧ V.cell? ⟨w.heap.size, 4, none⟩ = some (.slice p1 W.gs.length q1) ∧ V.cell? ⟨w.heap.size, 5, none⟩ = some (.slice p2 W.os.length q2) ∧ V.cell? ⟨w.heap.size, 7, none⟩ = some (.slice p4 W.us.length q4) ∧ V.cell? ⟨(xk.add (kn * 11)).block, (xk.add (kn * 11)).off + 9, none⟩ = some (.bool k.f)) := fun V hV => by
    obtain ⟨-, -, z2, z3, z4, z5, -, z7, -⟩ := X0.out.below hV X0.out.lt
    obtain ⟨-, -, -, -, -, -, -, -, -, m9, -⟩ := hkc.out.below hV hkc.out.lt
    exact ⟨z2, z3, z4, z5, z7, m9⟩
  have OPN : Hid (∀ V, Below w0.heap.size w0 V → Calls Tryz.prog 90 #[.agg #[.int .i64 W.wide, .int .i64 W.high, .slice p1 W.gs.length q1, .slice p2 W.os.length q2], .slice p4 W.us.length q4, .int .i64 (an : Nat), .bool k.f] V fun e w' => e = .returned (.bool (Wd.open_ W.gs W.us (an : Nat) k.f)) ∧ Below w0.heap.size w0 w') := fun V hV => by
    have BV : Below w.heap.size w V := B0.out.trans (hV.mono B0.out.size)
    obtain ⟨r1, r2, -, r4, -⟩ := (H.out.below BV).slices
    obtain ⟨Wn, Hn, hWn, hHn, hGood⟩ := R.out.good
    rw [hWn, hHn]
    exact (isopen_any _ _ Wn Hn W.gs W.os W.us an g k.f V ⟨_, _, rfl, r1, r2⟩ hGood r4 (by have := hGood.gl; omega) hgan.out).mono fun e w' ⟨h1, h2⟩ => ⟨h1, hV.trans (h2.mono hV.size)⟩
  have eo : ∀ args w, (callFunc 90 args).run Tryz.prog w = .ok (.enter 90 args) w := by intro args w; go_simp
  clear hxc hk hg0 h3 x0 x1 x2 x3 x4 x5 x6 x7 x8
  go_upto_region 9 with fail
  refine wp_region_class 11 (fun V => Below w0.heap.size w0 V) (by kernel_rfl) (by kernel_rfl) (Below.refl _ _).drew ?_
  simp only [List.take_succ_cons, List.take_zero, List.drop_succ_cons, List.drop_zero]
  refine head_step (.pointer (some ⟨w.heap.size, 2, none⟩)) (by go_simp) (fun V hV => by go_simp) ?_
  go_simp
  refine head_step (.agg #[.int .i64 W.wide, .int .i64 W.high, .slice p1 W.gs.length q1, .slice p2 W.os.length q2]) (by go_simp) (fun V hV => by obtain ⟨f2, f3, f4, f5, -⟩ := FC.out V hV; go_simp) ?_
  go_simp
  refine head_step (.pointer (some ⟨w.heap.size, 7, none⟩)) (by go_simp) (fun V hV => by go_simp) ?_
  go_simp
  refine head_step (.slice p4 W.us.length q4) (by go_simp) (fun V hV => by obtain ⟨-, -, -, -, f7, -⟩ := FC.out V hV; go_simp) ?_
  go_simp
  refine head_step (.int .i64 (an : Nat)) (by go_simp) (fun V hV => by go_simp) ?_
  go_simp
  refine head_step (.slice (some xk) ks.length qk) (by go_simp) (fun V hV => by go_simp) ?_
  go_simp
  refine head_step (.int .i64 (kn : Nat)) (by go_simp) (fun V hV => by go_simp) ?_
  go_simp
  refine head_step (.pointer (some (xk.add (kn * 11)))) (by go_simp) (fun V hV => by go_simp) ?_
  go_simp
  refine head_step (.pointer (some ⟨(xk.add (kn * 11)).block, (xk.add (kn * 11)).off + 9, none⟩)) (by go_simp) (fun V hV => by go_simp) ?_
  go_simp
  refine head_step (.bool k.f) (by go_simp) (fun V hV => by obtain ⟨-, -, -, -, -, f10⟩ := FC.out V hV; go_simp) ?_
  go_simp
  refine head_call (.bool (Wd.open_ W.gs W.us (an : Nat) k.f)) 90 #[.agg #[.int .i64 W.wide, .int .i64 W.high, .slice p1 W.gs.length q1, .slice p2 W.os.length q2], .slice p4 W.us.length q4, .int .i64 (an : Nat), .bool k.f] (by go_simp) (fun V hV => by go_simp) (fun V hV => OPN.out V hV) ?_
  go_simp
  intro V hV
  have BV : Hid (Below w.heap.size w V) := B0.out.trans (hV.mono B0.out.size)
  obtain ⟨b9, hb9⟩ : ∃ b, Wd.open_ W.gs W.us (an : Nat) k.f = b := ⟨_, rfl⟩
  rw [hb9] at FK ⊢
  clear hV FC OPN hb9
  cases b9 with
  | false =>
    go_wp2
    go_ret
    exact ⟨_, rfl, by rw [FK.out]; exact Er.no (by decide), BV.out⟩
  | true =>
    go_wp2
    go_ret
    exact ⟨_, rfl, by rw [FK.out]; exact Er.nil, BV.out⟩
end Go.Proofs.YteieikgkmfglaaaGreatDoor

namespace Go.Proofs.YteieikgkmfglaaaGreatDoor
open Go.RowKit
set_option linter.unusedVariables false

set_option maxRecDepth 100000 in
set_option maxHeartbeats 8000000 in
theorem place_any (vk vw : Value) (ks : List KV) (W : WV) (pl kd at_ : Int) (w : World) (hk : Kl w vk ks) (hb : ∀ k ∈ ks, k.b.size ≤ 9223372036854775807) (hw : Wl w vw W) :
    Calls Tryz.prog 63 #[vk, vw, .int .i64 pl, .int .i64 kd, .int .i64 at_] w fun e w' => ∃ u r, e = .returned (.tuple #[u, r]) ∧ Er r (Wd.putFault ks W pl kd at_) ∧ Wo w' w.heap.size u (Wd.placed ks W pl kd at_) ∧ Below w.heap.size w w' := by
  have K : Hid (Kl w vk ks ∧ ∀ k ∈ ks, k.b.size ≤ 9223372036854775807) := ⟨hk, hb⟩
  have H : Hid (Wl w vw W) := hw
  obtain ⟨u1, u2, u3, u4, u5, rfl, r1, r2, r3, r4, r5⟩ := hw
  obtain ⟨p1, q1, rfl, -⟩ := r1
  obtain ⟨p2, q2, rfl, -⟩ := r2
  obtain ⟨p3, q3, rfl, -⟩ := r3
  obtain ⟨p4, q4, rfl, -⟩ := r4
  obtain ⟨p5, q5, rfl, -⟩ := r5
  obtain ⟨pk, qk, rfl, -, -, kc⟩ := hk
  have KC : Hid (ks ≠ [] → ∃ x, pk = some x ∧ x.block < w.heap.size ∧ ∀ (i : Nat) k, ks[i]? = some k → Kc w (x.add (i * 11)) k) := kc
  clear hb kc
  go_enter Tryz.func63, Tryz.ntmps63
  go_upto_region 1 with fail
  have B0 : Hid (Below w.heap.size w ((w.alloc (.cells #[.int .i64 W.turn, .int .i64 W.next, .int .i64 W.wide, .int .i64 W.high, .slice p1 W.gs.length q1, .slice p2 W.os.length q2, .slice p3 W.gold.length q3, .slice p4 W.us.length q4, .slice p5 W.qs.length q5] 29)).alloc (.cells #[.int .i64 0, .int .i64 0, .int .i64 0, .int .i64 0, .slice none 0 0, .slice none 0 0, .slice none 0 0, .slice none 0 0, .slice none 0 0] 29))) := ((Below.refl _ _).alloc (Nat.le_refl _) _).alloc (by simp) _
  have X0 : Hid (Wx ((w.alloc (.cells #[.int .i64 W.turn, .int .i64 W.next, .int .i64 W.wide, .int .i64 W.high, .slice p1 W.gs.length q1, .slice p2 W.os.length q2, .slice p3 W.gold.length q3, .slice p4 W.us.length q4, .slice p5 W.qs.length q5] 29)).alloc (.cells #[.int .i64 0, .int .i64 0, .int .i64 0, .int .i64 0, .slice none 0 0, .slice none 0 0, .slice none 0 0, .slice none 0 0, .slice none 0 0] 29)) w.heap.size (.int .i64 W.turn) (.int .i64 W.next) (.int .i64 W.wide) (.int .i64 W.high) (.slice p1 W.gs.length q1) (.slice p2 W.os.length q2) (.slice p3 W.gold.length q3) (.slice p4 W.us.length q4) (.slice p5 W.qs.length q5)) := (Wx.new (w := w) _ _ _ _ _ _ _ _ _ rfl).below ((Below.refl _ _).alloc (Nat.le_refl _) _) (by simp)
  have Z0 : Hid (Wx ((w.alloc (.cells #[.int .i64 W.turn, .int .i64 W.next, .int .i64 W.wide, .int .i64 W.high, .slice p1 W.gs.length q1, .slice p2 W.os.length q2, .slice p3 W.gold.length q3, .slice p4 W.us.length q4, .slice p5 W.qs.length q5] 29)).alloc (.cells #[.int .i64 0, .int .i64 0, .int .i64 0, .int .i64 0, .slice none 0 0, .slice none 0 0, .slice none 0 0, .slice none 0 0, .slice none 0 0] 29)) (w.heap.size + 1) (.int .i64 0) (.int .i64 0) (.int .i64 0) (.int .i64 0) (.slice none 0 0) (.slice none 0 0) (.slice none 0 0) (.slice none 0 0) (.slice none 0 0)) := Wx.new _ _ _ _ _ _ _ _ _ (by simp)
  have S0 : Hid (w.heap.size + 2 ≤ ((w.alloc (.cells #[.int .i64 W.turn, .int .i64 W.next, .int .i64 W.wide, .int .i64 W.high, .slice p1 W.gs.length q1, .slice p2 W.os.length q2, .slice p3 W.gold.length q3, .slice p4 W.us.length q4, .slice p5 W.qs.length q5] 29)).alloc (.cells #[.int .i64 0, .int .i64 0, .int .i64 0, .int .i64 0, .slice none 0 0, .slice none 0 0, .slice none 0 0, .slice none 0 0, .slice none 0 0] 29)).heap.size) := by unfold Hid; simp
  generalize ((w.alloc (.cells #[.int .i64 W.turn, .int .i64 W.next, .int .i64 W.wide, .int .i64 W.high, .slice p1 W.gs.length q1, .slice p2 W.os.length q2, .slice p3 W.gold.length q3, .slice p4 W.us.length q4, .slice p5 W.qs.length q5] 29)).alloc (.cells #[.int .i64 0, .int .i64 0, .int .i64 0, .int .i64 0, .slice none 0 0, .slice none 0 0, .slice none 0 0, .slice none 0 0, .slice none 0 0] 29)) = w0 at *
  obtain ⟨x0, x1, x2, x3, x4, x5, x6, x7, x8⟩ := X0.out.cells
  go_wp2_with fail
  refine (wcheck_any _ _ ks W w0 (K.out.1.below B0.out) K.out.2 (H.out.below B0.out)).mono ?_
  rintro e w1 ⟨r, rfl, hr, hb1⟩
  clear x0 x1 x2 x3 x4 x5 x6 x7 x8
  have B1 : Hid (Below w.heap.size w w1) := B0.out.trans (hb1.mono B0.out.size)
  have X1 : Hid (Wx w1 w.heap.size (.int .i64 W.turn) (.int .i64 W.next) (.int .i64 W.wide) (.int .i64 W.high) (.slice p1 W.gs.length q1) (.slice p2 W.os.length q2) (.slice p3 W.gold.length q3) (.slice p4 W.us.length q4) (.slice p5 W.qs.length q5)) := X0.out.below hb1 X0.out.lt
  have Z1 : Hid (Wx w1 (w.heap.size + 1) (.int .i64 0) (.int .i64 0) (.int .i64 0) (.int .i64 0) (.slice none 0 0) (.slice none 0 0) (.slice none 0 0) (.slice none 0 0) (.slice none 0 0)) := Z0.out.below hb1 Z0.out.lt
  have S1 : Hid (w.heap.size + 2 ≤ w1.heap.size) := Nat.le_trans S0.out hb1.size
  clear hb1 B0 X0 Z0 S0
  rcases hr with ⟨hf, rfl⟩ | ⟨hf, rfl⟩
  case inr =>
    obtain ⟨fe, hfe⟩ : ∃ f, Wd.wfault ks W = f := ⟨_, rfl⟩
    have HFE : Hid (fe ≠ 0) := by rw [← hfe]; exact hf
    have FE : Hid (Wd.putFault ks W pl kd at_ = fe) := by unfold Hid Wd.putFault; rw [if_neg hf]; exact hfe
    rw [hfe]
    clear hf hfe
    obtain ⟨z0, z1, z2, z3, z4, z5, z6, z7, z8⟩ := Z1.out.cells
    obtain ⟨t0, t1, t2, t3, t4, t5, t6, t7, t8⟩ := Z1.out.thaws
    have KZ : Hid (Kp (w.heap.size + 1) w1 (((((((((w1.setCell ⟨w.heap.size + 1, 0, none⟩ (.int .i64 0)).setCell ⟨w.heap.size + 1, 1, none⟩ (.int .i64 0)).setCell ⟨w.heap.size + 1, 2, none⟩ (.int .i64 0)).setCell ⟨w.heap.size + 1, 3, none⟩ (.int .i64 0)).setCell ⟨w.heap.size + 1, 4, none⟩ (.slice none 0 0)).setCell ⟨w.heap.size + 1, 5, none⟩ (.slice none 0 0)).setCell ⟨w.heap.size + 1, 6, none⟩ (.slice none 0 0)).setCell ⟨w.heap.size + 1, 7, none⟩ (.slice none 0 0)).setCell ⟨w.heap.size + 1, 8, none⟩ (.slice none 0 0))) := put_kp _ _ _ _ _ _ _ _ _ _ _
    obtain ⟨y0, y1, y2, y3, y4, y5, y6, y7, y8⟩ := (Z1.out.put (.int .i64 0) (.int .i64 0) (.int .i64 0) (.int .i64 0) (.slice none 0 0) (.slice none 0 0) (.slice none 0 0) (.slice none 0 0) (.slice none 0 0)).cells
    go_wp2
    clear z0 z1 z2 z3 z4 z5 z6 z7 z8 t0 t1 t2 t3 t4 t5 t6 t7 t8
    generalize (((((((((w1.setCell ⟨w.heap.size + 1, 0, none⟩ (.int .i64 0)).setCell ⟨w.heap.size + 1, 1, none⟩ (.int .i64 0)).setCell ⟨w.heap.size + 1, 2, none⟩ (.int .i64 0)).setCell ⟨w.heap.size + 1, 3, none⟩ (.int .i64 0)).setCell ⟨w.heap.size + 1, 4, none⟩ (.slice none 0 0)).setCell ⟨w.heap.size + 1, 5, none⟩ (.slice none 0 0)).setCell ⟨w.heap.size + 1, 6, none⟩ (.slice none 0 0)).setCell ⟨w.heap.size + 1, 7, none⟩ (.slice none 0 0)).setCell ⟨w.heap.size + 1, 8, none⟩ (.slice none 0 0)) = w9 at *
    refine bodyPost_ret (v := .tuple #[.agg #[.int .i64 0, .int .i64 0, .int .i64 0, .int .i64 0, .slice none 0 0, .slice none 0 0, .slice none 0 0, .slice none 0 0, .slice none 0 0], .iface 77 (.int .i64 fe)]) (by simp [results, Tryz.results63, go_sem, y0, y1, y2, y3, y4, y5, y6, y7, y8]) rfl ⟨_, _, rfl, by rw [FE.out]; exact Er.no HFE.out, by rw [placed_bad (by rw [FE.out]; exact HFE.out)]; exact zero_wo _ _, KZ.out.below B1.out B1.out.size (by omega)⟩
  have HF : Hid (Wd.wfault ks W = 0) := hf
  have PF : Hid (Wd.putFault ks W pl kd at_ = Wd.placeFault ks W pl kd at_) := by unfold Hid Wd.putFault; rw [if_pos hf]
  have RT : Hid (WRight ks W) := wright_of hf
  clear hf
  obtain ⟨x0, x1, x2, x3, x4, x5, x6, x7, x8⟩ := X1.out.cells
  go_wp2_with fail
  refine (cplace_any _ _ ks W pl kd at_ w1 (K.out.1.below B1.out) (H.out.below B1.out) RT.out).mono ?_
  rintro e w2 ⟨r, rfl, hr, hb2⟩
  clear x0 x1 x2 x3 x4 x5 x6 x7 x8
  have B2 : Hid (Below w.heap.size w w2) := B1.out.trans (hb2.mono B1.out.size)
  have X2 : Hid (Wx w2 w.heap.size (.int .i64 W.turn) (.int .i64 W.next) (.int .i64 W.wide) (.int .i64 W.high) (.slice p1 W.gs.length q1) (.slice p2 W.os.length q2) (.slice p3 W.gold.length q3) (.slice p4 W.us.length q4) (.slice p5 W.qs.length q5)) := X1.out.below hb2 X1.out.lt
  have Z2 : Hid (Wx w2 (w.heap.size + 1) (.int .i64 0) (.int .i64 0) (.int .i64 0) (.int .i64 0) (.slice none 0 0) (.slice none 0 0) (.slice none 0 0) (.slice none 0 0) (.slice none 0 0)) := Z1.out.below hb2 Z1.out.lt
  have S2 : Hid (w.heap.size + 2 ≤ w2.heap.size) := Nat.le_trans S1.out hb2.size
  clear hb2 B1 X1 Z1 S1
  rcases hr with ⟨hf, rfl⟩ | ⟨hf, rfl⟩
  case inr =>
    obtain ⟨fe, hfe⟩ : ∃ f, Wd.placeFault ks W pl kd at_ = f := ⟨_, rfl⟩
    have HFE : Hid (fe ≠ 0) := by rw [← hfe]; exact hf
    have FE : Hid (Wd.putFault ks W pl kd at_ = fe) := by unfold Hid; rw [PF.out]; exact hfe
    rw [hfe]
    clear hf hfe
    obtain ⟨z0, z1, z2, z3, z4, z5, z6, z7, z8⟩ := Z2.out.cells
    obtain ⟨t0, t1, t2, t3, t4, t5, t6, t7, t8⟩ := Z2.out.thaws
    have KZ : Hid (Kp (w.heap.size + 1) w2 (((((((((w2.setCell ⟨w.heap.size + 1, 0, none⟩ (.int .i64 0)).setCell ⟨w.heap.size + 1, 1, none⟩ (.int .i64 0)).setCell ⟨w.heap.size + 1, 2, none⟩ (.int .i64 0)).setCell ⟨w.heap.size + 1, 3, none⟩ (.int .i64 0)).setCell ⟨w.heap.size + 1, 4, none⟩ (.slice none 0 0)).setCell ⟨w.heap.size + 1, 5, none⟩ (.slice none 0 0)).setCell ⟨w.heap.size + 1, 6, none⟩ (.slice none 0 0)).setCell ⟨w.heap.size + 1, 7, none⟩ (.slice none 0 0)).setCell ⟨w.heap.size + 1, 8, none⟩ (.slice none 0 0))) := put_kp _ _ _ _ _ _ _ _ _ _ _
    obtain ⟨y0, y1, y2, y3, y4, y5, y6, y7, y8⟩ := (Z2.out.put (.int .i64 0) (.int .i64 0) (.int .i64 0) (.int .i64 0) (.slice none 0 0) (.slice none 0 0) (.slice none 0 0) (.slice none 0 0) (.slice none 0 0)).cells
    go_wp2
    clear z0 z1 z2 z3 z4 z5 z6 z7 z8 t0 t1 t2 t3 t4 t5 t6 t7 t8
    generalize (((((((((w2.setCell ⟨w.heap.size + 1, 0, none⟩ (.int .i64 0)).setCell ⟨w.heap.size + 1, 1, none⟩ (.int .i64 0)).setCell ⟨w.heap.size + 1, 2, none⟩ (.int .i64 0)).setCell ⟨w.heap.size + 1, 3, none⟩ (.int .i64 0)).setCell ⟨w.heap.size + 1, 4, none⟩ (.slice none 0 0)).setCell ⟨w.heap.size + 1, 5, none⟩ (.slice none 0 0)).setCell ⟨w.heap.size + 1, 6, none⟩ (.slice none 0 0)).setCell ⟨w.heap.size + 1, 7, none⟩ (.slice none 0 0)).setCell ⟨w.heap.size + 1, 8, none⟩ (.slice none 0 0)) = w9 at *
    refine bodyPost_ret (v := .tuple #[.agg #[.int .i64 0, .int .i64 0, .int .i64 0, .int .i64 0, .slice none 0 0, .slice none 0 0, .slice none 0 0, .slice none 0 0, .slice none 0 0], .iface 77 (.int .i64 fe)]) (by simp [results, Tryz.results63, go_sem, y0, y1, y2, y3, y4, y5, y6, y7, y8]) rfl ⟨_, _, rfl, by rw [FE.out]; exact Er.no HFE.out, by rw [placed_bad (by rw [FE.out]; exact HFE.out)]; exact zero_wo _ _, KZ.out.below B2.out B2.out.size (by omega)⟩
  obtain ⟨h40, hpl, hat, kn, k, rfl, hkn, hkk, hop⟩ := pf_zero hf
  have P0 : Hid (Wd.putFault ks W pl (kn : Nat) at_ = 0) := by unfold Hid; rw [PF.out]; exact hf
  have NU : Hid (Wd.newUnit ks W pl (kn : Nat) at_ = ⟨W.next, pl, (kn : Nat), at_, k.n0, 0, 0, 0⟩) := by unfold Hid Wd.newUnit; rw [Int.toNat_natCast, hkk]
  have L40 : Hid (W.us.length < 40) := by unfold Hid; omega
  have hnx : W.next < 1000000 := by omega
  have hn1 : 1 ≤ W.next := by
    have := (nums_ok RT.out.nums).1
    unfold Wd.off at this
    simp at this
    omega
  obtain ⟨xk, rfl, hxl, hxc⟩ := KC.out (by intro e; rw [e] at hkn; simp at hkn)
  have HK : Hid (Kc w (xk.add (kn * 11)) k ∧ (xk.add (kn * 11)).block < w.heap.size) := ⟨hxc kn k hkk, by rw [add_block]; exact hxl⟩
  have hki : (kn : Int) < (ks.length : Int) := by omega
  clear hf h40 hpl hat hkn hkk hop hxc hxl
  obtain ⟨x0, x1, x2, x3, x4, x5, x6, x7, x8⟩ := X2.out.cells
  go_wp2_with fail
  refine (copy_any _ W w2 (H.out.below B2.out) RT.out.len).mono ?_
  rintro e w3 ⟨u, rfl, ho, hb3⟩
  clear x0 x1 x2 x3 x4 x5 x6 x7 x8
  have B3 : Hid (Below w.heap.size w w3) := B2.out.trans (hb3.mono B2.out.size)
  have X3 : Hid (Wx w3 w.heap.size (.int .i64 W.turn) (.int .i64 W.next) (.int .i64 W.wide) (.int .i64 W.high) (.slice p1 W.gs.length q1) (.slice p2 W.os.length q2) (.slice p3 W.gold.length q3) (.slice p4 W.us.length q4) (.slice p5 W.qs.length q5)) := X2.out.below hb3 X2.out.lt
  have Z3 : Hid (Wx w3 (w.heap.size + 1) (.int .i64 0) (.int .i64 0) (.int .i64 0) (.int .i64 0) (.slice none 0 0) (.slice none 0 0) (.slice none 0 0) (.slice none 0 0) (.slice none 0 0)) := Z2.out.below hb3 Z2.out.lt
  have S3 : Hid (w.heap.size + 2 ≤ w3.heap.size) := Nat.le_trans S2.out hb3.size
  obtain ⟨v1, v2, v3, v4, v5, rfl, ⟨o1, o2, o3, o4, o5⟩, -, -, d14, -, -, d24, -, d34, -, d45⟩ := ho.mono S2.out
  have O1 : Hid (Ow w3 (w.heap.size + 2) v1 W.gs ∧ Ow w3 (w.heap.size + 2) v2 W.os ∧ Ow w3 (w.heap.size + 2) v3 W.gold ∧ Uno w3 (w.heap.size + 2) v4 W.us ∧ Jbo w3 (w.heap.size + 2) v5 W.qs) := ⟨o1, o2, o3, o4, o5⟩
  have DD : Hid (Dif v1 v4 ∧ Dif v2 v4 ∧ Dif v3 v4 ∧ Dif v5 v4) := ⟨d14, d24, d34, d45.symm⟩
  clear d14 d24 d34 d45
  obtain ⟨a1, b1, rfl⟩ := o1.len
  obtain ⟨a2, b2, rfl⟩ := o2.len
  obtain ⟨a3, b3, rfl⟩ := o3.len
  obtain ⟨a4, b4, rfl⟩ := o4.len
  obtain ⟨a5, b5, rfl⟩ := o5.len
  clear ho hb3 B2 X2 Z2 S2 o1 o2 o3 o4 o5
  obtain ⟨x0, x1, x2, x3, x4, x5, x6, x7, x8⟩ := X3.out.cells
  obtain ⟨t0, t1, t2, t3, t4, t5, t6, t7, t8⟩ := X3.out.thaws
  have K4 : Hid (Kp w.heap.size w3 (((((((((w3.setCell ⟨w.heap.size, 0, none⟩ (.int .i64 W.turn)).setCell ⟨w.heap.size, 1, none⟩ (.int .i64 W.next)).setCell ⟨w.heap.size, 2, none⟩ (.int .i64 W.wide)).setCell ⟨w.heap.size, 3, none⟩ (.int .i64 W.high)).setCell ⟨w.heap.size, 4, none⟩ (.slice a1 W.gs.length b1)).setCell ⟨w.heap.size, 5, none⟩ (.slice a2 W.os.length b2)).setCell ⟨w.heap.size, 6, none⟩ (.slice a3 W.gold.length b3)).setCell ⟨w.heap.size, 7, none⟩ (.slice a4 W.us.length b4)).setCell ⟨w.heap.size, 8, none⟩ (.slice a5 W.qs.length b5))) := put_kp _ _ _ _ _ _ _ _ _ _ _
  have X4 : Hid (Wx (((((((((w3.setCell ⟨w.heap.size, 0, none⟩ (.int .i64 W.turn)).setCell ⟨w.heap.size, 1, none⟩ (.int .i64 W.next)).setCell ⟨w.heap.size, 2, none⟩ (.int .i64 W.wide)).setCell ⟨w.heap.size, 3, none⟩ (.int .i64 W.high)).setCell ⟨w.heap.size, 4, none⟩ (.slice a1 W.gs.length b1)).setCell ⟨w.heap.size, 5, none⟩ (.slice a2 W.os.length b2)).setCell ⟨w.heap.size, 6, none⟩ (.slice a3 W.gold.length b3)).setCell ⟨w.heap.size, 7, none⟩ (.slice a4 W.us.length b4)).setCell ⟨w.heap.size, 8, none⟩ (.slice a5 W.qs.length b5)) w.heap.size (.int .i64 W.turn) (.int .i64 W.next) (.int .i64 W.wide) (.int .i64 W.high) (.slice a1 W.gs.length b1) (.slice a2 W.os.length b2) (.slice a3 W.gold.length b3) (.slice a4 W.us.length b4) (.slice a5 W.qs.length b5)) := X3.out.put (.int .i64 W.turn) (.int .i64 W.next) (.int .i64 W.wide) (.int .i64 W.high) (.slice a1 W.gs.length b1) (.slice a2 W.os.length b2) (.slice a3 W.gold.length b3) (.slice a4 W.us.length b4) (.slice a5 W.qs.length b5)
  go_upto_region 8 with fail
  clear x0 x1 x2 x3 x4 x5 x6 x7 x8 t0 t1 t2 t3 t4 t5 t6 t7 t8
  generalize (((((((((w3.setCell ⟨w.heap.size, 0, none⟩ (.int .i64 W.turn)).setCell ⟨w.heap.size, 1, none⟩ (.int .i64 W.next)).setCell ⟨w.heap.size, 2, none⟩ (.int .i64 W.wide)).setCell ⟨w.heap.size, 3, none⟩ (.int .i64 W.high)).setCell ⟨w.heap.size, 4, none⟩ (.slice a1 W.gs.length b1)).setCell ⟨w.heap.size, 5, none⟩ (.slice a2 W.os.length b2)).setCell ⟨w.heap.size, 6, none⟩ (.slice a3 W.gold.length b3)).setCell ⟨w.heap.size, 7, none⟩ (.slice a4 W.us.length b4)).setCell ⟨w.heap.size, 8, none⟩ (.slice a5 W.qs.length b5)) = w4 at *
  have B4 : Hid (Below w.heap.size w w4) := K4.out.below B3.out B3.out.size (Nat.le_refl _)
  have Z4 : Hid (Wx w4 (w.heap.size + 1) (.int .i64 0) (.int .i64 0) (.int .i64 0) (.int .i64 0) (.slice none 0 0) (.slice none 0 0) (.slice none 0 0) (.slice none 0 0) (.slice none 0 0)) := Z3.out.kp K4.out (by omega)
  have S4 : Hid (w.heap.size + 2 ≤ w4.heap.size) := Nat.le_trans S3.out K4.out.size
  have O4 : Hid (Ow w4 (w.heap.size + 2) (.slice a1 W.gs.length b1) W.gs ∧ Ow w4 (w.heap.size + 2) (.slice a2 W.os.length b2) W.os ∧ Ow w4 (w.heap.size + 2) (.slice a3 W.gold.length b3) W.gold ∧ Uno w4 (w.heap.size + 2) (.slice a4 W.us.length b4) W.us ∧ Jbo w4 (w.heap.size + 2) (.slice a5 W.qs.length b5) W.qs) :=
    ⟨O1.out.1.kp K4.out (by omega), O1.out.2.1.kp K4.out (by omega), O1.out.2.2.1.kp K4.out (by omega), O1.out.2.2.2.1.kp K4.out (by omega), O1.out.2.2.2.2.kp K4.out (by omega)⟩
  clear K4 B3 X3 Z3 S3 O1
  -- the region that draws
  refine wp_region_two [(true, 0), (true, 1), (true, 2), (true, 3), (true, 4), (true, 5), (true, 6), (true, 7), (true, 8), (true, 9), (true, 10), (true, 11), (true, 12), (false, 13), (false, 14)] [(false, 15), (false, 16)] (fun V => V.cell? ⟨w.heap.size, 7, none⟩ = some (.slice a4 W.us.length b4) ∧ V.cell? ⟨w.heap.size, 1, none⟩ = some (.int .i64 W.next) ∧ V.cell? ⟨(xk.add (kn * 11)).block, (xk.add (kn * 11)).off + 1, none⟩ = some (.int .i64 k.n0)) (by kernel_rfl) (by kernel_rfl) (by kernel_rfl) (by kernel_rfl) (by kernel_rfl) ?_ ?_
  · obtain ⟨-, x1, -, -, -, -, -, x7, -⟩ := X4.out.cells
    exact ⟨x7, x1, (HK.out.1.below B4.out HK.out.2).c1⟩
  have X5 : Hid (Wx { w4 with drawn := w4.drawn + 1 } w.heap.size (.int .i64 W.turn) (.int .i64 W.next) (.int .i64 W.wide) (.int .i64 W.high) (.slice a1 W.gs.length b1) (.slice a2 W.os.length b2) (.slice a3 W.gold.length b3) (.slice a4 W.us.length b4) (.slice a5 W.qs.length b5)) := X4.out
  have B5 : Hid (Below w.heap.size w { w4 with drawn := w4.drawn + 1 }) := B4.out.drew
  have Z5 : Hid (Wx { w4 with drawn := w4.drawn + 1 } (w.heap.size + 1) (.int .i64 0) (.int .i64 0) (.int .i64 0) (.int .i64 0) (.slice none 0 0) (.slice none 0 0) (.slice none 0 0) (.slice none 0 0) (.slice none 0 0)) := Z4.out
  have S5 : Hid (w.heap.size + 2 ≤ ({ w4 with drawn := w4.drawn + 1 } : World).heap.size) := S4.out
  have D5 : Hid (Below w4.heap.size w4 { w4 with drawn := w4.drawn + 1 }) := (Below.refl _ _).drew
  generalize ({ w4 with drawn := w4.drawn + 1 } : World) = w5 at *
  have O5 : Hid (Ow w5 (w.heap.size + 2) (.slice a1 W.gs.length b1) W.gs ∧ Ow w5 (w.heap.size + 2) (.slice a2 W.os.length b2) W.os ∧ Ow w5 (w.heap.size + 2) (.slice a3 W.gold.length b3) W.gold ∧ Uno w5 (w.heap.size + 2) (.slice a4 W.us.length b4) W.us ∧ Jbo w5 (w.heap.size + 2) (.slice a5 W.qs.length b5) W.qs) :=
    ⟨O4.out.1.below D5.out, O4.out.2.1.below D5.out, O4.out.2.2.1.below D5.out, O4.out.2.2.2.1.below D5.out, O4.out.2.2.2.2.below D5.out⟩
  clear X4 B4 Z4 S4 O4 D5
  refine headT_read rfl (.pointer (some ⟨w.heap.size, 7, none⟩)) (by go_simp) (fun V hV => by go_simp) ?_
  go_simp
  refine headT_read rfl (.slice a4 W.us.length b4) (by go_simp) (fun V hV => by obtain ⟨f7, f1, fk⟩ := hV; go_simp) ?_
  go_simp
  refine headT_read rfl (.pointer (some ⟨w.heap.size, 1, none⟩)) (by go_simp) (fun V hV => by go_simp) ?_
  go_simp
  refine headT_read rfl (.int .i64 W.next) (by go_simp) (fun V hV => by obtain ⟨f7, f1, fk⟩ := hV; go_simp) ?_
  go_simp
  refine headT_read rfl (.int .i64 pl) (by go_simp) (fun V hV => by go_simp) ?_
  go_simp
  refine headT_read rfl (.int .i64 (kn : Nat)) (by go_simp) (fun V hV => by go_simp) ?_
  go_simp
  refine headT_read rfl (.int .i64 at_) (by go_simp) (fun V hV => by go_simp) ?_
  go_simp
  refine headT_read rfl (.slice (some xk) ks.length qk) (by go_simp) (fun V hV => by go_simp) ?_
  go_simp
  refine headT_read rfl (.int .i64 (kn : Nat)) (by go_simp) (fun V hV => by go_simp) ?_
  go_simp
  refine headT_read rfl (.pointer (some (xk.add (kn * 11)))) (by go_simp) (fun V hV => by go_simp) ?_
  go_simp
  refine headT_read rfl (.pointer (some ⟨(xk.add (kn * 11)).block, (xk.add (kn * 11)).off + 1, none⟩)) (by go_simp) (fun V hV => by go_simp) ?_
  go_simp
  refine headT_read rfl (.int .i64 k.n0) (by go_simp) (fun V hV => by obtain ⟨f7, f1, fk⟩ := hV; go_simp) ?_
  go_simp
  refine headT_read rfl (.agg #[.int .i64 W.next, .int .i64 pl, .int .i64 (kn : Nat), .int .i64 at_, .int .i64 k.n0, .int .i64 0, .int .i64 0, .int .i64 0]) (by go_simp) (fun V hV => by go_simp) ?_
  go_simp
  have CL : Hid (∀ V, Wx V w.heap.size (.int .i64 W.turn) (.int .i64 W.next) (.int .i64 W.wide) (.int .i64 W.high) (.slice a1 W.gs.length b1) (.slice a2 W.os.length b2) (.slice a3 W.gold.length b3) (.slice a4 W.us.length b4) (.slice a5 W.qs.length b5) → Below w.heap.size w V → V.cell? ⟨w.heap.size, 7, none⟩ = some (.slice a4 W.us.length b4) ∧ V.cell? ⟨w.heap.size, 1, none⟩ = some (.int .i64 W.next) ∧ V.cell? ⟨(xk.add (kn * 11)).block, (xk.add (kn * 11)).off + 1, none⟩ = some (.int .i64 k.n0)) := fun V hX hB => by
    obtain ⟨-, x1, -, -, -, -, -, x7, -⟩ := hX.cells
    exact ⟨x7, x1, (HK.out.1.below hB HK.out.2).c1⟩
  have BA : Hid (Below w5.heap.size w5 (w5.alloc (.cells #[.int .i64 W.next, .int .i64 pl, .int .i64 (kn : Nat), .int .i64 at_, .int .i64 k.n0, .int .i64 0, .int .i64 0, .int .i64 0] 44))) := (Below.refl _ _).alloc (Nat.le_refl _) _
  have SA : Hid ((w5.alloc (.cells #[.int .i64 W.next, .int .i64 pl, .int .i64 (kn : Nat), .int .i64 at_, .int .i64 k.n0, .int .i64 0, .int .i64 0, .int .i64 0] 44)).heap.size = w5.heap.size + 1) := by unfold Hid; simp
  have UA : Hid (Unc (w5.alloc (.cells #[.int .i64 W.next, .int .i64 pl, .int .i64 (kn : Nat), .int .i64 at_, .int .i64 k.n0, .int .i64 0, .int .i64 0, .int .i64 0] 44)) ⟨w5.heap.size, 0, none⟩ (⟨W.next, pl, (kn : Nat), at_, k.n0, 0, 0, 0⟩ : UnV)) := Unc.mk' (w := w5) (⟨W.next, pl, (kn : Nat), at_, k.n0, 0, 0, 0⟩ : UnV) rfl
  have OA : Hid (Uno (w5.alloc (.cells #[.int .i64 W.next, .int .i64 pl, .int .i64 (kn : Nat), .int .i64 at_, .int .i64 k.n0, .int .i64 0, .int .i64 0, .int .i64 0] 44)) (w.heap.size + 2) (.slice a4 W.us.length b4) W.us) := O5.out.2.2.2.1.alloc _
  have XA : Hid (Wx (w5.alloc (.cells #[.int .i64 W.next, .int .i64 pl, .int .i64 (kn : Nat), .int .i64 at_, .int .i64 k.n0, .int .i64 0, .int .i64 0, .int .i64 0] 44)) w.heap.size (.int .i64 W.turn) (.int .i64 W.next) (.int .i64 W.wide) (.int .i64 W.high) (.slice a1 W.gs.length b1) (.slice a2 W.os.length b2) (.slice a3 W.gold.length b3) (.slice a4 W.us.length b4) (.slice a5 W.qs.length b5)) := X5.out.below BA.out X5.out.lt
  have BB : Hid (Below w.heap.size w (w5.alloc (.cells #[.int .i64 W.next, .int .i64 pl, .int .i64 (kn : Nat), .int .i64 at_, .int .i64 k.n0, .int .i64 0, .int .i64 0, .int .i64 0] 44))) := B5.out.trans (BA.out.mono B5.out.size)
  refine headT_value rfl (.slice (some ⟨w5.heap.size, 0, none⟩) 1 1) (w5.alloc (.cells #[.int .i64 W.next, .int .i64 pl, .int .i64 (kn : Nat), .int .i64 at_, .int .i64 k.n0, .int .i64 0, .int .i64 0, .int .i64 0] 44)) (by go_simp) (by go_simp) (CL.out _ XA.out BB.out) ?_
  go_simp
  generalize (w5.alloc (.cells #[.int .i64 W.next, .int .i64 pl, .int .i64 (kn : Nat), .int .i64 at_, .int .i64 k.n0, .int .i64 0, .int .i64 0, .int .i64 0] 44)) = wa at *
  obtain ⟨i0, hi, hz0, hz1, hz2⟩ := info_parts info_un
  obtain ⟨g, cap, w6, hr, ho6, hg6, ha6, hl6⟩ := run_append_lies (P := Tryz.prog) wa 26 26 (w.heap.size + 2) 44 i0 _ 8 64 Tryz.underlying26 hi hz0 hz1 hz2 rfl (by decide) (.slice a4 W.us.length b4) W.us.length _ OA.out ⟨w5.heap.size, 0, none⟩ 1 1 (UnV.cs (⟨W.next, pl, (kn : Nat), at_, k.n0, 0, 0, 0⟩ : UnV)) rfl (fun j u hj => by
    have hd := UA.out
    have hjn : j < 8 := (List.getElem?_eq_some_iff.1 hj).1
    rw [Addr.add_lit, Nat.zero_add]
    match j, hjn, hj with
    | 0, _, hj => simp [UnV.cs] at hj; subst hj; exact hd.c0
    | 1, _, hj => simp [UnV.cs] at hj; subst hj; exact hd.c1
    | 2, _, hj => simp [UnV.cs] at hj; subst hj; exact hd.c2
    | 3, _, hj => simp [UnV.cs] at hj; subst hj; exact hd.c3
    | 4, _, hj => simp [UnV.cs] at hj; subst hj; exact hd.c4
    | 5, _, hj => simp [UnV.cs] at hj; subst hj; exact hd.c5
    | 6, _, hj => simp [UnV.cs] at hj; subst hj; exact hd.c6
    | 7, _, hj => simp [UnV.cs] at hj; subst hj; exact hd.c7) (fun u hu => by
    simp [UnV.cs] at hu
    rcases hu with rfl | rfl | rfl | rfl | rfl | rfl | rfl | rfl <;> rfl) (by decide) (by have := L40.out; unfold maxLen; omega) (by have := L40.out; omega) (by have := S5.out; have := SA.out; omega) _ rfl
  have ON : Hid (Uno w6 (w.heap.size + 2) (.slice (some ⟨g, 0, none⟩) (W.us.length + 1) cap) (W.us ++ [(⟨W.next, pl, (kn : Nat), at_, k.n0, 0, 0, 0⟩ : UnV)])) := by
    unfold Hid Uno
    rw [List.length_append, List.flatMap_append]
    simpa using ho6
  have GB : Hid (∀ b, ((.slice a4 W.us.length b4) : Value).ownBlock = some b → w.heap.size + 2 ≤ b) := fun b hb => (OA.out.block b hb).1
  have BG : Hid (Below (w.heap.size + 2) wa w6) := (Below.refl _ _).grown hg6 (by have := S5.out; have := SA.out; omega) (fun b hb => GB.out b hb)
  have X6 : Hid (Wx w6 w.heap.size (.int .i64 W.turn) (.int .i64 W.next) (.int .i64 W.wide) (.int .i64 W.high) (.slice a1 W.gs.length b1) (.slice a2 W.os.length b2) (.slice a3 W.gold.length b3) (.slice a4 W.us.length b4) (.slice a5 W.qs.length b5)) := XA.out.below BG.out (by omega)
  have Z6 : Hid (Wx w6 (w.heap.size + 1) (.int .i64 0) (.int .i64 0) (.int .i64 0) (.int .i64 0) (.slice none 0 0) (.slice none 0 0) (.slice none 0 0) (.slice none 0 0) (.slice none 0 0)) := (Z5.out.below BA.out Z5.out.lt).below BG.out (by omega)
  have B6 : Hid (Below w.heap.size w w6) := BB.out.trans (BG.out.mono (by omega))
  refine headT_value rfl (.slice (some ⟨g, 0, none⟩) (W.us.length + 1) cap) w6 (by go_simp) (exec_append _ _ _ _ rfl _ _ (by go_simp) (by go_simp) hr) (CL.out _ X6.out B6.out) ?_
  have S6 : Hid (w.heap.size + 2 ≤ w6.heap.size) := by have := S5.out; have := SA.out; have := BG.out.size; unfold Hid; omega
  have N1 : Hid (Ow w6 (w.heap.size + 2) (.slice a1 W.gs.length b1) W.gs) := ((O5.out.1).below BA.out).kept hg6 DD.out.1.ne
  have N2 : Hid (Ow w6 (w.heap.size + 2) (.slice a2 W.os.length b2) W.os) := ((O5.out.2.1).below BA.out).kept hg6 DD.out.2.1.ne
  have N3 : Hid (Ow w6 (w.heap.size + 2) (.slice a3 W.gold.length b3) W.gold) := ((O5.out.2.2.1).below BA.out).kept hg6 DD.out.2.2.1.ne
  have N5 : Hid (Jbo w6 (w.heap.size + 2) (.slice a5 W.qs.length b5) W.qs) := ((O5.out.2.2.2.2).below BA.out).kept hg6 DD.out.2.2.2.ne
  clear hr ho6 hg6 ha6 hl6 hi hz0 hz1 hz2 BG GB OA UA XA BB BA X5 Z5 S5 B5 O5 CL SA DD
  go_simp
  unfold wpHeadT
  refine sched_value rfl (.pointer (some ⟨w.heap.size, 7, none⟩)) w6 (by go_simp) (by go_simp) trivial ?_
  go_simp
  have K7 : Hid (Kp w.heap.size w6 (w6.setCell ⟨w.heap.size, 7, none⟩ (.slice (some ⟨g, 0, none⟩) (W.us.length + 1) cap))) := Kp.set _ _ _
  have X7 : Hid (Wx (w6.setCell ⟨w.heap.size, 7, none⟩ (.slice (some ⟨g, 0, none⟩) (W.us.length + 1) cap)) w.heap.size (.int .i64 W.turn) (.int .i64 W.next) (.int .i64 W.wide) (.int .i64 W.high) (.slice a1 W.gs.length b1) (.slice a2 W.os.length b2) (.slice a3 W.gold.length b3) (.slice (some ⟨g, 0, none⟩) (W.us.length + 1) cap) (.slice a5 W.qs.length b5)) := X6.out.set7 _
  have t7 := X6.out.thaw 7
  obtain ⟨-, -, -, -, -, -, -, x7, -⟩ := X6.out.cells
  refine sched_skip rfl (w6.setCell ⟨w.heap.size, 7, none⟩ (.slice (some ⟨g, 0, none⟩) (W.us.length + 1) cap)) (by go_simp) (by go_simp) trivial ?_
  go_simp
  clear t7 x7
  generalize (w6.setCell ⟨w.heap.size, 7, none⟩ (.slice (some ⟨g, 0, none⟩) (W.us.length + 1) cap)) = w7 at *
  have B7 : Hid (Below w.heap.size w w7) := K7.out.below B6.out B6.out.size (Nat.le_refl _)
  have Z7 : Hid (Wx w7 (w.heap.size + 1) (.int .i64 0) (.int .i64 0) (.int .i64 0) (.int .i64 0) (.slice none 0 0) (.slice none 0 0) (.slice none 0 0) (.slice none 0 0) (.slice none 0 0)) := Z6.out.kp K7.out (by omega)
  have S7 : Hid (w.heap.size + 2 ≤ w7.heap.size) := Nat.le_trans S6.out K7.out.size
  have M : Hid (Ow w7 (w.heap.size + 2) (.slice a1 W.gs.length b1) W.gs ∧ Ow w7 (w.heap.size + 2) (.slice a2 W.os.length b2) W.os ∧ Ow w7 (w.heap.size + 2) (.slice a3 W.gold.length b3) W.gold ∧ Uno w7 (w.heap.size + 2) (.slice (some ⟨g, 0, none⟩) (W.us.length + 1) cap) (W.us ++ [(⟨W.next, pl, (kn : Nat), at_, k.n0, 0, 0, 0⟩ : UnV)]) ∧ Jbo w7 (w.heap.size + 2) (.slice a5 W.qs.length b5) W.qs) :=
    ⟨N1.out.kp K7.out (by omega), N2.out.kp K7.out (by omega), N3.out.kp K7.out (by omega), ON.out.kp K7.out (by omega), N5.out.kp K7.out (by omega)⟩
  clear K7 B6 Z6 S6 N1 N2 N3 N5 ON X6
  unfold wpSched
  have wn : IntKind.i64.wrap (W.next + 1) = W.next + 1 := by rw [IntKind.wrap_i64]; omega
  have K8 : Hid (Kp w.heap.size w7 (w7.setCell ⟨w.heap.size, 1, none⟩ (.int .i64 (W.next + 1)))) := Kp.set _ _ _
  have X8 : Hid (Wx (w7.setCell ⟨w.heap.size, 1, none⟩ (.int .i64 (W.next + 1))) w.heap.size (.int .i64 W.turn) (.int .i64 (W.next + 1)) (.int .i64 W.wide) (.int .i64 W.high) (.slice a1 W.gs.length b1) (.slice a2 W.os.length b2) (.slice a3 W.gold.length b3) (.slice (some ⟨g, 0, none⟩) (W.us.length + 1) cap) (.slice a5 W.qs.length b5)) := X7.out.set1 _
  have t1 := X7.out.thaw 1
  obtain ⟨-, x1, -, -, -, -, -, -, -⟩ := X7.out.cells
  go_upto_region 10 with fail
  clear t1 x1 wn
  generalize (w7.setCell ⟨w.heap.size, 1, none⟩ (.int .i64 (W.next + 1))) = w8 at *
  have B8 : Hid (Below w.heap.size w w8) := K8.out.below B7.out B7.out.size (Nat.le_refl _)
  have Z8 : Hid (Wx w8 (w.heap.size + 1) (.int .i64 0) (.int .i64 0) (.int .i64 0) (.int .i64 0) (.slice none 0 0) (.slice none 0 0) (.slice none 0 0) (.slice none 0 0) (.slice none 0 0)) := Z7.out.kp K8.out (by omega)
  have S8 : Hid (w.heap.size + 2 ≤ w8.heap.size) := Nat.le_trans S7.out K8.out.size
  have M8 : Hid (Ow w8 (w.heap.size + 2) (.slice a1 W.gs.length b1) W.gs ∧ Ow w8 (w.heap.size + 2) (.slice a2 W.os.length b2) W.os ∧ Ow w8 (w.heap.size + 2) (.slice a3 W.gold.length b3) W.gold ∧ Uno w8 (w.heap.size + 2) (.slice (some ⟨g, 0, none⟩) (W.us.length + 1) cap) (W.us ++ [(⟨W.next, pl, (kn : Nat), at_, k.n0, 0, 0, 0⟩ : UnV)]) ∧ Jbo w8 (w.heap.size + 2) (.slice a5 W.qs.length b5) W.qs) :=
    ⟨M.out.1.kp K8.out (by omega), M.out.2.1.kp K8.out (by omega), M.out.2.2.1.kp K8.out (by omega), M.out.2.2.2.1.kp K8.out (by omega), M.out.2.2.2.2.kp K8.out (by omega)⟩
  clear K8 B7 Z7 S7 M X7
  obtain ⟨x0, x1, x2, x3, x4, x5, x6, x7, x8⟩ := X8.out.cells
  obtain ⟨z0, z1, z2, z3, z4, z5, z6, z7, z8⟩ := Z8.out.cells
  obtain ⟨t0, t1, t2, t3, t4, t5, t6, t7, t8⟩ := Z8.out.thaws
  have KZ : Hid (Kp (w.heap.size + 1) w8 (((((((((w8.setCell ⟨w.heap.size + 1, 0, none⟩ (.int .i64 W.turn)).setCell ⟨w.heap.size + 1, 1, none⟩ (.int .i64 (W.next + 1))).setCell ⟨w.heap.size + 1, 2, none⟩ (.int .i64 W.wide)).setCell ⟨w.heap.size + 1, 3, none⟩ (.int .i64 W.high)).setCell ⟨w.heap.size + 1, 4, none⟩ (.slice a1 W.gs.length b1)).setCell ⟨w.heap.size + 1, 5, none⟩ (.slice a2 W.os.length b2)).setCell ⟨w.heap.size + 1, 6, none⟩ (.slice a3 W.gold.length b3)).setCell ⟨w.heap.size + 1, 7, none⟩ (.slice (some ⟨g, 0, none⟩) (W.us.length + 1) cap)).setCell ⟨w.heap.size + 1, 8, none⟩ (.slice a5 W.qs.length b5))) := put_kp _ _ _ _ _ _ _ _ _ _ _
  obtain ⟨y0, y1, y2, y3, y4, y5, y6, y7, y8⟩ := (Z8.out.put (.int .i64 W.turn) (.int .i64 (W.next + 1)) (.int .i64 W.wide) (.int .i64 W.high) (.slice a1 W.gs.length b1) (.slice a2 W.os.length b2) (.slice a3 W.gold.length b3) (.slice (some ⟨g, 0, none⟩) (W.us.length + 1) cap) (.slice a5 W.qs.length b5)).cells
  go_wp2
  clear x0 x1 x2 x3 x4 x5 x6 x7 x8 z0 z1 z2 z3 z4 z5 z6 z7 z8 t0 t1 t2 t3 t4 t5 t6 t7 t8
  generalize (((((((((w8.setCell ⟨w.heap.size + 1, 0, none⟩ (.int .i64 W.turn)).setCell ⟨w.heap.size + 1, 1, none⟩ (.int .i64 (W.next + 1))).setCell ⟨w.heap.size + 1, 2, none⟩ (.int .i64 W.wide)).setCell ⟨w.heap.size + 1, 3, none⟩ (.int .i64 W.high)).setCell ⟨w.heap.size + 1, 4, none⟩ (.slice a1 W.gs.length b1)).setCell ⟨w.heap.size + 1, 5, none⟩ (.slice a2 W.os.length b2)).setCell ⟨w.heap.size + 1, 6, none⟩ (.slice a3 W.gold.length b3)).setCell ⟨w.heap.size + 1, 7, none⟩ (.slice (some ⟨g, 0, none⟩) (W.us.length + 1) cap)).setCell ⟨w.heap.size + 1, 8, none⟩ (.slice a5 W.qs.length b5)) = w9 at *
  refine bodyPost_ret (v := .tuple #[.agg #[.int .i64 W.turn, .int .i64 (W.next + 1), .int .i64 W.wide, .int .i64 W.high, .slice a1 W.gs.length b1, .slice a2 W.os.length b2, .slice a3 W.gold.length b3, .slice (some ⟨g, 0, none⟩) (W.us.length + 1) cap, .slice a5 W.qs.length b5], .nilIface]) (by simp [results, Tryz.results63, go_sem, y0, y1, y2, y3, y4, y5, y6, y7, y8]) rfl ⟨_, _, rfl, by rw [P0.out]; exact Er.nil, ?_, KZ.out.below B8.out B8.out.size (by omega)⟩
  rw [placed_ok P0.out]
  unfold Wd.put
  rw [NU.out]
  exact ⟨_, _, _, _, _, rfl, (M8.out.1.kp KZ.out (by omega)).mono (by omega), (M8.out.2.1.kp KZ.out (by omega)).mono (by omega), (M8.out.2.2.1.kp KZ.out (by omega)).mono (by omega), (M8.out.2.2.2.1.kp KZ.out (by omega)).mono (by omega), (M8.out.2.2.2.2.kp KZ.out (by omega)).mono (by omega)⟩
end Go.Proofs.YteieikgkmfglaaaGreatDoor

