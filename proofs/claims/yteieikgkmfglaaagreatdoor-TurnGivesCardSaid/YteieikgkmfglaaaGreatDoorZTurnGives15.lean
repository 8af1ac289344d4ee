/- move.Move: all units, one behind the other. · Moves: who rests stays. Plain mathematics. · Move: there is one wish: plain mathematics. · Ways, found by going over all cells till nothing gets nearer: plain mathematics. · The reference: how far it is from each cell to one. · The reference: the next cell on a way. · The reference's toward: the next cell on a way. -/
import Derived.Test.YteieikgkmfglaaaGreatDoorZTurnGives14
import Derived.Test.YteieikgkmfglaaaGreatDoorZTurnGives9
import Derived.Test.YteieikgkmfglaaaGreatDoorZTurnGives5
import Derived.BigQuiet
import Derived.Test.YteieikgkmfglaaaGreatDoorZTurnGives13
import Derived.Test.YteieikgkmfglaaaGreatDoorZTurnGives12
import Derived.Test.YteieikgkmfglaaaGreatDoorZTurnGives10
import Derived.Deep.RegionHeld3
import Derived.Test.YteieikgkmfglaaaGreatDoorZTurnGives7
namespace Go.Proofs.YteieikgkmfglaaaGreatDoor
open Go.RowKit Wy
set_option linter.unusedVariables false

/-- who has come to its end rests. -/
def ends (u : UnV) : UnV := if u.task = 1 ∧ u.at_ = u.goal then { u with task := 0, goal := 0 } else u
/-- from the n-th on all units go. -/
inductive Moves (ks : List KV) (X : WV) (Wn Hn : Nat) : Nat → List UnV → List EvV → List UnV → Prop where
  | done {n : Nat} {us : List UnV} (h : n = us.length) : Moves ks X Wn Hn n us [] us
  | unit {n : Nat} {us us1 us' : List UnV} {u u1 : UnV} {k : KV} {cells : List Int} {evs : List EvV} (hu : us[n]? = some u) (hk : ks[u.kind.toNat]? = some k) (hg : Goes ks X Wn Hn k n us k.n4 cells us1) (h1 : us1[n]? = some u1) (hm : Moves ks X Wn Hn (n + 1) (us1.set n (ends u1)) evs us') : Moves ks X Wn Hn n us (cells.map (fun c => (⟨1, u.id, c⟩ : EvV)) ++ evs) us'
/-- what Move tells. -/
def MoveSays (ks : List KV) (X : WV) (w w' : World) (v ev : Value) : Prop :=
  (Wd.wfault ks X ≠ 0 ∧ v = .agg #[.int .i64 0, .int .i64 0, .int .i64 0, .int .i64 0, .slice none 0 0, .slice none 0 0, .slice none 0 0, .slice none 0 0, .slice none 0 0] ∧ ev = .slice none 0 0)
  ∨ (Wd.wfault ks X = 0 ∧ ∃ Wn Hn : Nat, X.wide = (Wn : Nat) ∧ X.high = (Hn : Nat) ∧ Fd.Good Wn Hn X.gs X.os ∧ ∃ us' evs, Moves ks X Wn Hn 0 X.us evs us' ∧ us'.length = X.us.length ∧ Wo w' w.heap.size v { X with us := us' } ∧ Evo w' w.heap.size ev evs)
/-- units that only their places, Tasks and Goals tell from those that were. -/
def Alike (ks : List KV) (n : Nat) (us0 us : List UnV) : Prop := us.length = us0.length ∧ ∀ (j : Nat) (v : UnV), us[j]? = some v → ∃ u, us0[j]? = some u ∧ v.kind = u.kind ∧ v.id = u.id ∧ Fit ks n v ∧ (0 ≤ v.goal ∧ v.goal < (n : Int))
theorem Alike.fits {ks : List KV} {n : Nat} {us0 us : List UnV} (h : Alike ks n us0 us) : ∀ v ∈ us, Fit ks n v := fun v hv => by
  obtain ⟨j, hj⟩ := List.mem_iff_getElem?.1 hv
  obtain ⟨u, -, -, -, h1, -⟩ := h.2 j v hj
  exact h1
theorem Alike.set {ks : List KV} {n : Nat} {us0 us : List UnV} (h : Alike ks n us0 us) {i : Nat} {u v : UnV} (hu : us[i]? = some u) (hk : v.kind = u.kind) (hi : v.id = u.id) (hf : Fit ks n v) (hg : 0 ≤ v.goal ∧ v.goal < (n : Int)) : Alike ks n us0 (us.set i v) := by
  refine ⟨by rw [List.length_set]; exact h.1, fun j x hj => ?_⟩
  by_cases hij : i = j
  · subst hij
    rw [List.getElem?_set_self (List.getElem?_eq_some_iff.1 hu).1] at hj
    injection hj with hj
    subst hj
    obtain ⟨u0, h1, h2, h3, -, -⟩ := h.2 i u hu
    exact ⟨u0, h1, by rw [hk, h2], by rw [hi, h3], hf, hg⟩
  · rw [List.getElem?_set_ne hij] at hj
    exact h.2 j x hj
theorem uno_set {ks : List UnV} {i : Nat} {u : UnV} : (ks.set i u).length = ks.length := List.length_set
set_option maxRecDepth 100000 in
set_option maxHeartbeats 16000000 in
theorem Move_any (vk vw : Value) (ks : List KV) (X : WV) (w : World) (hk : Kl w vk ks) (hb : ∀ k ∈ ks, k.b.size ≤ 9223372036854775807) (hw : Wl w vw X) (hs : Sd w) :
    Calls Tryz.prog 50 #[vk, vw] w fun e w' => ∃ v ev r, e = .returned (.tuple #[v, ev, r]) ∧ Er r (Wd.wfault ks X) ∧ MoveSays ks X w w' v ev ∧ Below w.heap.size w w' := by
  have K : Hid (Kl w vk ks ∧ ∀ k ∈ ks, k.b.size ≤ 9223372036854775807) := ⟨hk, hb⟩
  have H : Hid (Wl w vw X) := hw
  have S : Hid (Sd w) := hs
  obtain ⟨p1, q1, p2, q2, p3, q3, p4, q4, p5, q5, rfl⟩ := wl_shape9 hw
  obtain ⟨pk, qk, rfl, ck1, ck2, kc⟩ := hk
  clear hb hw hs kc
  go_enter Tryz.func50, Tryz.ntmps50
  go_upto_region 1 with fail
  have B0 : Hid (Below w.heap.size w ((w.alloc (Obj.cells #[.int .i64 X.turn, .int .i64 X.next, .int .i64 X.wide, .int .i64 X.high, .slice p1 X.gs.length q1, .slice p2 X.os.length q2, .slice p3 X.gold.length q3, .slice p4 X.us.length q4, .slice p5 X.qs.length q5] 29)).alloc (Obj.cells #[.int .i64 0, .int .i64 0, .int .i64 0, .int .i64 0, .slice none 0 0, .slice none 0 0, .slice none 0 0, .slice none 0 0, .slice none 0 0] 29))) := ((Below.refl _ _).alloc (Nat.le_refl _) _).alloc (by simp) _
  have X0 : Hid (Wx ((w.alloc (Obj.cells #[.int .i64 X.turn, .int .i64 X.next, .int .i64 X.wide, .int .i64 X.high, .slice p1 X.gs.length q1, .slice p2 X.os.length q2, .slice p3 X.gold.length q3, .slice p4 X.us.length q4, .slice p5 X.qs.length q5] 29)).alloc (Obj.cells #[.int .i64 0, .int .i64 0, .int .i64 0, .int .i64 0, .slice none 0 0, .slice none 0 0, .slice none 0 0, .slice none 0 0, .slice none 0 0] 29)) (w.heap.size) (.int .i64 X.turn) (.int .i64 X.next) (.int .i64 X.wide) (.int .i64 X.high) (.slice p1 X.gs.length q1) (.slice p2 X.os.length q2) (.slice p3 X.gold.length q3) (.slice p4 X.us.length q4) (.slice p5 X.qs.length q5)) := (Wx.new (.int .i64 X.turn) (.int .i64 X.next) (.int .i64 X.wide) (.int .i64 X.high) (.slice p1 X.gs.length q1) (.slice p2 X.os.length q2) (.slice p3 X.gold.length q3) (.slice p4 X.us.length q4) (.slice p5 X.qs.length q5) rfl).below ((Below.refl _ _).alloc (Nat.le_refl _) _) (by simp)
  have Z0 : Hid (Wx ((w.alloc (Obj.cells #[.int .i64 X.turn, .int .i64 X.next, .int .i64 X.wide, .int .i64 X.high, .slice p1 X.gs.length q1, .slice p2 X.os.length q2, .slice p3 X.gold.length q3, .slice p4 X.us.length q4, .slice p5 X.qs.length q5] 29)).alloc (Obj.cells #[.int .i64 0, .int .i64 0, .int .i64 0, .int .i64 0, .slice none 0 0, .slice none 0 0, .slice none 0 0, .slice none 0 0, .slice none 0 0] 29)) (w.heap.size + 1) (.int .i64 0) (.int .i64 0) (.int .i64 0) (.int .i64 0) (.slice none 0 0) (.slice none 0 0) (.slice none 0 0) (.slice none 0 0) (.slice none 0 0)) := Wx.new (.int .i64 0) (.int .i64 0) (.int .i64 0) (.int .i64 0) (.slice none 0 0) (.slice none 0 0) (.slice none 0 0) (.slice none 0 0) (.slice none 0 0) (by simp)
  generalize ((w.alloc (Obj.cells #[.int .i64 X.turn, .int .i64 X.next, .int .i64 X.wide, .int .i64 X.high, .slice p1 X.gs.length q1, .slice p2 X.os.length q2, .slice p3 X.gold.length q3, .slice p4 X.us.length q4, .slice p5 X.qs.length q5] 29)).alloc (Obj.cells #[.int .i64 0, .int .i64 0, .int .i64 0, .int .i64 0, .slice none 0 0, .slice none 0 0, .slice none 0 0, .slice none 0 0, .slice none 0 0] 29)) = w0 at *
  obtain ⟨x0, x1, x2, x3, x4, x5, x6, x7, x8⟩ := X0.out.cells
  go_wp2_with fail
  refine (wcheck_any _ _ ks X w0 (K.out.1.below B0.out) K.out.2 (H.out.below B0.out)).mono ?_
  rintro e w1 ⟨r, rfl, hr, hb⟩
  obtain ⟨fw, hfw⟩ : ∃ f, Wd.wfault ks X = f := ⟨_, rfl⟩
  have FW : Hid (Wd.wfault ks X = fw) := hfw
  rw [hfw] at hr
  have B1 : Hid (Below w.heap.size w w1) := B0.out.trans (hb.mono B0.out.size)
  have X1 : Hid (Wx w1 (w.heap.size) (.int .i64 X.turn) (.int .i64 X.next) (.int .i64 X.wide) (.int .i64 X.high) (.slice p1 X.gs.length q1) (.slice p2 X.os.length q2) (.slice p3 X.gold.length q3) (.slice p4 X.us.length q4) (.slice p5 X.qs.length q5)) := X0.out.below hb X0.out.lt
  have Z1 : Hid (Wx w1 (w.heap.size + 1) (.int .i64 0) (.int .i64 0) (.int .i64 0) (.int .i64 0) (.slice none 0 0) (.slice none 0 0) (.slice none 0 0) (.slice none 0 0) (.slice none 0 0)) := Z0.out.below hb Z0.out.lt
  clear hb hfw x0 x1 x2 x3 x4 x5 x6 x7 x8 X0 B0 Z0
  rcases hr with ⟨rfl, rfl⟩ | ⟨hf, rfl⟩
  case inr =>
    have HF : Hid (fw ≠ 0) := hf
    clear hf
    obtain ⟨z0, z1, z2, z3, z4, z5, z6, z7, z8⟩ := Z1.out.cells
    obtain ⟨t0, t1, t2, t3, t4, t5, t6, t7, t8⟩ := Z1.out.thaws
    have KZ : Hid (Kp (w.heap.size + 1) w1 (((((((((w1.setCell ⟨w.heap.size + 1, 0, none⟩ (.int .i64 0)).setCell ⟨w.heap.size + 1, 1, none⟩ (.int .i64 0)).setCell ⟨w.heap.size + 1, 2, none⟩ (.int .i64 0)).setCell ⟨w.heap.size + 1, 3, none⟩ (.int .i64 0)).setCell ⟨w.heap.size + 1, 4, none⟩ (.slice none 0 0)).setCell ⟨w.heap.size + 1, 5, none⟩ (.slice none 0 0)).setCell ⟨w.heap.size + 1, 6, none⟩ (.slice none 0 0)).setCell ⟨w.heap.size + 1, 7, none⟩ (.slice none 0 0)).setCell ⟨w.heap.size + 1, 8, none⟩ (.slice none 0 0))) := put_kp _ _ _ _ _ _ _ _ _ _ _
    obtain ⟨y0, y1, y2, y3, y4, y5, y6, y7, y8⟩ := (Z1.out.put (.int .i64 0) (.int .i64 0) (.int .i64 0) (.int .i64 0) (.slice none 0 0) (.slice none 0 0) (.slice none 0 0) (.slice none 0 0) (.slice none 0 0)).cells
    go_wp2
    clear z0 z1 z2 z3 z4 z5 z6 z7 z8 t0 t1 t2 t3 t4 t5 t6 t7 t8
    generalize (((((((((w1.setCell ⟨w.heap.size + 1, 0, none⟩ (.int .i64 0)).setCell ⟨w.heap.size + 1, 1, none⟩ (.int .i64 0)).setCell ⟨w.heap.size + 1, 2, none⟩ (.int .i64 0)).setCell ⟨w.heap.size + 1, 3, none⟩ (.int .i64 0)).setCell ⟨w.heap.size + 1, 4, none⟩ (.slice none 0 0)).setCell ⟨w.heap.size + 1, 5, none⟩ (.slice none 0 0)).setCell ⟨w.heap.size + 1, 6, none⟩ (.slice none 0 0)).setCell ⟨w.heap.size + 1, 7, none⟩ (.slice none 0 0)).setCell ⟨w.heap.size + 1, 8, none⟩ (.slice none 0 0)) = w9 at *
    refine bodyPost_ret (v := .tuple #[.agg #[.int .i64 0, .int .i64 0, .int .i64 0, .int .i64 0, .slice none 0 0, .slice none 0 0, .slice none 0 0, .slice none 0 0, .slice none 0 0], .slice none 0 0, .iface 77 (.int .i64 fw)]) (by simp [results, Tryz.results50, go_sem, y0, y1, y2, y3, y4, y5, y6, y7, y8]) rfl ⟨_, _, _, rfl, by rw [FW.out]; exact Er.no HF.out, .inl ⟨by rw [FW.out]; exact HF.out, rfl, rfl⟩, KZ.out.below B1.out B1.out.size (by omega)⟩
  have WR : Hid (WRight ks X) := wright_of FW.out
  obtain ⟨Wn, Hn, e1, e2, G⟩ := WR.out.good
  have GD : Hid (Fd.Good Wn Hn X.gs X.os ∧ X.wide = (Wn : Nat) ∧ X.high = (Hn : Nat)) := ⟨G, e1, e2⟩
  clear e1 e2 G
  obtain ⟨x0, x1, x2, x3, x4, x5, x6, x7, x8⟩ := X1.out.cells
  go_wp2_with fail
  refine (copy_any _ X w1 (H.out.below B1.out) WR.out.len).mono ?_
  rintro e w2 ⟨cu, rfl, ⟨k1, k2, k3, k4, k5, rfl, ⟨o1, o2, o3, o4, o5⟩, -, -, d14, -, -, d24, -, d34, -, d45⟩, hb⟩
  obtain ⟨a1, r1, rfl⟩ := o1.len
  obtain ⟨a2, r2, rfl⟩ := o2.len
  obtain ⟨a3, r3, rfl⟩ := o3.len
  obtain ⟨a5, r5, rfl⟩ := o5.len
  obtain ⟨b1, hb1⟩ : ∃ z, w1.heap.size = z := ⟨_, rfl⟩
  rw [hb1] at o1 o2 o3 o4 o5
  have BS : Hid (w.heap.size + 1 < b1 ∧ b1 ≤ w2.heap.size) := ⟨by rw [← hb1]; exact Z1.out.lt, by rw [← hb1]; exact hb.size⟩
  have X2 : Hid (Wx w2 (w.heap.size) (.int .i64 X.turn) (.int .i64 X.next) (.int .i64 X.wide) (.int .i64 X.high) (.slice p1 X.gs.length q1) (.slice p2 X.os.length q2) (.slice p3 X.gold.length q3) (.slice p4 X.us.length q4) (.slice p5 X.qs.length q5)) := X1.out.below hb X1.out.lt
  have Z2 : Hid (Wx w2 (w.heap.size + 1) (.int .i64 0) (.int .i64 0) (.int .i64 0) (.int .i64 0) (.slice none 0 0) (.slice none 0 0) (.slice none 0 0) (.slice none 0 0) (.slice none 0 0)) := Z1.out.below hb Z1.out.lt
  have B2 : Hid (Below w.heap.size w w2) := B1.out.trans (hb.mono B1.out.size)
  clear hb hb1 x0 x1 x2 x3 x4 x5 x6 x7 x8 X1 Z1 B1
  obtain ⟨z0, z1, z2, z3, z4, z5, z6, z7, z8⟩ := X2.out.cells
  obtain ⟨t0, t1, t2, t3, t4, t5, t6, t7, t8⟩ := X2.out.thaws
  rcases o4.ub with ⟨rfl, hnil⟩ | ⟨g, r4, rest, rfl, hbg, hkc, hcm, hcl, hub⟩
  · -- nobody
    have KZ : Hid (Kp (w.heap.size) w2 (((((((((w2.setCell ⟨w.heap.size, 0, none⟩ (.int .i64 X.turn)).setCell ⟨w.heap.size, 1, none⟩ (.int .i64 X.next)).setCell ⟨w.heap.size, 2, none⟩ (.int .i64 X.wide)).setCell ⟨w.heap.size, 3, none⟩ (.int .i64 X.high)).setCell ⟨w.heap.size, 4, none⟩ (Value.slice a1 X.gs.length r1)).setCell ⟨w.heap.size, 5, none⟩ (Value.slice a2 X.os.length r2)).setCell ⟨w.heap.size, 6, none⟩ (Value.slice a3 X.gold.length r3)).setCell ⟨w.heap.size, 7, none⟩ (Value.slice none 0 0)).setCell ⟨w.heap.size, 8, none⟩ (Value.slice a5 X.qs.length r5))) := put_kp _ _ _ _ _ _ _ _ _ _ _
    have XE : Hid (Wx (((((((((w2.setCell ⟨w.heap.size, 0, none⟩ (.int .i64 X.turn)).setCell ⟨w.heap.size, 1, none⟩ (.int .i64 X.next)).setCell ⟨w.heap.size, 2, none⟩ (.int .i64 X.wide)).setCell ⟨w.heap.size, 3, none⟩ (.int .i64 X.high)).setCell ⟨w.heap.size, 4, none⟩ (Value.slice a1 X.gs.length r1)).setCell ⟨w.heap.size, 5, none⟩ (Value.slice a2 X.os.length r2)).setCell ⟨w.heap.size, 6, none⟩ (Value.slice a3 X.gold.length r3)).setCell ⟨w.heap.size, 7, none⟩ (Value.slice none 0 0)).setCell ⟨w.heap.size, 8, none⟩ (Value.slice a5 X.qs.length r5)) (w.heap.size) (.int .i64 X.turn) (.int .i64 X.next) (.int .i64 X.wide) (.int .i64 X.high) (Value.slice a1 X.gs.length r1) (Value.slice a2 X.os.length r2) (Value.slice a3 X.gold.length r3) (Value.slice none 0 0) (Value.slice a5 X.qs.length r5)) := X2.out.put (.int .i64 X.turn) (.int .i64 X.next) (.int .i64 X.wide) (.int .i64 X.high) (Value.slice a1 X.gs.length r1) (Value.slice a2 X.os.length r2) (Value.slice a3 X.gold.length r3) (Value.slice none 0 0) (Value.slice a5 X.qs.length r5)
    have NIL : Hid (X.us = []) := hnil
    have O2 : Hid (Ow w2 b1 (Value.slice a1 X.gs.length r1) X.gs ∧ Ow w2 b1 (Value.slice a2 X.os.length r2) X.os ∧ Ow w2 b1 (Value.slice a3 X.gold.length r3) X.gold ∧ Jbo w2 b1 (Value.slice a5 X.qs.length r5) X.qs) := ⟨o1, o2, o3, o5⟩
    clear o1 o2 o3 o4 o5 d14 d24 d34 d45 hnil
    go_upto_region 5 with fail
    clear z0 z1 z2 z3 z4 z5 z6 z7 z8 t0 t1 t2 t3 t4 t5 t6 t7 t8
    generalize (((((((((w2.setCell ⟨w.heap.size, 0, none⟩ (.int .i64 X.turn)).setCell ⟨w.heap.size, 1, none⟩ (.int .i64 X.next)).setCell ⟨w.heap.size, 2, none⟩ (.int .i64 X.wide)).setCell ⟨w.heap.size, 3, none⟩ (.int .i64 X.high)).setCell ⟨w.heap.size, 4, none⟩ (Value.slice a1 X.gs.length r1)).setCell ⟨w.heap.size, 5, none⟩ (Value.slice a2 X.os.length r2)).setCell ⟨w.heap.size, 6, none⟩ (Value.slice a3 X.gold.length r3)).setCell ⟨w.heap.size, 7, none⟩ (Value.slice none 0 0)).setCell ⟨w.heap.size, 8, none⟩ (Value.slice a5 X.qs.length r5)) = w3 at *
    have ZE : Hid (Wx w3 (w.heap.size + 1) (.int .i64 0) (.int .i64 0) (.int .i64 0) (.int .i64 0) (.slice none 0 0) (.slice none 0 0) (.slice none 0 0) (.slice none 0 0) (.slice none 0 0)) := Z2.out.kp KZ.out (by omega)
    have BE : Hid (Below w.heap.size w w3) := KZ.out.below B2.out B2.out.size (Nat.le_refl _)
    have O3 : Hid (Ow w3 b1 (Value.slice a1 X.gs.length r1) X.gs ∧ Ow w3 b1 (Value.slice a2 X.os.length r2) X.os ∧ Ow w3 b1 (Value.slice a3 X.gold.length r3) X.gold ∧ Jbo w3 b1 (Value.slice a5 X.qs.length r5) X.qs) := by
      have h := BS.out.1
      exact ⟨O2.out.1.kp KZ.out (by omega), O2.out.2.1.kp KZ.out (by omega), O2.out.2.2.1.kp KZ.out (by omega), O2.out.2.2.2.kp KZ.out (by omega)⟩
    clear KZ X2 Z2 B2 O2
    obtain ⟨-, -, -, -, -, -, -, w7, -⟩ := XE.out.cells
    go_upto_region 7 with fail
    clear w7
    refine wp_loop_rounds 1 ?_
    rw [rounds_succ]
    obtain ⟨x0, x1, x2, x3, x4, x5, x6, x7, x8⟩ := XE.out.cells
    obtain ⟨z0, z1, z2, z3, z4, z5, z6, z7, z8⟩ := ZE.out.cells
    obtain ⟨t0, t1, t2, t3, t4, t5, t6, t7, t8⟩ := ZE.out.thaws
    have KZ : Hid (Kp (w.heap.size + 1) w3 (((((((((w3.setCell ⟨w.heap.size + 1, 0, none⟩ (.int .i64 X.turn)).setCell ⟨w.heap.size + 1, 1, none⟩ (.int .i64 X.next)).setCell ⟨w.heap.size + 1, 2, none⟩ (.int .i64 X.wide)).setCell ⟨w.heap.size + 1, 3, none⟩ (.int .i64 X.high)).setCell ⟨w.heap.size + 1, 4, none⟩ (Value.slice a1 X.gs.length r1)).setCell ⟨w.heap.size + 1, 5, none⟩ (Value.slice a2 X.os.length r2)).setCell ⟨w.heap.size + 1, 6, none⟩ (Value.slice a3 X.gold.length r3)).setCell ⟨w.heap.size + 1, 7, none⟩ (Value.slice none 0 0)).setCell ⟨w.heap.size + 1, 8, none⟩ (Value.slice a5 X.qs.length r5))) := put_kp _ _ _ _ _ _ _ _ _ _ _
    obtain ⟨y0, y1, y2, y3, y4, y5, y6, y7, y8⟩ := (ZE.out.put (.int .i64 X.turn) (.int .i64 X.next) (.int .i64 X.wide) (.int .i64 X.high) (Value.slice a1 X.gs.length r1) (Value.slice a2 X.os.length r2) (Value.slice a3 X.gold.length r3) (Value.slice none 0 0) (Value.slice a5 X.qs.length r5)).cells
    go_wp2
    clear x0 x1 x2 x3 x4 x5 x6 x7 x8 z0 z1 z2 z3 z4 z5 z6 z7 z8 t0 t1 t2 t3 t4 t5 t6 t7 t8
    generalize (((((((((w3.setCell ⟨w.heap.size + 1, 0, none⟩ (.int .i64 X.turn)).setCell ⟨w.heap.size + 1, 1, none⟩ (.int .i64 X.next)).setCell ⟨w.heap.size + 1, 2, none⟩ (.int .i64 X.wide)).setCell ⟨w.heap.size + 1, 3, none⟩ (.int .i64 X.high)).setCell ⟨w.heap.size + 1, 4, none⟩ (Value.slice a1 X.gs.length r1)).setCell ⟨w.heap.size + 1, 5, none⟩ (Value.slice a2 X.os.length r2)).setCell ⟨w.heap.size + 1, 6, none⟩ (Value.slice a3 X.gold.length r3)).setCell ⟨w.heap.size + 1, 7, none⟩ (Value.slice none 0 0)).setCell ⟨w.heap.size + 1, 8, none⟩ (Value.slice a5 X.qs.length r5)) = wz at *
    refine bodyPost_ret (v := .tuple #[.agg #[.int .i64 X.turn, .int .i64 X.next, .int .i64 X.wide, .int .i64 X.high, Value.slice a1 X.gs.length r1, Value.slice a2 X.os.length r2, Value.slice a3 X.gold.length r3, Value.slice none 0 0, Value.slice a5 X.qs.length r5], .slice none 0 0, .nilIface]) (by simp [results, Tryz.results50, go_sem, y0, y1, y2, y3, y4, y5, y6, y7, y8]) rfl ⟨_, _, _, rfl, by rw [FW.out]; exact Er.nil, .inr ⟨FW.out, Wn, Hn, GD.out.2.1, GD.out.2.2, GD.out.1, X.us, [], .done (by rw [NIL.out]; rfl), rfl, ?_, Evo.nil _ _⟩, KZ.out.below BE.out BE.out.size (by omega)⟩
    have h := BS.out.1
    exact ⟨_, _, _, _, _, rfl, (O3.out.1.kp KZ.out (by omega)).mono (by omega), (O3.out.2.1.kp KZ.out (by omega)).mono (by omega), (O3.out.2.2.1.kp KZ.out (by omega)).mono (by omega), by rw [NIL.out]; exact Uno.nil _ _, (O3.out.2.2.2.kp KZ.out (by omega)).mono (by omega)⟩
  have KZ : Hid (Kp (w.heap.size) w2 (((((((((w2.setCell ⟨w.heap.size, 0, none⟩ (.int .i64 X.turn)).setCell ⟨w.heap.size, 1, none⟩ (.int .i64 X.next)).setCell ⟨w.heap.size, 2, none⟩ (.int .i64 X.wide)).setCell ⟨w.heap.size, 3, none⟩ (.int .i64 X.high)).setCell ⟨w.heap.size, 4, none⟩ (Value.slice a1 X.gs.length r1)).setCell ⟨w.heap.size, 5, none⟩ (Value.slice a2 X.os.length r2)).setCell ⟨w.heap.size, 6, none⟩ (Value.slice a3 X.gold.length r3)).setCell ⟨w.heap.size, 7, none⟩ (Value.slice (some ⟨g, 0, none⟩) X.us.length r4)).setCell ⟨w.heap.size, 8, none⟩ (Value.slice a5 X.qs.length r5))) := put_kp _ _ _ _ _ _ _ _ _ _ _
  have X3 : Hid (Wx (((((((((w2.setCell ⟨w.heap.size, 0, none⟩ (.int .i64 X.turn)).setCell ⟨w.heap.size, 1, none⟩ (.int .i64 X.next)).setCell ⟨w.heap.size, 2, none⟩ (.int .i64 X.wide)).setCell ⟨w.heap.size, 3, none⟩ (.int .i64 X.high)).setCell ⟨w.heap.size, 4, none⟩ (Value.slice a1 X.gs.length r1)).setCell ⟨w.heap.size, 5, none⟩ (Value.slice a2 X.os.length r2)).setCell ⟨w.heap.size, 6, none⟩ (Value.slice a3 X.gold.length r3)).setCell ⟨w.heap.size, 7, none⟩ (Value.slice (some ⟨g, 0, none⟩) X.us.length r4)).setCell ⟨w.heap.size, 8, none⟩ (Value.slice a5 X.qs.length r5)) (w.heap.size) (.int .i64 X.turn) (.int .i64 X.next) (.int .i64 X.wide) (.int .i64 X.high) (Value.slice a1 X.gs.length r1) (Value.slice a2 X.os.length r2) (Value.slice a3 X.gold.length r3) (Value.slice (some ⟨g, 0, none⟩) X.us.length r4) (Value.slice a5 X.qs.length r5)) := X2.out.put (.int .i64 X.turn) (.int .i64 X.next) (.int .i64 X.wide) (.int .i64 X.high) (Value.slice a1 X.gs.length r1) (Value.slice a2 X.os.length r2) (Value.slice a3 X.gold.length r3) (Value.slice (some ⟨g, 0, none⟩) X.us.length r4) (Value.slice a5 X.qs.length r5)
  have O2 : Hid (Ow w2 b1 (Value.slice a1 X.gs.length r1) X.gs ∧ Ow w2 b1 (Value.slice a2 X.os.length r2) X.os ∧ Ow w2 b1 (Value.slice a3 X.gold.length r3) X.gold ∧ Jbo w2 b1 (Value.slice a5 X.qs.length r5) X.qs ∧ Ub w2 g X.us rest) := ⟨o1, o2, o3, o5, hub⟩
  have DD : Hid ((∀ b, ((Value.slice a1 X.gs.length r1)).ownBlock = some b → some g ≠ some b) ∧ (∀ b, ((Value.slice a2 X.os.length r2)).ownBlock = some b → some g ≠ some b) ∧ (∀ b, ((Value.slice a3 X.gold.length r3)).ownBlock = some b → some g ≠ some b) ∧ (∀ b, ((Value.slice a5 X.qs.length r5)).ownBlock = some b → some g ≠ some b)) := ⟨fun b h e => d14 b h e, fun b h e => d24 b h e, fun b h e => d34 b h e, fun b h e => d45 b e h⟩
  have CP : Hid (b1 ≤ g ∧ X.us.length ≤ r4 ∧ r4 ≤ maxLen ∧ X.us.length * 8 + rest.length = r4 * 8) := ⟨hbg, hkc, hcm, hcl⟩
  have hr4 : r4 ≤ 9223372036854775807 := by unfold maxLen at hcm; omega
  have hr4' : X.us.length ≤ r4 := hkc
  have hul : X.us.length ≤ 40 := WR.out.ul
  clear o1 o2 o3 o4 o5 d14 d24 d34 d45 hbg hkc hcm hcl hub
  go_upto_region 5 with fail
  clear z0 z1 z2 z3 z4 z5 z6 z7 z8 t0 t1 t2 t3 t4 t5 t6 t7 t8
  generalize (((((((((w2.setCell ⟨w.heap.size, 0, none⟩ (.int .i64 X.turn)).setCell ⟨w.heap.size, 1, none⟩ (.int .i64 X.next)).setCell ⟨w.heap.size, 2, none⟩ (.int .i64 X.wide)).setCell ⟨w.heap.size, 3, none⟩ (.int .i64 X.high)).setCell ⟨w.heap.size, 4, none⟩ (Value.slice a1 X.gs.length r1)).setCell ⟨w.heap.size, 5, none⟩ (Value.slice a2 X.os.length r2)).setCell ⟨w.heap.size, 6, none⟩ (Value.slice a3 X.gold.length r3)).setCell ⟨w.heap.size, 7, none⟩ (Value.slice (some ⟨g, 0, none⟩) X.us.length r4)).setCell ⟨w.heap.size, 8, none⟩ (Value.slice a5 X.qs.length r5)) = w3 at *
  have Z3 : Hid (Wx w3 (w.heap.size + 1) (.int .i64 0) (.int .i64 0) (.int .i64 0) (.int .i64 0) (.slice none 0 0) (.slice none 0 0) (.slice none 0 0) (.slice none 0 0) (.slice none 0 0)) := Z2.out.kp KZ.out (by omega)
  have B3 : Hid (Below w.heap.size w w3) := KZ.out.below B2.out B2.out.size (Nat.le_refl _)
  have O3 : Hid (Ow w3 b1 (Value.slice a1 X.gs.length r1) X.gs ∧ Ow w3 b1 (Value.slice a2 X.os.length r2) X.os ∧ Ow w3 b1 (Value.slice a3 X.gold.length r3) X.gold ∧ Jbo w3 b1 (Value.slice a5 X.qs.length r5) X.qs ∧ Ub w3 g X.us rest) := by
    have h := BS.out.1
    refine ⟨O2.out.1.kp KZ.out (by omega), O2.out.2.1.kp KZ.out (by omega), O2.out.2.2.1.kp KZ.out (by omega), O2.out.2.2.2.1.kp KZ.out (by omega), ?_⟩
    have h9 := O2.out.2.2.2.2
    unfold Ub at *
    rw [KZ.out.block g (lt_of_block h9) (by have := CP.out.1; omega)]
    exact h9
  clear KZ X2 Z2 B2 O2
  -- what stands in any world in which that block alone has turned
  have ST : Hid (∀ V us', us'.length = X.us.length → Kp g w3 V → Ub V g us' rest → Wl V (.agg #[.int .i64 X.turn, .int .i64 X.next, .int .i64 X.wide, .int .i64 X.high, Value.slice a1 X.gs.length r1, Value.slice a2 X.os.length r2, Value.slice a3 X.gold.length r3, Value.slice (some ⟨g, 0, none⟩) X.us.length r4, Value.slice a5 X.qs.length r5]) { X with us := us' } ∧ Kl V (.slice pk ks.length qk) ks ∧ Sd V ∧ Wx V (w.heap.size) (.int .i64 X.turn) (.int .i64 X.next) (.int .i64 X.wide) (.int .i64 X.high) (Value.slice a1 X.gs.length r1) (Value.slice a2 X.os.length r2) (Value.slice a3 X.gold.length r3) (Value.slice (some ⟨g, 0, none⟩) X.us.length r4) (Value.slice a5 X.qs.length r5) ∧ Wx V (w.heap.size + 1) (.int .i64 0) (.int .i64 0) (.int .i64 0) (.int .i64 0) (.slice none 0 0) (.slice none 0 0) (.slice none 0 0) (.slice none 0 0) (.slice none 0 0) ∧ Below w.heap.size w V ∧ Ow V b1 (Value.slice a1 X.gs.length r1) X.gs ∧ Ow V b1 (Value.slice a2 X.os.length r2) X.os ∧ Ow V b1 (Value.slice a3 X.gold.length r3) X.gold ∧ Jbo V b1 (Value.slice a5 X.qs.length r5) X.qs) := fun V us' hl hk hu => by
    have hb : Below w.heap.size w V := hk.below B3.out B3.out.size (by have := CP.out.1; have := BS.out.1; omega)
    have o1 : Ow V b1 (Value.slice a1 X.gs.length r1) X.gs := own_gb O3.out.1 (gb_kp hk) DD.out.1
    have o2 : Ow V b1 (Value.slice a2 X.os.length r2) X.os := own_gb O3.out.2.1 (gb_kp hk) DD.out.2.1
    have o3 : Ow V b1 (Value.slice a3 X.gold.length r3) X.gold := own_gb O3.out.2.2.1 (gb_kp hk) DD.out.2.2.1
    have o5 : Jbo V b1 (Value.slice a5 X.qs.length r5) X.qs := own_gb O3.out.2.2.2.1 (gb_kp hk) DD.out.2.2.2
    have hu' := hu.uno (base := b1) (cap := r4) CP.out.1 (by rw [hl]; exact CP.out.2.1) CP.out.2.2.1 (by rw [hl]; exact CP.out.2.2.2)
    rw [hl] at hu'
    exact ⟨⟨_, _, _, _, _, rfl, o1.ro, o2.ro, o3.ro, hu'.l, o5.l⟩, K.out.1.below hb, S.out.below hb, X3.out.kp hk (by have := CP.out.1; have := BS.out.1; omega), Z3.out.kp hk (by have := CP.out.1; have := BS.out.1; omega), hb, o1, o2, o3, o5⟩
  obtain ⟨-, -, -, -, -, -, -, w7, -⟩ := X3.out.cells
  go_upto_region 7 with fail
  clear w7
  have GL : Hid (g < w3.heap.size) := O3.out.2.2.2.2.lt
  go_loopw [8, 25] (fun v8 v25 V => ∃ (n : Nat) (us1 : List UnV) (evs : List EvV) (ev : Value), ev = v8 ∧ v25 = .int .i64 (n : Nat) ∧ n ≤ X.us.length ∧ Alike ks (Wn * Hn) X.us us1 ∧ Ub V g us1 rest ∧ Evo V w3.heap.size ev evs ∧ evs.length ≤ 4 * n ∧ Kp g w3 V ∧ (∀ evs' us', Moves ks X Wn Hn n us1 evs' us' → Moves ks X Wn Hn 0 X.us (evs ++ evs') us')) (fun _ v25 _ => X.us.length - (intOf v25).toNat)
  case atStart => exact ⟨0, X.us, [], _, rfl, rfl, Nat.zero_le _, ⟨rfl, fun j v hj => ⟨v, hj, rfl, rfl, right_fits WR.out GD.out.1 v (List.mem_of_getElem? hj)⟩⟩, O3.out.2.2.2.2, Evo.nil _ _, Nat.le_refl _, Kp.refl _ _, fun _ _ h => h⟩
  case round =>
    obtain ⟨n, us1, evs, ev, rfl, rfl, hn, hal, hub, hev, hel, hkp, hmo⟩ := hrel
    have AL : Hid (Alike ks (Wn * Hn) X.us us1) := hal
    have U4 : Hid (Ub wr g us1 rest) := hub
    have E4 : Hid (Evo wr w3.heap.size ev evs ∧ evs.length ≤ 4 * n) := ⟨hev, hel⟩
    have P4 : Hid (Kp g w3 wr) := hkp
    have MO : Hid (∀ evs' us', Moves ks X Wn Hn n us1 evs' us' → Moves ks X Wn Hn 0 X.us (evs ++ evs') us') := hmo
    have A4 := ST.out wr us1 hal.1 hkp hub
    obtain ⟨-, -, -, ax, az, ab, ao1, ao2, ao3, ao5⟩ := A4
    clear hal hub hev hel hkp hmo
    by_cases h0 : n = X.us.length
    · subst h0
      have hnl : ¬ (((X.us.length : Nat) : Int) < (X.us.length : Nat)) := by omega
      have XE : Hid (Wx wr (w.heap.size) (.int .i64 X.turn) (.int .i64 X.next) (.int .i64 X.wide) (.int .i64 X.high) (Value.slice a1 X.gs.length r1) (Value.slice a2 X.os.length r2) (Value.slice a3 X.gold.length r3) (Value.slice (some ⟨g, 0, none⟩) X.us.length r4) (Value.slice a5 X.qs.length r5)) := ax
      have ZE : Hid (Wx wr (w.heap.size + 1) (.int .i64 0) (.int .i64 0) (.int .i64 0) (.int .i64 0) (.slice none 0 0) (.slice none 0 0) (.slice none 0 0) (.slice none 0 0) (.slice none 0 0)) := az
      have BE : Hid (Below w.heap.size w wr) := ab
      have OE : Hid (Ow wr b1 (Value.slice a1 X.gs.length r1) X.gs ∧ Ow wr b1 (Value.slice a2 X.os.length r2) X.os ∧ Ow wr b1 (Value.slice a3 X.gold.length r3) X.gold ∧ Jbo wr b1 (Value.slice a5 X.qs.length r5) X.qs) := ⟨ao1, ao2, ao3, ao5⟩
      have UE : Hid (Uno wr b1 (Value.slice (some ⟨g, 0, none⟩) X.us.length r4) us1) := by
        have hl := AL.out.1
        have := U4.out.uno (base := b1) (cap := r4) CP.out.1 (by rw [hl]; exact CP.out.2.1) CP.out.2.2.1 (by rw [hl]; exact CP.out.2.2.2)
        rw [hl] at this
        exact this
      have FIN : Hid (Moves ks X Wn Hn 0 X.us evs us1) := by
        have := MO.out [] us1 (.done AL.out.1.symm)
        rw [List.append_nil] at this
        exact this
      have B13 : Hid (b1 ≤ w3.heap.size) := by have := CP.out.1; have := GL.out; unfold Hid; omega
      clear ax az ab ao1 ao2 ao3 ao5
      obtain ⟨x0, x1, x2, x3, x4, x5, x6, x7, x8⟩ := XE.out.cells
      obtain ⟨z0, z1, z2, z3, z4, z5, z6, z7, z8⟩ := ZE.out.cells
      obtain ⟨t0, t1, t2, t3, t4, t5, t6, t7, t8⟩ := ZE.out.thaws
      have KZ : Hid (Kp (w.heap.size + 1) wr (((((((((wr.setCell ⟨w.heap.size + 1, 0, none⟩ (.int .i64 X.turn)).setCell ⟨w.heap.size + 1, 1, none⟩ (.int .i64 X.next)).setCell ⟨w.heap.size + 1, 2, none⟩ (.int .i64 X.wide)).setCell ⟨w.heap.size + 1, 3, none⟩ (.int .i64 X.high)).setCell ⟨w.heap.size + 1, 4, none⟩ (Value.slice a1 X.gs.length r1)).setCell ⟨w.heap.size + 1, 5, none⟩ (Value.slice a2 X.os.length r2)).setCell ⟨w.heap.size + 1, 6, none⟩ (Value.slice a3 X.gold.length r3)).setCell ⟨w.heap.size + 1, 7, none⟩ (Value.slice (some ⟨g, 0, none⟩) X.us.length r4)).setCell ⟨w.heap.size + 1, 8, none⟩ (Value.slice a5 X.qs.length r5))) := put_kp _ _ _ _ _ _ _ _ _ _ _
      obtain ⟨y0, y1, y2, y3, y4, y5, y6, y7, y8⟩ := (ZE.out.put (.int .i64 X.turn) (.int .i64 X.next) (.int .i64 X.wide) (.int .i64 X.high) (Value.slice a1 X.gs.length r1) (Value.slice a2 X.os.length r2) (Value.slice a3 X.gold.length r3) (Value.slice (some ⟨g, 0, none⟩) X.us.length r4) (Value.slice a5 X.qs.length r5)).cells
      go_wp2
      clear x0 x1 x2 x3 x4 x5 x6 x7 x8 z0 z1 z2 z3 z4 z5 z6 z7 z8 t0 t1 t2 t3 t4 t5 t6 t7 t8
      generalize (((((((((wr.setCell ⟨w.heap.size + 1, 0, none⟩ (.int .i64 X.turn)).setCell ⟨w.heap.size + 1, 1, none⟩ (.int .i64 X.next)).setCell ⟨w.heap.size + 1, 2, none⟩ (.int .i64 X.wide)).setCell ⟨w.heap.size + 1, 3, none⟩ (.int .i64 X.high)).setCell ⟨w.heap.size + 1, 4, none⟩ (Value.slice a1 X.gs.length r1)).setCell ⟨w.heap.size + 1, 5, none⟩ (Value.slice a2 X.os.length r2)).setCell ⟨w.heap.size + 1, 6, none⟩ (Value.slice a3 X.gold.length r3)).setCell ⟨w.heap.size + 1, 7, none⟩ (Value.slice (some ⟨g, 0, none⟩) X.us.length r4)).setCell ⟨w.heap.size + 1, 8, none⟩ (Value.slice a5 X.qs.length r5)) = wz at *
      refine bodyPost_ret (v := .tuple #[.agg #[.int .i64 X.turn, .int .i64 X.next, .int .i64 X.wide, .int .i64 X.high, Value.slice a1 X.gs.length r1, Value.slice a2 X.os.length r2, Value.slice a3 X.gold.length r3, Value.slice (some ⟨g, 0, none⟩) X.us.length r4, Value.slice a5 X.qs.length r5], ev, .nilIface]) (by simp [results, Tryz.results50, go_sem, y0, y1, y2, y3, y4, y5, y6, y7, y8]) rfl ⟨_, _, _, rfl, by rw [FW.out]; exact Er.nil, .inr ⟨FW.out, Wn, Hn, GD.out.2.1, GD.out.2.2, GD.out.1, us1, evs, FIN.out, AL.out.1, ?_, ?_⟩, KZ.out.below BE.out BE.out.size (by omega)⟩
      · have h := BS.out.1
        exact ⟨_, _, _, _, _, rfl, (OE.out.1.kp KZ.out (by omega)).mono (by omega), (OE.out.2.1.kp KZ.out (by omega)).mono (by omega), (OE.out.2.2.1.kp KZ.out (by omega)).mono (by omega), (UE.out.kp KZ.out (by omega)).mono (by omega), (OE.out.2.2.2.kp KZ.out (by omega)).mono (by omega)⟩
      · have h := BS.out.1
        have h' := B13.out
        exact (E4.out.1.kp9 KZ.out (by omega)).mono (by omega)
    · have hnl : n < X.us.length := by omega
      have hni : ((n : Nat) : Int) < (X.us.length : Nat) := by omega
      have hn1 : n < us1.length := by rw [AL.out.1]; exact hnl
      obtain ⟨u, hu⟩ : ∃ u, us1[n]? = some u := ⟨_, List.getElem?_eq_getElem hn1⟩
      obtain ⟨u0, hu0, huk, hid0, hfit, hgoal⟩ := AL.out.2 n u hu
      obtain ⟨k, f0⟩ := WR.out.fine hu0
      have hkk : ks[u.kind.toNat]? = some k := by rw [huk]; exact f0.kk
      have hsp := kind_nums WR.out.kinds (List.mem_of_getElem? hkk)
      have UH : Hid (us1[n]? = some u ∧ ks[u.kind.toNat]? = some k ∧ Fit ks (Wn * Hn) u ∧ (0 ≤ u.goal ∧ u.goal < (Wn * Hn : Nat)) ∧ (0 ≤ k.n4 ∧ k.n4 ≤ 4)) := ⟨hu, hkk, hfit, hgoal, hsp.2.2.1, hsp.2.2.2.1⟩
      have WN : IntKind.i64.wrap ((n : Nat) + 1 : Int) = ((n : Nat) : Int) + 1 := by rw [IntKind.wrap_i64]; omega
      have BE : Hid (Below w.heap.size w wr) := ab
      obtain ⟨x0, x1, x2, x3, x4, x5, x6, x7, x8⟩ := ax.cells
      have WK : Hid (Calls Tryz.prog 76 #[.slice pk ks.length qk, .agg #[.int .i64 X.turn, .int .i64 X.next, .int .i64 X.wide, .int .i64 X.high, Value.slice a1 X.gs.length r1, Value.slice a2 X.os.length r2, Value.slice a3 X.gold.length r3, Value.slice (some ⟨g, 0, none⟩) X.us.length r4, Value.slice a5 X.qs.length r5], .pointer (some ⟨g, n * 8, none⟩)] wr fun e w' => ∃ v us' cells, e = .returned v ∧ Ow w' wr.heap.size v cells ∧ Goes ks X Wn Hn k n us1 k.n4 cells us' ∧ Ub w' g us' rest ∧ Kp g wr w' ∧ cells.length ≤ 4 ∧ (∃ a, us' = us1.set n { u with at_ := a } ∧ 0 ≤ a ∧ a < (Wn * Hn : Nat))) := by
        have h := walk_any (.slice pk ks.length qk) ks X us1 (Value.slice a1 X.gs.length r1) (Value.slice a2 X.os.length r2) (Value.slice a3 X.gold.length r3) (Value.slice a5 X.qs.length r5) g r4 n rest u k Wn Hn wr (K.out.1.below BE.out) (S.out.below BE.out) GD.out.1 GD.out.2.1 GD.out.2.2 (fun V us' hl hk hu => by
          have h9 := ST.out V us' (by rw [hl, AL.out.1]) (P4.out.trans hk) hu
          rw [AL.out.1]
          exact ⟨h9.1, h9.2.1, h9.2.2.1⟩) U4.out UH.out.1 UH.out.2.1 (by rw [AL.out.1]; exact hul) AL.out.fits UH.out.2.2.2.1 UH.out.2.2.2.2
        rw [AL.out.1] at h
        exact h
      clear ax az ab ao1 ao2 ao3 ao5 hu hu0 huk hid0 hfit hgoal f0 hkk hsp
      go_wp2_with fail
      refine Calls.mono WK.out ?_
      rintro e v2 ⟨cv, us2, cells, rfl, hoc, hgo, hub2, hkp2, hc4, a, hus2, ha⟩
      obtain ⟨u2, hu2⟩ : ∃ v : UnV, { u with at_ := a } = v := ⟨_, rfl⟩
      have hi2 : us2[n]? = some u2 := by rw [hus2, hu2, List.getElem?_set_self hn1]
      have H2 : Hid (us2[n]? = some u2 ∧ us2.length = X.us.length ∧ Alike ks (Wn * Hn) X.us us2 ∧ u2.id = u.id ∧ u2.kind = u.kind ∧ Fit ks (Wn * Hn) u2 ∧ (0 ≤ u2.goal ∧ u2.goal < (Wn * Hn : Nat)) ∧ n < us2.length) := by
        have hf : Fit ks (Wn * Hn) u2 := by rw [← hu2]; exact ⟨UH.out.2.2.1.1, ha⟩
        have hg2 : 0 ≤ u2.goal ∧ u2.goal < (Wn * Hn : Nat) := by rw [← hu2]; exact UH.out.2.2.2.1
        have hal2 : Alike ks (Wn * Hn) X.us us2 := by rw [hus2, hu2]; exact AL.out.set UH.out.1 (by rw [← hu2]) (by rw [← hu2]) hf hg2
        exact ⟨hi2, hal2.1, hal2, by rw [← hu2], by rw [← hu2], hf, hg2, (List.getElem?_eq_some_iff.1 hi2).1⟩
      obtain ⟨ac, cc, rfl⟩ := hoc.len
      obtain ⟨bo, hbo⟩ : ∃ z, wr.heap.size = z := ⟨_, rfl⟩
      rw [hbo] at hoc
      have OC : Hid (Ow v2 bo (.slice ac cells.length cc) cells) := hoc
      have GO : Hid (Goes ks X Wn Hn k n us1 k.n4 cells us2 ∧ cells.length ≤ 4) := ⟨hgo, hc4⟩
      have U5 : Hid (Ub v2 g us2 rest) := hub2
      have P5 : Hid (Kp g w3 v2) := P4.out.trans hkp2
      have E5 : Hid (Evo v2 w3.heap.size ev evs) := E4.out.1.kp9 hkp2 GL.out
      have DE : Hid (∀ b, ev.ownBlock = some b → (Value.slice ac cells.length cc).ownBlock ≠ some b) := fun b h1 h2 => by
        have := (E4.out.1.block b h1).2
        have := (hoc.block b h2).1
        omega
      have EL : Hid (evs.length ≤ 4 * n) := E4.out.2
      have hcc : cells.length ≤ cc ∧ cc ≤ 9223372036854775807 := by
        obtain ⟨a9, c9, h9, h8, h7, -⟩ := hoc.ro
        injection h9 with _ _ h9
        subst h9
        exact ⟨h8, h7⟩
      obtain ⟨hcc1, hcc2⟩ := hcc
      clear hoc hgo hub2 hkp2 hus2 ha hu2 hi2 hbo x0 x1 x2 x3 x4 x5 x6 x7 x8 WK U4 P4 E4 BE
      generalize wr = wo at *
      go_upto_region 11 with fail
      go_loopw [8, 37] (fun v8 v37 V => ∃ (m : Nat) (ev' : Value), ev' = v8 ∧ v37 = .int .i64 (m : Nat) ∧ m ≤ cells.length ∧ Ub V g us2 rest ∧ Evo V w3.heap.size ev' (evs ++ (cells.take m).map (fun c => (⟨1, u.id, c⟩ : EvV))) ∧ Kp g w3 V ∧ Ow V bo (.slice ac cells.length cc) cells ∧ (∀ b, ev'.ownBlock = some b → (Value.slice ac cells.length cc).ownBlock ≠ some b)) (fun _ v37 _ => cells.length - (intOf v37).toNat)
      case atStart => exact ⟨0, _, rfl, rfl, Nat.zero_le _, U5.out, by simpa using E5.out, P5.out, OC.out, DE.out⟩
      case round =>
        obtain ⟨m, ev', rfl, rfl, hm, hub, hev, hkp, hoc, hde⟩ := hrel
        have U6 : Hid (Ub wr g us2 rest) := hub
        have E6 : Hid (Evo wr w3.heap.size ev' (evs ++ (cells.take m).map (fun c => (⟨1, u.id, c⟩ : EvV)))) := hev
        have P6 : Hid (Kp g w3 wr) := hkp
        have O6 : Hid (Ow wr bo (.slice ac cells.length cc) cells) := hoc
        have D6 : Hid (∀ b, ev'.ownBlock = some b → (Value.slice ac cells.length cc).ownBlock ≠ some b) := hde
        clear hub hev hkp hoc hde U5 E5 P5 OC DE
        obtain ⟨y0, y1, y2, y3, y4, y5, y6, y7⟩ := U6.out.unc H2.out.1
        by_cases h0 : m = cells.length
        · subst h0
          have hml : ¬ (((cells.length : Nat) : Int) < (cells.length : Nat)) := by omega
          rw [List.take_of_length_le (Nat.le_refl _)] at E6
          obtain ⟨evs2, hevs2⟩ : ∃ l, evs ++ cells.map (fun c => (⟨1, u.id, c⟩ : EvV)) = l := ⟨_, rfl⟩
          rw [hevs2] at E6
          have EL2 : Hid (evs2.length ≤ 4 * (n + 1)) := by
            unfold Hid
            rw [← hevs2, List.length_append, List.length_map]
            have := EL.out
            have := GO.out.2
            omega
          have MO2 : Hid (∀ evs' us', Moves ks X Wn Hn (n + 1) (us2.set n (ends u2)) evs' us' → Moves ks X Wn Hn 0 X.us (evs2 ++ evs') us') := fun evs' us' h => by
            have := MO.out (cells.map (fun c => (⟨1, u.id, c⟩ : EvV)) ++ evs') us' (.unit UH.out.1 UH.out.2.1 GO.out.1 H2.out.1 h)
            rw [← List.append_assoc, hevs2] at this
            exact this
          clear hevs2
          have SELF : Hid (us2.set n u2 = us2) := by
            unfold Hid
            obtain ⟨h2, h3⟩ := List.getElem?_eq_some_iff.1 H2.out.1
            rw [← h3, List.set_getElem_self]
          go_upto_region 15 with fail
          by_cases ht : u2.task = 1
          · have ht' : (u2.task == 1) = true := by rw [ht]; rfl
            have C5 : Hid (∀ V, Below wr.heap.size wr V → Unc V ⟨g, n * 8, none⟩ u2) := fun V hb => (U6.out.below hb U6.out.lt).unc H2.out.1
            clear y0 y1 y2 y3 y4 y5 y6 y7
            by_cases hg : u2.at_ = u2.goal
            · have hg' : (u2.at_ == u2.goal) = true := by rw [hg]; simp
              have EN : Hid (ends u2 = { u2 with task := 0, goal := 0 }) := by unfold Hid ends; rw [if_pos ⟨ht, hg⟩]
              clear ht hg
              refine wp_region_two [(true, 0), (true, 1), (true, 2), (true, 3), (true, 4), (true, 5), (true, 6), (true, 7), (true, 8), (true, 9), (true, 10), (true, 11), (true, 12), (true, 13), (true, 14)] [(false, 15)] (fun V => Unc V ⟨g, n * 8, none⟩ u2) (by kernel_rfl) (by kernel_rfl) (by kernel_rfl) (by decide +kernel) (by decide +kernel) (C5.out _ ((Below.refl _ _).drew)) ?_
              have D1 : Hid (Below wr.heap.size wr { wr with drawn := wr.drawn + 1 }) := (Below.refl _ _).drew
              generalize ({ wr with drawn := wr.drawn + 1 } : World) = v7 at *
              refine headT_read rfl (.pointer (some ⟨g, n * 8, none⟩)) (by go_simp) (fun V hV => by go_simp) ?_
              go_simp
              refine headT_read rfl (.pointer (some ⟨g, n * 8, none⟩)) (by go_simp) (fun V hV => by go_simp) ?_
              go_simp
              refine headT_read rfl (.pointer (some ⟨g, n * 8 + 6, none⟩)) (by go_simp) (fun V hV => by go_simp) ?_
              go_simp
              refine headT_read rfl (.int .i64 u2.task) (by go_simp) (fun V hV => by obtain ⟨y0, y1, y2, y3, y4, y5, y6, y7⟩ := hV; go_simp) ?_
              go_simp
              refine headT_read rfl (.bool true) (by go_simp) (fun V hV => by go_simp) ?_
              go_simp
              refine headT_read rfl (.bool true) (by go_simp) (fun V hV => by go_simp) ?_
              go_simp
              refine headT_read rfl (.pointer (some ⟨g, n * 8, none⟩)) (by go_simp) (fun V hV => by go_simp) ?_
              go_simp
              refine headT_read rfl (.pointer (some ⟨g, n * 8, none⟩)) (by go_simp) (fun V hV => by go_simp) ?_
              go_simp
              refine headT_read rfl (.pointer (some ⟨g, n * 8 + 3, none⟩)) (by go_simp) (fun V hV => by go_simp) ?_
              go_simp
              refine headT_read rfl (.int .i64 u2.at_) (by go_simp) (fun V hV => by obtain ⟨y0, y1, y2, y3, y4, y5, y6, y7⟩ := hV; go_simp) ?_
              go_simp
              refine headT_read rfl (.pointer (some ⟨g, n * 8, none⟩)) (by go_simp) (fun V hV => by go_simp) ?_
              go_simp
              refine headT_read rfl (.pointer (some ⟨g, n * 8, none⟩)) (by go_simp) (fun V hV => by go_simp) ?_
              go_simp
              refine headT_read rfl (.pointer (some ⟨g, n * 8 + 7, none⟩)) (by go_simp) (fun V hV => by go_simp) ?_
              go_simp
              refine headT_read rfl (.int .i64 u2.goal) (by go_simp) (fun V hV => by obtain ⟨y0, y1, y2, y3, y4, y5, y6, y7⟩ := hV; go_simp) ?_
              go_simp
              refine headT_read rfl (.bool true) (by go_simp) (fun V hV => by go_simp) ?_
              go_simp
              unfold wpHeadT
              refine sched_value rfl (.bool true) v7 (by go_simp) (by go_simp) trivial ?_
              go_simp
              unfold wpSched
              have U7 : Hid (Ub v7 g us2 rest) := U6.out.below D1.out U6.out.lt
              have c6 := (U7.out.unc H2.out.1).c6
              have t6 := U7.out.thaw (n * 8 + 6)
              have U8 : Hid (Ub (v7.setCell ⟨g, n * 8 + 6, none⟩ (.int .i64 0)) g (us2.set n { u2 with task := 0 }) rest) := U7.out.set6 H2.out.1 0
              have hs8 : (us2.set n { u2 with task := 0 })[n]? = some { u2 with task := 0 } := List.getElem?_set_self H2.out.2.2.2.2.2.2.2
              have c7 := (U8.out.unc hs8).c7
              have t7 := U8.out.thaw (n * 8 + 7)
              have U9 : Hid (Ub ((v7.setCell ⟨g, n * 8 + 6, none⟩ (.int .i64 0)).setCell ⟨g, n * 8 + 7, none⟩ (.int .i64 0)) g (us2.set n { u2 with task := 0, goal := 0 }) rest) := by
                have := U8.out.set7 hs8 0
                rw [List.set_set] at this
                exact this
              have K9 : Hid (Kp g v7 ((v7.setCell ⟨g, n * 8 + 6, none⟩ (.int .i64 0)).setCell ⟨g, n * 8 + 7, none⟩ (.int .i64 0))) := (Kp.set _ _ _).trans (Kp.set _ _ _)
              clear hs8
              go_upto_region 17 with fail
              clear c6 t6 c7 t7 U8 U7
              generalize ((v7.setCell ⟨g, n * 8 + 6, none⟩ (.int .i64 0)).setCell ⟨g, n * 8 + 7, none⟩ (.int .i64 0)) = v9 at *
              have P9 : Hid (Kp g w3 v9) := (P6.out.trans (Kp.of D1.out)).trans K9.out
              have E9 : Hid (Evo v9 w3.heap.size ev' evs2) := (E6.out.below D1.out).kp9 K9.out GL.out
              have AL9 : Hid (Alike ks (Wn * Hn) X.us (us2.set n { u2 with task := 0, goal := 0 })) := H2.out.2.2.1.set H2.out.1 rfl rfl ⟨H2.out.2.2.2.2.2.1.1, H2.out.2.2.2.2.2.1.2⟩ ⟨Int.le_refl _, by have := H2.out.2.2.2.2.2.2.1; show (0 : Int) < _; omega⟩
              rw [EN.out] at MO2
              clear ht' hg'
              go_wp2
              go_round
              case rel => exact ⟨n + 1, _, evs2, _, rfl, by go_num, by omega, AL9.out, U9.out, E9.out, EL2.out, P9.out, MO2.out⟩
              case measure => simp [intOf]; omega
            · have hg' : (u2.at_ == u2.goal) = false := by rw [beq_eq_false_iff_ne]; exact hg
              have EN : Hid (ends u2 = u2) := by unfold Hid ends; rw [if_neg (fun h => hg h.2)]
              clear ht hg
              refine wp_region_two [(true, 0), (true, 1), (true, 2), (true, 3), (true, 4), (true, 5), (true, 6), (true, 7), (true, 8), (true, 9), (true, 10), (true, 11), (true, 12), (true, 13), (true, 14)] [(false, 15)] (fun V => Unc V ⟨g, n * 8, none⟩ u2) (by kernel_rfl) (by kernel_rfl) (by kernel_rfl) (by decide +kernel) (by decide +kernel) (C5.out _ ((Below.refl _ _).drew)) ?_
              have D1 : Hid (Below wr.heap.size wr { wr with drawn := wr.drawn + 1 }) := (Below.refl _ _).drew
              generalize ({ wr with drawn := wr.drawn + 1 } : World) = v7 at *
              refine headT_read rfl (.pointer (some ⟨g, n * 8, none⟩)) (by go_simp) (fun V hV => by go_simp) ?_
              go_simp
              refine headT_read rfl (.pointer (some ⟨g, n * 8, none⟩)) (by go_simp) (fun V hV => by go_simp) ?_
              go_simp
              refine headT_read rfl (.pointer (some ⟨g, n * 8 + 6, none⟩)) (by go_simp) (fun V hV => by go_simp) ?_
              go_simp
              refine headT_read rfl (.int .i64 u2.task) (by go_simp) (fun V hV => by obtain ⟨y0, y1, y2, y3, y4, y5, y6, y7⟩ := hV; go_simp) ?_
              go_simp
              refine headT_read rfl (.bool true) (by go_simp) (fun V hV => by go_simp) ?_
              go_simp
              refine headT_read rfl (.bool true) (by go_simp) (fun V hV => by go_simp) ?_
              go_simp
              refine headT_read rfl (.pointer (some ⟨g, n * 8, none⟩)) (by go_simp) (fun V hV => by go_simp) ?_
              go_simp
              refine headT_read rfl (.pointer (some ⟨g, n * 8, none⟩)) (by go_simp) (fun V hV => by go_simp) ?_
              go_simp
              refine headT_read rfl (.pointer (some ⟨g, n * 8 + 3, none⟩)) (by go_simp) (fun V hV => by go_simp) ?_
              go_simp
              refine headT_read rfl (.int .i64 u2.at_) (by go_simp) (fun V hV => by obtain ⟨y0, y1, y2, y3, y4, y5, y6, y7⟩ := hV; go_simp) ?_
              go_simp
              refine headT_read rfl (.pointer (some ⟨g, n * 8, none⟩)) (by go_simp) (fun V hV => by go_simp) ?_
              go_simp
              refine headT_read rfl (.pointer (some ⟨g, n * 8, none⟩)) (by go_simp) (fun V hV => by go_simp) ?_
              go_simp
              refine headT_read rfl (.pointer (some ⟨g, n * 8 + 7, none⟩)) (by go_simp) (fun V hV => by go_simp) ?_
              go_simp
              refine headT_read rfl (.int .i64 u2.goal) (by go_simp) (fun V hV => by obtain ⟨y0, y1, y2, y3, y4, y5, y6, y7⟩ := hV; go_simp) ?_
              go_simp
              refine headT_read rfl (.bool false) (by go_simp) (fun V hV => by go_simp) ?_
              go_simp
              unfold wpHeadT
              refine sched_value rfl (.bool false) v7 (by go_simp) (by go_simp) trivial ?_
              go_simp
              unfold wpSched
              have U9 : Hid (Ub v7 g us2 rest) := U6.out.below D1.out U6.out.lt
              have P9 : Hid (Kp g w3 v7) := P6.out.trans (Kp.of D1.out)
              have E9 : Hid (Evo v7 w3.heap.size ev' evs2) := E6.out.below D1.out
              rw [EN.out, SELF.out] at MO2
              clear ht' hg'
              go_wp2
              go_round
              case rel => exact ⟨n + 1, us2, evs2, _, rfl, by go_num, by omega, H2.out.2.2.1, U9.out, E9.out, EL2.out, P9.out, MO2.out⟩
              case measure => simp [intOf]; omega
          · have ht' : (u2.task == 1) = false := by rw [beq_eq_false_iff_ne]; exact ht
            have EN : Hid (ends u2 = u2) := by unfold Hid ends; rw [if_neg (fun h => ht h.1)]
            rw [EN.out, SELF.out] at MO2
            clear ht
            go_quiet (fail)
            clear y0 y1 y2 y3 y4 y5 y6 y7
            go_wp2
            go_round
            case rel => exact ⟨n + 1, us2, evs2, _, rfl, by go_num, by omega, H2.out.2.2.1, U6.out.below (B := wr.heap.size) ⟨rfl, rfl, rfl, Nat.le_refl _, fun _ _ => rfl⟩ U6.out.lt, E6.out.below ⟨rfl, rfl, rfl, Nat.le_refl _, fun _ _ => rfl⟩, EL2.out, P6.out.trans (Kp.of ⟨rfl, rfl, rfl, Nat.le_refl _, fun _ _ => rfl⟩), MO2.out⟩
            case measure => simp [intOf]; omega
        · have hml : m < cells.length := by omega
          have hmi : ((m : Nat) : Int) < (cells.length : Nat) := by omega
          obtain ⟨x, hx⟩ : ∃ x, cells[m]? = some x := ⟨_, List.getElem?_eq_getElem hml⟩
          obtain ⟨a9, c9, h9, -, -, hcl⟩ := O6.out.ro
          obtain ⟨xc, hxc, -, hcc9⟩ := hcl (by intro h; rw [h] at hml; simp at hml)
          injection h9 with h91 h92 h93
          subst h91
          subst hxc
          have cx := hcc9 m x hx
          have WM : IntKind.i64.wrap ((m : Nat) + 1 : Int) = ((m : Nat) : Int) + 1 := by rw [IntKind.wrap_i64]; have := GO.out.2; omega
          obtain ⟨fs, hfs⟩ : ∃ l, evs ++ (cells.take m).map (fun c => (⟨1, u.id, c⟩ : EvV)) = l := ⟨_, rfl⟩
          have NX : Hid (evs ++ (cells.take (m + 1)).map (fun c => (⟨1, u.id, c⟩ : EvV)) = fs ++ [⟨1, u.id, x⟩]) := by
            unfold Hid
            obtain ⟨q1', q2'⟩ := List.getElem?_eq_some_iff.1 hx
            rw [List.take_succ_eq_append_getElem q1', q2', List.map_append, ← List.append_assoc, hfs]
            rfl
          have FSL : Hid (fs.length ≤ 1000) := by
            unfold Hid
            rw [← hfs, List.length_append, List.length_map, List.length_take]
            have := EL.out
            have := GO.out.2
            omega
          rw [hfs] at E6
          rw [H2.out.2.2.2.1] at y0
          clear hcl h92 h93 hcc9 hx hfs
          have BA : Hid (Below wr.heap.size wr (wr.alloc (Obj.cells #[.int .i64 1, .int .i64 u.id, .int .i64 x] 73))) := (Below.refl _ _).alloc (Nat.le_refl _) _
          have EC : Hid (Evc (wr.alloc (Obj.cells #[.int .i64 1, .int .i64 u.id, .int .i64 x] 73)) ⟨wr.heap.size, 0, none⟩ (⟨1, u.id, x⟩ : EvV)) := Evc.mk' (⟨1, u.id, x⟩ : EvV) rfl
          have E7 : Hid (Evo (wr.alloc (Obj.cells #[.int .i64 1, .int .i64 u.id, .int .i64 x] 73)) w3.heap.size ev' fs) := E6.out.below BA.out
          have SZ : Hid (w3.heap.size ≤ (wr.alloc (Obj.cells #[.int .i64 1, .int .i64 u.id, .int .i64 x] 73)).heap.size) := Nat.le_trans P6.out.size BA.out.size
          go_wp2_with (at_builtin; refine app_ev _ rfl _ _ rfl w3.heap.size _ fs rfl E7.out _ (⟨1, u.id, x⟩ : EvV) rfl EC.out (by have := FSL.out; omega) SZ.out ?_)
          intro gg gc v8 o8 g8 s8 _
          have E8 : Hid (Evo v8 w3.heap.size (.slice (some ⟨gg, 0, none⟩) (fs.length + 1) gc) (fs ++ [⟨1, u.id, x⟩])) := o8
          have P8 : Hid (Kp g w3 v8) := kp_gb (P6.out.trans (Kp.of BA.out)) g8 (fun b hb => (E7.out.block b hb).1)
          have U8 : Hid (Ub v8 g us2 rest) := by
            have h6 := U6.out.below BA.out U6.out.lt
            unfold Ub at h6
            unfold Hid Ub
            rw [g8.block g (lt_of_block h6) (fun e => by have := (E7.out.block g e.symm).1; have := GL.out; omega)]
            exact h6
          have O8 : Hid (Ow v8 bo (.slice (some xc) cells.length cc) cells) := own_gb (Ow.below O6.out BA.out) g8 (fun b h1 h2 => D6.out b h2 h1)
          have D8 : Hid (∀ b, (Value.slice (some ⟨gg, 0, none⟩) (fs.length + 1) gc).ownBlock = some b → (Value.slice (some xc) cells.length cc).ownBlock ≠ some b) := fun b h1 h2 => by
            have hgb : gg = b := by injection h1
            rcases s8 with s8 | s8
            · exact D6.out gg s8 (by rw [hgb]; exact h2)
            · have := (O6.out.block b h2).2
              have hw : gg = wr.heap.size + 1 := s8.trans (by simp)
              omega
          clear o8 g8 s8 BA EC E7 SZ y0 y1 y2 y3 y4 y5 y6 y7 cx
          go_wp2
          go_round
          case rel => exact ⟨m + 1, _, rfl, by go_num, by omega, U8.out, by rw [NX.out]; exact E8.out, P8.out, O8.out, D8.out⟩
          case measure => simp [intOf]; omega
end Go.Proofs.YteieikgkmfglaaaGreatDoor

namespace Go.Proofs.YteieikgkmfglaaaGreatDoor
open Wy
set_option linter.unusedVariables false

theorem far_self {nb : Nat → List Int} {st : Nat → Nat → Int} {t n : Nat} {l : List Int} (h : IsFar nb st t n l) (ht : t < n) : l.getD t 0 = 0 := by
  have hl : t < l.length := by rw [h.1]; exact ht
  have h1 := h.2 t _ (List.getElem?_eq_getElem hl)
  rw [List.getD_eq_getElem?_getD, List.getElem?_eq_getElem hl]
  show l[t] = 0
  rcases h1 with ⟨-, h1⟩ | ⟨h1, h2⟩
  · exact absurd Way.here (h1 0)
  · have := h2 0 Way.here
    have := h1.nonneg
    omega
/-- who rests wishes to be where it is. -/
theorem wish_rest {ks : List KV} {X : WV} {Wn Hn : Nat} {u : UnV} {k : KV} {c : Nat} (h : WishSays ks X Wn Hn u k c) (ht : u.task = 0) : u.at_ = (c : Nat) := by
  obtain ⟨an, bn, l, ha, haim, -, -, hh⟩ := h
  have hb : (bn : Int) = u.at_ := by
    rcases haim with ⟨-, h⟩ | ⟨h, -⟩ | ⟨h, -⟩
    · exact h
    · exact absurd ht h
    · rw [ht] at h; cases h
  rcases hh with ⟨-, rfl⟩ | ⟨-, h⟩
  · exact ha
  · rcases h with ⟨-, rfl⟩ | ⟨h, -⟩
    · exact ha
    · exact absurd (by omega) h
theorem goes_rest {ks : List KV} {X : WV} {Wn Hn : Nat} {k : KV} {i : Nat} {us us' : List UnV} {left : Int} {cells : List Int} {u : UnV} (hu : us[i]? = some u) (ht : u.task = 0) (h : Goes ks X Wn Hn k i us left cells us') : cells = [] ∧ us' = us := by
  cases h with
  | stop => exact ⟨rfl, rfl⟩
  | step hu' hw hg h1 h2 h3 =>
    rw [hu] at hu'
    injection hu' with hu'
    subst hu'
    have := List.any_eq_false.1 h2 u (List.mem_of_getElem? hu)
    rw [wish_rest hw ht] at this
    simp at this
theorem ends_rest {u : UnV} (ht : u.task = 0) : ends u = u := by
  unfold ends
  rw [if_neg]
  rintro ⟨h, -⟩
  rw [ht] at h; cases h
theorem moves_rest {ks : List KV} {X : WV} {Wn Hn : Nat} {n : Nat} {us us' : List UnV} {evs : List EvV} (h : Moves ks X Wn Hn n us evs us') : (∀ u ∈ us, u.task = 0) → evs = [] ∧ us' = us := by
  induction h with
  | done h => intro _; exact ⟨rfl, rfl⟩
  | unit hu hk hg h1 hm ih =>
    intro hr
    have htu := hr _ (List.mem_of_getElem? hu)
    obtain ⟨rfl, rfl⟩ := goes_rest hu htu hg
    rw [hu] at h1
    injection h1 with h1
    subst h1
    obtain ⟨hi, e⟩ := List.getElem?_eq_some_iff.1 hu
    rw [ends_rest htu, ← e, List.set_getElem_self] at ih
    obtain ⟨rfl, rfl⟩ := ih hr
    exact ⟨rfl, rfl⟩
/-- all rest. -/
def rst (u : UnV) : UnV := { u with task := 0, goal := 0 }
def restW (X : WV) : WV := { X with us := X.us.map rst }
def restN (us : List UnV) (n : Nat) : List UnV := (us.take n).map rst ++ us.drop n
theorem restN_zero (us : List UnV) : restN us 0 = us := by simp [restN]
theorem restN_all (us : List UnV) : restN us us.length = us.map rst := by simp [restN]
theorem restN_len (us : List UnV) (n : Nat) : (restN us n).length = us.length := by
  unfold restN
  rw [List.length_append, List.length_map, List.length_take, List.length_drop]
  omega
theorem restN_at {us : List UnV} {n : Nat} {u : UnV} (hu : us[n]? = some u) : (restN us n)[n]? = some u := by
  have hn : n < us.length := (List.getElem?_eq_some_iff.1 hu).1
  unfold restN
  have h1 : ((us.take n).map rst).length = n := by rw [List.length_map, List.length_take]; omega
  rw [List.getElem?_append_right (by omega), h1, Nat.sub_self, List.getElem?_drop, Nat.add_zero]
  exact hu
theorem restN_next {us : List UnV} {n : Nat} {u : UnV} (hu : us[n]? = some u) : (restN us n).set n (rst u) = restN us (n + 1) := by
  obtain ⟨hn, e1⟩ := List.getElem?_eq_some_iff.1 hu
  have h1 : ((us.take n).map rst).length = n := by rw [List.length_map, List.length_take]; omega
  unfold restN
  rw [List.set_append_right _ _ (by omega), h1, Nat.sub_self, List.drop_eq_getElem_cons hn, List.set_cons_zero, List.take_succ_eq_append_getElem hn, e1, List.map_append]
  simp
theorem rest_right {ks : List KV} {X : WV} (h : WRight ks X) : Wd.wfault ks (restW X) = 0 := by
  obtain ⟨Wm, Hm, e1, e2, G⟩ := h.good
  have hgp : 0 < X.gs.length := by rw [G.gl]; exact Nat.mul_pos G.w1 G.h1
  refine Wd.wfault_zero h.kinds (by show Fd.fault X.wide X.high X.gs X.os = 0; rw [e1, e2]; exact Fd.fault_good G) h.nums (by show (X.us.map rst).length ≤ 40; rw [List.length_map]; exact h.ul) ?_ h.ql ?_
  · intro i y hy
    have hy' : (X.us.map rst)[i]? = some y := hy
    rw [List.getElem?_map] at hy'
    cases hu : X.us[i]? with
    | none => rw [hu] at hy'; cases hy'
    | some u =>
      rw [hu] at hy'
      injection hy' with hy'
      subst hy'
      obtain ⟨k, f⟩ := h.fine hu
      refine ⟨k, f.id1, f.id2, ?_, f.p, f.k0, f.kk, f.life, f.load, ⟨Int.le_refl _, by show (0 : Int) ≤ 2; decide⟩, f.at_, ⟨Int.le_refl _, by show (0 : Int) < _; exact Int.ofNat_lt.2 hgp⟩, ?_, .inl rfl⟩
      · show Wd.notAbove (X.us.map rst) i (rst u) = false
        have hup := f.up
        cases i with
        | zero => rfl
        | succ i =>
          simp only [Wd.notAbove] at hup ⊢
          rw [List.getElem?_map]
          cases hx : X.us[i]? with
          | none => rfl
          | some x =>
            rw [hx] at hup
            exact hup
      · have ho := f.opn
        show Wd.open_ X.gs ((X.us.map rst).take i) u.at_ k.f = true
        unfold Wd.open_ at ho ⊢
        rw [← List.map_take, List.any_map]
        exact ho
  · intro j hj
    have hx := h.job hj
    unfold Wd.jobFault at hx ⊢
    show (match (X.us.map rst).find? (fun u => u.id == j.unit) with | none => (6 : Int) | some u => _) = 0
    rw [List.find?_map]
    have hc : ((fun u : UnV => u.id == j.unit) ∘ rst) = (fun u : UnV => u.id == j.unit) := rfl
    rw [hc]
    cases hf : X.us.find? (fun u => u.id == j.unit) with
    | none => rw [hf] at hx; cases hx
    | some u => rw [hf] at hx; exact hx
/-- one that marches wishes to its Goal no further than it is. -/
theorem wish_march {ks : List KV} {X : WV} {Wn Hn : Nat} {u : UnV} {k : KV} {c an gn : Nat} {lf : List Int} (h : WishSays ks X Wn Hn u k c) (ht : u.task = 1) (ha : u.at_ = (an : Nat)) (hg : u.goal = (gn : Nat)) (han : an < Wn * Hn) (hgn : gn < Wn * Hn)
    (hl : IsFar (Fd.near Wn Hn) (fun _ j => (X.gs.map fun g => Fd.onto g k.f).getD j 0) gn (Wn * Hn) lf) : (lf.getD an 0 < 0 → c = an) ∧ (0 < lf.getD an 0 → lf.getD c 0 < lf.getD an 0) := by
  obtain ⟨an', bn, l, ha', haim, -, hl', hh⟩ := h
  have hb : (bn : Int) = u.goal := by
    rcases haim with ⟨h, -⟩ | ⟨-, -, h⟩ | ⟨h, -⟩
    · rw [ht] at h; cases h
    · exact h
    · rw [ht] at h; cases h
  obtain rfl : bn = gn := by omega
  obtain rfl : an' = an := by omega
  obtain rfl := IsFar.uniq hl'.1 hl
  rcases hh with ⟨h1, rfl⟩ | ⟨h1, h⟩
  · exact ⟨fun _ => rfl, fun h2 => by omega⟩
  · refine ⟨fun h2 => by omega, fun h2 => ?_⟩
    rcases h with ⟨rfl, -⟩ | ⟨-, h⟩
    · rw [far_self hl hgn] at h2; omega
    · have := h.is
      omega
end Go.Proofs.YteieikgkmfglaaaGreatDoor

namespace Go.Proofs.YteieikgkmfglaaaGreatDoor
open Go.RowKit Wy
set_option linter.unusedVariables false

/-- what a unit of a right world is, as far as its wish asks. -/
structure Able (X : WV) (u : UnV) (k : KV) : Prop where
  task : 0 ≤ u.task ∧ u.task ≤ 2
  load : u.load ≤ k.n7
/-- the nearest so far: -1 where there is none. -/
def bestOf (ks : List KV) (l : List Int) (pl : Int) (us : List UnV) (best least : Int) : Prop :=
  (homes ks us l pl = [] ∧ best = -1) ∨ ∃ x0 tl, homes ks us l pl = x0 :: tl ∧ best = (minU (fun h => l.getD h.at_.toNat 0) x0 tl).at_ ∧ least = l.getD (minU (fun h => l.getD h.at_.toNat 0) x0 tl).at_.toNat 0
theorem homes_no {ks : List KV} {us : List UnV} {l : List Int} {pl : Int} {n : Nat} {h : UnV} (hh : us[n]? = some h) (ho : otherU ks l pl h = true) : homes ks (us.take (n + 1)) l pl = homes ks (us.take n) l pl := by
  obtain ⟨hi, e⟩ := List.getElem?_eq_some_iff.1 hh
  unfold homes
  rw [List.take_succ_eq_append_getElem hi, e, List.filter_append]
  simp [ho]
theorem homes_yes {ks : List KV} {us : List UnV} {l : List Int} {pl : Int} {n : Nat} {h : UnV} (hh : us[n]? = some h) (ho : otherU ks l pl h = false) : homes ks (us.take (n + 1)) l pl = homes ks (us.take n) l pl ++ [h] := by
  obtain ⟨hi, e⟩ := List.getElem?_eq_some_iff.1 hh
  unfold homes
  rw [List.take_succ_eq_append_getElem hi, e, List.filter_append]
  simp [ho]
theorem minU_snoc (d : UnV → Int) (m y : UnV) (l : List UnV) : minU d m (l ++ [y]) = if d y < d (minU d m l) then y else minU d m l := by
  unfold minU
  rw [List.foldl_append]
  rfl
theorem best_skip {ks : List KV} {us : List UnV} {l : List Int} {pl best least : Int} {n : Nat} {h : UnV} (hb : bestOf ks l pl (us.take n) best least) (hh : us[n]? = some h) (ho : otherU ks l pl h = true) : bestOf ks l pl (us.take (n + 1)) best least := by
  unfold bestOf at hb ⊢
  rw [homes_no hh ho]
  exact hb
theorem best_new {ks : List KV} {us : List UnV} {l : List Int} {pl best least : Int} {n : Nat} {h : UnV} (hb : bestOf ks l pl (us.take n) best least) (hh : us[n]? = some h) (ho : otherU ks l pl h = false) (hn : best < 0 ∨ l.getD h.at_.toNat 0 < least) (hpos : ∀ x ∈ us, 0 ≤ x.at_) : bestOf ks l pl (us.take (n + 1)) h.at_ (l.getD h.at_.toNat 0) := by
  unfold bestOf
  rw [homes_yes hh ho]
  rcases hb with ⟨h1, h2⟩ | ⟨x0, tl, h1, h2, h3⟩
  · refine .inr ⟨h, [], by rw [h1]; rfl, ?_, ?_⟩ <;> simp [minU]
  · refine .inr ⟨x0, tl ++ [h], by rw [h1]; rfl, ?_, ?_⟩
    all_goals
      rw [minU_snoc, if_pos]
      rcases hn with hn | hn
      · exfalso
        have hm : minU (fun h => l.getD h.at_.toNat 0) x0 tl ∈ us := by
          have : minU (fun h => l.getD h.at_.toNat 0) x0 tl ∈ homes ks (us.take n) l pl := by rw [h1]; exact minU_mem _ _ _
          exact List.mem_of_mem_take (List.mem_filter.1 this).1
        have := hpos _ hm
        omega
      · rw [h3] at hn; exact hn
theorem best_old {ks : List KV} {us : List UnV} {l : List Int} {pl best least : Int} {n : Nat} {h : UnV} (hb : bestOf ks l pl (us.take n) best least) (hh : us[n]? = some h) (ho : otherU ks l pl h = false) (h0 : 0 ≤ best) (hn : ¬ l.getD h.at_.toNat 0 < least) : bestOf ks l pl (us.take (n + 1)) best least := by
  unfold bestOf
  rw [homes_yes hh ho]
  rcases hb with ⟨h1, h2⟩ | ⟨x0, tl, h1, h2, h3⟩
  · omega
  · refine .inr ⟨x0, tl ++ [h], by rw [h1]; rfl, ?_, ?_⟩
    all_goals
      rw [minU_snoc, if_neg (by rw [← h3]; exact hn)]
      assumption
theorem best_home {ks : List KV} {us : List UnV} {l : List Int} {u : UnV} {best least : Int} (hb : bestOf ks l u.player us best least) (hpos : ∀ x ∈ us, 0 ≤ x.at_) : homeAt ks us l u = if best < 0 then u.at_ else best := by
  unfold homeAt
  rcases hb with ⟨h1, rfl⟩ | ⟨x0, tl, h1, h2, -⟩
  · rw [h1]; rfl
  · rw [h1]
    have hm : minU (fun h => l.getD h.at_.toNat 0) x0 tl ∈ us := by
      have : minU (fun h => l.getD h.at_.toNat 0) x0 tl ∈ homes ks us l u.player := by rw [h1]; exact minU_mem _ _ _
      exact (List.mem_filter.1 this).1
    have := hpos _ hm
    rw [if_neg (by omega), h2]
end Go.Proofs.YteieikgkmfglaaaGreatDoor

namespace Go.Proofs.YteieikgkmfglaaaGreatDoor.Wy
set_option linter.unusedVariables false
variable {nb : Nat → List Int} {st : Nat → Nat → Int} {t n : Nat}

/-- what holds all the time. -/
structure Rt (nb : Nat → List Int) (st : Nat → Nat → Int) (t n : Nat) (l : List Int) : Prop where
  len : l.length = n
  here : l[t]? = some 0
  sound : Sound nb st t l
  flat : Flat l
theorem Rt.start (ht : t < n) : Rt nb st t n ((List.replicate n (-1)).set t 0) :=
  have h := Wk.start (nb := nb) (st := st) ht
  ⟨h.len, h.here, h.sound, h.flat⟩
theorem Rt.set (E : Even nb st n) {l : List Int} {i j : Nat} {x y : Int} (h : Rt nb st t n l) (hj : (j : Int) ∈ nb i) (hx : l[i]? = some x) (hy : l[j]? = some y) (h0 : 0 < st i j) (y0 : 0 ≤ y) (hn : x < 0 ∨ st i j + y < x) :
    Rt nb st t n (l.set i (st i j + y)) ∧ left (2 * n + 1) (l.set i (st i j + y)) < left (2 * n + 1) l := by
  refine ⟨⟨by simp [h.len], ?_, h.sound.set hy hj h0 y0, h.flat.set hx hy y0 h0 (E.two _ _) hn⟩, left_set h.flat h.len hx hy y0 h0 (E.two _ _) hn⟩
  rw [List.getElem?_set]
  by_cases e : i = t
  · subst e
    rw [h.here] at hx
    injection hx with hx
    omega
  · rw [if_neg e]
    exact h.here

/-- all ahead of i, and k cells beside it, have been looked at, and nothing got nearer. -/
def Fine (nb : Nat → List Int) (st : Nat → Nat → Int) (l : List Int) (i k : Nat) : Prop := (∀ i', i' < i → Shut nb st l i') ∧ ∀ (q j : Nat), q < k → (nb i)[q]? = some (j : Int) → Pr nb st l i j
theorem Fine.start (l : List Int) : Fine nb st l 0 0 := ⟨fun i h => absurd h (Nat.not_lt_zero _), fun q j h => absurd h (Nat.not_lt_zero _)⟩
theorem Fine.step {l : List Int} {i j k : Nat} {x y : Int} (h : Fine nb st l i k) (hk : (nb i)[k]? = some (j : Int)) (hx : l[i]? = some x) (hy : l[j]? = some y) (hs : 0 < st i j → 0 ≤ y → 0 ≤ x ∧ x ≤ st i j + y) : Fine nb st l i (k + 1) := by
  refine ⟨h.1, fun q j' hq hj => ?_⟩
  by_cases e : q = k
  · subst e
    rw [hk] at hj
    injection hj with hj
    have : j = j' := by omega
    subst this
    intro x' y' hx' hy' _ h0 y0
    rw [hx] at hx'
    rw [hy] at hy'
    injection hx' with hx'
    injection hy' with hy'
    subst hx'
    subst hy'
    exact hs h0 y0
  · exact h.2 q j' (by omega) hj
theorem Fine.next {l : List Int} {i : Nat} (h : Fine nb st l i (nb i).length) : Fine nb st l (i + 1) 0 := by
  refine ⟨fun i' hi => ?_, fun q j h => absurd h (Nat.not_lt_zero _)⟩
  by_cases e : i' = i
  · subst e
    intro j x y hx hy hj h0 y0
    obtain ⟨q, hq⟩ := List.mem_iff_getElem?.1 hj
    exact h.2 q j (List.getElem?_eq_some_iff.1 hq).1 hq x y hx hy hj h0 y0
  · exact h.1 i' (by omega)
theorem Rt.far {l : List Int} (E : Even nb st n) (h : Rt nb st t n l) (hf : Fine nb st l n 0) : IsFar nb st t n l := far_of h.len E.lt h.here h.sound hf.1
end Go.Proofs.YteieikgkmfglaaaGreatDoor.Wy

namespace Go.Proofs.YteieikgkmfglaaaGreatDoor
open Go.RowKit Wy
set_option linter.unusedVariables false

/-- what is left, as memory has it. -/
def mleft (w : World) (b M : Nat) : Nat := match w.heap[b]? with
  | some (.cells cs _ _) => left M (cs.toList.map intOf)
  | _ => 0
theorem Bk.mleft {w : World} {b : Nat} {l : List Int} (h : Bk w b l #[]) (M : Nat) : mleft w b M = Wy.left M l := by
  unfold Bk at h
  unfold Go.Proofs.YteieikgkmfglaaaGreatDoor.mleft
  rw [h]
  simp [intCells, intOf, Function.comp_def]
def one : Value → Nat
  | .bool true => 1
  | _ => 0
theorem one_le (b : Bool) : 0 ≤ one (.bool b) := Nat.zero_le _
theorem Ow.kpt {w w' : World} {base z : Nat} {v : Value} {xs : List Int} (h : Ow w base v xs) (hk : Kp z w w') (hz : z < base) : Ow w' base v xs := by
  have hg : w.grownBy w' (some z) := ⟨hk.os, hk.tape, hk.output, hk.size, fun k h1 h2 => hk.block k h1 (fun e => h2 (by rw [e]))⟩
  refine h.kept hg ?_
  cases hb : v.ownBlock with
  | none => exact .inl rfl
  | some k =>
    have := (h.block k hb).1
    exact .inr (by simp; omega)
theorem Bf.kp {w w' : World} {z b : Nat} {W H : Int} {u1 u2 : Value} (h : Bf w z W H u1 u2) (hk : Kp b w w') (hz : z ≠ b) : Bf w' z W H u1 u2 := by
  have e := hk.block z h.lt hz
  exact ⟨by rw [World.cell?_of_block (w := w) (a := ⟨z, 0, none⟩) e]; exact h.c0, by rw [World.cell?_of_block (w := w) (a := ⟨z, 1, none⟩) e]; exact h.c1, by rw [World.cell?_of_block (w := w) (a := ⟨z, 2, none⟩) e]; exact h.c2, by rw [World.cell?_of_block (w := w) (a := ⟨z, 3, none⟩) e]; exact h.c3⟩

/-- a list of zeros, of which the first k have been made -1. -/
theorem fill_set (n k : Nat) (h : k < n) : (List.replicate k (-1 : Int) ++ List.replicate (n - k) 0).set k (-1) = List.replicate (k + 1) (-1) ++ List.replicate (n - (k + 1)) 0 := by
  rw [List.set_append, if_neg (by simp), List.length_replicate, Nat.sub_self]
  obtain ⟨m, hm⟩ : ∃ m, n - k = m + 1 := ⟨n - k - 1, by omega⟩
  rw [hm, List.replicate_succ, List.set_cons_zero, List.replicate_succ', show n - (k + 1) = m by omega]
  simp

/-- what To says. -/
def ToSays (W H : Nat) (ss : List Int) (t n : Nat) (w : World) (e : Ending) (w' : World) : Prop := ∃ b l, e = .returned (.slice (some ⟨b, 0, none⟩) n n) ∧ w.heap.size ≤ b ∧ Bk w' b l #[] ∧ (IsFar (Fd.near W H) (fun _ j => ss.getD j 0) t n l ∧ Flat l) ∧ Below w.heap.size w w'
theorem ToSays.of {W H : Nat} {ss : List Int} {t n : Nat} {w : World} {e : Ending} {w' : World} (h : ∃ b l, e = .returned (.slice (some ⟨b, 0, none⟩) n n) ∧ w.heap.size ≤ b ∧ Bk w' b l #[] ∧ (IsFar (Fd.near W H) (fun _ j => ss.getD j 0) t n l ∧ Flat l) ∧ Below w.heap.size w w') : ToSays W H ss t n w e w' := h

set_option maxRecDepth 100000 in
set_option maxHeartbeats 4000000 in
theorem ref_to (v : Value) (W H : Nat) (gs os : List Int) (t : Nat) (fl : Bool) (w : World) (h : Fl w v W H gs os) (G : Fd.Good W H gs os) (ht : t < W * H) (E : Even (Fd.near W H) (fun _ j => (gs.map fun g => Fd.onto g fl).getD j 0) (W * H)) :
    Calls Tryz.prog 39 #[v, .int .i64 (t : Nat), .bool fl] w fun e w' => ToSays W H (gs.map fun g => Fd.onto g fl) t (W * H) w e w' := by
  have F0 : Hid (Fl w v W H gs os) := h
  have G0 : Hid (Fd.Good W H gs os) := G
  obtain ⟨u1, u2, rfl, ⟨a1, c, rfl, c1, c2, ca⟩, ⟨b1, d, rfl, d1, d2, cb⟩⟩ := h
  obtain ⟨n, hn⟩ : ∃ n, W * H = n := ⟨_, rfl⟩
  have Hn : Hid (W * H = n) := hn
  have gl : gs.length = n := by rw [← hn]; exact G.gl
  have Gl : Hid (gs.length = n) := gl
  have n0 : 0 < n := by rw [← hn]; have := G.pos; omega
  have n1 : n ≤ 144 := by rw [← hn]; exact G.pos.2
  obtain ⟨ss, hss⟩ : ∃ ss, (gs.map fun g => Fd.onto g fl) = ss := ⟨_, rfl⟩
  have Hss : Hid ((gs.map fun g => Fd.onto g fl) = ss) := hss
  have Sl : Hid (ss.length = n) := by unfold Hid; rw [← hss, List.length_map]; exact gl
  rw [hn] at ht E
  rw [hss] at E
  rw [hn, hss]
  have E0 : Hid (Even (Fd.near W H) (fun _ j => ss.getD j 0) n) := E
  rw [gl] at c1 ⊢
  clear ca cb G hn hss gl E
  generalize hw0 : w.alloc (Obj.cells #[.int .i64 W, .int .i64 H, .slice a1 n c, .slice b1 os.length d] 25) = w0
  have B0 : Hid (Below w.heap.size w w0) := by rw [← hw0]; exact (Below.refl _ _).alloc (Nat.le_refl _) _
  have X0 : Hid (Bf w0 w.heap.size W H (.slice a1 n c) (.slice b1 os.length d)) := by rw [← hw0]; exact Bf.mk' _ _ _ _ rfl
  have Hw : Hid (w.alloc (Obj.cells #[.int .i64 W, .int .i64 H, .slice a1 n c, .slice b1 os.length d] 25) = w0) := hw0
  clear hw0
  go_enter Tryz.func39, Tryz.ntmps39
  go_wp2_with (at_make; rw [Hw.out]; obtain ⟨i0, hi, hz0, hz1, hz2⟩ := info_parts info_int; refine wpList_make_full _ rfl _ _ 23 rfl w0.heap.size 3 i0 (.int .i64 0) 1 Tryz.underlying23 hi hz0 hz1 _ _ _ _ n rfl rfl rfl rfl (by rw [hz2]; omega) (by unfold maxLen; omega) (Nat.le_refl _) ?_)
  intro w1 o1 g1
  clear hi hz0 hz1 hz2
  have K1 : Hid (Bk w1 w0.heap.size (List.replicate n 0) #[]) := by
    rcases o1.2 with ⟨h, _⟩ | ⟨g, cap, cur, hv, hb, hg, h1, h2, h3, h4⟩
    · cases h
    · cases hv
      unfold Hid Bk
      rw [hg]
      congr 1
      have e : cur.toList = List.replicate n (Value.int .i64 0) := by
        have := toList_madeCells_one (.int .i64 0) n
        rw [List.take_of_length_le (by simp; omega)] at h4
        rw [h4]
        exact this
      have e' : cur = (List.replicate n (Value.int .i64 0)).toArray := by rw [← e]
      rw [e']
      simp [intCells]
  have b01 : Below w0.heap.size w0 w1 := (Below.refl _ _).grown g1 (Nat.le_refl _) (fun k hk => by cases hk)
  have X1 : Hid (Bf w1 w.heap.size W H (.slice a1 n c) (.slice b1 os.length d)) := X0.out.below b01 X0.out.lt
  have B1 : Hid (Below w.heap.size w w1) := B0.out.trans (b01.mono B0.out.size)
  have Zb : Hid (w.heap.size < w0.heap.size) := X0.out.lt
  clear o1 g1 b01 X0 B0 Hw
  obtain ⟨b, hb⟩ : ∃ b, w0.heap.size = b := ⟨_, rfl⟩
  rw [hb] at K1 Zb ⊢
  clear hb
  go_wp2
  go_loopw [9] (fun i W' => ∃ k : Nat, k ≤ n ∧ i = .int .i64 (k : Nat) ∧ Bk W' b (List.replicate k (-1) ++ List.replicate (n - k) 0) #[] ∧ Bf W' w.heap.size W H (.slice a1 n c) (.slice b1 os.length d) ∧ Below w.heap.size w W') (fun i _ => n - (intOf i).toNat)
  case atStart => exact ⟨0, Nat.zero_le _, rfl, K1, X1, B1⟩
  case round =>
    obtain ⟨k, hk, rfl, hkb, hx, hB⟩ := hrel
    clear K1 X1 B1
    have Kb : Hid (Bk wr b (List.replicate k (-1) ++ List.replicate (n - k) 0) #[]) := hkb
    have X : Hid (Bf wr w.heap.size W H (.slice a1 n c) (.slice b1 os.length d)) := hx
    have B : Hid (Below w.heap.size w wr) := hB
    clear hx hB
    by_cases h0 : k = n
    · have K2 : Hid (Bk (wr.setCell ⟨b, t, none⟩ (.int .i64 0)) b ((List.replicate n (-1)).set t 0) #[]) := by
        have := Kb.out
        rw [h0, Nat.sub_self, List.replicate_zero, List.append_nil] at this
        exact this.set t 0 (by simp; exact ht)
      have ct : wr.cell? ⟨b, t, none⟩ = some (.int .i64 (-1)) := by
        rw [h0, Nat.sub_self, List.replicate_zero, List.append_nil] at hkb
        exact hkb.cell (by rw [List.getElem?_replicate, if_pos ht])
      have ft := hkb.thaw t
      have k12 := Kp.set (z := b) wr t (.int .i64 0)
      have X2 : Hid (Bf (wr.setCell ⟨b, t, none⟩ (.int .i64 0)) w.heap.size W H (.slice a1 n c) (.slice b1 os.length d)) := X.out.kp k12 (by have := Zb.out; omega)
      have B2 : Hid (Below w.heap.size w (wr.setCell ⟨b, t, none⟩ (.int .i64 0))) := k12.below B.out B.out.size (by have := Zb.out; omega)
      subst h0
      clear k12 Kb X B hkb
      go_wp2_with fail
      generalize wr.setCell ⟨b, t, none⟩ (.int .i64 0) = w2 at *
      clear ct ft
      go_loopw [10] (fun m W' => ∃ l mb, m = .bool mb ∧ Bk W' b l #[] ∧ Rt (Fd.near W H) (fun _ j => ss.getD j 0) t k l ∧ (mb = false → Fine (Fd.near W H) (fun _ j => ss.getD j 0) l k 0) ∧ Bf W' w.heap.size W H (.slice a1 k c) (.slice b1 os.length d) ∧ Below w.heap.size w W') (fun m W' => mleft W' b (2 * k + 1) + one m)
      case atStart => exact ⟨_, true, rfl, K2, Rt.start ht, fun h => (by cases h), X2, B2⟩
      case round =>
        obtain ⟨l, mb, rfl, hkb, hrt, hfn, hx, hB⟩ := hrel
        clear K2 X2 B2
        have Kb : Hid (Bk wr b l #[]) := hkb
        have R : Hid (Rt (Fd.near W H) (fun _ j => ss.getD j 0) t k l) := hrt
        have X : Hid (Bf wr w.heap.size W H (.slice a1 k c) (.slice b1 os.length d)) := hx
        have B : Hid (Below w.heap.size w wr) := hB
        have Fn : Hid (mb = false → Fine (Fd.near W H) (fun _ j => ss.getD j 0) l k 0) := hfn
        clear hkb hrt hx hB hfn
        cases mb with
        | false =>
          have FN : Hid (Fine (Fd.near W H) (fun _ j => ss.getD j 0) l k 0) := Fn.out rfl
          clear Fn
          go_wp2
          go_ret
          exact ToSays.of ⟨b, l, rfl, by have := Zb.out; omega, Kb, ⟨R.out.far E0.out FN.out, R.out.flat⟩, B⟩
        | true =>
          obtain ⟨m0, hm0⟩ : ∃ m0, mleft wr b (2 * k + 1) + one (.bool true) = m0 := ⟨_, rfl⟩
          have M0 : Hid (mleft wr b (2 * k + 1) + one (.bool true) = m0) := hm0
          have ML : Hid (left (2 * k + 1) l + 1 ≤ m0) := by
            unfold Hid
            rw [← hm0, Kb.out.mleft]
            exact Nat.le_refl _
          clear hm0 Fn
          go_wp2_with fail
          go_loopw [10, 11] (fun m i W' => ∃ l mb j, m = .bool mb ∧ i = .int .i64 (j : Nat) ∧ j ≤ k ∧ Bk W' b l #[] ∧ Rt (Fd.near W H) (fun _ j => ss.getD j 0) t k l ∧ (mb = false → Fine (Fd.near W H) (fun _ j => ss.getD j 0) l j 0) ∧ Bf W' w.heap.size W H (.slice a1 k c) (.slice b1 os.length d) ∧ Below w.heap.size w W' ∧ left (2 * k + 1) l + one (.bool mb) < m0) (fun _ i _ => k - (intOf i).toNat)
          case atStart => exact ⟨l, false, 0, rfl, rfl, Nat.zero_le _, Kb, R, fun _ => Fine.start l, X, B, by have := ML.out; show left (2 * k + 1) l + 0 < m0; omega⟩
          case round =>
            clear Kb R X B ML
            obtain ⟨l, mb, i, rfl, rfl, hi, hkb, hrt, hfn, hx, hB, hml⟩ := hrel
            have Kb : Hid (Bk wr b l #[]) := hkb
            have R : Hid (Rt (Fd.near W H) (fun _ j => ss.getD j 0) t k l) := hrt
            have X : Hid (Bf wr w.heap.size W H (.slice a1 k c) (.slice b1 os.length d)) := hx
            have B : Hid (Below w.heap.size w wr) := hB
            have Fn : Hid (mb = false → Fine (Fd.near W H) (fun _ j => ss.getD j 0) l i 0) := hfn
            have ML : Hid (left (2 * k + 1) l + one (.bool mb) < m0) := hml
            clear hkb hrt hx hB hfn hml
            by_cases h1 : i = k
            · have Fn' : Hid (mb = false → Fine (Fd.near W H) (fun _ j => ss.getD j 0) l k 0) := by rw [← h1]; exact Fn
              subst h1
              clear Fn
              go_wp2
              go_round
              case rel => exact ⟨l, mb, rfl, Kb, R, Fn', X, B⟩
              case measure =>
                rw [Kb.out.mleft]
                exact Nat.lt_of_lt_of_eq ML.out M0.out.symm
            · have hik : i < k := by omega
              have F1 : Hid (Fl wr (.agg #[.int .i64 W, .int .i64 H, .slice a1 k c, .slice b1 os.length d]) W H gs os) := by
                have := F0.out.below B.out
                rw [Gl.out] at this
                exact this
              obtain ⟨x0, x1, x2, x3⟩ := X.out
              have bwr : Hid (b < wr.heap.size) := Kb.out.lt
              go_wp2_with fail
              refine (ref_near_own _ W H gs os i _ F1.out G0.out.w1 G0.out.w2 G0.out.h2 (by rw [Hn.out]; exact hik)).mono ?_
              rintro e w3 ⟨u, rfl, hu, hb3⟩
              have K3 : Hid (Bk w3 b l #[]) := Kb.out.below hb3
              have X3 : Hid (Bf w3 w.heap.size W H (.slice a1 k c) (.slice b1 os.length d)) := X.out.below hb3 X.out.lt
              have B3 : Hid (Below w.heap.size w w3) := B.out.trans (hb3.mono B.out.size)
              obtain ⟨z3, hz3⟩ : ∃ z3, wr.heap.size = z3 := ⟨_, rfl⟩
              rw [hz3] at hu bwr
              have bz3 : Hid (b < z3) := bwr
              have U3 : Hid (Ow w3 z3 u (Fd.near W H i)) := hu
              obtain ⟨an, cn, rfl, e1, e2, -⟩ := hu.ro
              have Fn3 : Hid (mb = false → Fine (Fd.near W H) (fun _ j => ss.getD j 0) l i 0) := Fn
              have L4 : (Fd.near W H i).length ≤ 4 := Fd.near_len W H i
              clear hu hb3 hz3 bwr Kb X B Fn F1 x0 x1 x2 x3
              go_wp2_with fail
              go_loopw [10, 13] (fun m i' W' => ∃ l mb q, m = .bool mb ∧ i' = .int .i64 (q : Nat) ∧ q ≤ (Fd.near W H i).length ∧ Bk W' b l #[] ∧ Rt (Fd.near W H) (fun _ j => ss.getD j 0) t k l ∧ (mb = false → Fine (Fd.near W H) (fun _ j => ss.getD j 0) l i q) ∧ Bf W' w.heap.size W H (.slice a1 k c) (.slice b1 os.length d) ∧ Below w.heap.size w W' ∧ left (2 * k + 1) l + one (.bool mb) < m0 ∧ Ow W' z3 (.slice an (Fd.near W H i).length cn) (Fd.near W H i)) (fun _ i' _ => (Fd.near W H i).length - (intOf i').toNat)
              case atStart => exact ⟨l, mb, 0, rfl, rfl, Nat.zero_le _, K3, R, Fn3, X3, B3, ML, U3⟩
              case round =>
                clear K3 R Fn3 X3 B3 ML U3
                obtain ⟨l, mb, q, rfl, rfl, hq, hkb, hrt, hfn, hx, hB, hml, hu⟩ := hrel
                have Kb : Hid (Bk wr b l #[]) := hkb
                have R : Hid (Rt (Fd.near W H) (fun _ j => ss.getD j 0) t k l) := hrt
                have X : Hid (Bf wr w.heap.size W H (.slice a1 k c) (.slice b1 os.length d)) := hx
                have B : Hid (Below w.heap.size w wr) := hB
                have Fn : Hid (mb = false → Fine (Fd.near W H) (fun _ j => ss.getD j 0) l i q) := hfn
                have ML : Hid (left (2 * k + 1) l + one (.bool mb) < m0) := hml
                have U : Hid (Ow wr z3 (.slice an (Fd.near W H i).length cn) (Fd.near W H i)) := hu
                clear hkb hrt hx hB hfn hml hu
                by_cases h2 : q = (Fd.near W H i).length
                · have Fn' : Hid (mb = false → Fine (Fd.near W H) (fun _ j => ss.getD j 0) l (i + 1) 0) := fun h => (by rw [← h2]; exact Fn.out h : Fine (Fd.near W H) (fun _ j => ss.getD j 0) l i (Fd.near W H i).length).next
                  subst h2
                  clear Fn
                  go_wp2
                  go_round
                  case rel => exact ⟨l, mb, i + 1, rfl, by go_num, by omega, Kb, R, Fn', X, B, ML⟩
                  case measure => simp [intOf]; omega
                · have hql : q < (Fd.near W H i).length := by omega
                  obtain ⟨j, hj, jn, -⟩ := E0.out.cell i _ hik (List.getElem_mem hql)
                  have Hj : Hid ((Fd.near W H i)[q]? = some (j : Int)) := by unfold Hid; rw [List.getElem?_eq_getElem hql, hj]
                  clear hj
                  obtain ⟨a4, c4, e4, -, -, ca⟩ := U.out.ro
                  injection e4 with e5 e6 e7
                  subst e5
                  obtain ⟨yn, rfl, hyl, hy⟩ := ca (by intro h; rw [h] at hql; simp at hql)
                  have cj := hy q _ Hj.out
                  have Yl : Hid (yn.block < wr.heap.size) := hyl
                  clear hy e6 e7 ca hyl
                  have hgl : j < gs.length := by rw [Gl.out]; exact jn
                  obtain ⟨g, hg⟩ : ∃ g, gs[j]? = some g := ⟨_, List.getElem?_eq_getElem hgl⟩
                  obtain ⟨o, ho⟩ : ∃ o, os[j]? = some o := ⟨_, List.getElem?_eq_getElem (by rw [G0.out.ol, Hn.out]; exact jn)⟩
                  have hcl := G0.out.cell j g o hg ho
                  obtain ⟨m, hm⟩ : ∃ m, ss.getD j 0 = m := ⟨_, rfl⟩
                  have hon : Fd.onto g fl = m := by rw [← hm, ← Hss.out, List.getD_eq_getElem?_getD, List.getElem?_map, hg]; rfl
                  have HD : Hid (ss.getD j 0 = m) := hm
                  have l2 : m ≤ 2 := by rw [← hon]; have := E0.out.two i j; rw [← hm] at hon; rw [hon]; exact this
                  have F1 : Fl wr (.agg #[.int .i64 W, .int .i64 H, .slice a1 k c, .slice b1 os.length d]) W H gs os := by
                    have := F0.out.below B.out
                    rw [Gl.out] at this
                    exact this
                  have CO : Hid (Calls Tryz.prog 28 #[.agg #[.int .i64 W, .int .i64 H, .slice a1 k c, .slice b1 os.length d], .int .i64 (j : Nat), .bool fl] wr.drew fun e w' => e = .returned (.int .i64 m) ∧ Below wr.heap.size wr w' ∧ w'.cell? ⟨w.heap.size, 0, none⟩ = some (.int .i64 W) ∧ w'.cell? ⟨w.heap.size, 1, none⟩ = some (.int .i64 H) ∧ w'.cell? ⟨w.heap.size, 2, none⟩ = some (.slice a1 k c) ∧ w'.cell? ⟨w.heap.size, 3, none⟩ = some (.slice b1 os.length d) ∧ w'.cell? (yn.add q) = some (.int .i64 (j : Nat))) := by
                    refine (ref_onto _ W H gs os j g fl wr.drew (F1.below (Below.refl _ _).drew) (by rw [Gl.out]; exact n1) hg hcl.1 hcl.2.1).mono ?_
                    rintro e w' ⟨h1, h2⟩
                    have h4 : Below wr.heap.size wr w' := ((Below.refl _ _).drew).trans h2
                    obtain ⟨y0, y1, y2, y3⟩ := X.out.below h4 X.out.lt
                    exact ⟨by rw [h1, hon], h4, y0, y1, y2, y3, by rw [h4.cell (p := yn.add q) (by rw [add_block]; exact Yl.out)]; exact cj⟩
                  obtain ⟨x0, x1, x2, x3⟩ := X.out
                  clear hg ho hcl hon hm F1 hgl
                  go_wp2_with fail
                  go_region_held3 (fun w' => w'.cell? ⟨w.heap.size, 0, none⟩ = some (.int .i64 W) ∧ w'.cell? ⟨w.heap.size, 1, none⟩ = some (.int .i64 H) ∧ w'.cell? ⟨w.heap.size, 2, none⟩ = some (.slice a1 k c) ∧ w'.cell? ⟨w.heap.size, 3, none⟩ = some (.slice b1 os.length d) ∧ w'.cell? (yn.add q) = some (.int .i64 (j : Nat)))
                    (go_keep)
                    ((go_at_call 28; refine Calls.mono CO.out ?_; rintro e w6 ⟨rfl, k6, y0, y1, y2, y3, y4⟩))
                  have K5 : Hid (Bk w6 b l #[]) := Kb.out.below k6
                  have X5 : Hid (Bf w6 w.heap.size W H (.slice a1 k c) (.slice b1 os.length d)) := X.out.below k6 X.out.lt
                  have B5 : Hid (Below w.heap.size w w6) := B.out.trans (k6.mono B.out.size)
                  have U5 : Hid (Ow w6 z3 (.slice (some yn) (Fd.near W H i).length cn) (Fd.near W H i)) := U.out.below k6
                  clear Kb X B U k6 CO Yl x0 x1 x2 x3 y0 y1 y2 y3
                  have Kb : Hid (Bk w6 b l #[]) := K5
                  have X : Hid (Bf w6 w.heap.size W H (.slice a1 k c) (.slice b1 os.length d)) := X5
                  have B : Hid (Below w.heap.size w w6) := B5
                  have U : Hid (Ow w6 z3 (.slice (some yn) (Fd.near W H i).length cn) (Fd.near W H i)) := U5
                  clear K5 X5 B5 U5
                  have ll : l.length = k := R.out.len
                  obtain ⟨xv, hxv⟩ : ∃ xv, l[i]? = some xv := ⟨l[i]'(by rw [ll]; exact hik), List.getElem?_eq_getElem _⟩
                  obtain ⟨yv, hyv⟩ : ∃ yv, l[j]? = some yv := ⟨l[j]'(by rw [ll]; exact jn), List.getElem?_eq_getElem _⟩
                  have tl := told_le l
                  have fx := R.out.flat i xv hxv
                  have fy := R.out.flat j yv hyv
                  have xb : xv ≤ 288 := by omega
                  have yb : yv ≤ 288 := by omega
                  have cy := Kb.out.cell hyv
                  clear tl fx fy ll
                  by_cases h1 : 0 < m
                  · by_cases h2 : 0 ≤ yv
                    · by_cases h3 : xv < 0
                      · have h9 := h3
                        have HS := R.out.set E0.out (List.mem_of_getElem? Hj.out) hxv hyv (by rw [HD.out]; exact h1) h2 (.inl h3)
                        rw [HD.out] at HS
                        have HT : Hid (Rt (Fd.near W H) (fun _ j => ss.getD j 0) t k (l.set i (m + yv)) ∧ left (2 * k + 1) (l.set i (m + yv)) < left (2 * k + 1) l) := HS
                        clear HS HD
                        have cx := Kb.out.cell hxv
                        have fz := Kb.out.thaw i
                        have k6 := Kp.set (z := b) w6 i (.int .i64 (m + yv))
                        have K6 : Hid (Bk (w6.setCell ⟨b, i, none⟩ (.int .i64 (m + yv))) b (l.set i (m + yv)) #[]) := Kb.out.set i (m + yv) (List.getElem?_eq_some_iff.1 hxv).1
                        have X6 : Hid (Bf (w6.setCell ⟨b, i, none⟩ (.int .i64 (m + yv))) w.heap.size W H (.slice a1 k c) (.slice b1 os.length d)) := X.out.kp k6 (by have := Zb.out; omega)
                        have B6 : Hid (Below w.heap.size w (w6.setCell ⟨b, i, none⟩ (.int .i64 (m + yv)))) := k6.below B.out B.out.size (by have := Zb.out; omega)
                        have U6 : Hid (Ow (w6.setCell ⟨b, i, none⟩ (.int .i64 (m + yv))) z3 (.slice (some yn) (Fd.near W H i).length cn) (Fd.near W H i)) := U.out.kpt k6 bz3.out
                        clear k6 Kb X B U
                        go_wp2
                        go_round
                        case rel => exact ⟨l.set i (m + yv), true, q + 1, rfl, by go_num, by omega, K6, HT.out.1, fun h => (by cases h), X6, B6, by have := HT.out.2; have := ML.out; have := one_le mb; show left (2 * k + 1) (l.set i (m + yv)) + 1 < m0; omega, U6⟩
                        case measure => simp [intOf]; omega
                      · by_cases h4 : m + yv < xv
                        · have h9 := h4
                          have HS := R.out.set E0.out (List.mem_of_getElem? Hj.out) hxv hyv (by rw [HD.out]; exact h1) h2 (.inr (by rw [HD.out]; exact h4))
                          rw [HD.out] at HS
                          have HT : Hid (Rt (Fd.near W H) (fun _ j => ss.getD j 0) t k (l.set i (m + yv)) ∧ left (2 * k + 1) (l.set i (m + yv)) < left (2 * k + 1) l) := HS
                          clear HS HD
                          have cx := Kb.out.cell hxv
                          have fz := Kb.out.thaw i
                          have k6 := Kp.set (z := b) w6 i (.int .i64 (m + yv))
                          have K6 : Hid (Bk (w6.setCell ⟨b, i, none⟩ (.int .i64 (m + yv))) b (l.set i (m + yv)) #[]) := Kb.out.set i (m + yv) (List.getElem?_eq_some_iff.1 hxv).1
                          have X6 : Hid (Bf (w6.setCell ⟨b, i, none⟩ (.int .i64 (m + yv))) w.heap.size W H (.slice a1 k c) (.slice b1 os.length d)) := X.out.kp k6 (by have := Zb.out; omega)
                          have B6 : Hid (Below w.heap.size w (w6.setCell ⟨b, i, none⟩ (.int .i64 (m + yv)))) := k6.below B.out B.out.size (by have := Zb.out; omega)
                          have U6 : Hid (Ow (w6.setCell ⟨b, i, none⟩ (.int .i64 (m + yv))) z3 (.slice (some yn) (Fd.near W H i).length cn) (Fd.near W H i)) := U.out.kpt k6 bz3.out
                          clear k6 Kb X B U
                          go_wp2
                          go_round
                          case rel => exact ⟨l.set i (m + yv), true, q + 1, rfl, by go_num, by omega, K6, HT.out.1, fun h => (by cases h), X6, B6, by have := HT.out.2; have := ML.out; have := one_le mb; show left (2 * k + 1) (l.set i (m + yv)) + 1 < m0; omega, U6⟩
                          case measure => simp [intOf]; omega
                        · have h9 := h4
                          have HS : Hid (mb = false → Fine (Fd.near W H) (fun _ j => ss.getD j 0) l i (q + 1)) := fun h => (Fn.out h).step Hj.out hxv hyv (fun p0 p1 => by rw [HD.out] at p0 ⊢; omega)
                          clear HD
                          have cx := Kb.out.cell hxv
                          go_wp2
                          go_round
                          case rel => exact ⟨l, mb, q + 1, rfl, by go_num, by omega, Kb, R, HS, X, B, ML, U⟩
                          case measure => simp [intOf]; omega
                    · have h9 := h2
                      have HS : Hid (mb = false → Fine (Fd.near W H) (fun _ j => ss.getD j 0) l i (q + 1)) := fun h => (Fn.out h).step Hj.out hxv hyv (fun p0 p1 => by rw [HD.out] at p0 ⊢; omega)
                      clear HD
                      have cx := Kb.out.cell hxv
                      go_wp2
                      go_round
                      case rel => exact ⟨l, mb, q + 1, rfl, by go_num, by omega, Kb, R, HS, X, B, ML, U⟩
                      case measure => simp [intOf]; omega
                  · have h9 := h1
                    have HS : Hid (mb = false → Fine (Fd.near W H) (fun _ j => ss.getD j 0) l i (q + 1)) := fun h => (Fn.out h).step Hj.out hxv hyv (fun p0 p1 => by rw [HD.out] at p0 ⊢; omega)
                    clear HD
                    have cx := Kb.out.cell hxv
                    go_wp2
                    go_round
                    case rel => exact ⟨l, mb, q + 1, rfl, by go_num, by omega, Kb, R, HS, X, B, ML, U⟩
                    case measure => simp [intOf]; omega
    · have hkn : k < n := by omega
      have ck : wr.cell? ⟨b, k, none⟩ = some (.int .i64 0) := hkb.cell (by rw [List.getElem?_append, if_neg (by simp), List.length_replicate, Nat.sub_self, List.getElem?_replicate, if_pos (by omega)])
      have fk := hkb.thaw k
      have k12 := Kp.set (z := b) wr k (.int .i64 (-1))
      have K2 : Hid (Bk (wr.setCell ⟨b, k, none⟩ (.int .i64 (-1))) b (List.replicate (k + 1) (-1) ++ List.replicate (n - (k + 1)) 0) #[]) := by
        unfold Hid
        rw [← fill_set n k hkn]
        exact Kb.out.set k (-1) (by simp; omega)
      have X2 : Hid (Bf (wr.setCell ⟨b, k, none⟩ (.int .i64 (-1))) w.heap.size W H (.slice a1 n c) (.slice b1 os.length d)) := X.out.kp k12 (by have := Zb.out; omega)
      have B2 : Hid (Below w.heap.size w (wr.setCell ⟨b, k, none⟩ (.int .i64 (-1)))) := k12.below B.out B.out.size (by have := Zb.out; omega)
      clear k12 Kb X B hkb
      go_wp2
      go_round
      case rel => exact ⟨k + 1, by omega, by go_num, K2, X2, B2⟩
      case measure => simp [intOf]; omega
end Go.Proofs.YteieikgkmfglaaaGreatDoor

namespace Go.Proofs.YteieikgkmfglaaaGreatDoor
open Go.RowKit Wy
set_option linter.unusedVariables false

theorem get_far {l : List Int} {i n : Nat} (hl : l.length = n) (h : i < n) : l[i]? = some (l.getD i 0) := by rw [List.getD_eq_getElem?_getD, List.getElem?_eq_getElem (by omega)]; rfl
theorem nx_none {nb : Nat → List Int} {ss l : List Int} {t n i : Nat} (E : Even nb (fun _ j => ss.getD j 0) n) (h : IsFar nb (fun _ j => ss.getD j 0) t n l) (hi : i < n) (h0 : 0 ≤ l.getD i 0) (hn : (nb i).any (pn ss l i) = false) : Nxt nb ss l t i i := by
  by_cases e : i = t
  · exact .inl ⟨e, rfl⟩
  · obtain ⟨x, hx, hp⟩ := has_next E h hi h0 e
    rw [List.any_eq_false] at hn
    exact absurd hp (hn x hx)
theorem nx_some {nb : Nat → List Int} {ss l : List Int} {t n i j k : Nat} (h : IsFar nb (fun _ j => ss.getD j 0) t n l) (ht : t < n) (hk : (nb i)[k]? = some (j : Int)) (hp : pn ss l i j = true) (hn : ((nb i).take k).any (pn ss l i) = false) : Nxt nb ss l t i j := by
  refine .inr ⟨?_, k, hk, hp, hn⟩
  rintro rfl
  have h1 := pn_true hp
  rw [getD_of (h.here ht)] at h1
  omega

set_option maxRecDepth 100000 in
set_option maxHeartbeats 4000000 in
theorem ref_next (v uf : Value) (W H : Nat) (gs os l : List Int) (i t : Nat) (fl : Bool) (w : World) (h : Fl w v W H gs os) (G : Fd.Good W H gs os) (hi : i < W * H) (E : Even (Fd.near W H) (fun _ j => (gs.map fun g => Fd.onto g fl).getD j 0) (W * H)) (hf : Ro w uf l) (hl : IsFar (Fd.near W H) (fun _ j => (gs.map fun g => Fd.onto g fl).getD j 0) t (W * H) l) (hfl : ∀ j, l.getD j 0 ≤ 288) (hd : 0 ≤ l.getD i 0) (ht : t < W * H) :
    Calls Tryz.prog 135 #[v, uf, .int .i64 (i : Nat), .bool fl] w fun e w' => ∃ j : Nat, e = .returned (.int .i64 (j : Nat)) ∧ Nxt (Fd.near W H) (gs.map fun g => Fd.onto g fl) l t i j ∧ Below w.heap.size w w' := by
  have F0 : Hid (Fl w v W H gs os) := h
  have G0 : Hid (Fd.Good W H gs os) := G
  obtain ⟨u1, u2, rfl, ⟨a1, c, rfl, c1, c2, ca⟩, ⟨b1, d, rfl, d1, d2, cb⟩⟩ := h
  obtain ⟨n, hn⟩ : ∃ n, W * H = n := ⟨_, rfl⟩
  have Hn : Hid (W * H = n) := hn
  have gl : gs.length = n := by rw [← hn]; exact G.gl
  have Gl : Hid (gs.length = n) := gl
  have n1 : n ≤ 144 := by rw [← hn]; exact G.pos.2
  obtain ⟨ss, hss⟩ : ∃ ss, (gs.map fun g => Fd.onto g fl) = ss := ⟨_, rfl⟩
  have Hss : Hid ((gs.map fun g => Fd.onto g fl) = ss) := hss
  rw [hn] at hi E hl ht
  rw [hss] at E hl
  rw [hss]
  have E0 : Hid (Even (Fd.near W H) (fun _ j => ss.getD j 0) n) := E
  have HL : Hid (IsFar (Fd.near W H) (fun _ j => ss.getD j 0) t n l) := hl
  have LB : Hid (∀ j, l.getD j 0 ≤ 288) := hfl
  have D0 : Hid (0 ≤ l.getD i 0) := hd
  have T0 : Hid (t < n) := ht
  have ll : l.length = n := hl.1
  have R0 : Hid (Ro w uf l) := hf
  obtain ⟨af, cf, rfl, f1, f2, cfa⟩ := hf
  obtain ⟨yf, rfl, -, -⟩ := cfa (by intro e; rw [e] at ll; simp at ll; omega)
  rw [ll] at f1 R0 ⊢
  rw [gl] at c1 ⊢
  have Ll : Hid (l.length = n) := ll
  clear ca cb G hn hss gl E hl hfl hd ht cfa ll
  have b0 : Hid (Below w.heap.size w (w.alloc (Obj.cells #[.int .i64 W, .int .i64 H, .slice a1 n c, .slice b1 os.length d] 25))) := (Below.refl _ _).alloc (Nat.le_refl _) _
  have X0 : Hid (Bf (w.alloc (Obj.cells #[.int .i64 W, .int .i64 H, .slice a1 n c, .slice b1 os.length d] 25)) w.heap.size W H (.slice a1 n c) (.slice b1 os.length d)) := Bf.mk' _ _ _ _ rfl
  go_enter Tryz.func135, Tryz.ntmps135
  go_wp2_with fail
  have F1 : Fl (w.alloc (Obj.cells #[.int .i64 W, .int .i64 H, .slice a1 n c, .slice b1 os.length d] 25)) (.agg #[.int .i64 W, .int .i64 H, .slice a1 n c, .slice b1 os.length d]) W H gs os := by
    have := F0.out
    rw [Gl.out] at this
    exact this.below b0.out
  refine (ref_near_own _ W H gs os i _ F1 G0.out.w1 G0.out.w2 G0.out.h2 (by rw [Hn.out]; exact hi)).mono ?_
  rintro e w3 ⟨u, rfl, hu, hb3⟩
  have X3 : Hid (Bf w3 w.heap.size W H (.slice a1 n c) (.slice b1 os.length d)) := X0.out.below hb3 X0.out.lt
  have B3 : Hid (Below w.heap.size w w3) := b0.out.trans (hb3.mono b0.out.size)
  have U3 : Hid (Ro w3 u (Fd.near W H i)) := hu.ro
  obtain ⟨an, cn, rfl, e1, e2, -⟩ := hu.ro
  have L4 : (Fd.near W H i).length ≤ 4 := Fd.near_len W H i
  clear hu hb3 F1 b0 X0
  go_wp2_with fail
  go_loopw [10] (fun i' W' => ∃ q, i' = .int .i64 (q : Nat) ∧ q ≤ (Fd.near W H i).length ∧ ((Fd.near W H i).take q).any (pn ss l i) = false ∧ Bf W' w.heap.size W H (.slice a1 n c) (.slice b1 os.length d) ∧ Below w.heap.size w W' ∧ Ro W' (.slice an (Fd.near W H i).length cn) (Fd.near W H i)) (fun i' _ => (Fd.near W H i).length - (intOf i').toNat)
  case atStart => exact ⟨0, rfl, Nat.zero_le _, by simp, X3, B3, U3⟩
  case round =>
    clear X3 B3 U3
    obtain ⟨q, rfl, hq, hany, hx, hB, hu⟩ := hrel
    have X : Hid (Bf wr w.heap.size W H (.slice a1 n c) (.slice b1 os.length d)) := hx
    have B : Hid (Below w.heap.size w wr) := hB
    have U : Hid (Ro wr (.slice an (Fd.near W H i).length cn) (Fd.near W H i)) := hu
    have An : Hid (((Fd.near W H i).take q).any (pn ss l i) = false) := hany
    clear hx hB hu hany
    by_cases h2 : q = (Fd.near W H i).length
    · have NN : Hid (Nxt (Fd.near W H) ss l t i i) := nx_none E0.out HL.out hi D0.out (by have := An.out; rw [h2, List.take_of_length_le (Nat.le_refl _)] at this; exact this)
      subst h2
      clear An
      go_wp2
      go_ret
      exact ⟨i, rfl, NN, B⟩
    · have hql : q < (Fd.near W H i).length := by omega
      obtain ⟨j, hj, jn, -⟩ := E0.out.cell i _ hi (List.getElem_mem hql)
      have Hj : Hid ((Fd.near W H i)[q]? = some (j : Int)) := by unfold Hid; rw [List.getElem?_eq_getElem hql, hj]
      have As : Hid (((Fd.near W H i).take (q + 1)).any (pn ss l i) = (((Fd.near W H i).take q).any (pn ss l i) || pn ss l i j)) := by unfold Hid; rw [any_next hql, hj]
      clear hj
      obtain ⟨a4, c4, e4, -, -, ca⟩ := U.out
      injection e4 with e5 e6 e7
      subst e5
      obtain ⟨yn, rfl, hyl, hy⟩ := ca (by intro h; rw [h] at hql; simp at hql)
      have cj := hy q _ Hj.out
      have Yl : Hid (yn.block < wr.heap.size) := hyl
      clear hy e6 e7 ca hyl
      have hgl : j < gs.length := by rw [Gl.out]; exact jn
      obtain ⟨g, hg⟩ : ∃ g, gs[j]? = some g := ⟨_, List.getElem?_eq_getElem hgl⟩
      obtain ⟨o, ho⟩ : ∃ o, os[j]? = some o := ⟨_, List.getElem?_eq_getElem (by rw [G0.out.ol, Hn.out]; exact jn)⟩
      have hcl := G0.out.cell j g o hg ho
      obtain ⟨m, hm⟩ : ∃ m, ss.getD j 0 = m := ⟨_, rfl⟩
      have hon : Fd.onto g fl = m := by rw [← hm, ← Hss.out, List.getD_eq_getElem?_getD, List.getElem?_map, hg]; rfl
      have HD : Hid (ss.getD j 0 = m) := hm
      have l2 : m ≤ 2 := by rw [← hon]; have := E0.out.two i j; rw [← hm] at hon; rw [hon]; exact this
      have F1 : Fl wr (.agg #[.int .i64 W, .int .i64 H, .slice a1 n c, .slice b1 os.length d]) W H gs os := by
        have := F0.out.below B.out
        rw [Gl.out] at this
        exact this
      have CO : Hid (Calls Tryz.prog 28 #[.agg #[.int .i64 W, .int .i64 H, .slice a1 n c, .slice b1 os.length d], .int .i64 (j : Nat), .bool fl] wr.drew fun e w' => e = .returned (.int .i64 m) ∧ Below wr.heap.size wr w' ∧ w'.cell? ⟨w.heap.size, 0, none⟩ = some (.int .i64 W) ∧ w'.cell? ⟨w.heap.size, 1, none⟩ = some (.int .i64 H) ∧ w'.cell? ⟨w.heap.size, 2, none⟩ = some (.slice a1 n c) ∧ w'.cell? ⟨w.heap.size, 3, none⟩ = some (.slice b1 os.length d) ∧ w'.cell? (yn.add q) = some (.int .i64 (j : Nat))) := by
        refine (ref_onto _ W H gs os j g fl wr.drew (F1.below (Below.refl _ _).drew) (by rw [Gl.out]; exact n1) hg hcl.1 hcl.2.1).mono ?_
        rintro e w' ⟨h1, h2⟩
        have h4 : Below wr.heap.size wr w' := ((Below.refl _ _).drew).trans h2
        obtain ⟨y0, y1, y2, y3⟩ := X.out.below h4 X.out.lt
        exact ⟨by rw [h1, hon], h4, y0, y1, y2, y3, by rw [h4.cell (p := yn.add q) (by rw [add_block]; exact Yl.out)]; exact cj⟩
      obtain ⟨x0, x1, x2, x3⟩ := X.out
      clear hg ho hcl hon hm F1 hgl
      go_wp2_with fail
      go_region_held3 (fun w' => w'.cell? ⟨w.heap.size, 0, none⟩ = some (.int .i64 W) ∧ w'.cell? ⟨w.heap.size, 1, none⟩ = some (.int .i64 H) ∧ w'.cell? ⟨w.heap.size, 2, none⟩ = some (.slice a1 n c) ∧ w'.cell? ⟨w.heap.size, 3, none⟩ = some (.slice b1 os.length d) ∧ w'.cell? (yn.add q) = some (.int .i64 (j : Nat)))
        (go_keep)
        ((go_at_call 28; refine Calls.mono CO.out ?_; rintro e w6 ⟨rfl, k6, y0, y1, y2, y3, y4⟩))
      have X5 : Hid (Bf w6 w.heap.size W H (.slice a1 n c) (.slice b1 os.length d)) := X.out.below k6 X.out.lt
      have B5 : Hid (Below w.heap.size w w6) := B.out.trans (k6.mono B.out.size)
      have U5 : Hid (Ro w6 (.slice (some yn) (Fd.near W H i).length cn) (Fd.near W H i)) := U.out.below k6
      obtain ⟨a5, c5, e5, -, -, ca⟩ := R0.out.below B5.out
      injection e5 with e5 e6 e7
      subst e5
      obtain ⟨yy, hyy, -, hy⟩ := ca (by intro h; have := Ll.out; rw [h] at this; simp at this; omega)
      injection hyy with hyy
      subst hyy
      have cd := hy j _ (get_far Ll.out jn)
      have ce := hy i _ (get_far Ll.out hi)
      have P : Hid (pn ss l i j = (decide (0 < m) && (decide (0 ≤ l.getD j 0) && decide (m + l.getD j 0 = l.getD i 0)))) := by unfold Hid pn; rw [Int.toNat_natCast, HD.out]
      have yb := LB.out j
      clear X B U k6 CO Yl x0 x1 x2 x3 y0 y1 y2 y3 hy ca e6 e7 HD
      generalize l.getD j 0 = yv at *
      generalize l.getD i 0 = xv at *
      by_cases h1 : 0 < m
      · by_cases h2 : 0 ≤ yv
        · by_cases h3 : m + yv = xv
          · have NN : Hid (Nxt (Fd.near W H) ss l t i j) := nx_some HL.out T0.out Hj.out (by rw [P.out, decide_eq_true h1, decide_eq_true h2, decide_eq_true h3]; rfl) An.out
            clear P As
            go_wp2
            go_ret
            exact ⟨j, rfl, NN, B5⟩
          · have h3' : (m + yv == xv) = false := by simpa using h3
            have A' : Hid (((Fd.near W H i).take (q + 1)).any (pn ss l i) = false) := by
              unfold Hid
              rw [As.out, An.out, P.out, decide_eq_true h1, decide_eq_true h2, decide_eq_false h3]
              rfl
            clear P As An
            go_wp2
            go_round
            case rel => exact ⟨q + 1, by go_num, by omega, A', X5, B5, U5⟩
            case measure => simp [intOf]; omega
        · have h2x := h2
          have A' : Hid (((Fd.near W H i).take (q + 1)).any (pn ss l i) = false) := by
            unfold Hid
            rw [As.out, An.out, P.out, decide_eq_true h1, decide_eq_false h2]
            rfl
          clear P As An
          go_wp2
          go_round
          case rel => exact ⟨q + 1, by go_num, by omega, A', X5, B5, U5⟩
          case measure => simp [intOf]; omega
      · have h1x := h1
        have A' : Hid (((Fd.near W H i).take (q + 1)).any (pn ss l i) = false) := by
          unfold Hid
          rw [As.out, An.out, P.out, decide_eq_false h1]
          rfl
        clear P As An
        go_wp2
        go_round
        case rel => exact ⟨q + 1, by go_num, by omega, A', X5, B5, U5⟩
        case measure => simp [intOf]; omega
end Go.Proofs.YteieikgkmfglaaaGreatDoor

namespace Go.Proofs.YteieikgkmfglaaaGreatDoor
open Go.RowKit Wy
set_option linter.unusedVariables false

set_option maxRecDepth 100000 in
set_option maxHeartbeats 4000000 in
theorem rtoward_any (vw : Value) (X : WV) (a b c : Nat) (fl : Bool) (l : List Int) (Wn Hn : Nat) (w : World) (G : Fd.Good Wn Hn X.gs X.os) (e1 : X.wide = (Wn : Nat)) (e2 : X.high = (Hn : Nat)) (ha : a < Wn * Hn) (hb : b < Wn * Hn) (hw : Wl w vw X)
    (hl : IsFar (Fd.near Wn Hn) (fun _ j => (X.gs.map fun g => Fd.onto g fl).getD j 0) b (Wn * Hn) l ∧ Flat l)
    (hc : (l.getD a 0 < 0 ∧ c = a) ∨ (0 ≤ l.getD a 0 ∧ Nxt (Fd.near Wn Hn) (X.gs.map fun g => Fd.onto g fl) l b a c)) :
    Calls Tryz.prog 109 #[vw, .int .i64 (a : Nat), .int .i64 (b : Nat), .bool fl] w fun e w' => e = .returned (.int .i64 (c : Nat)) ∧ Below w.heap.size w w' := by
  have GD : Hid (Fd.Good Wn Hn X.gs X.os ∧ X.wide = (Wn : Nat) ∧ X.high = (Hn : Nat) ∧ a < Wn * Hn ∧ b < Wn * Hn) := ⟨G, e1, e2, ha, hb⟩
  have HL : Hid (IsFar (Fd.near Wn Hn) (fun _ j => (X.gs.map fun g => Fd.onto g fl).getD j 0) b (Wn * Hn) l ∧ Flat l) := hl
  have HC : Hid ((l.getD a 0 < 0 ∧ c = a) ∨ (0 ≤ l.getD a 0 ∧ Nxt (Fd.near Wn Hn) (X.gs.map fun g => Fd.onto g fl) l b a c)) := hc
  have H : Hid (Wl w vw X) := hw
  have EV : Hid (Even (Fd.near Wn Hn) (fun _ j => (X.gs.map fun g => Fd.onto g fl).getD j 0) (Wn * Hn)) := even_to G.w1 X.gs fl
  have NM : Hid (Wn * Hn ≤ 144) := G.pos.2
  obtain ⟨p1, s1, p2, s2, p3, s3, p4, s4, p5, s5, rfl⟩ := wl_shape9 hw
  clear G e1 e2 ha hb hw hl hc
  have B0 : Hid (Below w.heap.size w (w.alloc (Obj.cells #[.int .i64 X.turn, .int .i64 X.next, .int .i64 X.wide, .int .i64 X.high, .slice p1 X.gs.length s1, .slice p2 X.os.length s2, .slice p3 X.gold.length s3, .slice p4 X.us.length s4, .slice p5 X.qs.length s5] 29))) := (Below.refl _ _).alloc (Nat.le_refl _) _
  have X0 : Hid (Bw (w.alloc (Obj.cells #[.int .i64 X.turn, .int .i64 X.next, .int .i64 X.wide, .int .i64 X.high, .slice p1 X.gs.length s1, .slice p2 X.os.length s2, .slice p3 X.gold.length s3, .slice p4 X.us.length s4, .slice p5 X.qs.length s5] 29)) w.heap.size X (.slice p1 X.gs.length s1) (.slice p2 X.os.length s2) (.slice p3 X.gold.length s3) (.slice p4 X.us.length s4) (.slice p5 X.qs.length s5)) := Bw.mk' X _ _ _ _ _ rfl
  go_enter Tryz.func109, Tryz.ntmps109
  go_upto_region 1 with fail
  generalize (w.alloc (Obj.cells #[.int .i64 X.turn, .int .i64 X.next, .int .i64 X.wide, .int .i64 X.high, .slice p1 X.gs.length s1, .slice p2 X.os.length s2, .slice p3 X.gold.length s3, .slice p4 X.us.length s4, .slice p5 X.qs.length s5] 29)) = w0 at *
  have FW : Hid (∀ V, Below w.heap.size w V → Fl V (.agg #[.int .i64 (Wn : Nat), .int .i64 (Hn : Nat), .slice p1 X.gs.length s1, .slice p2 X.os.length s2]) Wn Hn X.gs X.os) := fun V hV => by
    have h := fl_of (H.out.below hV)
    rw [GD.out.2.1, GD.out.2.2.1] at h
    exact h
  obtain ⟨x0, x1, x2, x3, x4, x5, x6, x7, x8⟩ := X0.out
  rw [GD.out.2.1] at x2
  rw [GD.out.2.2.1] at x3
  go_wp2_with fail
  refine (ref_to _ Wn Hn X.gs X.os b fl w0 (FW.out w0 B0.out) GD.out.1 GD.out.2.2.2.2 EV.out).mono ?_
  rintro e w1 ⟨bb, l', rfl, -, hbk, hfar, hb⟩
  obtain rfl : l' = l := hfar.1.uniq HL.out.1
  have BK : Hid (Bk w1 bb l' #[]) := hbk
  have B1 : Hid (Below w.heap.size w w1) := B0.out.trans (hb.mono B0.out.size)
  have X1 : Hid (Bw w1 w.heap.size X (.slice p1 X.gs.length s1) (.slice p2 X.os.length s2) (.slice p3 X.gold.length s3) (.slice p4 X.us.length s4) (.slice p5 X.qs.length s5)) := X0.out.below hb X0.out.lt
  clear hb hbk hfar x0 x1 x2 x3 x4 x5 x6 x7 x8 X0 B0
  have hlen : l'.length = Wn * Hn := HL.out.1.1
  obtain ⟨x, hx⟩ : ∃ x, l'[a]? = some x := ⟨_, List.getElem?_eq_getElem (by rw [hlen]; exact GD.out.2.2.2.1)⟩
  have ca := BK.out.cell hx
  have gx : l'.getD a 0 = x := by rw [List.getD_eq_getElem?_getD, hx]; rfl
  have hai : ((a : Nat) : Int) < ((Wn * Hn : Nat) : Int) := by have := GD.out.2.2.2.1; omega
  have RO : Hid (Ro w1 (.slice (some ⟨bb, 0, none⟩) (Wn * Hn) (Wn * Hn)) l') := by
    have h := BK.out.ro (c := Wn * Hn) (by rw [hlen]; exact Nat.le_refl _) (by have := NM.out; omega)
    rw [hlen] at h
    exact h
  have FLE : Hid (∀ j, l'.getD j 0 ≤ 288) := fun j => flat_le HL.out.2 hlen NM.out j
  obtain ⟨n, hn⟩ : ∃ n, Wn * Hn = n := ⟨_, rfl⟩
  have HN : Hid (Wn * Hn = n) := hn
  rw [hn] at hai ⊢
  clear hlen hn hx
  by_cases h0 : x < 0
  · have EC : Hid (c = a) := by
      rcases HC.out with ⟨-, h⟩ | ⟨h, -⟩
      · exact h
      · rw [gx] at h; omega
    clear gx
    go_wp2
    go_ret
    exact ⟨by rw [EC.out]; rfl, B1.out⟩
  · have NX : Hid (Nxt (Fd.near Wn Hn) (X.gs.map fun g => Fd.onto g fl) l' b a c ∧ 0 ≤ l'.getD a 0) := by
      rcases HC.out with ⟨h, -⟩ | ⟨h, h'⟩
      · rw [gx] at h; omega
      · exact ⟨h', h⟩
    clear gx
    obtain ⟨x0, x1, x2, x3, x4, x5, x6, x7, x8⟩ := X1.out
    rw [GD.out.2.1] at x2
    rw [GD.out.2.2.1] at x3
    go_wp2_with fail
    rw [← HN.out]
    refine (ref_next _ _ Wn Hn X.gs X.os l' a b fl w1 (FW.out w1 B1.out) GD.out.1 GD.out.2.2.2.1 EV.out RO.out HL.out.1 FLE.out NX.out.2 GD.out.2.2.2.2).mono ?_
    rintro e w2 ⟨j, rfl, hj, hb⟩
    obtain rfl : j = c := hj.uniq NX.out.1
    have B2 : Hid (Below w.heap.size w w2) := B1.out.trans (hb.mono B1.out.size)
    clear hb hj x0 x1 x2 x3 x4 x5 x6 x7 x8
    go_wp2
    go_ret
    exact ⟨rfl, B2.out⟩
end Go.Proofs.YteieikgkmfglaaaGreatDoor

