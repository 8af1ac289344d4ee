/- move.Move: all units, one behind the other. · Moves: who rests stays. Plain mathematics. · world.New. · Fields as texts: plain mathematics. · A fact's kinds, and its small world. Plain mathematics. · Fields: what a sign stands for. · Fields: a field as far as its text is read. · Fields: one byte more. -/
import Derived.Test.YtplnhgllbhdfjaaDoorZMoveWishes5
import Derived.BigQuiet
import Derived.Test.YtplnhgllbhdfjaaDoorZMoveWishes2
import Derived.Test.YtplnhgllbhdfjaaDoorZMoveWishes1
import Derived.Lib.Strings
import Derived.Lib.Bytealg
import Derived.Laws.Pointers
import Derived.Deep.DeepCutAuto
namespace Go.Proofs.YtplnhgllbhdfjaaDoor
open Go.RowKit Wy
set_option linter.unusedVariables false

/-- who has come to its end rests. -/
def ends (u : UnV) : UnV := if u.task = 1 ∧ u.at_ = u.goal then { u with task := 0, goal := 0 } else u
/-- from the n-th on all units go. -/
inductive Moves (ks : List KV) (X : WV) (Wn Hn : Nat) : Nat → List UnV → List EvV → List UnV → Prop where
  | done {n : Nat} {us : List UnV} (h : n = us.length) : Moves ks X Wn Hn n us [] us
  | unit {n : Nat} {us us1 us' : List UnV} {u u1 : UnV} {k : KV} {cells : List Int} {evs : List EvV} (hu : us[n]? = some u) (hk : ks[u.kind.toNat]? = some k) (hg : Goes ks X Wn Hn k n us k.n4 cells us1) (h1 : us1[n]? = some u1) (hm : Moves ks X Wn Hn (n + 1) (us1.set n (ends u1)) evs us') : Moves ks X Wn Hn n us (cells.map (fun c => (⟨1, u.id, c⟩ : EvV)) ++ evs) us'
/-- what Move tells. -/
def MoveSays (ks : List KV) (X : WV) (w w' : World) (v ev : Value) : Prop :=
  (Wd.wfault ks X ≠ 0 ∧ v = .agg #[.int .i64 0, .int .i64 0, .int .i64 0, .int .i64 0, .slice none 0 0, .slice none 0 0, .slice none 0 0, .slice none 0 0, .slice none 0 0] ∧ ev = .slice none 0 0)
  ∨ (Wd.wfault ks X = 0 ∧ ∃ Wn Hn : Nat, X.wide = (Wn : Nat) ∧ X.high = (Hn : Nat) ∧ Fd.Good Wn Hn X.gs X.os ∧ ∃ us' evs, Moves ks X Wn Hn 0 X.us evs us' ∧ us'.length = X.us.length ∧ Wo w' w.heap.size v { X with us := us' } ∧ Evo w' w.heap.size ev evs)
/-- units that only their places, Tasks and Goals tell from those that were. -/
def Alike (ks : List KV) (n : Nat) (us0 us : List UnV) : Prop := us.length = us0.length ∧ ∀ (j : Nat) (v : UnV), us[j]? = some v → ∃ u, us0[j]? = some u ∧ v.kind = u.kind ∧ v.id = u.id ∧ Fit ks n v ∧ (0 ≤ v.goal ∧ v.goal < (n : Int))
theorem Alike.fits {ks : List KV} {n : Nat} {us0 us : List UnV} (h : Alike ks n us0 us) : ∀ v ∈ us, Fit ks n v := fun v hv => by
  obtain ⟨j, hj⟩ := List.mem_iff_getElem?.1 hv
  obtain ⟨u, -, -, -, h1, -⟩ := h.2 j v hj
  exact h1
theorem Alike.set {ks : List KV} {n : Nat} {us0 us : List UnV} (h : Alike ks n us0 us) {i : Nat} {u v : UnV} (hu : us[i]? = some u) (hk : v.kind = u.kind) (hi : v.id = u.id) (hf : Fit ks n v) (hg : 0 ≤ v.goal ∧ v.goal < (n : Int)) : Alike ks n us0 (us.set i v) := by
  refine ⟨by rw [List.length_set]; exact h.1, fun j x hj => ?_⟩
  by_cases hij : i = j
  · subst hij
    rw [List.getElem?_set_self (List.getElem?_eq_some_iff.1 hu).1] at hj
    injection hj with hj
    subst hj
    obtain ⟨u0, h1, h2, h3, -, -⟩ := h.2 i u hu
    exact ⟨u0, h1, by rw [hk, h2], by rw [hi, h3], hf, hg⟩
  · rw [List.getElem?_set_ne hij] at hj
    exact h.2 j x hj
theorem uno_set {ks : List UnV} {i : Nat} {u : UnV} : (ks.set i u).length = ks.length := List.length_set
set_option maxRecDepth 100000 in
set_option maxHeartbeats 16000000 in
theorem Move_any (vk vw : Value) (ks : List KV) (X : WV) (w : World) (hk : Kl w vk ks) (hb : ∀ k ∈ ks, k.b.size ≤ 9223372036854775807) (hw : Wl w vw X) (hs : Sd w) :
    Calls Tryd.prog 9 #[vk, vw] w fun e w' => ∃ v ev r, e = .returned (.tuple #[v, ev, r]) ∧ Er r (Wd.wfault ks X) ∧ MoveSays ks X w w' v ev ∧ Below w.heap.size w w' := by
  have K : Hid (Kl w vk ks ∧ ∀ k ∈ ks, k.b.size ≤ 9223372036854775807) := ⟨hk, hb⟩
  have H : Hid (Wl w vw X) := hw
  have S : Hid (Sd w) := hs
  obtain ⟨p1, q1, p2, q2, p3, q3, p4, q4, p5, q5, rfl⟩ := wl_shape9 hw
  obtain ⟨pk, qk, rfl, ck1, ck2, kc⟩ := hk
  clear hb hw hs kc
  go_enter Tryd.func9, Tryd.ntmps9
  go_upto_region 1 with fail
  have B0 : Hid (Below w.heap.size w ((w.alloc (Obj.cells #[.int .i64 X.turn, .int .i64 X.next, .int .i64 X.wide, .int .i64 X.high, .slice p1 X.gs.length q1, .slice p2 X.os.length q2, .slice p3 X.gold.length q3, .slice p4 X.us.length q4, .slice p5 X.qs.length q5] 29)).alloc (Obj.cells #[.int .i64 0, .int .i64 0, .int .i64 0, .int .i64 0, .slice none 0 0, .slice none 0 0, .slice none 0 0, .slice none 0 0, .slice none 0 0] 29))) := ((Below.refl _ _).alloc (Nat.le_refl _) _).alloc (by simp) _
  have X0 : Hid (Wx ((w.alloc (Obj.cells #[.int .i64 X.turn, .int .i64 X.next, .int .i64 X.wide, .int .i64 X.high, .slice p1 X.gs.length q1, .slice p2 X.os.length q2, .slice p3 X.gold.length q3, .slice p4 X.us.length q4, .slice p5 X.qs.length q5] 29)).alloc (Obj.cells #[.int .i64 0, .int .i64 0, .int .i64 0, .int .i64 0, .slice none 0 0, .slice none 0 0, .slice none 0 0, .slice none 0 0, .slice none 0 0] 29)) (w.heap.size) (.int .i64 X.turn) (.int .i64 X.next) (.int .i64 X.wide) (.int .i64 X.high) (.slice p1 X.gs.length q1) (.slice p2 X.os.length q2) (.slice p3 X.gold.length q3) (.slice p4 X.us.length q4) (.slice p5 X.qs.length q5)) := (Wx.new (.int .i64 X.turn) (.int .i64 X.next) (.int .i64 X.wide) (.int .i64 X.high) (.slice p1 X.gs.length q1) (.slice p2 X.os.length q2) (.slice p3 X.gold.length q3) (.slice p4 X.us.length q4) (.slice p5 X.qs.length q5) rfl).below ((Below.refl _ _).alloc (Nat.le_refl _) _) (by simp)
  have Z0 : Hid (Wx ((w.alloc (Obj.cells #[.int .i64 X.turn, .int .i64 X.next, .int .i64 X.wide, .int .i64 X.high, .slice p1 X.gs.length q1, .slice p2 X.os.length q2, .slice p3 X.gold.length q3, .slice p4 X.us.length q4, .slice p5 X.qs.length q5] 29)).alloc (Obj.cells #[.int .i64 0, .int .i64 0, .int .i64 0, .int .i64 0, .slice none 0 0, .slice none 0 0, .slice none 0 0, .slice none 0 0, .slice none 0 0] 29)) (w.heap.size + 1) (.int .i64 0) (.int .i64 0) (.int .i64 0) (.int .i64 0) (.slice none 0 0) (.slice none 0 0) (.slice none 0 0) (.slice none 0 0) (.slice none 0 0)) := Wx.new (.int .i64 0) (.int .i64 0) (.int .i64 0) (.int .i64 0) (.slice none 0 0) (.slice none 0 0) (.slice none 0 0) (.slice none 0 0) (.slice none 0 0) (by simp)
  generalize ((w.alloc (Obj.cells #[.int .i64 X.turn, .int .i64 X.next, .int .i64 X.wide, .int .i64 X.high, .slice p1 X.gs.length q1, .slice p2 X.os.length q2, .slice p3 X.gold.length q3, .slice p4 X.us.length q4, .slice p5 X.qs.length q5] 29)).alloc (Obj.cells #[.int .i64 0, .int .i64 0, .int .i64 0, .int .i64 0, .slice none 0 0, .slice none 0 0, .slice none 0 0, .slice none 0 0, .slice none 0 0] 29)) = w0 at *
  obtain ⟨x0, x1, x2, x3, x4, x5, x6, x7, x8⟩ := X0.out.cells
  go_wp2_with fail
  refine (wcheck_any _ _ ks X w0 (K.out.1.below B0.out) K.out.2 (H.out.below B0.out)).mono ?_
  rintro e w1 ⟨r, rfl, hr, hb⟩
  obtain ⟨fw, hfw⟩ : ∃ f, Wd.wfault ks X = f := ⟨_, rfl⟩
  have FW : Hid (Wd.wfault ks X = fw) := hfw
  rw [hfw] at hr
  have B1 : Hid (Below w.heap.size w w1) := B0.out.trans (hb.mono B0.out.size)
  have X1 : Hid (Wx w1 (w.heap.size) (.int .i64 X.turn) (.int .i64 X.next) (.int .i64 X.wide) (.int .i64 X.high) (.slice p1 X.gs.length q1) (.slice p2 X.os.length q2) (.slice p3 X.gold.length q3) (.slice p4 X.us.length q4) (.slice p5 X.qs.length q5)) := X0.out.below hb X0.out.lt
  have Z1 : Hid (Wx w1 (w.heap.size + 1) (.int .i64 0) (.int .i64 0) (.int .i64 0) (.int .i64 0) (.slice none 0 0) (.slice none 0 0) (.slice none 0 0) (.slice none 0 0) (.slice none 0 0)) := Z0.out.below hb Z0.out.lt
  clear hb hfw x0 x1 x2 x3 x4 x5 x6 x7 x8 X0 B0 Z0
  rcases hr with ⟨rfl, rfl⟩ | ⟨hf, rfl⟩
  case inr =>
    have HF : Hid (fw ≠ 0) := hf
    clear hf
    obtain ⟨z0, z1, z2, z3, z4, z5, z6, z7, z8⟩ := Z1.out.cells
    obtain ⟨t0, t1, t2, t3, t4, t5, t6, t7, t8⟩ := Z1.out.thaws
    have KZ : Hid (Kp (w.heap.size + 1) w1 (((((((((w1.setCell ⟨w.heap.size + 1, 0, none⟩ (.int .i64 0)).setCell ⟨w.heap.size + 1, 1, none⟩ (.int .i64 0)).setCell ⟨w.heap.size + 1, 2, none⟩ (.int .i64 0)).setCell ⟨w.heap.size + 1, 3, none⟩ (.int .i64 0)).setCell ⟨w.heap.size + 1, 4, none⟩ (.slice none 0 0)).setCell ⟨w.heap.size + 1, 5, none⟩ (.slice none 0 0)).setCell ⟨w.heap.size + 1, 6, none⟩ (.slice none 0 0)).setCell ⟨w.heap.size + 1, 7, none⟩ (.slice none 0 0)).setCell ⟨w.heap.size + 1, 8, none⟩ (.slice none 0 0))) := put_kp _ _ _ _ _ _ _ _ _ _ _
    obtain ⟨y0, y1, y2, y3, y4, y5, y6, y7, y8⟩ := (Z1.out.put (.int .i64 0) (.int .i64 0) (.int .i64 0) (.int .i64 0) (.slice none 0 0) (.slice none 0 0) (.slice none 0 0) (.slice none 0 0) (.slice none 0 0)).cells
    go_wp2
    clear z0 z1 z2 z3 z4 z5 z6 z7 z8 t0 t1 t2 t3 t4 t5 t6 t7 t8
    generalize (((((((((w1.setCell ⟨w.heap.size + 1, 0, none⟩ (.int .i64 0)).setCell ⟨w.heap.size + 1, 1, none⟩ (.int .i64 0)).setCell ⟨w.heap.size + 1, 2, none⟩ (.int .i64 0)).setCell ⟨w.heap.size + 1, 3, none⟩ (.int .i64 0)).setCell ⟨w.heap.size + 1, 4, none⟩ (.slice none 0 0)).setCell ⟨w.heap.size + 1, 5, none⟩ (.slice none 0 0)).setCell ⟨w.heap.size + 1, 6, none⟩ (.slice none 0 0)).setCell ⟨w.heap.size + 1, 7, none⟩ (.slice none 0 0)).setCell ⟨w.heap.size + 1, 8, none⟩ (.slice none 0 0)) = w9 at *
    refine bodyPost_ret (v := .tuple #[.agg #[.int .i64 0, .int .i64 0, .int .i64 0, .int .i64 0, .slice none 0 0, .slice none 0 0, .slice none 0 0, .slice none 0 0, .slice none 0 0], .slice none 0 0, .iface 62 (.int .i64 fw)]) (by simp [results, Tryd.results9, go_sem, y0, y1, y2, y3, y4, y5, y6, y7, y8]) rfl ⟨_, _, _, rfl, by rw [FW.out]; exact Er.no HF.out, .inl ⟨by rw [FW.out]; exact HF.out, rfl, rfl⟩, KZ.out.below B1.out B1.out.size (by omega)⟩
  have WR : Hid (WRight ks X) := wright_of FW.out
  obtain ⟨Wn, Hn, e1, e2, G⟩ := WR.out.good
  have GD : Hid (Fd.Good Wn Hn X.gs X.os ∧ X.wide = (Wn : Nat) ∧ X.high = (Hn : Nat)) := ⟨G, e1, e2⟩
  clear e1 e2 G
  obtain ⟨x0, x1, x2, x3, x4, x5, x6, x7, x8⟩ := X1.out.cells
  go_wp2_with fail
  refine (copy_any _ X w1 (H.out.below B1.out) WR.out.len).mono ?_
  rintro e w2 ⟨cu, rfl, ⟨k1, k2, k3, k4, k5, rfl, ⟨o1, o2, o3, o4, o5⟩, -, -, d14, -, -, d24, -, d34, -, d45⟩, hb⟩
  obtain ⟨a1, r1, rfl⟩ := o1.len
  obtain ⟨a2, r2, rfl⟩ := o2.len
  obtain ⟨a3, r3, rfl⟩ := o3.len
  obtain ⟨a5, r5, rfl⟩ := o5.len
  obtain ⟨b1, hb1⟩ : ∃ z, w1.heap.size = z := ⟨_, rfl⟩
  rw [hb1] at o1 o2 o3 o4 o5
  have BS : Hid (w.heap.size + 1 < b1 ∧ b1 ≤ w2.heap.size) := ⟨by rw [← hb1]; exact Z1.out.lt, by rw [← hb1]; exact hb.size⟩
  have X2 : Hid (Wx w2 (w.heap.size) (.int .i64 X.turn) (.int .i64 X.next) (.int .i64 X.wide) (.int .i64 X.high) (.slice p1 X.gs.length q1) (.slice p2 X.os.length q2) (.slice p3 X.gold.length q3) (.slice p4 X.us.length q4) (.slice p5 X.qs.length q5)) := X1.out.below hb X1.out.lt
  have Z2 : Hid (Wx w2 (w.heap.size + 1) (.int .i64 0) (.int .i64 0) (.int .i64 0) (.int .i64 0) (.slice none 0 0) (.slice none 0 0) (.slice none 0 0) (.slice none 0 0) (.slice none 0 0)) := Z1.out.below hb Z1.out.lt
  have B2 : Hid (Below w.heap.size w w2) := B1.out.trans (hb.mono B1.out.size)
  clear hb hb1 x0 x1 x2 x3 x4 x5 x6 x7 x8 X1 Z1 B1
  obtain ⟨z0, z1, z2, z3, z4, z5, z6, z7, z8⟩ := X2.out.cells
  obtain ⟨t0, t1, t2, t3, t4, t5, t6, t7, t8⟩ := X2.out.thaws
  rcases o4.ub with ⟨rfl, hnil⟩ | ⟨g, r4, rest, rfl, hbg, hkc, hcm, hcl, hub⟩
  · -- nobody
    have KZ : Hid (Kp (w.heap.size) w2 (((((((((w2.setCell ⟨w.heap.size, 0, none⟩ (.int .i64 X.turn)).setCell ⟨w.heap.size, 1, none⟩ (.int .i64 X.next)).setCell ⟨w.heap.size, 2, none⟩ (.int .i64 X.wide)).setCell ⟨w.heap.size, 3, none⟩ (.int .i64 X.high)).setCell ⟨w.heap.size, 4, none⟩ (Value.slice a1 X.gs.length r1)).setCell ⟨w.heap.size, 5, none⟩ (Value.slice a2 X.os.length r2)).setCell ⟨w.heap.size, 6, none⟩ (Value.slice a3 X.gold.length r3)).setCell ⟨w.heap.size, 7, none⟩ (Value.slice none 0 0)).setCell ⟨w.heap.size, 8, none⟩ (Value.slice a5 X.qs.length r5))) := put_kp _ _ _ _ _ _ _ _ _ _ _
    have XE : Hid (Wx (((((((((w2.setCell ⟨w.heap.size, 0, none⟩ (.int .i64 X.turn)).setCell ⟨w.heap.size, 1, none⟩ (.int .i64 X.next)).setCell ⟨w.heap.size, 2, none⟩ (.int .i64 X.wide)).setCell ⟨w.heap.size, 3, none⟩ (.int .i64 X.high)).setCell ⟨w.heap.size, 4, none⟩ (Value.slice a1 X.gs.length r1)).setCell ⟨w.heap.size, 5, none⟩ (Value.slice a2 X.os.length r2)).setCell ⟨w.heap.size, 6, none⟩ (Value.slice a3 X.gold.length r3)).setCell ⟨w.heap.size, 7, none⟩ (Value.slice none 0 0)).setCell ⟨w.heap.size, 8, none⟩ (Value.slice a5 X.qs.length r5)) (w.heap.size) (.int .i64 X.turn) (.int .i64 X.next) (.int .i64 X.wide) (.int .i64 X.high) (Value.slice a1 X.gs.length r1) (Value.slice a2 X.os.length r2) (Value.slice a3 X.gold.length r3) (Value.slice none 0 0) (Value.slice a5 X.qs.length r5)) := X2.out.put (.int .i64 X.turn) (.int .i64 X.next) (.int .i64 X.wide) (.int .i64 X.high) (Value.slice a1 X.gs.length r1) (Value.slice a2 X.os.length r2) (Value.slice a3 X.gold.length r3) (Value.slice none 0 0) (Value.slice a5 X.qs.length r5)
    have NIL : Hid (X.us = []) := hnil
    have O2 : Hid (Ow w2 b1 (Value.slice a1 X.gs.length r1) X.gs ∧ Ow w2 b1 (Value.slice a2 X.os.length r2) X.os ∧ Ow w2 b1 (Value.slice a3 X.gold.length r3) X.gold ∧ Jbo w2 b1 (Value.slice a5 X.qs.length r5) X.qs) := ⟨o1, o2, o3, o5⟩
    clear o1 o2 o3 o4 o5 d14 d24 d34 d45 hnil
    go_upto_region 5 with fail
    clear z0 z1 z2 z3 z4 z5 z6 z7 z8 t0 t1 t2 t3 t4 t5 t6 t7 t8
    generalize (((((((((w2.setCell ⟨w.heap.size, 0, none⟩ (.int .i64 X.turn)).setCell ⟨w.heap.size, 1, none⟩ (.int .i64 X.next)).setCell ⟨w.heap.size, 2, none⟩ (.int .i64 X.wide)).setCell ⟨w.heap.size, 3, none⟩ (.int .i64 X.high)).setCell ⟨w.heap.size, 4, none⟩ (Value.slice a1 X.gs.length r1)).setCell ⟨w.heap.size, 5, none⟩ (Value.slice a2 X.os.length r2)).setCell ⟨w.heap.size, 6, none⟩ (Value.slice a3 X.gold.length r3)).setCell ⟨w.heap.size, 7, none⟩ (Value.slice none 0 0)).setCell ⟨w.heap.size, 8, none⟩ (Value.slice a5 X.qs.length r5)) = w3 at *
    have ZE : Hid (Wx w3 (w.heap.size + 1) (.int .i64 0) (.int .i64 0) (.int .i64 0) (.int .i64 0) (.slice none 0 0) (.slice none 0 0) (.slice none 0 0) (.slice none 0 0) (.slice none 0 0)) := Z2.out.kp KZ.out (by omega)
    have BE : Hid (Below w.heap.size w w3) := KZ.out.below B2.out B2.out.size (Nat.le_refl _)
    have O3 : Hid (Ow w3 b1 (Value.slice a1 X.gs.length r1) X.gs ∧ Ow w3 b1 (Value.slice a2 X.os.length r2) X.os ∧ Ow w3 b1 (Value.slice a3 X.gold.length r3) X.gold ∧ Jbo w3 b1 (Value.slice a5 X.qs.length r5) X.qs) := by
      have h := BS.out.1
      exact ⟨O2.out.1.kp KZ.out (by omega), O2.out.2.1.kp KZ.out (by omega), O2.out.2.2.1.kp KZ.out (by omega), O2.out.2.2.2.kp KZ.out (by omega)⟩
    clear KZ X2 Z2 B2 O2
    obtain ⟨-, -, -, -, -, -, -, w7, -⟩ := XE.out.cells
    go_upto_region 7 with fail
    clear w7
    refine wp_loop_rounds 1 ?_
    rw [rounds_succ]
    obtain ⟨x0, x1, x2, x3, x4, x5, x6, x7, x8⟩ := XE.out.cells
    obtain ⟨z0, z1, z2, z3, z4, z5, z6, z7, z8⟩ := ZE.out.cells
    obtain ⟨t0, t1, t2, t3, t4, t5, t6, t7, t8⟩ := ZE.out.thaws
    have KZ : Hid (Kp (w.heap.size + 1) w3 (((((((((w3.setCell ⟨w.heap.size + 1, 0, none⟩ (.int .i64 X.turn)).setCell ⟨w.heap.size + 1, 1, none⟩ (.int .i64 X.next)).setCell ⟨w.heap.size + 1, 2, none⟩ (.int .i64 X.wide)).setCell ⟨w.heap.size + 1, 3, none⟩ (.int .i64 X.high)).setCell ⟨w.heap.size + 1, 4, none⟩ (Value.slice a1 X.gs.length r1)).setCell ⟨w.heap.size + 1, 5, none⟩ (Value.slice a2 X.os.length r2)).setCell ⟨w.heap.size + 1, 6, none⟩ (Value.slice a3 X.gold.length r3)).setCell ⟨w.heap.size + 1, 7, none⟩ (Value.slice none 0 0)).setCell ⟨w.heap.size + 1, 8, none⟩ (Value.slice a5 X.qs.length r5))) := put_kp _ _ _ _ _ _ _ _ _ _ _
    obtain ⟨y0, y1, y2, y3, y4, y5, y6, y7, y8⟩ := (ZE.out.put (.int .i64 X.turn) (.int .i64 X.next) (.int .i64 X.wide) (.int .i64 X.high) (Value.slice a1 X.gs.length r1) (Value.slice a2 X.os.length r2) (Value.slice a3 X.gold.length r3) (Value.slice none 0 0) (Value.slice a5 X.qs.length r5)).cells
    go_wp2
    clear x0 x1 x2 x3 x4 x5 x6 x7 x8 z0 z1 z2 z3 z4 z5 z6 z7 z8 t0 t1 t2 t3 t4 t5 t6 t7 t8
    generalize (((((((((w3.setCell ⟨w.heap.size + 1, 0, none⟩ (.int .i64 X.turn)).setCell ⟨w.heap.size + 1, 1, none⟩ (.int .i64 X.next)).setCell ⟨w.heap.size + 1, 2, none⟩ (.int .i64 X.wide)).setCell ⟨w.heap.size + 1, 3, none⟩ (.int .i64 X.high)).setCell ⟨w.heap.size + 1, 4, none⟩ (Value.slice a1 X.gs.length r1)).setCell ⟨w.heap.size + 1, 5, none⟩ (Value.slice a2 X.os.length r2)).setCell ⟨w.heap.size + 1, 6, none⟩ (Value.slice a3 X.gold.length r3)).setCell ⟨w.heap.size + 1, 7, none⟩ (Value.slice none 0 0)).setCell ⟨w.heap.size + 1, 8, none⟩ (Value.slice a5 X.qs.length r5)) = wz at *
    refine bodyPost_ret (v := .tuple #[.agg #[.int .i64 X.turn, .int .i64 X.next, .int .i64 X.wide, .int .i64 X.high, Value.slice a1 X.gs.length r1, Value.slice a2 X.os.length r2, Value.slice a3 X.gold.length r3, Value.slice none 0 0, Value.slice a5 X.qs.length r5], .slice none 0 0, .nilIface]) (by simp [results, Tryd.results9, go_sem, y0, y1, y2, y3, y4, y5, y6, y7, y8]) rfl ⟨_, _, _, rfl, by rw [FW.out]; exact Er.nil, .inr ⟨FW.out, Wn, Hn, GD.out.2.1, GD.out.2.2, GD.out.1, X.us, [], .done (by rw [NIL.out]; rfl), rfl, ?_, Evo.nil _ _⟩, KZ.out.below BE.out BE.out.size (by omega)⟩
    have h := BS.out.1
    exact ⟨_, _, _, _, _, rfl, (O3.out.1.kp KZ.out (by omega)).mono (by omega), (O3.out.2.1.kp KZ.out (by omega)).mono (by omega), (O3.out.2.2.1.kp KZ.out (by omega)).mono (by omega), by rw [NIL.out]; exact Uno.nil _ _, (O3.out.2.2.2.kp KZ.out (by omega)).mono (by omega)⟩
  have KZ : Hid (Kp (w.heap.size) w2 (((((((((w2.setCell ⟨w.heap.size, 0, none⟩ (.int .i64 X.turn)).setCell ⟨w.heap.size, 1, none⟩ (.int .i64 X.next)).setCell ⟨w.heap.size, 2, none⟩ (.int .i64 X.wide)).setCell ⟨w.heap.size, 3, none⟩ (.int .i64 X.high)).setCell ⟨w.heap.size, 4, none⟩ (Value.slice a1 X.gs.length r1)).setCell ⟨w.heap.size, 5, none⟩ (Value.slice a2 X.os.length r2)).setCell ⟨w.heap.size, 6, none⟩ (Value.slice a3 X.gold.length r3)).setCell ⟨w.heap.size, 7, none⟩ (Value.slice (some ⟨g, 0, none⟩) X.us.length r4)).setCell ⟨w.heap.size, 8, none⟩ (Value.slice a5 X.qs.length r5))) := put_kp _ _ _ _ _ _ _ _ _ _ _
  have X3 : Hid (Wx (((((((((w2.setCell ⟨w.heap.size, 0, none⟩ (.int .i64 X.turn)).setCell ⟨w.heap.size, 1, none⟩ (.int .i64 X.next)).setCell ⟨w.heap.size, 2, none⟩ (.int .i64 X.wide)).setCell ⟨w.heap.size, 3, none⟩ (.int .i64 X.high)).setCell ⟨w.heap.size, 4, none⟩ (Value.slice a1 X.gs.length r1)).setCell ⟨w.heap.size, 5, none⟩ (Value.slice a2 X.os.length r2)).setCell ⟨w.heap.size, 6, none⟩ (Value.slice a3 X.gold.length r3)).setCell ⟨w.heap.size, 7, none⟩ (Value.slice (some ⟨g, 0, none⟩) X.us.length r4)).setCell ⟨w.heap.size, 8, none⟩ (Value.slice a5 X.qs.length r5)) (w.heap.size) (.int .i64 X.turn) (.int .i64 X.next) (.int .i64 X.wide) (.int .i64 X.high) (Value.slice a1 X.gs.length r1) (Value.slice a2 X.os.length r2) (Value.slice a3 X.gold.length r3) (Value.slice (some ⟨g, 0, none⟩) X.us.length r4) (Value.slice a5 X.qs.length r5)) := X2.out.put (.int .i64 X.turn) (.int .i64 X.next) (.int .i64 X.wide) (.int .i64 X.high) (Value.slice a1 X.gs.length r1) (Value.slice a2 X.os.length r2) (Value.slice a3 X.gold.length r3) (Value.slice (some ⟨g, 0, none⟩) X.us.length r4) (Value.slice a5 X.qs.length r5)
  have O2 : Hid (Ow w2 b1 (Value.slice a1 X.gs.length r1) X.gs ∧ Ow w2 b1 (Value.slice a2 X.os.length r2) X.os ∧ Ow w2 b1 (Value.slice a3 X.gold.length r3) X.gold ∧ Jbo w2 b1 (Value.slice a5 X.qs.length r5) X.qs ∧ Ub w2 g X.us rest) := ⟨o1, o2, o3, o5, hub⟩
  have DD : Hid ((∀ b, ((Value.slice a1 X.gs.length r1)).ownBlock = some b → some g ≠ some b) ∧ (∀ b, ((Value.slice a2 X.os.length r2)).ownBlock = some b → some g ≠ some b) ∧ (∀ b, ((Value.slice a3 X.gold.length r3)).ownBlock = some b → some g ≠ some b) ∧ (∀ b, ((Value.slice a5 X.qs.length r5)).ownBlock = some b → some g ≠ some b)) := ⟨fun b h e => d14 b h e, fun b h e => d24 b h e, fun b h e => d34 b h e, fun b h e => d45 b e h⟩
  have CP : Hid (b1 ≤ g ∧ X.us.length ≤ r4 ∧ r4 ≤ maxLen ∧ X.us.length * 8 + rest.length = r4 * 8) := ⟨hbg, hkc, hcm, hcl⟩
  have hr4 : r4 ≤ 9223372036854775807 := by unfold maxLen at hcm; omega
  have hr4' : X.us.length ≤ r4 := hkc
  have hul : X.us.length ≤ 40 := WR.out.ul
  clear o1 o2 o3 o4 o5 d14 d24 d34 d45 hbg hkc hcm hcl hub
  go_upto_region 5 with fail
  clear z0 z1 z2 z3 z4 z5 z6 z7 z8 t0 t1 t2 t3 t4 t5 t6 t7 t8
  generalize (((((((((w2.setCell ⟨w.heap.size, 0, none⟩ (.int .i64 X.turn)).setCell ⟨w.heap.size, 1, none⟩ (.int .i64 X.next)).setCell ⟨w.heap.size, 2, none⟩ (.int .i64 X.wide)).setCell ⟨w.heap.size, 3, none⟩ (.int .i64 X.high)).setCell ⟨w.heap.size, 4, none⟩ (Value.slice a1 X.gs.length r1)).setCell ⟨w.heap.size, 5, none⟩ (Value.slice a2 X.os.length r2)).setCell ⟨w.heap.size, 6, none⟩ (Value.slice a3 X.gold.length r3)).setCell ⟨w.heap.size, 7, none⟩ (Value.slice (some ⟨g, 0, none⟩) X.us.length r4)).setCell ⟨w.heap.size, 8, none⟩ (Value.slice a5 X.qs.length r5)) = w3 at *
  have Z3 : Hid (Wx w3 (w.heap.size + 1) (.int .i64 0) (.int .i64 0) (.int .i64 0) (.int .i64 0) (.slice none 0 0) (.slice none 0 0) (.slice none 0 0) (.slice none 0 0) (.slice none 0 0)) := Z2.out.kp KZ.out (by omega)
  have B3 : Hid (Below w.heap.size w w3) := KZ.out.below B2.out B2.out.size (Nat.le_refl _)
  have O3 : Hid (Ow w3 b1 (Value.slice a1 X.gs.length r1) X.gs ∧ Ow w3 b1 (Value.slice a2 X.os.length r2) X.os ∧ Ow w3 b1 (Value.slice a3 X.gold.length r3) X.gold ∧ Jbo w3 b1 (Value.slice a5 X.qs.length r5) X.qs ∧ Ub w3 g X.us rest) := by
    have h := BS.out.1
    refine ⟨O2.out.1.kp KZ.out (by omega), O2.out.2.1.kp KZ.out (by omega), O2.out.2.2.1.kp KZ.out (by omega), O2.out.2.2.2.1.kp KZ.out (by omega), ?_⟩
    have h9 := O2.out.2.2.2.2
    unfold Ub at *
    rw [KZ.out.block g (lt_of_block h9) (by have := CP.out.1; omega)]
    exact h9
  clear KZ X2 Z2 B2 O2
  -- what stands in any world in which that block alone has turned
  have ST : Hid (∀ V us', us'.length = X.us.length → Kp g w3 V → Ub V g us' rest → Wl V (.agg #[.int .i64 X.turn, .int .i64 X.next, .int .i64 X.wide, .int .i64 X.high, Value.slice a1 X.gs.length r1, Value.slice a2 X.os.length r2, Value.slice a3 X.gold.length r3, Value.slice (some ⟨g, 0, none⟩) X.us.length r4, Value.slice a5 X.qs.length r5]) { X with us := us' } ∧ Kl V (.slice pk ks.length qk) ks ∧ Sd V ∧ Wx V (w.heap.size) (.int .i64 X.turn) (.int .i64 X.next) (.int .i64 X.wide) (.int .i64 X.high) (Value.slice a1 X.gs.length r1) (Value.slice a2 X.os.length r2) (Value.slice a3 X.gold.length r3) (Value.slice (some ⟨g, 0, none⟩) X.us.length r4) (Value.slice a5 X.qs.length r5) ∧ Wx V (w.heap.size + 1) (.int .i64 0) (.int .i64 0) (.int .i64 0) (.int .i64 0) (.slice none 0 0) (.slice none 0 0) (.slice none 0 0) (.slice none 0 0) (.slice none 0 0) ∧ Below w.heap.size w V ∧ Ow V b1 (Value.slice a1 X.gs.length r1) X.gs ∧ Ow V b1 (Value.slice a2 X.os.length r2) X.os ∧ Ow V b1 (Value.slice a3 X.gold.length r3) X.gold ∧ Jbo V b1 (Value.slice a5 X.qs.length r5) X.qs) := fun V us' hl hk hu => by
    have hb : Below w.heap.size w V := hk.below B3.out B3.out.size (by have := CP.out.1; have := BS.out.1; omega)
    have o1 : Ow V b1 (Value.slice a1 X.gs.length r1) X.gs := own_gb O3.out.1 (gb_kp hk) DD.out.1
    have o2 : Ow V b1 (Value.slice a2 X.os.length r2) X.os := own_gb O3.out.2.1 (gb_kp hk) DD.out.2.1
    have o3 : Ow V b1 (Value.slice a3 X.gold.length r3) X.gold := own_gb O3.out.2.2.1 (gb_kp hk) DD.out.2.2.1
    have o5 : Jbo V b1 (Value.slice a5 X.qs.length r5) X.qs := own_gb O3.out.2.2.2.1 (gb_kp hk) DD.out.2.2.2
    have hu' := hu.uno (base := b1) (cap := r4) CP.out.1 (by rw [hl]; exact CP.out.2.1) CP.out.2.2.1 (by rw [hl]; exact CP.out.2.2.2)
    rw [hl] at hu'
    exact ⟨⟨_, _, _, _, _, rfl, o1.ro, o2.ro, o3.ro, hu'.l, o5.l⟩, K.out.1.below hb, S.out.below hb, X3.out.kp hk (by have := CP.out.1; have := BS.out.1; omega), Z3.out.kp hk (by have := CP.out.1; have := BS.out.1; omega), hb, o1, o2, o3, o5⟩
  obtain ⟨-, -, -, -, -, -, -, w7, -⟩ := X3.out.cells
  go_upto_region 7 with fail
  clear w7
  have GL : Hid (g < w3.heap.size) := O3.out.2.2.2.2.lt
  go_loopw [8, 25] (fun v8 v25 V => ∃ (n : Nat) (us1 : List UnV) (evs : List EvV) (ev : Value), ev = v8 ∧ v25 = .int .i64 (n : Nat) ∧ n ≤ X.us.length ∧ Alike ks (Wn * Hn) X.us us1 ∧ Ub V g us1 rest ∧ Evo V w3.heap.size ev evs ∧ evs.length ≤ 4 * n ∧ Kp g w3 V ∧ (∀ evs' us', Moves ks X Wn Hn n us1 evs' us' → Moves ks X Wn Hn 0 X.us (evs ++ evs') us')) (fun _ v25 _ => X.us.length - (intOf v25).toNat)
  case atStart => exact ⟨0, X.us, [], _, rfl, rfl, Nat.zero_le _, ⟨rfl, fun j v hj => ⟨v, hj, rfl, rfl, right_fits WR.out GD.out.1 v (List.mem_of_getElem? hj)⟩⟩, O3.out.2.2.2.2, Evo.nil _ _, Nat.le_refl _, Kp.refl _ _, fun _ _ h => h⟩
  case round =>
    obtain ⟨n, us1, evs, ev, rfl, rfl, hn, hal, hub, hev, hel, hkp, hmo⟩ := hrel
    have AL : Hid (Alike ks (Wn * Hn) X.us us1) := hal
    have U4 : Hid (Ub wr g us1 rest) := hub
    have E4 : Hid (Evo wr w3.heap.size ev evs ∧ evs.length ≤ 4 * n) := ⟨hev, hel⟩
    have P4 : Hid (Kp g w3 wr) := hkp
    have MO : Hid (∀ evs' us', Moves ks X Wn Hn n us1 evs' us' → Moves ks X Wn Hn 0 X.us (evs ++ evs') us') := hmo
    have A4 := ST.out wr us1 hal.1 hkp hub
    obtain ⟨-, -, -, ax, az, ab, ao1, ao2, ao3, ao5⟩ := A4
    clear hal hub hev hel hkp hmo
    by_cases h0 : n = X.us.length
    · subst h0
      have hnl : ¬ (((X.us.length : Nat) : Int) < (X.us.length : Nat)) := by omega
      have XE : Hid (Wx wr (w.heap.size) (.int .i64 X.turn) (.int .i64 X.next) (.int .i64 X.wide) (.int .i64 X.high) (Value.slice a1 X.gs.length r1) (Value.slice a2 X.os.length r2) (Value.slice a3 X.gold.length r3) (Value.slice (some ⟨g, 0, none⟩) X.us.length r4) (Value.slice a5 X.qs.length r5)) := ax
      have ZE : Hid (Wx wr (w.heap.size + 1) (.int .i64 0) (.int .i64 0) (.int .i64 0) (.int .i64 0) (.slice none 0 0) (.slice none 0 0) (.slice none 0 0) (.slice none 0 0) (.slice none 0 0)) := az
      have BE : Hid (Below w.heap.size w wr) := ab
      have OE : Hid (Ow wr b1 (Value.slice a1 X.gs.length r1) X.gs ∧ Ow wr b1 (Value.slice a2 X.os.length r2) X.os ∧ Ow wr b1 (Value.slice a3 X.gold.length r3) X.gold ∧ Jbo wr b1 (Value.slice a5 X.qs.length r5) X.qs) := ⟨ao1, ao2, ao3, ao5⟩
      have UE : Hid (Uno wr b1 (Value.slice (some ⟨g, 0, none⟩) X.us.length r4) us1) := by
        have hl := AL.out.1
        have := U4.out.uno (base := b1) (cap := r4) CP.out.1 (by rw [hl]; exact CP.out.2.1) CP.out.2.2.1 (by rw [hl]; exact CP.out.2.2.2)
        rw [hl] at this
        exact this
      have FIN : Hid (Moves ks X Wn Hn 0 X.us evs us1) := by
        have := MO.out [] us1 (.done AL.out.1.symm)
        rw [List.append_nil] at this
        exact this
      have B13 : Hid (b1 ≤ w3.heap.size) := by have := CP.out.1; have := GL.out; unfold Hid; omega
      clear ax az ab ao1 ao2 ao3 ao5
      obtain ⟨x0, x1, x2, x3, x4, x5, x6, x7, x8⟩ := XE.out.cells
      obtain ⟨z0, z1, z2, z3, z4, z5, z6, z7, z8⟩ := ZE.out.cells
      obtain ⟨t0, t1, t2, t3, t4, t5, t6, t7, t8⟩ := ZE.out.thaws
      have KZ : Hid (Kp (w.heap.size + 1) wr (((((((((wr.setCell ⟨w.heap.size + 1, 0, none⟩ (.int .i64 X.turn)).setCell ⟨w.heap.size + 1, 1, none⟩ (.int .i64 X.next)).setCell ⟨w.heap.size + 1, 2, none⟩ (.int .i64 X.wide)).setCell ⟨w.heap.size + 1, 3, none⟩ (.int .i64 X.high)).setCell ⟨w.heap.size + 1, 4, none⟩ (Value.slice a1 X.gs.length r1)).setCell ⟨w.heap.size + 1, 5, none⟩ (Value.slice a2 X.os.length r2)).setCell ⟨w.heap.size + 1, 6, none⟩ (Value.slice a3 X.gold.length r3)).setCell ⟨w.heap.size + 1, 7, none⟩ (Value.slice (some ⟨g, 0, none⟩) X.us.length r4)).setCell ⟨w.heap.size + 1, 8, none⟩ (Value.slice a5 X.qs.length r5))) := put_kp _ _ _ _ _ _ _ _ _ _ _
      obtain ⟨y0, y1, y2, y3, y4, y5, y6, y7, y8⟩ := (ZE.out.put (.int .i64 X.turn) (.int .i64 X.next) (.int .i64 X.wide) (.int .i64 X.high) (Value.slice a1 X.gs.length r1) (Value.slice a2 X.os.length r2) (Value.slice a3 X.gold.length r3) (Value.slice (some ⟨g, 0, none⟩) X.us.length r4) (Value.slice a5 X.qs.length r5)).cells
      go_wp2
      clear x0 x1 x2 x3 x4 x5 x6 x7 x8 z0 z1 z2 z3 z4 z5 z6 z7 z8 t0 t1 t2 t3 t4 t5 t6 t7 t8
      generalize (((((((((wr.setCell ⟨w.heap.size + 1, 0, none⟩ (.int .i64 X.turn)).setCell ⟨w.heap.size + 1, 1, none⟩ (.int .i64 X.next)).setCell ⟨w.heap.size + 1, 2, none⟩ (.int .i64 X.wide)).setCell ⟨w.heap.size + 1, 3, none⟩ (.int .i64 X.high)).setCell ⟨w.heap.size + 1, 4, none⟩ (Value.slice a1 X.gs.length r1)).setCell ⟨w.heap.size + 1, 5, none⟩ (Value.slice a2 X.os.length r2)).setCell ⟨w.heap.size + 1, 6, none⟩ (Value.slice a3 X.gold.length r3)).setCell ⟨w.heap.size + 1, 7, none⟩ (Value.slice (some ⟨g, 0, none⟩) X.us.length r4)).setCell ⟨w.heap.size + 1, 8, none⟩ (Value.slice a5 X.qs.length r5)) = wz at *
      refine bodyPost_ret (v := .tuple #[.agg #[.int .i64 X.turn, .int .i64 X.next, .int .i64 X.wide, .int .i64 X.high, Value.slice a1 X.gs.length r1, Value.slice a2 X.os.length r2, Value.slice a3 X.gold.length r3, Value.slice (some ⟨g, 0, none⟩) X.us.length r4, Value.slice a5 X.qs.length r5], ev, .nilIface]) (by simp [results, Tryd.results9, go_sem, y0, y1, y2, y3, y4, y5, y6, y7, y8]) rfl ⟨_, _, _, rfl, by rw [FW.out]; exact Er.nil, .inr ⟨FW.out, Wn, Hn, GD.out.2.1, GD.out.2.2, GD.out.1, us1, evs, FIN.out, AL.out.1, ?_, ?_⟩, KZ.out.below BE.out BE.out.size (by omega)⟩
      · have h := BS.out.1
        exact ⟨_, _, _, _, _, rfl, (OE.out.1.kp KZ.out (by omega)).mono (by omega), (OE.out.2.1.kp KZ.out (by omega)).mono (by omega), (OE.out.2.2.1.kp KZ.out (by omega)).mono (by omega), (UE.out.kp KZ.out (by omega)).mono (by omega), (OE.out.2.2.2.kp KZ.out (by omega)).mono (by omega)⟩
      · have h := BS.out.1
        have h' := B13.out
        exact (E4.out.1.kp9 KZ.out (by omega)).mono (by omega)
    · have hnl : n < X.us.length := by omega
      have hni : ((n : Nat) : Int) < (X.us.length : Nat) := by omega
      have hn1 : n < us1.length := by rw [AL.out.1]; exact hnl
      obtain ⟨u, hu⟩ : ∃ u, us1[n]? = some u := ⟨_, List.getElem?_eq_getElem hn1⟩
      obtain ⟨u0, hu0, huk, hid0, hfit, hgoal⟩ := AL.out.2 n u hu
      obtain ⟨k, f0⟩ := WR.out.fine hu0
      have hkk : ks[u.kind.toNat]? = some k := by rw [huk]; exact f0.kk
      have hsp := kind_nums WR.out.kinds (List.mem_of_getElem? hkk)
      have UH : Hid (us1[n]? = some u ∧ ks[u.kind.toNat]? = some k ∧ Fit ks (Wn * Hn) u ∧ (0 ≤ u.goal ∧ u.goal < (Wn * Hn : Nat)) ∧ (0 ≤ k.n4 ∧ k.n4 ≤ 4)) := ⟨hu, hkk, hfit, hgoal, hsp.2.2.1, hsp.2.2.2.1⟩
      have WN : IntKind.i64.wrap ((n : Nat) + 1 : Int) = ((n : Nat) : Int) + 1 := by rw [IntKind.wrap_i64]; omega
      have BE : Hid (Below w.heap.size w wr) := ab
      obtain ⟨x0, x1, x2, x3, x4, x5, x6, x7, x8⟩ := ax.cells
      have WK : Hid (Calls Tryd.prog 27 #[.slice pk ks.length qk, .agg #[.int .i64 X.turn, .int .i64 X.next, .int .i64 X.wide, .int .i64 X.high, Value.slice a1 X.gs.length r1, Value.slice a2 X.os.length r2, Value.slice a3 X.gold.length r3, Value.slice (some ⟨g, 0, none⟩) X.us.length r4, Value.slice a5 X.qs.length r5], .pointer (some ⟨g, n * 8, none⟩)] wr fun e w' => ∃ v us' cells, e = .returned v ∧ Ow w' wr.heap.size v cells ∧ Goes ks X Wn Hn k n us1 k.n4 cells us' ∧ Ub w' g us' rest ∧ Kp g wr w' ∧ cells.length ≤ 4 ∧ (∃ a, us' = us1.set n { u with at_ := a } ∧ 0 ≤ a ∧ a < (Wn * Hn : Nat))) := by
        have h := walk_any (.slice pk ks.length qk) ks X us1 (Value.slice a1 X.gs.length r1) (Value.slice a2 X.os.length r2) (Value.slice a3 X.gold.length r3) (Value.slice a5 X.qs.length r5) g r4 n rest u k Wn Hn wr (K.out.1.below BE.out) (S.out.below BE.out) GD.out.1 GD.out.2.1 GD.out.2.2 (fun V us' hl hk hu => by
          have h9 := ST.out V us' (by rw [hl, AL.out.1]) (P4.out.trans hk) hu
          rw [AL.out.1]
          exact ⟨h9.1, h9.2.1, h9.2.2.1⟩) U4.out UH.out.1 UH.out.2.1 (by rw [AL.out.1]; exact hul) AL.out.fits UH.out.2.2.2.1 UH.out.2.2.2.2
        rw [AL.out.1] at h
        exact h
      clear ax az ab ao1 ao2 ao3 ao5 hu hu0 huk hid0 hfit hgoal f0 hkk hsp
      go_wp2_with fail
      refine Calls.mono WK.out ?_
      rintro e v2 ⟨cv, us2, cells, rfl, hoc, hgo, hub2, hkp2, hc4, a, hus2, ha⟩
      obtain ⟨u2, hu2⟩ : ∃ v : UnV, { u with at_ := a } = v := ⟨_, rfl⟩
      have hi2 : us2[n]? = some u2 := by rw [hus2, hu2, List.getElem?_set_self hn1]
      have H2 : Hid (us2[n]? = some u2 ∧ us2.length = X.us.length ∧ Alike ks (Wn * Hn) X.us us2 ∧ u2.id = u.id ∧ u2.kind = u.kind ∧ Fit ks (Wn * Hn) u2 ∧ (0 ≤ u2.goal ∧ u2.goal < (Wn * Hn : Nat)) ∧ n < us2.length) := by
        have hf : Fit ks (Wn * Hn) u2 := by rw [← hu2]; exact ⟨UH.out.2.2.1.1, ha⟩
        have hg2 : 0 ≤ u2.goal ∧ u2.goal < (Wn * Hn : Nat) := by rw [← hu2]; exact UH.out.2.2.2.1
        have hal2 : Alike ks (Wn * Hn) X.us us2 := by rw [hus2, hu2]; exact AL.out.set UH.out.1 (by rw [← hu2]) (by rw [← hu2]) hf hg2
        exact ⟨hi2, hal2.1, hal2, by rw [← hu2], by rw [← hu2], hf, hg2, (List.getElem?_eq_some_iff.1 hi2).1⟩
      obtain ⟨ac, cc, rfl⟩ := hoc.len
      obtain ⟨bo, hbo⟩ : ∃ z, wr.heap.size = z := ⟨_, rfl⟩
      rw [hbo] at hoc
      have OC : Hid (Ow v2 bo (.slice ac cells.length cc) cells) := hoc
      have GO : Hid (Goes ks X Wn Hn k n us1 k.n4 cells us2 ∧ cells.length ≤ 4) := ⟨hgo, hc4⟩
      have U5 : Hid (Ub v2 g us2 rest) := hub2
      have P5 : Hid (Kp g w3 v2) := P4.out.trans hkp2
      have E5 : Hid (Evo v2 w3.heap.size ev evs) := E4.out.1.kp9 hkp2 GL.out
      have DE : Hid (∀ b, ev.ownBlock = some b → (Value.slice ac cells.length cc).ownBlock ≠ some b) := fun b h1 h2 => by
        have := (E4.out.1.block b h1).2
        have := (hoc.block b h2).1
        omega
      have EL : Hid (evs.length ≤ 4 * n) := E4.out.2
      have hcc : cells.length ≤ cc ∧ cc ≤ 9223372036854775807 := by
        obtain ⟨a9, c9, h9, h8, h7, -⟩ := hoc.ro
        injection h9 with _ _ h9
        subst h9
        exact ⟨h8, h7⟩
      obtain ⟨hcc1, hcc2⟩ := hcc
      clear hoc hgo hub2 hkp2 hus2 ha hu2 hi2 hbo x0 x1 x2 x3 x4 x5 x6 x7 x8 WK U4 P4 E4 BE
      generalize wr = wo at *
      go_upto_region 11 with fail
      go_loopw [8, 37] (fun v8 v37 V => ∃ (m : Nat) (ev' : Value), ev' = v8 ∧ v37 = .int .i64 (m : Nat) ∧ m ≤ cells.length ∧ Ub V g us2 rest ∧ Evo V w3.heap.size ev' (evs ++ (cells.take m).map (fun c => (⟨1, u.id, c⟩ : EvV))) ∧ Kp g w3 V ∧ Ow V bo (.slice ac cells.length cc) cells ∧ (∀ b, ev'.ownBlock = some b → (Value.slice ac cells.length cc).ownBlock ≠ some b)) (fun _ v37 _ => cells.length - (intOf v37).toNat)
      case atStart => exact ⟨0, _, rfl, rfl, Nat.zero_le _, U5.out, by simpa using E5.out, P5.out, OC.out, DE.out⟩
      case round =>
        obtain ⟨m, ev', rfl, rfl, hm, hub, hev, hkp, hoc, hde⟩ := hrel
        have U6 : Hid (Ub wr g us2 rest) := hub
        have E6 : Hid (Evo wr w3.heap.size ev' (evs ++ (cells.take m).map (fun c => (⟨1, u.id, c⟩ : EvV)))) := hev
        have P6 : Hid (Kp g w3 wr) := hkp
        have O6 : Hid (Ow wr bo (.slice ac cells.length cc) cells) := hoc
        have D6 : Hid (∀ b, ev'.ownBlock = some b → (Value.slice ac cells.length cc).ownBlock ≠ some b) := hde
        clear hub hev hkp hoc hde U5 E5 P5 OC DE
        obtain ⟨y0, y1, y2, y3, y4, y5, y6, y7⟩ := U6.out.unc H2.out.1
        by_cases h0 : m = cells.length
        · subst h0
          have hml : ¬ (((cells.length : Nat) : Int) < (cells.length : Nat)) := by omega
          rw [List.take_of_length_le (Nat.le_refl _)] at E6
          obtain ⟨evs2, hevs2⟩ : ∃ l, evs ++ cells.map (fun c => (⟨1, u.id, c⟩ : EvV)) = l := ⟨_, rfl⟩
          rw [hevs2] at E6
          have EL2 : Hid (evs2.length ≤ 4 * (n + 1)) := by
            unfold Hid
            rw [← hevs2, List.length_append, List.length_map]
            have := EL.out
            have := GO.out.2
            omega
          have MO2 : Hid (∀ evs' us', Moves ks X Wn Hn (n + 1) (us2.set n (ends u2)) evs' us' → Moves ks X Wn Hn 0 X.us (evs2 ++ evs') us') := fun evs' us' h => by
            have := MO.out (cells.map (fun c => (⟨1, u.id, c⟩ : EvV)) ++ evs') us' (.unit UH.out.1 UH.out.2.1 GO.out.1 H2.out.1 h)
            rw [← List.append_assoc, hevs2] at this
            exact this
          clear hevs2
          have SELF : Hid (us2.set n u2 = us2) := by
            unfold Hid
            obtain ⟨h2, h3⟩ := List.getElem?_eq_some_iff.1 H2.out.1
            rw [← h3, List.set_getElem_self]
          go_upto_region 15 with fail
          by_cases ht : u2.task = 1
          · have ht' : (u2.task == 1) = true := by rw [ht]; rfl
            have C5 : Hid (∀ V, Below wr.heap.size wr V → Unc V ⟨g, n * 8, none⟩ u2) := fun V hb => (U6.out.below hb U6.out.lt).unc H2.out.1
            clear y0 y1 y2 y3 y4 y5 y6 y7
            by_cases hg : u2.at_ = u2.goal
            · have hg' : (u2.at_ == u2.goal) = true := by rw [hg]; simp
              have EN : Hid (ends u2 = { u2 with task := 0, goal := 0 }) := by unfold Hid ends; rw [if_pos ⟨ht, hg⟩]
              clear ht hg
              refine wp_region_two [(true, 0), (true, 1), (true, 2), (true, 3), (true, 4), (true, 5), (true, 6), (true, 7), (true, 8), (true, 9), (true, 10), (true, 11), (true, 12), (true, 13), (true, 14)] [(false, 15)] (fun V => Unc V ⟨g, n * 8, none⟩ u2) (by kernel_rfl) (by kernel_rfl) (by kernel_rfl) (by decide +kernel) (by decide +kernel) (C5.out _ ((Below.refl _ _).drew)) ?_
              have D1 : Hid (Below wr.heap.size wr { wr with drawn := wr.drawn + 1 }) := (Below.refl _ _).drew
              generalize ({ wr with drawn := wr.drawn + 1 } : World) = v7 at *
              refine headT_read rfl (.pointer (some ⟨g, n * 8, none⟩)) (by go_simp) (fun V hV => by go_simp) ?_
              go_simp
              refine headT_read rfl (.pointer (some ⟨g, n * 8, none⟩)) (by go_simp) (fun V hV => by go_simp) ?_
              go_simp
              refine headT_read rfl (.pointer (some ⟨g, n * 8 + 6, none⟩)) (by go_simp) (fun V hV => by go_simp) ?_
              go_simp
              refine headT_read rfl (.int .i64 u2.task) (by go_simp) (fun V hV => by obtain ⟨y0, y1, y2, y3, y4, y5, y6, y7⟩ := hV; go_simp) ?_
              go_simp
              refine headT_read rfl (.bool true) (by go_simp) (fun V hV => by go_simp) ?_
              go_simp
              refine headT_read rfl (.bool true) (by go_simp) (fun V hV => by go_simp) ?_
              go_simp
              refine headT_read rfl (.pointer (some ⟨g, n * 8, none⟩)) (by go_simp) (fun V hV => by go_simp) ?_
              go_simp
              refine headT_read rfl (.pointer (some ⟨g, n * 8, none⟩)) (by go_simp) (fun V hV => by go_simp) ?_
              go_simp
              refine headT_read rfl (.pointer (some ⟨g, n * 8 + 3, none⟩)) (by go_simp) (fun V hV => by go_simp) ?_
              go_simp
              refine headT_read rfl (.int .i64 u2.at_) (by go_simp) (fun V hV => by obtain ⟨y0, y1, y2, y3, y4, y5, y6, y7⟩ := hV; go_simp) ?_
              go_simp
              refine headT_read rfl (.pointer (some ⟨g, n * 8, none⟩)) (by go_simp) (fun V hV => by go_simp) ?_
              go_simp
              refine headT_read rfl (.pointer (some ⟨g, n * 8, none⟩)) (by go_simp) (fun V hV => by go_simp) ?_
              go_simp
              refine headT_read rfl (.pointer (some ⟨g, n * 8 + 7, none⟩)) (by go_simp) (fun V hV => by go_simp) ?_
              go_simp
              refine headT_read rfl (.int .i64 u2.goal) (by go_simp) (fun V hV => by obtain ⟨y0, y1, y2, y3, y4, y5, y6, y7⟩ := hV; go_simp) ?_
              go_simp
              refine headT_read rfl (.bool true) (by go_simp) (fun V hV => by go_simp) ?_
              go_simp
              unfold wpHeadT
              refine sched_value rfl (.bool true) v7 (by go_simp) (by go_simp) trivial ?_
              go_simp
              unfold wpSched
              have U7 : Hid (Ub v7 g us2 rest) := U6.out.below D1.out U6.out.lt
              have c6 := (U7.out.unc H2.out.1).c6
              have t6 := U7.out.thaw (n * 8 + 6)
              have U8 : Hid (Ub (v7.setCell ⟨g, n * 8 + 6, none⟩ (.int .i64 0)) g (us2.set n { u2 with task := 0 }) rest) := U7.out.set6 H2.out.1 0
              have hs8 : (us2.set n { u2 with task := 0 })[n]? = some { u2 with task := 0 } := List.getElem?_set_self H2.out.2.2.2.2.2.2.2
              have c7 := (U8.out.unc hs8).c7
              have t7 := U8.out.thaw (n * 8 + 7)
              have U9 : Hid (Ub ((v7.setCell ⟨g, n * 8 + 6, none⟩ (.int .i64 0)).setCell ⟨g, n * 8 + 7, none⟩ (.int .i64 0)) g (us2.set n { u2 with task := 0, goal := 0 }) rest) := by
                have := U8.out.set7 hs8 0
                rw [List.set_set] at this
                exact this
              have K9 : Hid (Kp g v7 ((v7.setCell ⟨g, n * 8 + 6, none⟩ (.int .i64 0)).setCell ⟨g, n * 8 + 7, none⟩ (.int .i64 0))) := (Kp.set _ _ _).trans (Kp.set _ _ _)
              clear hs8
              go_upto_region 17 with fail
              clear c6 t6 c7 t7 U8 U7
              generalize ((v7.setCell ⟨g, n * 8 + 6, none⟩ (.int .i64 0)).setCell ⟨g, n * 8 + 7, none⟩ (.int .i64 0)) = v9 at *
              have P9 : Hid (Kp g w3 v9) := (P6.out.trans (Kp.of D1.out)).trans K9.out
              have E9 : Hid (Evo v9 w3.heap.size ev' evs2) := (E6.out.below D1.out).kp9 K9.out GL.out
              have AL9 : Hid (Alike ks (Wn * Hn) X.us (us2.set n { u2 with task := 0, goal := 0 })) := H2.out.2.2.1.set H2.out.1 rfl rfl ⟨H2.out.2.2.2.2.2.1.1, H2.out.2.2.2.2.2.1.2⟩ ⟨Int.le_refl _, by have := H2.out.2.2.2.2.2.2.1; show (0 : Int) < _; omega⟩
              rw [EN.out] at MO2
              clear ht' hg'
              go_wp2
              go_round
              case rel => exact ⟨n + 1, _, evs2, _, rfl, by go_num, by omega, AL9.out, U9.out, E9.out, EL2.out, P9.out, MO2.out⟩
              case measure => simp [intOf]; omega
            · have hg' : (u2.at_ == u2.goal) = false := by rw [beq_eq_false_iff_ne]; exact hg
              have EN : Hid (ends u2 = u2) := by unfold Hid ends; rw [if_neg (fun h => hg h.2)]
              clear ht hg
              refine wp_region_two [(true, 0), (true, 1), (true, 2), (true, 3), (true, 4), (true, 5), (true, 6), (true, 7), (true, 8), (true, 9), (true, 10), (true, 11), (true, 12), (true, 13), (true, 14)] [(false, 15)] (fun V => Unc V ⟨g, n * 8, none⟩ u2) (by kernel_rfl) (by kernel_rfl) (by kernel_rfl) (by decide +kernel) (by decide +kernel) (C5.out _ ((Below.refl _ _).drew)) ?_
              have D1 : Hid (Below wr.heap.size wr { wr with drawn := wr.drawn + 1 }) := (Below.refl _ _).drew
              generalize ({ wr with drawn := wr.drawn + 1 } : World) = v7 at *
              refine headT_read rfl (.pointer (some ⟨g, n * 8, none⟩)) (by go_simp) (fun V hV => by go_simp) ?_
              go_simp
              refine headT_read rfl (.pointer (some ⟨g, n * 8, none⟩)) (by go_simp) (fun V hV => by go_simp) ?_
              go_simp
              refine headT_read rfl (.pointer (some ⟨g, n * 8 + 6, none⟩)) (by go_simp) (fun V hV => by go_simp) ?_
              go_simp
              refine headT_read rfl (.int .i64 u2.task) (by go_simp) (fun V hV => by obtain ⟨y0, y1, y2, y3, y4, y5, y6, y7⟩ := hV; go_simp) ?_
              go_simp
              refine headT_read rfl (.bool true) (by go_simp) (fun V hV => by go_simp) ?_
              go_simp
              refine headT_read rfl (.bool true) (by go_simp) (fun V hV => by go_simp) ?_
              go_simp
              refine headT_read rfl (.pointer (some ⟨g, n * 8, none⟩)) (by go_simp) (fun V hV => by go_simp) ?_
              go_simp
              refine headT_read rfl (.pointer (some ⟨g, n * 8, none⟩)) (by go_simp) (fun V hV => by go_simp) ?_
              go_simp
              refine headT_read rfl (.pointer (some ⟨g, n * 8 + 3, none⟩)) (by go_simp) (fun V hV => by go_simp) ?_
              go_simp
              refine headT_read rfl (.int .i64 u2.at_) (by go_simp) (fun V hV => by obtain ⟨y0, y1, y2, y3, y4, y5, y6, y7⟩ := hV; go_simp) ?_
              go_simp
              refine headT_read rfl (.pointer (some ⟨g, n * 8, none⟩)) (by go_simp) (fun V hV => by go_simp) ?_
              go_simp
              refine headT_read rfl (.pointer (some ⟨g, n * 8, none⟩)) (by go_simp) (fun V hV => by go_simp) ?_
              go_simp
              refine headT_read rfl (.pointer (some ⟨g, n * 8 + 7, none⟩)) (by go_simp) (fun V hV => by go_simp) ?_
              go_simp
              refine headT_read rfl (.int .i64 u2.goal) (by go_simp) (fun V hV => by obtain ⟨y0, y1, y2, y3, y4, y5, y6, y7⟩ := hV; go_simp) ?_
              go_simp
              refine headT_read rfl (.bool false) (by go_simp) (fun V hV => by go_simp) ?_
              go_simp
              unfold wpHeadT
              refine sched_value rfl (.bool false) v7 (by go_simp) (by go_simp) trivial ?_
              go_simp
              unfold wpSched
              have U9 : Hid (Ub v7 g us2 rest) := U6.out.below D1.out U6.out.lt
              have P9 : Hid (Kp g w3 v7) := P6.out.trans (Kp.of D1.out)
              have E9 : Hid (Evo v7 w3.heap.size ev' evs2) := E6.out.below D1.out
              rw [EN.out, SELF.out] at MO2
              clear ht' hg'
              go_wp2
              go_round
              case rel => exact ⟨n + 1, us2, evs2, _, rfl, by go_num, by omega, H2.out.2.2.1, U9.out, E9.out, EL2.out, P9.out, MO2.out⟩
              case measure => simp [intOf]; omega
          · have ht' : (u2.task == 1) = false := by rw [beq_eq_false_iff_ne]; exact ht
            have EN : Hid (ends u2 = u2) := by unfold Hid ends; rw [if_neg (fun h => ht h.1)]
            rw [EN.out, SELF.out] at MO2
            clear ht
            go_quiet (fail)
            clear y0 y1 y2 y3 y4 y5 y6 y7
            go_wp2
            go_round
            case rel => exact ⟨n + 1, us2, evs2, _, rfl, by go_num, by omega, H2.out.2.2.1, U6.out.below (B := wr.heap.size) ⟨rfl, rfl, rfl, Nat.le_refl _, fun _ _ => rfl⟩ U6.out.lt, E6.out.below ⟨rfl, rfl, rfl, Nat.le_refl _, fun _ _ => rfl⟩, EL2.out, P6.out.trans (Kp.of ⟨rfl, rfl, rfl, Nat.le_refl _, fun _ _ => rfl⟩), MO2.out⟩
            case measure => simp [intOf]; omega
        · have hml : m < cells.length := by omega
          have hmi : ((m : Nat) : Int) < (cells.length : Nat) := by omega
          obtain ⟨x, hx⟩ : ∃ x, cells[m]? = some x := ⟨_, List.getElem?_eq_getElem hml⟩
          obtain ⟨a9, c9, h9, -, -, hcl⟩ := O6.out.ro
          obtain ⟨xc, hxc, -, hcc9⟩ := hcl (by intro h; rw [h] at hml; simp at hml)
          injection h9 with h91 h92 h93
          subst h91
          subst hxc
          have cx := hcc9 m x hx
          have WM : IntKind.i64.wrap ((m : Nat) + 1 : Int) = ((m : Nat) : Int) + 1 := by rw [IntKind.wrap_i64]; have := GO.out.2; omega
          obtain ⟨fs, hfs⟩ : ∃ l, evs ++ (cells.take m).map (fun c => (⟨1, u.id, c⟩ : EvV)) = l := ⟨_, rfl⟩
          have NX : Hid (evs ++ (cells.take (m + 1)).map (fun c => (⟨1, u.id, c⟩ : EvV)) = fs ++ [⟨1, u.id, x⟩]) := by
            unfold Hid
            obtain ⟨q1', q2'⟩ := List.getElem?_eq_some_iff.1 hx
            rw [List.take_succ_eq_append_getElem q1', q2', List.map_append, ← List.append_assoc, hfs]
            rfl
          have FSL : Hid (fs.length ≤ 1000) := by
            unfold Hid
            rw [← hfs, List.length_append, List.length_map, List.length_take]
            have := EL.out
            have := GO.out.2
            omega
          rw [hfs] at E6
          rw [H2.out.2.2.2.1] at y0
          clear hcl h92 h93 hcc9 hx hfs
          have BA : Hid (Below wr.heap.size wr (wr.alloc (Obj.cells #[.int .i64 1, .int .i64 u.id, .int .i64 x] 51))) := (Below.refl _ _).alloc (Nat.le_refl _) _
          have EC : Hid (Evc (wr.alloc (Obj.cells #[.int .i64 1, .int .i64 u.id, .int .i64 x] 51)) ⟨wr.heap.size, 0, none⟩ (⟨1, u.id, x⟩ : EvV)) := Evc.mk' (⟨1, u.id, x⟩ : EvV) rfl
          have E7 : Hid (Evo (wr.alloc (Obj.cells #[.int .i64 1, .int .i64 u.id, .int .i64 x] 51)) w3.heap.size ev' fs) := E6.out.below BA.out
          have SZ : Hid (w3.heap.size ≤ (wr.alloc (Obj.cells #[.int .i64 1, .int .i64 u.id, .int .i64 x] 51)).heap.size) := Nat.le_trans P6.out.size BA.out.size
          go_wp2_with (at_builtin; refine app_ev _ rfl _ _ rfl w3.heap.size _ fs rfl E7.out _ (⟨1, u.id, x⟩ : EvV) rfl EC.out (by have := FSL.out; omega) SZ.out ?_)
          intro gg gc v8 o8 g8 s8 _
          have E8 : Hid (Evo v8 w3.heap.size (.slice (some ⟨gg, 0, none⟩) (fs.length + 1) gc) (fs ++ [⟨1, u.id, x⟩])) := o8
          have P8 : Hid (Kp g w3 v8) := kp_gb (P6.out.trans (Kp.of BA.out)) g8 (fun b hb => (E7.out.block b hb).1)
          have U8 : Hid (Ub v8 g us2 rest) := by
            have h6 := U6.out.below BA.out U6.out.lt
            unfold Ub at h6
            unfold Hid Ub
            rw [g8.block g (lt_of_block h6) (fun e => by have := (E7.out.block g e.symm).1; have := GL.out; omega)]
            exact h6
          have O8 : Hid (Ow v8 bo (.slice (some xc) cells.length cc) cells) := own_gb (Ow.below O6.out BA.out) g8 (fun b h1 h2 => D6.out b h2 h1)
          have D8 : Hid (∀ b, (Value.slice (some ⟨gg, 0, none⟩) (fs.length + 1) gc).ownBlock = some b → (Value.slice (some xc) cells.length cc).ownBlock ≠ some b) := fun b h1 h2 => by
            have hgb : gg = b := by injection h1
            rcases s8 with s8 | s8
            · exact D6.out gg s8 (by rw [hgb]; exact h2)
            · have := (O6.out.block b h2).2
              have hw : gg = wr.heap.size + 1 := s8.trans (by simp)
              omega
          clear o8 g8 s8 BA EC E7 SZ y0 y1 y2 y3 y4 y5 y6 y7 cx
          go_wp2
          go_round
          case rel => exact ⟨m + 1, _, rfl, by go_num, by omega, U8.out, by rw [NX.out]; exact E8.out, P8.out, O8.out, D8.out⟩
          case measure => simp [intOf]; omega
end Go.Proofs.YtplnhgllbhdfjaaDoor

namespace Go.Proofs.YtplnhgllbhdfjaaDoor
open Wy
set_option linter.unusedVariables false

theorem far_self {nb : Nat → List Int} {st : Nat → Nat → Int} {t n : Nat} {l : List Int} (h : IsFar nb st t n l) (ht : t < n) : l.getD t 0 = 0 := by
  have hl : t < l.length := by rw [h.1]; exact ht
  have h1 := h.2 t _ (List.getElem?_eq_getElem hl)
  rw [List.getD_eq_getElem?_getD, List.getElem?_eq_getElem hl]
  show l[t] = 0
  rcases h1 with ⟨-, h1⟩ | ⟨h1, h2⟩
  · exact absurd Way.here (h1 0)
  · have := h2 0 Way.here
    have := h1.nonneg
    omega
/-- who rests wishes to be where it is. -/
theorem wish_rest {ks : List KV} {X : WV} {Wn Hn : Nat} {u : UnV} {k : KV} {c : Nat} (h : WishSays ks X Wn Hn u k c) (ht : u.task = 0) : u.at_ = (c : Nat) := by
  obtain ⟨an, bn, l, ha, haim, -, -, hh⟩ := h
  have hb : (bn : Int) = u.at_ := by
    rcases haim with ⟨-, h⟩ | ⟨h, -⟩ | ⟨h, -⟩
    · exact h
    · exact absurd ht h
    · rw [ht] at h; cases h
  rcases hh with ⟨-, rfl⟩ | ⟨-, h⟩
  · exact ha
  · rcases h with ⟨-, rfl⟩ | ⟨h, -⟩
    · exact ha
    · exact absurd (by omega) h
theorem goes_rest {ks : List KV} {X : WV} {Wn Hn : Nat} {k : KV} {i : Nat} {us us' : List UnV} {left : Int} {cells : List Int} {u : UnV} (hu : us[i]? = some u) (ht : u.task = 0) (h : Goes ks X Wn Hn k i us left cells us') : cells = [] ∧ us' = us := by
  cases h with
  | stop => exact ⟨rfl, rfl⟩
  | step hu' hw hg h1 h2 h3 =>
    rw [hu] at hu'
    injection hu' with hu'
    subst hu'
    have := List.any_eq_false.1 h2 u (List.mem_of_getElem? hu)
    rw [wish_rest hw ht] at this
    simp at this
theorem ends_rest {u : UnV} (ht : u.task = 0) : ends u = u := by
  unfold ends
  rw [if_neg]
  rintro ⟨h, -⟩
  rw [ht] at h; cases h
theorem moves_rest {ks : List KV} {X : WV} {Wn Hn : Nat} {n : Nat} {us us' : List UnV} {evs : List EvV} (h : Moves ks X Wn Hn n us evs us') : (∀ u ∈ us, u.task = 0) → evs = [] ∧ us' = us := by
  induction h with
  | done h => intro _; exact ⟨rfl, rfl⟩
  | unit hu hk hg h1 hm ih =>
    intro hr
    have htu := hr _ (List.mem_of_getElem? hu)
    obtain ⟨rfl, rfl⟩ := goes_rest hu htu hg
    rw [hu] at h1
    injection h1 with h1
    subst h1
    obtain ⟨hi, e⟩ := List.getElem?_eq_some_iff.1 hu
    rw [ends_rest htu, ← e, List.set_getElem_self] at ih
    obtain ⟨rfl, rfl⟩ := ih hr
    exact ⟨rfl, rfl⟩
/-- all rest. -/
def rst (u : UnV) : UnV := { u with task := 0, goal := 0 }
def restW (X : WV) : WV := { X with us := X.us.map rst }
def restN (us : List UnV) (n : Nat) : List UnV := (us.take n).map rst ++ us.drop n
theorem restN_zero (us : List UnV) : restN us 0 = us := by simp [restN]
theorem restN_all (us : List UnV) : restN us us.length = us.map rst := by simp [restN]
theorem restN_len (us : List UnV) (n : Nat) : (restN us n).length = us.length := by
  unfold restN
  rw [List.length_append, List.length_map, List.length_take, List.length_drop]
  omega
theorem restN_at {us : List UnV} {n : Nat} {u : UnV} (hu : us[n]? = some u) : (restN us n)[n]? = some u := by
  have hn : n < us.length := (List.getElem?_eq_some_iff.1 hu).1
  unfold restN
  have h1 : ((us.take n).map rst).length = n := by rw [List.length_map, List.length_take]; omega
  rw [List.getElem?_append_right (by omega), h1, Nat.sub_self, List.getElem?_drop, Nat.add_zero]
  exact hu
theorem restN_next {us : List UnV} {n : Nat} {u : UnV} (hu : us[n]? = some u) : (restN us n).set n (rst u) = restN us (n + 1) := by
  obtain ⟨hn, e1⟩ := List.getElem?_eq_some_iff.1 hu
  have h1 : ((us.take n).map rst).length = n := by rw [List.length_map, List.length_take]; omega
  unfold restN
  rw [List.set_append_right _ _ (by omega), h1, Nat.sub_self, List.drop_eq_getElem_cons hn, List.set_cons_zero, List.take_succ_eq_append_getElem hn, e1, List.map_append]
  simp
theorem rest_right {ks : List KV} {X : WV} (h : WRight ks X) : Wd.wfault ks (restW X) = 0 := by
  obtain ⟨Wm, Hm, e1, e2, G⟩ := h.good
  have hgp : 0 < X.gs.length := by rw [G.gl]; exact Nat.mul_pos G.w1 G.h1
  refine Wd.wfault_zero h.kinds (by show Fd.fault X.wide X.high X.gs X.os = 0; rw [e1, e2]; exact Fd.fault_good G) h.nums (by show (X.us.map rst).length ≤ 40; rw [List.length_map]; exact h.ul) ?_ h.ql ?_
  · intro i y hy
    have hy' : (X.us.map rst)[i]? = some y := hy
    rw [List.getElem?_map] at hy'
    cases hu : X.us[i]? with
    | none => rw [hu] at hy'; cases hy'
    | some u =>
      rw [hu] at hy'
      injection hy' with hy'
      subst hy'
      obtain ⟨k, f⟩ := h.fine hu
      refine ⟨k, f.id1, f.id2, ?_, f.p, f.k0, f.kk, f.life, f.load, ⟨Int.le_refl _, by show (0 : Int) ≤ 2; decide⟩, f.at_, ⟨Int.le_refl _, by show (0 : Int) < _; exact Int.ofNat_lt.2 hgp⟩, ?_, .inl rfl⟩
      · show Wd.notAbove (X.us.map rst) i (rst u) = false
        have hup := f.up
        cases i with
        | zero => rfl
        | succ i =>
          simp only [Wd.notAbove] at hup ⊢
          rw [List.getElem?_map]
          cases hx : X.us[i]? with
          | none => rfl
          | some x =>
            rw [hx] at hup
            exact hup
      · have ho := f.opn
        show Wd.open_ X.gs ((X.us.map rst).take i) u.at_ k.f = true
        unfold Wd.open_ at ho ⊢
        rw [← List.map_take, List.any_map]
        exact ho
  · intro j hj
    have hx := h.job hj
    unfold Wd.jobFault at hx ⊢
    show (match (X.us.map rst).find? (fun u => u.id == j.unit) with | none => (6 : Int) | some u => _) = 0
    rw [List.find?_map]
    have hc : ((fun u : UnV => u.id == j.unit) ∘ rst) = (fun u : UnV => u.id == j.unit) := rfl
    rw [hc]
    cases hf : X.us.find? (fun u => u.id == j.unit) with
    | none => rw [hf] at hx; cases hx
    | some u => rw [hf] at hx; exact hx
/-- one that marches wishes to its Goal no further than it is. -/
theorem wish_march {ks : List KV} {X : WV} {Wn Hn : Nat} {u : UnV} {k : KV} {c an gn : Nat} {lf : List Int} (h : WishSays ks X Wn Hn u k c) (ht : u.task = 1) (ha : u.at_ = (an : Nat)) (hg : u.goal = (gn : Nat)) (han : an < Wn * Hn) (hgn : gn < Wn * Hn)
    (hl : IsFar (Fd.near Wn Hn) (fun _ j => (X.gs.map fun g => Fd.onto g k.f).getD j 0) gn (Wn * Hn) lf) : (lf.getD an 0 < 0 → c = an) ∧ (0 < lf.getD an 0 → lf.getD c 0 < lf.getD an 0) := by
  obtain ⟨an', bn, l, ha', haim, -, hl', hh⟩ := h
  have hb : (bn : Int) = u.goal := by
    rcases haim with ⟨h, -⟩ | ⟨-, -, h⟩ | ⟨h, -⟩
    · rw [ht] at h; cases h
    · exact h
    · rw [ht] at h; cases h
  obtain rfl : bn = gn := by omega
  obtain rfl : an' = an := by omega
  obtain rfl := IsFar.uniq hl'.1 hl
  rcases hh with ⟨h1, rfl⟩ | ⟨h1, h⟩
  · exact ⟨fun _ => rfl, fun h2 => by omega⟩
  · refine ⟨fun h2 => by omega, fun h2 => ?_⟩
    rcases h with ⟨rfl, -⟩ | ⟨-, h⟩
    · rw [far_self hl hgn] at h2; omega
    · have := h.is
      omega
end Go.Proofs.YtplnhgllbhdfjaaDoor

namespace Go.Proofs.YtplnhgllbhdfjaaDoor
open Go.RowKit
set_option linter.unusedVariables false

namespace Wd
def bare (wd hg : Int) (gs os : List Int) : WV := ⟨0, 1, wd, hg, gs, os, [], [], []⟩
/-- what is told where a world is to begin. -/
def newFault (ks : List KV) (wd hg : Int) (gs os : List Int) (pls gold : Int) : Int := if ground ks (bare wd hg gs os) = 0 then (if (1 ≤ pls ∧ pls ≤ 4) ∧ 0 ≤ gold ∧ gold ≤ 1000000 then 0 else 1) else ground ks (bare wd hg gs os)
/-- the world that begins. -/
def begun (ks : List KV) (wd hg : Int) (gs os : List Int) (pls gold : Int) : WV := if newFault ks wd hg gs os pls gold = 0 then ⟨0, 1, wd, hg, gs, os, List.replicate pls.toNat gold, [], []⟩ else WV.zero
end Wd
theorem begun_bad {ks : List KV} {wd hg : Int} {gs os : List Int} {pls gold : Int} (h : Wd.newFault ks wd hg gs os pls gold ≠ 0) : Wd.begun ks wd hg gs os pls gold = WV.zero := by unfold Wd.begun; rw [if_neg h]
theorem begun_ok {ks : List KV} {wd hg : Int} {gs os : List Int} {pls gold : Int} (h : Wd.newFault ks wd hg gs os pls gold = 0) : Wd.begun ks wd hg gs os pls gold = ⟨0, 1, wd, hg, gs, os, List.replicate pls.toNat gold, [], []⟩ := by unfold Wd.begun; rw [if_pos h]
/-- a field in a box. -/
structure Bx (w : World) (z : Nat) (wd hg : Int) (u1 u2 : Value) : Prop where
  c0 : w.cell? ⟨z, 0, none⟩ = some (.int .i64 wd)
  c1 : w.cell? ⟨z, 1, none⟩ = some (.int .i64 hg)
  c2 : w.cell? ⟨z, 2, none⟩ = some u1
  c3 : w.cell? ⟨z, 3, none⟩ = some u2
theorem Bx.lt {w : World} {z : Nat} {wd hg : Int} {u1 u2 : Value} (h : Bx w z wd hg u1 u2) : z < w.heap.size := cell_lt h.c0
theorem Bx.below {w w' : World} {z n : Nat} {wd hg : Int} {u1 u2 : Value} (h : Bx w z wd hg u1 u2) (hb : Below n w w') (hn : z < n) : Bx w' z wd hg u1 u2 :=
  ⟨by rw [hb.cell (p := ⟨z, 0, none⟩) hn]; exact h.c0, by rw [hb.cell (p := ⟨z, 1, none⟩) hn]; exact h.c1, by rw [hb.cell (p := ⟨z, 2, none⟩) hn]; exact h.c2, by rw [hb.cell (p := ⟨z, 3, none⟩) hn]; exact h.c3⟩
theorem Bx.mk' {w : World} {z : Nat} (wd hg : Int) (u1 u2 : Value) (hz : w.heap.size = z) : Bx (w.alloc (.cells #[.int .i64 wd, .int .i64 hg, u1, u2] 25)) z wd hg u1 u2 := by
  subst hz
  constructor <;> simp
set_option maxRecDepth 100000 in
set_option maxHeartbeats 8000000 in
theorem new_any (vk vf : Value) (ks : List KV) (wd hg : Int) (gs os : List Int) (pls gold : Int) (w : World) (hk : Kl w vk ks) (hb : ∀ k ∈ ks, k.b.size ≤ 9223372036854775807) (hf : Fl w vf wd hg gs os) :
    Calls Tryd.prog 20 #[vk, vf, .int .i64 pls, .int .i64 gold] w fun e w' => ∃ u r, e = .returned (.tuple #[u, r]) ∧ Er r (Wd.newFault ks wd hg gs os pls gold) ∧ Wo w' w.heap.size u (Wd.begun ks wd hg gs os pls gold) ∧ Below w.heap.size w w' := by
  have K : Hid (Kl w vk ks ∧ ∀ k ∈ ks, k.b.size ≤ 9223372036854775807) := ⟨hk, hb⟩
  have F : Hid (Fl w vf wd hg gs os) := hf
  obtain ⟨u1, u2, rfl, r1, r2⟩ := hf
  obtain ⟨p1, q1, rfl, -⟩ := r1
  obtain ⟨p2, q2, rfl, -⟩ := r2
  clear hb hk
  go_enter Tryd.func20, Tryd.ntmps20
  go_upto_region 1 with fail
  have B0 : Hid (Below w.heap.size w ((w.alloc (.cells #[.int .i64 wd, .int .i64 hg, .slice p1 gs.length q1, .slice p2 os.length q2] 25)).alloc (.cells #[.int .i64 0, .int .i64 0, .int .i64 0, .int .i64 0, .slice none 0 0, .slice none 0 0, .slice none 0 0, .slice none 0 0, .slice none 0 0] 29))) := ((Below.refl _ _).alloc (Nat.le_refl _) _).alloc (by simp) _
  have X0 : Hid (Bx ((w.alloc (.cells #[.int .i64 wd, .int .i64 hg, .slice p1 gs.length q1, .slice p2 os.length q2] 25)).alloc (.cells #[.int .i64 0, .int .i64 0, .int .i64 0, .int .i64 0, .slice none 0 0, .slice none 0 0, .slice none 0 0, .slice none 0 0, .slice none 0 0] 29)) w.heap.size wd hg (.slice p1 gs.length q1) (.slice p2 os.length q2)) := (Bx.mk' (w := w) _ _ _ _ rfl).below ((Below.refl _ _).alloc (Nat.le_refl _) _) (by simp)
  have Z0 : Hid (Wx ((w.alloc (.cells #[.int .i64 wd, .int .i64 hg, .slice p1 gs.length q1, .slice p2 os.length q2] 25)).alloc (.cells #[.int .i64 0, .int .i64 0, .int .i64 0, .int .i64 0, .slice none 0 0, .slice none 0 0, .slice none 0 0, .slice none 0 0, .slice none 0 0] 29)) (w.heap.size + 1) (.int .i64 0) (.int .i64 0) (.int .i64 0) (.int .i64 0) (.slice none 0 0) (.slice none 0 0) (.slice none 0 0) (.slice none 0 0) (.slice none 0 0)) := Wx.new _ _ _ _ _ _ _ _ _ (by simp)
  have S0 : Hid (w.heap.size + 2 ≤ ((w.alloc (.cells #[.int .i64 wd, .int .i64 hg, .slice p1 gs.length q1, .slice p2 os.length q2] 25)).alloc (.cells #[.int .i64 0, .int .i64 0, .int .i64 0, .int .i64 0, .slice none 0 0, .slice none 0 0, .slice none 0 0, .slice none 0 0, .slice none 0 0] 29)).heap.size) := by unfold Hid; simp
  generalize ((w.alloc (.cells #[.int .i64 wd, .int .i64 hg, .slice p1 gs.length q1, .slice p2 os.length q2] 25)).alloc (.cells #[.int .i64 0, .int .i64 0, .int .i64 0, .int .i64 0, .slice none 0 0, .slice none 0 0, .slice none 0 0, .slice none 0 0, .slice none 0 0] 29)) = w0 at *
  obtain ⟨x0, x1, x2, x3⟩ := X0.out
  go_wp2_with fail
  refine (ground_any _ _ ks (Wd.bare wd hg gs os) w0 (K.out.1.below B0.out) K.out.2 (F.out.below B0.out)).mono ?_
  rintro e w1 ⟨r, rfl, hr, hb1⟩
  clear x0 x1 x2 x3
  have B1 : Hid (Below w.heap.size w w1) := B0.out.trans (hb1.mono B0.out.size)
  have X1 : Hid (Bx w1 w.heap.size wd hg (.slice p1 gs.length q1) (.slice p2 os.length q2)) := X0.out.below hb1 X0.out.lt
  have Z1 : Hid (Wx w1 (w.heap.size + 1) (.int .i64 0) (.int .i64 0) (.int .i64 0) (.int .i64 0) (.slice none 0 0) (.slice none 0 0) (.slice none 0 0) (.slice none 0 0) (.slice none 0 0)) := Z0.out.below hb1 Z0.out.lt
  have S1 : Hid (w.heap.size + 2 ≤ w1.heap.size) := Nat.le_trans S0.out hb1.size
  clear hb1 B0 X0 Z0 S0
  rcases hr with ⟨hf, rfl⟩ | ⟨hf, rfl⟩
  case inr =>
    obtain ⟨fe, hfe⟩ : ∃ f, Wd.ground ks (Wd.bare wd hg gs os) = f := ⟨_, rfl⟩
    have HFE : Hid (fe ≠ 0) := by rw [← hfe]; exact hf
    have FE : Hid (Wd.newFault ks wd hg gs os pls gold = fe) := by unfold Hid Wd.newFault; rw [if_neg hf]; exact hfe
    rw [hfe]
    clear hf hfe
    obtain ⟨z0, z1, z2, z3, z4, z5, z6, z7, z8⟩ := Z1.out.cells
    obtain ⟨t0, t1, t2, t3, t4, t5, t6, t7, t8⟩ := Z1.out.thaws
    have KZ : Hid (Kp (w.heap.size + 1) w1 (((((((((w1.setCell ⟨w.heap.size + 1, 0, none⟩ (.int .i64 0)).setCell ⟨w.heap.size + 1, 1, none⟩ (.int .i64 0)).setCell ⟨w.heap.size + 1, 2, none⟩ (.int .i64 0)).setCell ⟨w.heap.size + 1, 3, none⟩ (.int .i64 0)).setCell ⟨w.heap.size + 1, 4, none⟩ (.slice none 0 0)).setCell ⟨w.heap.size + 1, 5, none⟩ (.slice none 0 0)).setCell ⟨w.heap.size + 1, 6, none⟩ (.slice none 0 0)).setCell ⟨w.heap.size + 1, 7, none⟩ (.slice none 0 0)).setCell ⟨w.heap.size + 1, 8, none⟩ (.slice none 0 0))) := put_kp _ _ _ _ _ _ _ _ _ _ _
    obtain ⟨y0, y1, y2, y3, y4, y5, y6, y7, y8⟩ := (Z1.out.put (.int .i64 0) (.int .i64 0) (.int .i64 0) (.int .i64 0) (.slice none 0 0) (.slice none 0 0) (.slice none 0 0) (.slice none 0 0) (.slice none 0 0)).cells
    go_wp2
    clear z0 z1 z2 z3 z4 z5 z6 z7 z8 t0 t1 t2 t3 t4 t5 t6 t7 t8
    generalize (((((((((w1.setCell ⟨w.heap.size + 1, 0, none⟩ (.int .i64 0)).setCell ⟨w.heap.size + 1, 1, none⟩ (.int .i64 0)).setCell ⟨w.heap.size + 1, 2, none⟩ (.int .i64 0)).setCell ⟨w.heap.size + 1, 3, none⟩ (.int .i64 0)).setCell ⟨w.heap.size + 1, 4, none⟩ (.slice none 0 0)).setCell ⟨w.heap.size + 1, 5, none⟩ (.slice none 0 0)).setCell ⟨w.heap.size + 1, 6, none⟩ (.slice none 0 0)).setCell ⟨w.heap.size + 1, 7, none⟩ (.slice none 0 0)).setCell ⟨w.heap.size + 1, 8, none⟩ (.slice none 0 0)) = w9 at *
    refine bodyPost_ret (v := .tuple #[.agg #[.int .i64 0, .int .i64 0, .int .i64 0, .int .i64 0, .slice none 0 0, .slice none 0 0, .slice none 0 0, .slice none 0 0, .slice none 0 0], .iface 62 (.int .i64 fe)]) (by simp [results, Tryd.results20, go_sem, y0, y1, y2, y3, y4, y5, y6, y7, y8]) rfl ⟨_, _, rfl, by rw [FE.out]; exact Er.no HFE.out, by rw [begun_bad (by rw [FE.out]; exact HFE.out)]; exact zero_wo _ _, KZ.out.below B1.out B1.out.size (by omega)⟩
  have HF : Hid (Wd.ground ks (Wd.bare wd hg gs os) = 0) := hf
  have NF : Hid (Wd.newFault ks wd hg gs os pls gold = if (1 ≤ pls ∧ pls ≤ 4) ∧ 0 ≤ gold ∧ gold ≤ 1000000 then 0 else 1) := by unfold Hid Wd.newFault; rw [if_pos hf]
  have GL : Hid (gs.length ≤ 144 ∧ os.length ≤ 144) := by
    unfold Wd.ground at hf
    split at hf
    · obtain ⟨Wn, Hn, -, -, G⟩ := Fd.fault_zero hf
      have h1 := G.pos
      have h2 := G.gl
      have h3 := G.ol
      unfold Wd.bare at h2 h3
      exact ⟨by simp only at h2; omega, by simp only at h3; omega⟩
    · rename_i h0
      exact absurd hf h0
  clear hf
  by_cases hp : 1 ≤ pls ∧ pls ≤ 4
  case neg =>
    have t : decide (1 ≤ pls ∧ pls ≤ 4) = false := decide_eq_false hp
    have HFE : Hid ((1 : Int) ≠ 0) := by unfold Hid; decide
    have FE : Hid (Wd.newFault ks wd hg gs os pls gold = 1) := by unfold Hid; rw [NF.out, if_neg (fun h => hp h.1)]
    clear hp
    go_wp2_with fail
    refine (wwithin_any pls 1 4 w1).mono ?_
    rintro e w2 ⟨rfl, hww⟩
    obtain rfl := hww.symm
    rw [t]
    clear t
    obtain ⟨z0, z1, z2, z3, z4, z5, z6, z7, z8⟩ := Z1.out.cells
    obtain ⟨t0, t1, t2, t3, t4, t5, t6, t7, t8⟩ := Z1.out.thaws
    have KZ : Hid (Kp (w.heap.size + 1) w1 (((((((((w1.setCell ⟨w.heap.size + 1, 0, none⟩ (.int .i64 0)).setCell ⟨w.heap.size + 1, 1, none⟩ (.int .i64 0)).setCell ⟨w.heap.size + 1, 2, none⟩ (.int .i64 0)).setCell ⟨w.heap.size + 1, 3, none⟩ (.int .i64 0)).setCell ⟨w.heap.size + 1, 4, none⟩ (.slice none 0 0)).setCell ⟨w.heap.size + 1, 5, none⟩ (.slice none 0 0)).setCell ⟨w.heap.size + 1, 6, none⟩ (.slice none 0 0)).setCell ⟨w.heap.size + 1, 7, none⟩ (.slice none 0 0)).setCell ⟨w.heap.size + 1, 8, none⟩ (.slice none 0 0))) := put_kp _ _ _ _ _ _ _ _ _ _ _
    obtain ⟨y0, y1, y2, y3, y4, y5, y6, y7, y8⟩ := (Z1.out.put (.int .i64 0) (.int .i64 0) (.int .i64 0) (.int .i64 0) (.slice none 0 0) (.slice none 0 0) (.slice none 0 0) (.slice none 0 0) (.slice none 0 0)).cells
    go_wp2
    clear z0 z1 z2 z3 z4 z5 z6 z7 z8 t0 t1 t2 t3 t4 t5 t6 t7 t8
    generalize (((((((((w1.setCell ⟨w.heap.size + 1, 0, none⟩ (.int .i64 0)).setCell ⟨w.heap.size + 1, 1, none⟩ (.int .i64 0)).setCell ⟨w.heap.size + 1, 2, none⟩ (.int .i64 0)).setCell ⟨w.heap.size + 1, 3, none⟩ (.int .i64 0)).setCell ⟨w.heap.size + 1, 4, none⟩ (.slice none 0 0)).setCell ⟨w.heap.size + 1, 5, none⟩ (.slice none 0 0)).setCell ⟨w.heap.size + 1, 6, none⟩ (.slice none 0 0)).setCell ⟨w.heap.size + 1, 7, none⟩ (.slice none 0 0)).setCell ⟨w.heap.size + 1, 8, none⟩ (.slice none 0 0)) = w9 at *
    refine bodyPost_ret (v := .tuple #[.agg #[.int .i64 0, .int .i64 0, .int .i64 0, .int .i64 0, .slice none 0 0, .slice none 0 0, .slice none 0 0, .slice none 0 0, .slice none 0 0], .iface 62 (.int .i64 1)]) (by simp [results, Tryd.results20, go_sem, y0, y1, y2, y3, y4, y5, y6, y7, y8]) rfl ⟨_, _, rfl, by rw [FE.out]; exact Er.no HFE.out, by rw [begun_bad (by rw [FE.out]; exact HFE.out)]; exact zero_wo _ _, KZ.out.below B1.out B1.out.size (by omega)⟩
  have t : decide (1 ≤ pls ∧ pls ≤ 4) = true := decide_eq_true hp
  go_wp2_with fail
  refine (wwithin_any pls 1 4 w1).mono ?_
  rintro e w2 ⟨rfl, hww⟩
  obtain rfl := hww.symm
  rw [t]
  clear t
  by_cases hgd : 0 ≤ gold ∧ gold ≤ 1000000
  case neg =>
    have t : decide (0 ≤ gold ∧ gold ≤ 1000000) = false := decide_eq_false hgd
    have HFE : Hid ((1 : Int) ≠ 0) := by unfold Hid; decide
    have FE : Hid (Wd.newFault ks wd hg gs os pls gold = 1) := by unfold Hid; rw [NF.out, if_neg (fun h => hgd h.2)]
    clear hgd hp
    go_wp2_with fail
    refine (wwithin_any gold 0 1000000 w1).mono ?_
    rintro e w2 ⟨rfl, hww⟩
    obtain rfl := hww.symm
    rw [t]
    clear t
    obtain ⟨z0, z1, z2, z3, z4, z5, z6, z7, z8⟩ := Z1.out.cells
    obtain ⟨t0, t1, t2, t3, t4, t5, t6, t7, t8⟩ := Z1.out.thaws
    have KZ : Hid (Kp (w.heap.size + 1) w1 (((((((((w1.setCell ⟨w.heap.size + 1, 0, none⟩ (.int .i64 0)).setCell ⟨w.heap.size + 1, 1, none⟩ (.int .i64 0)).setCell ⟨w.heap.size + 1, 2, none⟩ (.int .i64 0)).setCell ⟨w.heap.size + 1, 3, none⟩ (.int .i64 0)).setCell ⟨w.heap.size + 1, 4, none⟩ (.slice none 0 0)).setCell ⟨w.heap.size + 1, 5, none⟩ (.slice none 0 0)).setCell ⟨w.heap.size + 1, 6, none⟩ (.slice none 0 0)).setCell ⟨w.heap.size + 1, 7, none⟩ (.slice none 0 0)).setCell ⟨w.heap.size + 1, 8, none⟩ (.slice none 0 0))) := put_kp _ _ _ _ _ _ _ _ _ _ _
    obtain ⟨y0, y1, y2, y3, y4, y5, y6, y7, y8⟩ := (Z1.out.put (.int .i64 0) (.int .i64 0) (.int .i64 0) (.int .i64 0) (.slice none 0 0) (.slice none 0 0) (.slice none 0 0) (.slice none 0 0) (.slice none 0 0)).cells
    go_wp2
    clear z0 z1 z2 z3 z4 z5 z6 z7 z8 t0 t1 t2 t3 t4 t5 t6 t7 t8
    generalize (((((((((w1.setCell ⟨w.heap.size + 1, 0, none⟩ (.int .i64 0)).setCell ⟨w.heap.size + 1, 1, none⟩ (.int .i64 0)).setCell ⟨w.heap.size + 1, 2, none⟩ (.int .i64 0)).setCell ⟨w.heap.size + 1, 3, none⟩ (.int .i64 0)).setCell ⟨w.heap.size + 1, 4, none⟩ (.slice none 0 0)).setCell ⟨w.heap.size + 1, 5, none⟩ (.slice none 0 0)).setCell ⟨w.heap.size + 1, 6, none⟩ (.slice none 0 0)).setCell ⟨w.heap.size + 1, 7, none⟩ (.slice none 0 0)).setCell ⟨w.heap.size + 1, 8, none⟩ (.slice none 0 0)) = w9 at *
    refine bodyPost_ret (v := .tuple #[.agg #[.int .i64 0, .int .i64 0, .int .i64 0, .int .i64 0, .slice none 0 0, .slice none 0 0, .slice none 0 0, .slice none 0 0, .slice none 0 0], .iface 62 (.int .i64 1)]) (by simp [results, Tryd.results20, go_sem, y0, y1, y2, y3, y4, y5, y6, y7, y8]) rfl ⟨_, _, rfl, by rw [FE.out]; exact Er.no HFE.out, by rw [begun_bad (by rw [FE.out]; exact HFE.out)]; exact zero_wo _ _, KZ.out.below B1.out B1.out.size (by omega)⟩
  have t : decide (0 ≤ gold ∧ gold ≤ 1000000) = true := decide_eq_true hgd
  have F0 : Hid (Wd.newFault ks wd hg gs os pls gold = 0) := by unfold Hid; rw [NF.out, if_pos ⟨hp, hgd⟩]
  go_wp2_with fail
  refine (wwithin_any gold 0 1000000 w1).mono ?_
  rintro e w2 ⟨rfl, hww⟩
  obtain rfl := hww.symm
  rw [t]
  clear t
  obtain ⟨n, rfl⟩ : ∃ n : Nat, pls = n := ⟨pls.toNat, by omega⟩
  have hn : 0 < n ∧ n ≤ 4 := by omega
  have HN : Hid (0 < n ∧ n ≤ 4) := hn
  clear hp hgd hn
  go_wp2_with fail
  have BA : Hid (Below w1.heap.size w1 (w1.alloc (Obj.cells #[.int .i64 gold] 3))) := (Below.refl _ _).alloc (Nat.le_refl _) _
  have RA : Hid (Ro (w1.alloc (Obj.cells #[.int .i64 gold] 3)) (.slice (some ⟨w1.heap.size, 0, none⟩) 1 1) [gold]) := Ro.lit1 gold rfl
  generalize (w1.alloc (Obj.cells #[.int .i64 gold] 3)) = wa at *
  refine (repeat_ok gold _ n wa RA.out (HN.out.1) (by have := HN.out.2; omega)).mono ?_
  rintro e w2 ⟨b, rfl, -, hbk, hb2⟩
  have BW : Hid (Below w1.heap.size w1 w2) := BA.out.trans (hb2.mono BA.out.size)
  have B2 : Hid (Below w.heap.size w w2) := B1.out.trans (BW.out.mono B1.out.size)
  have X2 : Hid (Bx w2 w.heap.size wd hg (.slice p1 gs.length q1) (.slice p2 os.length q2)) := X1.out.below BW.out X1.out.lt
  have Z2 : Hid (Wx w2 (w.heap.size + 1) (.int .i64 0) (.int .i64 0) (.int .i64 0) (.int .i64 0) (.slice none 0 0) (.slice none 0 0) (.slice none 0 0) (.slice none 0 0) (.slice none 0 0)) := Z1.out.below BW.out Z1.out.lt
  have S2 : Hid (w.heap.size + 2 ≤ w2.heap.size) := Nat.le_trans S1.out BW.out.size
  have G2 : Hid (Ro w2 (.slice (some ⟨b, 0, none⟩) n n) (List.replicate n gold)) := by
    unfold Hid
    have := hbk.ro (c := n) (by simp) (by have := HN.out.2; omega)
    simpa using this
  clear hb2 hbk B1 X1 Z1 S1 BA RA BW
  obtain ⟨x0, x1, x2, x3⟩ := X2.out
  go_wp2_with fail
  have F2 := F.out.below B2.out
  obtain ⟨v1, v2, he, f1, f2⟩ := F2
  injection he with he
  simp only [Array.mk.injEq, List.cons.injEq, and_true, true_and] at he
  obtain ⟨rfl, rfl⟩ := he
  refine (copy_any _ ⟨0, 1, wd, hg, gs, os, List.replicate n gold, [], []⟩ w2 ⟨_, _, _, _, _, rfl, f1, f2, G2.out, ⟨none, 0, rfl, Nat.le_refl _, by omega, fun h => absurd rfl h⟩, ⟨none, 0, rfl, Nat.le_refl _, by omega, fun h => absurd rfl h⟩⟩ ⟨by have := GL.out.1; simp only; omega, by have := GL.out.2; simp only; omega, by have := HN.out.2; simp only [List.length_replicate]; omega, by simp, by simp⟩).mono ?_
  rintro e w3 ⟨u, rfl, ho, hb3⟩
  clear f1 f2 x0 x1 x2 x3
  have B3 : Hid (Below w.heap.size w w3) := B2.out.trans (hb3.mono B2.out.size)
  have Z3 : Hid (Wx w3 (w.heap.size + 1) (.int .i64 0) (.int .i64 0) (.int .i64 0) (.int .i64 0) (.slice none 0 0) (.slice none 0 0) (.slice none 0 0) (.slice none 0 0) (.slice none 0 0)) := Z2.out.below hb3 Z2.out.lt
  obtain ⟨v1, v2, v3, v4, v5, rfl, o1, o2, o3, o4, o5⟩ := ho.wo.mono S2.out
  have O3 : Hid (Ow w3 (w.heap.size + 2) v1 gs ∧ Ow w3 (w.heap.size + 2) v2 os ∧ Ow w3 (w.heap.size + 2) v3 (List.replicate n gold) ∧ Uno w3 (w.heap.size + 2) v4 [] ∧ Jbo w3 (w.heap.size + 2) v5 []) := ⟨o1, o2, o3, o4, o5⟩
  obtain ⟨a1, b1, rfl⟩ := o1.len
  obtain ⟨a2, b2, rfl⟩ := o2.len
  obtain ⟨a3, b3, rfl⟩ := o3.len
  obtain ⟨a4, b4, rfl⟩ := o4.len
  obtain ⟨a5, b5, rfl⟩ := o5.len
  simp only [List.length_replicate, List.length_nil] at O3 ⊢
  clear ho hb3 o1 o2 o3 o4 o5 B2 X2 Z2 S2 G2
  obtain ⟨z0, z1, z2, z3, z4, z5, z6, z7, z8⟩ := Z3.out.cells
  obtain ⟨t0, t1, t2, t3, t4, t5, t6, t7, t8⟩ := Z3.out.thaws
  have KZ : Hid (Kp (w.heap.size + 1) w3 (((((((((w3.setCell ⟨w.heap.size + 1, 0, none⟩ (.int .i64 0)).setCell ⟨w.heap.size + 1, 1, none⟩ (.int .i64 1)).setCell ⟨w.heap.size + 1, 2, none⟩ (.int .i64 wd)).setCell ⟨w.heap.size + 1, 3, none⟩ (.int .i64 hg)).setCell ⟨w.heap.size + 1, 4, none⟩ (.slice a1 gs.length b1)).setCell ⟨w.heap.size + 1, 5, none⟩ (.slice a2 os.length b2)).setCell ⟨w.heap.size + 1, 6, none⟩ (.slice a3 n b3)).setCell ⟨w.heap.size + 1, 7, none⟩ (.slice a4 0 b4)).setCell ⟨w.heap.size + 1, 8, none⟩ (.slice a5 0 b5))) := put_kp _ _ _ _ _ _ _ _ _ _ _
  obtain ⟨y0, y1, y2, y3, y4, y5, y6, y7, y8⟩ := (Z3.out.put (.int .i64 0) (.int .i64 1) (.int .i64 wd) (.int .i64 hg) (.slice a1 gs.length b1) (.slice a2 os.length b2) (.slice a3 n b3) (.slice a4 0 b4) (.slice a5 0 b5)).cells
  go_wp2
  clear z0 z1 z2 z3 z4 z5 z6 z7 z8 t0 t1 t2 t3 t4 t5 t6 t7 t8
  generalize (((((((((w3.setCell ⟨w.heap.size + 1, 0, none⟩ (.int .i64 0)).setCell ⟨w.heap.size + 1, 1, none⟩ (.int .i64 1)).setCell ⟨w.heap.size + 1, 2, none⟩ (.int .i64 wd)).setCell ⟨w.heap.size + 1, 3, none⟩ (.int .i64 hg)).setCell ⟨w.heap.size + 1, 4, none⟩ (.slice a1 gs.length b1)).setCell ⟨w.heap.size + 1, 5, none⟩ (.slice a2 os.length b2)).setCell ⟨w.heap.size + 1, 6, none⟩ (.slice a3 n b3)).setCell ⟨w.heap.size + 1, 7, none⟩ (.slice a4 0 b4)).setCell ⟨w.heap.size + 1, 8, none⟩ (.slice a5 0 b5)) = w9 at *
  refine bodyPost_ret (v := .tuple #[.agg #[.int .i64 0, .int .i64 1, .int .i64 wd, .int .i64 hg, .slice a1 gs.length b1, .slice a2 os.length b2, .slice a3 n b3, .slice a4 0 b4, .slice a5 0 b5], .nilIface]) (by simp [results, Tryd.results20, go_sem, y0, y1, y2, y3, y4, y5, y6, y7, y8]) rfl ⟨_, _, rfl, by rw [F0.out]; exact Er.nil, ?_, KZ.out.below B3.out B3.out.size (by omega)⟩
  rw [begun_ok F0.out, Int.toNat_natCast]
  exact ⟨_, _, _, _, _, rfl, (O3.out.1.kp KZ.out (by omega)).mono (by omega), (O3.out.2.1.kp KZ.out (by omega)).mono (by omega), (O3.out.2.2.1.kp KZ.out (by omega)).mono (by omega), (O3.out.2.2.2.1.kp KZ.out (by omega)).mono (by omega), (O3.out.2.2.2.2.kp KZ.out (by omega)).mono (by omega)⟩
end Go.Proofs.YtplnhgllbhdfjaaDoor

namespace Go.Proofs.YtplnhgllbhdfjaaDoor.Fd

/-- the sign of a ground. -/
def gsign (g : Int) : UInt8 := if g = 0 then 46 else if g = 1 then 35 else if g = 2 then 126 else 94
/-- the sign of a cell. -/
def sgn (g o : Int) : UInt8 := if o = 0 then gsign g else if o % 10 = 0 ∧ o ≤ 90 then (48 + (o / 10).toNat).toUInt8 else 43
def cellsTo (W : Nat) (gs os : List Int) (r c : Nat) : List UInt8 := (List.range c).map fun j => sgn (gs.getD (r * W + j) 0) (os.getD (r * W + j) 0)
def rowsTo (W : Nat) (gs os : List Int) : Nat → List UInt8
  | 0 => []
  | r + 1 => rowsTo W gs os r ++ (cellsTo W gs os r W ++ [10])
/-- a field as text. -/
def prt (W H : Nat) (gs os : List Int) : List UInt8 := rowsTo W gs os H

theorem cellsTo_succ (W : Nat) (gs os : List Int) (r c : Nat) : cellsTo W gs os r (c + 1) = cellsTo W gs os r c ++ [sgn (gs.getD (r * W + c) 0) (os.getD (r * W + c) 0)] := by
  unfold cellsTo
  rw [List.range_succ, List.map_append]
  rfl
theorem cellsTo_len (W : Nat) (gs os : List Int) (r c : Nat) : (cellsTo W gs os r c).length = c := by
  unfold cellsTo
  simp
theorem rowsTo_len (W : Nat) (gs os : List Int) (r : Nat) : (rowsTo W gs os r).length = r * (W + 1) := by
  induction r with
  | zero => simp [rowsTo]
  | succ r ih =>
    simp only [rowsTo, List.length_append, ih, cellsTo_len, List.length_cons, List.length_nil]
    rw [Nat.add_mul]
    omega

/-- a field as far as its text is read. -/
structure St where
  c : Nat
  W : Nat
  H : Nat
  gs : List Int
  os : List Int
def st0 : St := ⟨0, 0, 0, [], []⟩
/-- what a sign stands for. -/
def meant (b : UInt8) : Option (Int × Int) :=
  if 49 ≤ b.toNat ∧ b.toNat ≤ 57 then some (0, ((b.toNat : Int) - 48) * 10) else if b = 46 then some (0, 0) else if b = 35 then some (1, 0) else if b = 126 then some (2, 0) else if b = 94 then some (3, 0) else none
/-- one byte more. -/
def step (s : St) (b : UInt8) : Int ⊕ St :=
  if b = 10 then (if s.c = 0 ∨ (0 < s.H ∧ s.c ≠ s.W) then .inl 2 else .inr ⟨0, s.c, s.H + 1, s.gs, s.os⟩)
  else match meant b with
    | none => .inl 2
    | some (g, o) => if 0 < s.H ∧ s.c = s.W then .inl 2 else if s.c = 12 ∨ s.H = 12 then .inl 4 else .inr ⟨s.c + 1, s.W, s.H, s.gs ++ [g], s.os ++ [o]⟩
def run : St → Nat → List UInt8 → (Nat × Int) ⊕ St
  | s, _, [] => .inr s
  | s, i, b :: bs => match step s b with
    | .inl e => .inl (i, e)
    | .inr s' => run s' (i + 1) bs
/-- what is wrong, and where; else the field. -/
def parse (l : List UInt8) : (Nat × Int) ⊕ St :=
  match run st0 0 l with
  | .inl x => .inl x
  | .inr s => if 0 < s.c ∨ s.H = 0 then .inl (l.length, 2) else .inr s

theorem run_cons (s : St) (i : Nat) (b : UInt8) (bs : List UInt8) : run s i (b :: bs) = match step s b with | .inl e => .inl (i, e) | .inr s' => run s' (i + 1) bs := rfl
theorem run_append (s : St) (i : Nat) (l m : List UInt8) : run s i (l ++ m) = match run s i l with | .inl x => .inl x | .inr s' => run s' (i + l.length) m := by
  induction l generalizing s i with
  | nil => simp [run]
  | cons b bs ih =>
    rw [List.cons_append, run_cons, run_cons]
    cases step s b with
    | inl e => rfl
    | inr s' =>
      simp only
      rw [ih, List.length_cons, show i + 1 + bs.length = i + (bs.length + 1) by omega]

/-- what may be read. -/
def Tens (g o : Int) : Prop := 0 ≤ g ∧ g ≤ 3 ∧ 0 ≤ o ∧ o ≤ 90 ∧ o % 10 = 0 ∧ (0 < o → g = 0)
theorem meant_sgn {b : UInt8} {g o : Int} (h : meant b = some (g, o)) : sgn g o = b ∧ Tens g o := by
  unfold meant at h
  split at h
  · rename_i hb
    simp only [Option.some.injEq, Prod.mk.injEq] at h
    obtain ⟨rfl, rfl⟩ := h
    have e1 : (((b.toNat : Int) - 48) * 10) / 10 = (b.toNat : Int) - 48 := by omega
    refine ⟨?_, by unfold Tens; omega⟩
    unfold sgn
    rw [if_neg (by omega), if_pos (by omega), e1, show 48 + ((b.toNat : Int) - 48).toNat = b.toNat by omega]
    exact UInt8.ofNat_toNat
  · split at h
    · rename_i hb
      simp only [Option.some.injEq, Prod.mk.injEq] at h
      obtain ⟨rfl, rfl⟩ := h
      exact ⟨by rw [hb]; rfl, by unfold Tens; omega⟩
    · split at h
      · rename_i hb
        simp only [Option.some.injEq, Prod.mk.injEq] at h
        obtain ⟨rfl, rfl⟩ := h
        exact ⟨by rw [hb]; rfl, by unfold Tens; omega⟩
      · split at h
        · rename_i hb
          simp only [Option.some.injEq, Prod.mk.injEq] at h
          obtain ⟨rfl, rfl⟩ := h
          exact ⟨by rw [hb]; rfl, by unfold Tens; omega⟩
        · split at h
          · rename_i hb
            simp only [Option.some.injEq, Prod.mk.injEq] at h
            obtain ⟨rfl, rfl⟩ := h
            exact ⟨by rw [hb]; rfl, by unfold Tens; omega⟩
          · cases h
theorem sgn_meant {g o : Int} (h : Tens g o) : meant (sgn g o) = some (g, o) ∧ sgn g o ≠ 10 := by
  obtain ⟨h1, h2, h3, h4, h5, h6⟩ := h
  by_cases h0 : o = 0
  · subst h0
    have hg : g = 0 ∨ g = 1 ∨ g = 2 ∨ g = 3 := by omega
    rcases hg with rfl | rfl | rfl | rfl
    all_goals exact ⟨by decide, by decide⟩
  · obtain rfl := h6 (by omega)
    have ho : o = 10 ∨ o = 20 ∨ o = 30 ∨ o = 40 ∨ o = 50 ∨ o = 60 ∨ o = 70 ∨ o = 80 ∨ o = 90 := by omega
    rcases ho with rfl | rfl | rfl | rfl | rfl | rfl | rfl | rfl | rfl
    all_goals exact ⟨by decide, by decide⟩

theorem getD_snoc_lt {l : List Int} {x : Int} {i : Nat} (h : i < l.length) : (l ++ [x]).getD i 0 = l.getD i 0 := by
  rw [List.getD_eq_getElem?_getD, List.getD_eq_getElem?_getD, List.getElem?_append_left h]
theorem getD_snoc_len {l : List Int} {x : Int} {i : Nat} (h : i = l.length) : (l ++ [x]).getD i 0 = x := by
  subst h
  rw [List.getD_eq_getElem?_getD, List.getElem?_append_right (Nat.le_refl _)]
  simp
theorem cellsTo_snoc {W : Nat} {gs os : List Int} {g o : Int} {r c : Nat} (h1 : r * W + c ≤ gs.length) (h2 : r * W + c ≤ os.length) : cellsTo W (gs ++ [g]) (os ++ [o]) r c = cellsTo W gs os r c := by
  induction c with
  | zero => rfl
  | succ c ih =>
    rw [cellsTo_succ, cellsTo_succ, ih (by omega) (by omega), getD_snoc_lt (by omega), getD_snoc_lt (by omega)]
theorem rowsTo_snoc {W : Nat} {gs os : List Int} {g o : Int} {r : Nat} (h1 : r * W ≤ gs.length) (h2 : r * W ≤ os.length) : rowsTo W (gs ++ [g]) (os ++ [o]) r = rowsTo W gs os r := by
  induction r with
  | zero => rfl
  | succ r ih =>
    rw [Nat.add_mul] at h1 h2
    simp only [rowsTo]
    rw [ih (by omega) (by omega), cellsTo_snoc (by omega) (by omega)]
theorem cellsTo_row0 (W V : Nat) (gs os : List Int) (c : Nat) : cellsTo W gs os 0 c = cellsTo V gs os 0 c := by
  unfold cellsTo
  simp

/-- what holds of a field as far as its text l is read. -/
structure Inv (s : St) (l : List UInt8) : Prop where
  w0 : s.H = 0 → s.W = 0
  wp : 0 < s.H → 0 < s.W
  cw : 0 < s.H → s.c ≤ s.W
  c12 : s.c ≤ 12
  w12 : s.W ≤ 12
  h12 : s.H ≤ 12
  top : s.H = 12 → s.c = 0
  gl : s.gs.length = s.H * s.W + s.c
  ol : s.os.length = s.H * s.W + s.c
  tens : ∀ (i : Nat) g o, s.gs[i]? = some g → s.os[i]? = some o → Tens g o
  text : l = rowsTo s.W s.gs s.os s.H ++ cellsTo s.W s.gs s.os s.H s.c
theorem inv0 : Inv st0 [] := ⟨fun _ => rfl, fun h => by simp [st0] at h, fun h => by simp [st0] at h, by simp [st0], by simp [st0], by simp [st0], fun h => by simp [st0] at h, rfl, rfl, fun i g o h => by simp [st0] at h, rfl⟩

theorem snoc_get {l : List Int} {x y : Int} {i : Nat} (h : (l ++ [x])[i]? = some y) : (i < l.length ∧ l[i]? = some y) ∨ (i = l.length ∧ y = x) := by
  rcases Nat.lt_or_ge i l.length with h1 | h1
  · left; rw [List.getElem?_append_left h1] at h; exact ⟨h1, h⟩
  · right
    rw [List.getElem?_append_right h1] at h
    have h2 : i - l.length = 0 := by
      rcases Nat.eq_zero_or_pos (i - l.length) with h2 | h2
      · exact h2
      · rw [List.getElem?_eq_none (by simp; omega)] at h; cases h
    rw [h2] at h
    simp at h
    exact ⟨by omega, h.symm⟩

theorem Inv.step {s s' : St} {l : List UInt8} {b : UInt8} (h : Inv s l) (hs : step s b = .inr s') : Inv s' (l ++ [b]) := by
  unfold Fd.step at hs
  split at hs
  · rename_i hb
    subst hb
    split at hs
    · cases hs
    · rename_i hc
      injection hs with hs
      subst hs
      have hc0 : 0 < s.c := by omega
      have hcw : 0 < s.H → s.c = s.W := by omega
      have hh : s.H ≠ 12 := fun e => by have := h.top e; omega
      have h12 := h.h12; have c12 := h.c12
      have el : s.H * s.W + s.c = (s.H + 1) * s.c := by
        rcases Nat.eq_zero_or_pos s.H with e | e
        · rw [e]; simp
        · rw [← hcw e, Nat.add_mul, Nat.one_mul]
      refine ⟨by simp, by simp; exact hc0, by simp, by simp, c12, by show s.H + 1 ≤ 12; omega, by simp, ?_, ?_, h.tens, ?_⟩
      · show s.gs.length = (s.H + 1) * s.c + 0; rw [h.gl, el]; rfl
      · show s.os.length = (s.H + 1) * s.c + 0; rw [h.ol, el]; rfl
      · show l ++ [10] = rowsTo s.c s.gs s.os (s.H + 1) ++ cellsTo s.c s.gs s.os (s.H + 1) 0
        rw [h.text]
        simp only [rowsTo]
        rcases Nat.eq_zero_or_pos s.H with e | e
        · rw [e, cellsTo_row0 s.W s.c]
          simp [rowsTo, cellsTo]
        · rw [← hcw e]
          simp [cellsTo]
  · split at hs
    · cases hs
    · rename_i g o hm
      split at hs
      · cases hs
      · split at hs
        · cases hs
        · rename_i h1 h2
          injection hs with hs
          subst hs
          obtain ⟨e1, e2⟩ := meant_sgn hm
          have cw := h.cw; have c12 := h.c12; have h12 := h.h12
          refine ⟨h.w0, h.wp, fun hp => ?_, ?_, h.w12, h.h12, fun e => ?_, ?_, ?_, ?_, ?_⟩
          · show s.c + 1 ≤ s.W; have := cw hp; have : 0 < s.H := hp; omega
          · show s.c + 1 ≤ 12; omega
          · exfalso; have : s.H = 12 := e; omega
          · show (s.gs ++ [g]).length = s.H * s.W + (s.c + 1); rw [List.length_append, h.gl]; rfl
          · show (s.os ++ [o]).length = s.H * s.W + (s.c + 1); rw [List.length_append, h.ol]; rfl
          · intro i g' o' hg ho
            rcases snoc_get hg with ⟨l1, q1⟩ | ⟨l1, q1⟩
            · rcases snoc_get ho with ⟨l2, q2⟩ | ⟨l2, q2⟩
              · exact h.tens i g' o' q1 q2
              · have := h.gl; have := h.ol; omega
            · rcases snoc_get ho with ⟨l2, q2⟩ | ⟨l2, q2⟩
              · have := h.gl; have := h.ol; omega
              · rw [q1, q2]; exact e2
          · show l ++ [b] = rowsTo s.W (s.gs ++ [g]) (s.os ++ [o]) s.H ++ cellsTo s.W (s.gs ++ [g]) (s.os ++ [o]) s.H (s.c + 1)
            have := h.gl; have := h.ol
            rw [rowsTo_snoc (by omega) (by omega), cellsTo_succ, cellsTo_snoc (by omega) (by omega), getD_snoc_len (by omega), getD_snoc_len (by omega), e1, h.text, List.append_assoc]
theorem Inv.run {s s' : St} {l m : List UInt8} {i : Nat} (h : Inv s l) (hs : run s i m = .inr s') : Inv s' (l ++ m) := by
  induction m generalizing s l i with
  | nil =>
    simp only [Fd.run] at hs
    injection hs with hs
    subst hs
    simpa using h
  | cons b bs ih =>
    rw [run_cons] at hs
    cases hb : Fd.step s b with
    | inl e => rw [hb] at hs; cases hs
    | inr s1 =>
      rw [hb] at hs
      have := ih (h.step hb) hs
      rwa [List.append_assoc] at this

/-- what is read is printed as it was. -/
theorem parse_back {l : List UInt8} {s : St} (h : parse l = .inr s) : Good s.W s.H s.gs s.os ∧ prt s.W s.H s.gs s.os = l ∧ s.c = 0 := by
  unfold parse at h
  cases hr : run st0 0 l with
  | inl x => rw [hr] at h; cases h
  | inr s1 =>
    rw [hr] at h
    simp only at h
    split at h
    · cases h
    · rename_i hc
      injection h with h
      subst h
      have hi := inv0.run hr
      have hc0 : s1.c = 0 := by omega
      have hH : 0 < s1.H := by omega
      have t := hi.text
      have gl := hi.gl; have ol := hi.ol
      rw [hc0] at t gl ol
      refine ⟨⟨hi.wp hH, hi.w12, hH, hi.h12, by rw [gl, Nat.mul_comm]; rfl, by rw [ol, Nat.mul_comm]; rfl, fun i g o h1 h2 => ?_⟩, ?_, hc0⟩
      · obtain ⟨t1, t2, t3, t4, t5, t6⟩ := hi.tens i g o h1 h2
        exact ⟨t1, t2, t3, by omega, t6⟩
      · unfold prt
        simpa [cellsTo] using t.symm

theorem step_sign {s : St} {b : UInt8} {g o : Int} (hb : b ≠ 10) (hm : meant b = some (g, o)) (h1 : ¬ (0 < s.H ∧ s.c = s.W)) (h2 : s.c ≠ 12) (h3 : s.H ≠ 12) : step s b = .inr ⟨s.c + 1, s.W, s.H, s.gs ++ [g], s.os ++ [o]⟩ := by
  unfold step
  rw [if_neg hb, hm]
  simp only
  rw [if_neg h1, if_neg (by omega)]
theorem step_end {s : St} (h1 : s.c ≠ 0) (h2 : 0 < s.H → s.c = s.W) : step s 10 = .inr ⟨0, s.c, s.H + 1, s.gs, s.os⟩ := by
  unfold step
  rw [if_pos rfl, if_neg (by omega)]
theorem take_snoc {l : List Int} {k : Nat} (h : k < l.length) : l.take (k + 1) = l.take k ++ [l.getD k 0] := by
  rw [List.take_succ_eq_append_getElem h, List.getD_eq_getElem?_getD, List.getElem?_eq_getElem h]
  rfl

section
variable {W H : Nat} {gs os : List Int} (G : Good W H gs os) (ht : ∀ o ∈ os, o ≤ 90 ∧ o % 10 = 0)
include G ht
theorem run_cells (r c i : Nat) (hr : r < H) (hc : c ≤ W) :
    run ⟨0, if r = 0 then 0 else W, r, gs.take (r * W), os.take (r * W)⟩ i (cellsTo W gs os r c) = .inr ⟨c, if r = 0 then 0 else W, r, gs.take (r * W + c), os.take (r * W + c)⟩ := by
  induction c with
  | zero => simp [cellsTo, run]
  | succ c ih =>
    have hl : r * W + c < W * H := by
      have := Nat.mul_le_mul_right W (show r + 1 ≤ H by omega)
      rw [Nat.add_mul, Nat.mul_comm H W] at this
      omega
    have hg : r * W + c < gs.length := by rw [G.gl]; exact hl
    have ho : r * W + c < os.length := by rw [G.ol]; exact hl
    have eg : gs[r * W + c]? = some (gs.getD (r * W + c) 0) := by rw [List.getD_eq_getElem?_getD, List.getElem?_eq_getElem hg]; rfl
    have eo : os[r * W + c]? = some (os.getD (r * W + c) 0) := by rw [List.getD_eq_getElem?_getD, List.getElem?_eq_getElem ho]; rfl
    obtain ⟨t1, t2, t3, t4, t5⟩ := G.cell _ _ _ eg eo
    obtain ⟨u1, u2⟩ := ht _ (List.mem_of_getElem? eo)
    obtain ⟨m1, m2⟩ := sgn_meant ⟨t1, t2, t3, u1, u2, t5⟩
    have w2 := G.w2; have h2 := G.h2
    rw [cellsTo_succ, run_append, ih (by omega)]
    simp only
    rw [run_cons, step_sign m2 m1 (by simp only; rintro ⟨q1, q2⟩; rw [if_neg (by omega)] at q2; omega) (by simp only; omega) (by simp only; omega)]
    simp only [run]
    rw [show r * W + (c + 1) = (r * W + c) + 1 by omega, take_snoc hg, take_snoc ho]
theorem run_rows (r i : Nat) (hr : r ≤ H) :
    run st0 i (rowsTo W gs os r) = .inr ⟨0, if r = 0 then 0 else W, r, gs.take (r * W), os.take (r * W)⟩ := by
  induction r with
  | zero => simp [rowsTo, run, st0]
  | succ r ih =>
    have w1 := G.w1
    simp only [rowsTo]
    rw [run_append, ih (by omega)]
    simp only
    rw [run_append, run_cells G ht r W _ (by omega) (Nat.le_refl _)]
    simp only
    rw [run_cons, step_end (by simp only; omega) (by simp only; intro q; rw [if_neg (by omega)])]
    simp only [run]
    rw [if_neg (by omega), Nat.add_mul, Nat.one_mul]
/-- what is printed is read as it was. -/
theorem parse_prt : parse (prt W H gs os) = .inr ⟨0, W, H, gs, os⟩ := by
  have h1 := G.h1
  unfold parse prt
  rw [run_rows G ht H 0 (Nat.le_refl _)]
  simp only
  rw [if_neg (by omega), if_neg (by omega), Nat.mul_comm H W, ← G.gl, List.take_length, G.gl, ← G.ol, List.take_length]
end
end Go.Proofs.YtplnhgllbhdfjaaDoor.Fd

namespace Go.Proofs.YtplnhgllbhdfjaaDoor
set_option linter.unusedVariables false

/-- a fact's kinds. -/
def SK : List KV := [⟨⟨#[98, 97, 115, 101]⟩, 50, 0, 0, 4, 0, 50, 5, 0, false, true⟩, ⟨⟨#[100, 105, 103, 103, 101, 114]⟩, 10, 0, 0, 3, 2, 10, 2, 20, false, false⟩, ⟨⟨#[102, 105, 103, 104, 116, 101, 114]⟩, 20, 4, 1, 4, 2, 20, 3, 0, false, false⟩]
def SG : List Int := [0, 0, 0, 0, 0, 0, 0, 0]
def SO : List Int := [0, 0, 0, 0, 0, 0, 30, 0]
/-- the small world, with none, one, two and three units. -/
def S0 : WV := ⟨0, 1, 4, 2, SG, SO, [100, 100], [], []⟩
def S1 : WV := ⟨0, 2, 4, 2, SG, SO, [100, 100], [⟨1, 0, 0, 0, 50, 0, 0, 0⟩], []⟩
def S2 : WV := ⟨0, 3, 4, 2, SG, SO, [100, 100], [⟨1, 0, 0, 0, 50, 0, 0, 0⟩, ⟨2, 0, 1, 1, 10, 0, 0, 0⟩], []⟩
def S3 : WV := ⟨0, 4, 4, 2, SG, SO, [100, 100], [⟨1, 0, 0, 0, 50, 0, 0, 0⟩, ⟨2, 0, 1, 1, 10, 0, 0, 0⟩, ⟨3, 1, 2, 3, 20, 0, 0, 0⟩], []⟩
theorem sm_parse : Fd.parse [46, 46, 46, 46, 10, 46, 46, 51, 46, 10] = .inr ⟨0, 4, 2, SG, SO⟩ := by rfl
theorem sm_f0 : Wd.newFault SK 4 2 SG SO 2 100 = 0 := by decide +kernel
theorem sm_f1 : Wd.putFault SK S0 0 0 0 = 0 := by decide +kernel
theorem sm_f2 : Wd.putFault SK S1 0 1 1 = 0 := by decide +kernel
theorem sm_f3 : Wd.putFault SK S2 1 2 3 = 0 := by decide +kernel
theorem sm_0 : Wd.begun SK 4 2 SG SO 2 100 = S0 := begun_ok sm_f0
theorem sm_1 : Wd.placed SK S0 0 0 0 = S1 := (placed_ok sm_f1).trans rfl
theorem sm_2 : Wd.placed SK S1 0 1 1 = S2 := (placed_ok sm_f2).trans rfl
theorem sm_3 : Wd.placed SK S2 1 2 3 = S3 := (placed_ok sm_f3).trans rfl
theorem sm_names : ∀ k ∈ SK, k.b.size ≤ 9223372036854775807 := by
  intro k hk
  unfold SK at hk
  rcases List.mem_cons.1 hk with rfl | hk
  · decide
  rcases List.mem_cons.1 hk with rfl | hk
  · decide
  rcases List.mem_cons.1 hk with rfl | hk
  · decide
  · cases hk
end Go.Proofs.YtplnhgllbhdfjaaDoor

namespace Go.Proofs.YtplnhgllbhdfjaaDoor
open Go.RowKit
set_option linter.unusedVariables false

set_option maxRecDepth 100000 in
set_option maxHeartbeats 1000000 in
theorem lite_any (s : ByteArray) (c : Int) (w : World) :
    Calls Tryd.prog 84 #[.string s, .int .u8 c] w fun e w' => e = .returned (.int .i64 (Lib.indexByte s.data.toList c.toNat.toUInt8)) ∧ w' = w := by
  have hx := run_callFunc_extern (w := w) (args := #[.string s, .int .u8 c]) Tryd.func90 (by kernel_rfl) (by kernel_rfl) (by kernel_rfl) (e := Extern.BytealgIndexByte.indexByte) (by kernel_rfl)
  go_enter Tryd.func84, Tryd.ntmps84
  go_wp2
  rw [Lib.run_indexByteString]
  simp only [Result.andThen]
  rw [Oper.upon_value]
  go_wp2
  go_ret
  exact ⟨rfl, rfl⟩

set_option maxHeartbeats 1000000 in
theorem idx_byte (s : ByteArray) (c : Int) (w : World) :
    Calls Tryd.prog 70 #[.string s, .int .u8 c] w fun e w' => e = .returned (.int .i64 (Lib.indexByte s.data.toList c.toNat.toUInt8)) ∧ w' = w := by
  have K : Hid (Calls Tryd.prog 84 #[.string s, .int .u8 c] w fun e w' => e = .returned (.int .i64 (Lib.indexByte s.data.toList c.toNat.toUInt8)) ∧ w' = w) := lite_any s c w
  go_enter Tryd.func70, Tryd.ntmps70
  go_wp2_with fail
  refine Calls.mono K.out ?_
  rintro e w' ⟨rfl, rfl⟩
  go_wp2
  go_ret
  exact ⟨rfl, rfl⟩

namespace Fd
/-- the number of a sign's ground; -1: there is none. -/
def gnum (b : UInt8) : Int := if b = 46 then 0 else if b = 35 then 1 else if b = 126 then 2 else if b = 94 then 3 else -1
theorem gnum_meant (b : UInt8) (h : ¬ (49 ≤ b.toNat ∧ b.toNat ≤ 57)) : meant b = if 0 ≤ gnum b then some (gnum b, 0) else none := by
  unfold meant gnum
  rw [if_neg h]
  split
  · rfl
  · split
    · rfl
    · split
      · rfl
      · split
        · rfl
        · rfl
end Fd

theorem idx_sign (b : UInt8) : Lib.indexByte [46, 35, 126, 94] b = Fd.gnum b := by
  unfold Fd.gnum
  by_cases h1 : b = 46
  · subst h1; decide
  · by_cases h2 : b = 35
    · subst h2; decide
    · by_cases h3 : b = 126
      · subst h3; decide
      · by_cases h4 : b = 94
        · subst h4; decide
        · have g1 : ¬ 46 = b := fun h => h1 h.symm
          have g2 : ¬ 35 = b := fun h => h2 h.symm
          have g3 : ¬ 126 = b := fun h => h3 h.symm
          have g4 : ¬ 94 = b := fun h => h4 h.symm
          simp [Lib.indexByte, h1, h2, h3, h4, g1, g2, g3, g4]

set_option maxHeartbeats 1000000 in
theorem meant_any (b : UInt8) (w : World) :
    Calls Tryd.prog 55 #[.int .u8 (b.toNat : Nat)] w fun e w' => (∃ g o, Fd.meant b = some (g, o) ∧ e = .returned (.tuple #[.int .i64 g, .int .i64 o, .bool true]) ∧ w' = w) ∨ (Fd.meant b = none ∧ e = .returned (.tuple #[.int .i64 (-1), .int .i64 0, .bool false]) ∧ w' = w) := by
  have hb := b.toNat_lt
  by_cases h : 49 ≤ b.toNat ∧ b.toNat ≤ 57
  · have e : Fd.meant b = some (0, ((b.toNat : Int) - 48) * 10) := by unfold Fd.meant; rw [if_pos h]
    have E : Hid _ := e
    obtain ⟨h1, h2⟩ := h
    clear e
    generalize b.toNat = n at *
    have w1 : IntKind.u8.wrap ((n : Int) - 48) = (n : Int) - 48 := by rw [IntKind.wrap_u8]; omega
    go_enter Tryd.func55, Tryd.ntmps55
    go_wp2
    go_ret3
    exact .inl ⟨_, _, E.out, rfl, rfl⟩
  · have e := Fd.gnum_meant b h
    have I : Hid (Calls Tryd.prog 70 #[.string ⟨#[46, 35, 126, 94]⟩, .int .u8 (b.toNat : Nat)] w fun e w' => e = .returned (.int .i64 (Fd.gnum b)) ∧ w' = w) := by
      refine (idx_byte ⟨#[46, 35, 126, 94]⟩ (b.toNat : Nat) w).mono ?_
      rintro e w' ⟨rfl, rfl⟩
      refine ⟨?_, rfl⟩
      have e2 : ((b.toNat : Nat) : Int).toNat.toUInt8 = b := by rw [Int.toNat_natCast]; exact UInt8.ofNat_toNat
      rw [e2]
      rw [← idx_sign b]
    have gl : -1 ≤ Fd.gnum b := by unfold Fd.gnum; split <;> (try split) <;> (try split) <;> (try split) <;> omega
    generalize Fd.gnum b = g at *
    by_cases hg : 0 ≤ g
    · have E : Hid (Fd.meant b = some (g, 0)) := by unfold Hid; rw [e, if_pos hg]
      clear e
      by_cases h1 : 49 ≤ b.toNat
      · have h2 : ¬ b.toNat ≤ 57 := by omega
        clear h
        go_enter Tryd.func55, Tryd.ntmps55
        go_wp2_with fail
        refine Calls.mono I.out ?_
        rintro e w' ⟨rfl, rfl⟩
        go_wp2
        go_ret3
        exact .inl ⟨_, _, E.out, rfl, rfl⟩
      · clear h
        go_enter Tryd.func55, Tryd.ntmps55
        go_wp2_with fail
        refine Calls.mono I.out ?_
        rintro e w' ⟨rfl, rfl⟩
        go_wp2
        go_ret3
        exact .inl ⟨_, _, E.out, rfl, rfl⟩
    · obtain rfl : g = -1 := by omega
      have E : Hid (Fd.meant b = none) := by unfold Hid; rw [e, if_neg hg]
      clear e gl hg
      by_cases h1 : 49 ≤ b.toNat
      · have h2 : ¬ b.toNat ≤ 57 := by omega
        clear h
        go_enter Tryd.func55, Tryd.ntmps55
        go_wp2_with fail
        refine Calls.mono I.out ?_
        rintro e w' ⟨rfl, rfl⟩
        go_wp2
        go_ret3
        exact .inr ⟨E.out, rfl, rfl⟩
      · clear h
        go_enter Tryd.func55, Tryd.ntmps55
        go_wp2_with fail
        refine Calls.mono I.out ?_
        rintro e w' ⟨rfl, rfl⟩
        go_wp2
        go_ret3
        exact .inr ⟨E.out, rfl, rfl⟩
end Go.Proofs.YtplnhgllbhdfjaaDoor

namespace Go.Proofs.YtplnhgllbhdfjaaDoor
open Go.RowKit
set_option linter.unusedVariables false

/-- two lists in blocks of their own, which are two. -/
structure Two (w : World) (base : Nat) (u1 u2 : Value) (gs os : List Int) : Prop where
  o1 : Ow w base u1 gs
  o2 : Ow w base u2 os
  ne : ∀ k, u1.ownBlock = some k → u2.ownBlock ≠ some k
theorem Two.below {w w' : World} {base n : Nat} {u1 u2 : Value} {gs os : List Int} (h : Two w base u1 u2 gs os) (hb : Below n w w') (hn : w.heap.size ≤ n) : Two w' base u1 u2 gs os :=
  ⟨h.o1.below (hb.mono hn), h.o2.below (hb.mono hn), h.ne⟩
/-- what stays where one block below the base turns. -/
theorem Two.kp {w w' : World} {base z : Nat} {u1 u2 : Value} {gs os : List Int} (h : Two w base u1 u2 gs os) (hk : Kp z w w') (hz : z < base) : Two w' base u1 u2 gs os := by
  have hg : w.grownBy w' (some z) := ⟨hk.os, hk.tape, hk.output, hk.size, fun k hk' hne => hk.block k hk' (fun e => hne (by rw [e]))⟩
  refine ⟨h.o1.kept hg ?_, h.o2.kept hg ?_, h.ne⟩
  · right; intro e; have := (h.o1.block z e).1; omega
  · right; intro e; have := (h.o2.block z e).1; omega

/-- the block of a draft. -/
def Dt (w : World) (z : Nat) (u1 u2 : Value) (s : Fd.St) : Prop := w.heap[z]? = some (.cells #[.int .i64 (s.W : Nat), .int .i64 (s.H : Nat), u1, u2, .int .i64 (s.c : Nat)] 79 (0, 0))
/-- a draft. -/
def Dr (w : World) (z : Nat) (s : Fd.St) : Prop := ∃ u1 u2, Dt w z u1 u2 s ∧ Two w (z + 1) u1 u2 s.gs s.os

section
variable {w : World} {z : Nat} {u1 u2 : Value} {s : Fd.St}
theorem Dt.c0 (h : Dt w z u1 u2 s) : w.cell? ⟨z, 0, none⟩ = some (.int .i64 (s.W : Nat)) := by unfold Dt at h; simp [World.cell?, h]
theorem Dt.c1 (h : Dt w z u1 u2 s) : w.cell? ⟨z, 1, none⟩ = some (.int .i64 (s.H : Nat)) := by unfold Dt at h; simp [World.cell?, h]
theorem Dt.c2 (h : Dt w z u1 u2 s) : w.cell? ⟨z, 2, none⟩ = some u1 := by unfold Dt at h; simp [World.cell?, h]
theorem Dt.c3 (h : Dt w z u1 u2 s) : w.cell? ⟨z, 3, none⟩ = some u2 := by unfold Dt at h; simp [World.cell?, h]
theorem Dt.c4 (h : Dt w z u1 u2 s) : w.cell? ⟨z, 4, none⟩ = some (.int .i64 (s.c : Nat)) := by unfold Dt at h; simp [World.cell?, h]
theorem Dt.fz (h : Dt w z u1 u2 s) (i : Nat) : w.frozen? ⟨z, i, none⟩ = false := by unfold Dt at h; simp [World.frozen?, h]
theorem Dt.lt (h : Dt w z u1 u2 s) : z < w.heap.size := lt_of_block h
theorem Dt.below {w' : World} {n : Nat} (h : Dt w z u1 u2 s) (hb : Below n w w') (hz : z < n) : Dt w' z u1 u2 s := (hb.block z hz).trans h
end

set_option maxHeartbeats 1000000 in
theorem end_bad (z : Nat) (u1 u2 : Value) (s : Fd.St) (w : World) (h : Dt w z u1 u2 s) (hc : s.c ≤ 12) (hw : s.W ≤ 12) (hb : s.c = 0 ∨ s.c < s.W) :
    Calls Tryd.prog 54 #[.pointer (some ⟨z, 0, none⟩)] w fun e w' => e = .returned (.iface 62 (.int .i64 2)) ∧ ∃ n, w' = w.drewN n := by
  have c0 := h.c0
  have c4 := h.c4
  obtain ⟨c, W, H, gs, os⟩ := s
  simp only at hc hw hb c0 c4
  clear h
  by_cases q : c = 0
  · subst q
    go_enter Tryd.func54, Tryd.ntmps54
    go_wp2_with fail
    go_quiet (fail)
    go_wp2
    go_ret
    exact ⟨rfl, _, rfl⟩
  · have q2 : c < W := by omega
    have q' : ((c : Int) == 0) = false := by rw [beq_eq_false_iff_ne]; omega
    clear hb
    go_enter Tryd.func54, Tryd.ntmps54
    go_wp2_with fail
    go_quiet (fail)
    go_wp2
    go_ret
    exact ⟨rfl, _, rfl⟩

set_option maxHeartbeats 1000000 in
theorem end_ok (z : Nat) (u1 u2 : Value) (s : Fd.St) (w : World) (h : Dt w z u1 u2 s) (hc : s.c ≤ 12) (hw : s.W ≤ 12) (hh : s.H ≤ 12) (h0 : s.c ≠ 0) (h1 : ¬ s.c < s.W) :
    Calls Tryd.prog 54 #[.pointer (some ⟨z, 0, none⟩)] w fun e w' => e = .returned .nilIface ∧ Dt w' z u1 u2 ⟨0, s.c, s.H + 1, s.gs, s.os⟩ ∧ Kp z w w' := by
  have D : Hid (Dt w z u1 u2 s) := h
  have c0 := h.c0
  have c1 := h.c1
  have c4 := h.c4
  have f0 := h.fz 0
  have f1 := h.fz 1
  have f4 := h.fz 4
  obtain ⟨c, W, H, gs, os⟩ := s
  simp only at hc hw hh h0 h1 c0 c1 c4
  have q' : ((c : Int) == 0) = false := by rw [beq_eq_false_iff_ne]; omega
  clear h
  go_enter Tryd.func54, Tryd.ntmps54
  go_wp2_with fail
  go_quiet (fail)
  have Dq : Hid (Dt (w.drewN nq) z u1 u2 ⟨c, W, H, gs, os⟩) := D.out
  have Kq : Hid (Kp z w (w.drewN nq)) := (Kp.refl z w).drewN nq
  have c0 : (w.drewN nq).cell? ⟨z, 0, none⟩ = some (.int .i64 (W : Nat)) := Dq.out.c0
  have c1 : (w.drewN nq).cell? ⟨z, 1, none⟩ = some (.int .i64 (H : Nat)) := Dq.out.c1
  have c4 : (w.drewN nq).cell? ⟨z, 4, none⟩ = some (.int .i64 (c : Nat)) := Dq.out.c4
  have f0 := Dq.out.fz 0
  have f1 := Dq.out.fz 1
  have f4 := Dq.out.fz 4
  generalize w.drewN nq = w1 at *
  go_wp2
  go_ret
  refine ⟨rfl, ?_, ?_⟩
  · unfold Dt
    rw [heap_setCell_same _ z 4 _ _ _ (heap_setCell_same _ z 1 _ _ _ (heap_setCell_same w1 z 0 _ _ _ Dq.out))]
    simp
  · exact ((Kq.out.trans (Kp.set _ _ _)).trans (Kp.set _ _ _)).trans (Kp.set _ _ _)
end Go.Proofs.YtplnhgllbhdfjaaDoor

namespace Go.Proofs.YtplnhgllbhdfjaaDoor
open Go.RowKit
set_option linter.unusedVariables false

/-- what holds of every draft. -/
structure Okay (s : Fd.St) : Prop where
  w0 : s.H = 0 → s.W = 0
  cw : 0 < s.H → s.c ≤ s.W
  c12 : s.c ≤ 12
  w12 : s.W ≤ 12
  h12 : s.H ≤ 12
  gl : s.gs.length ≤ 156
  ol : s.os.length ≤ 156
theorem Okay.of {s : Fd.St} {l : List UInt8} (h : Fd.Inv s l) : Okay s := by
  have e : s.H * s.W ≤ 144 := Nat.mul_le_mul h.h12 h.w12
  have := h.c12
  exact ⟨h.w0, h.cw, h.c12, h.w12, h.h12, by rw [h.gl]; omega, by rw [h.ol]; omega⟩

theorem step_ten {s : Fd.St} (h : Okay s) : Fd.step s 10 = if s.c = 0 ∨ s.c < s.W then .inl 2 else .inr ⟨0, s.c, s.H + 1, s.gs, s.os⟩ := by
  unfold Fd.step
  rw [if_pos rfl]
  have := h.w0; have := h.cw
  by_cases q : s.c = 0 ∨ (0 < s.H ∧ s.c ≠ s.W)
  · rw [if_pos q, if_pos (by omega)]
  · rw [if_neg q, if_neg (by omega)]
theorem step_none {s : Fd.St} {b : UInt8} (hb : b ≠ 10) (hm : Fd.meant b = none) : Fd.step s b = .inl 2 := by
  unfold Fd.step
  rw [if_neg hb, hm]
theorem step_some {s : Fd.St} {b : UInt8} {g o : Int} (hb : b ≠ 10) (hm : Fd.meant b = some (g, o)) : Fd.step s b = if 0 < s.H ∧ s.c = s.W then .inl 2 else if s.c = 12 ∨ s.H = 12 then .inl 4 else .inr ⟨s.c + 1, s.W, s.H, s.gs ++ [g], s.os ++ [o]⟩ := by
  unfold Fd.step
  rw [if_neg hb, hm]

set_option maxHeartbeats 1000000 in
theorem read_ten (z : Nat) (s : Fd.St) (w : World) (h : Dr w z s) (ok : Okay s) :
    Calls Tryd.prog 31 #[.pointer (some ⟨z, 0, none⟩), .int .u8 10] w fun e w' => (∃ f, Fd.step s 10 = .inl f ∧ e = .returned (.iface 62 (.int .i64 f)) ∧ f ≠ 0 ∧ Below z w w') ∨ (∃ s', Fd.step s 10 = .inr s' ∧ e = .returned .nilIface ∧ Dr w' z s' ∧ Below z w w') := by
  obtain ⟨u1, u2, hd, ht⟩ := h
  have S := step_ten ok
  have HS : Hid _ := S
  clear S
  by_cases q : s.c = 0 ∨ s.c < s.W
  · have K : Hid (Calls Tryd.prog 54 #[.pointer (some ⟨z, 0, none⟩)] w fun e w' => e = .returned (.iface 62 (.int .i64 2)) ∧ ∃ n, w' = w.drewN n) := end_bad z u1 u2 s w hd ok.c12 ok.w12 q
    have Q : Hid (s.c = 0 ∨ s.c < s.W) := q
    clear q hd ht ok
    go_enter Tryd.func31, Tryd.ntmps31
    go_wp2_with fail
    refine Calls.mono K.out ?_
    rintro e w1 ⟨rfl, n, rfl⟩
    go_wp2
    go_ret
    exact .inl ⟨2, by rw [HS.out, if_pos Q.out], rfl, by decide, _root_.Go.below_drewN (Below.refl _ _) _⟩
  · have K : Hid (Calls Tryd.prog 54 #[.pointer (some ⟨z, 0, none⟩)] w fun e w' => e = .returned .nilIface ∧ Dt w' z u1 u2 ⟨0, s.c, s.H + 1, s.gs, s.os⟩ ∧ Kp z w w') := end_ok z u1 u2 s w hd ok.c12 ok.w12 ok.h12 (fun e => q (.inl e)) (fun e => q (.inr e))
    have Q : Hid (¬ (s.c = 0 ∨ s.c < s.W)) := q
    have T : Hid (Two w (z + 1) u1 u2 s.gs s.os) := ht
    have L : Hid (z < w.heap.size) := hd.lt
    clear q hd ht ok
    go_enter Tryd.func31, Tryd.ntmps31
    go_wp2_with fail
    refine Calls.mono K.out ?_
    rintro e w1 ⟨rfl, hd1, hk1⟩
    have D1 : Hid (Dt w1 z u1 u2 ⟨0, s.c, s.H + 1, s.gs, s.os⟩) := hd1
    have K1 : Hid (Kp z w w1) := hk1
    clear hd1 hk1
    go_wp2
    go_ret
    refine .inr ⟨_, by rw [HS.out, if_neg Q.out], rfl, ⟨u1, u2, D1.out, T.out.kp K1.out (Nat.lt_succ_self _)⟩, Kp.below (Below.refl _ _) K1.out (Nat.le_of_lt L.out) (Nat.le_refl _)⟩

set_option maxRecDepth 100000 in
set_option maxHeartbeats 4000000 in
theorem read_sign (z : Nat) (s : Fd.St) (b : UInt8) (w : World) (h : Dr w z s) (ok : Okay s) (hb : b ≠ 10) :
    Calls Tryd.prog 31 #[.pointer (some ⟨z, 0, none⟩), .int .u8 (b.toNat : Nat)] w fun e w' => (∃ f, Fd.step s b = .inl f ∧ e = .returned (.iface 62 (.int .i64 f)) ∧ f ≠ 0 ∧ Below z w w') ∨ (∃ s', Fd.step s b = .inr s' ∧ e = .returned .nilIface ∧ Dr w' z s' ∧ Below z w w') := by
  obtain ⟨u1, u2, hd, ht⟩ := h
  have hb2 := b.toNat_lt
  have hb3 : ¬ ((b.toNat : Nat) : Int) = 10 := by
    intro e
    have e2 : b.toNat = 10 := by omega
    exact hb (UInt8.toNat_inj.1 e2)
  have M : Hid (∀ w, Calls Tryd.prog 55 #[.int .u8 (b.toNat : Nat)] w fun e w' => (∃ g o, Fd.meant b = some (g, o) ∧ e = .returned (.tuple #[.int .i64 g, .int .i64 o, .bool true]) ∧ w' = w) ∨ (Fd.meant b = none ∧ e = .returned (.tuple #[.int .i64 (-1), .int .i64 0, .bool false]) ∧ w' = w)) := meant_any b
  have HB : Hid (b ≠ 10) := hb
  have D : Hid (Dt w z u1 u2 s) := hd
  have T : Hid (Two w (z + 1) u1 u2 s.gs s.os) := ht
  have K : Hid (Okay s) := ok
  clear hb hd ht ok
  generalize b.toNat = n at *
  go_enter Tryd.func31, Tryd.ntmps31
  go_wp2_with fail
  refine (M.out _).mono ?_
  rintro e w1 hm
  rcases hm with ⟨g, o, hm, rfl, rfl⟩ | ⟨hm, rfl, rfl⟩
  · have HS : Hid _ := step_some (s := s) HB.out hm
    have c0 := D.out.c0
    have c1 := D.out.c1
    have c2 := D.out.c2
    have c3 := D.out.c3
    have c4 := D.out.c4
    obtain ⟨c, W, H, gs, os⟩ := s
    simp only at c0 c1 c4
    have k12 := K.out.c12
    have w12 := K.out.w12
    have h12 := K.out.h12
    simp only at k12 w12 h12
    clear hm M
    by_cases q1 : 0 < H ∧ c = W
    · obtain ⟨q1a, q1b⟩ := q1
      have HS' : Hid (Fd.step ⟨c, W, H, gs, os⟩ b = .inl 2) := by unfold Hid; rw [HS.out, if_pos ⟨q1a, q1b⟩]
      subst q1b
      go_wp2_with fail
      go_quiet (fail)
      go_wp2
      go_ret
      exact .inl ⟨2, HS'.out, rfl, by decide, _root_.Go.below_drewN (Below.refl _ _) _⟩
    · have HS1 : Hid (Fd.step ⟨c, W, H, gs, os⟩ b = if c = 12 ∨ H = 12 then .inl 4 else .inr ⟨c + 1, W, H, gs ++ [g], os ++ [o]⟩) := by unfold Hid; rw [HS.out, if_neg q1]
      clear HS
      go_wp2_with fail
      go_cut [39] (fun v W' => v = .bool false ∧ ∃ n, W' = w1.drewN n)
      case first =>
        by_cases q2 : H = 0
        · subst q2
          go_quiet (fail)
          go_wp2_with fail
          go_meet
          case rel => exact ⟨rfl, _, rfl⟩
        · have q3 : 0 < H := by omega
          have q4 : ¬ c = W := fun e => q1 ⟨q3, e⟩
          have q4b : ((c : Int) == (W : Int)) = false := by rw [beq_eq_false_iff_ne]; omega
          clear q1
          go_quiet (fail)
          go_wp2_with fail
          go_meet
          case rel => exact ⟨rfl, _, rfl⟩
      case rest =>
        obtain ⟨rfl, nn, hn⟩ := hcut
        have kb : Below w1.heap.size w1 wc := by rw [hn]; exact _root_.Go.below_drewN (Below.refl _ _) _
        have D2 : Hid (Dt wc z u1 u2 ⟨c, W, H, gs, os⟩) := D.out.below kb D.out.lt
        have T2 : Hid (Two wc (z + 1) u1 u2 gs os) := T.out.below kb (Nat.le_refl _)
        have B2 : Hid (Below z w1 wc) := kb.mono (Nat.le_of_lt D.out.lt)
        clear kb hn c0 c1 c2 c3 c4 q1 D T
        have c0 := D2.out.c0
        have c1 := D2.out.c1
        have c2 := D2.out.c2
        have c3 := D2.out.c3
        have c4 := D2.out.c4
        simp only at c0 c1 c4
        by_cases q5 : c = 12
        · subst q5
          have HS' : Hid (Fd.step ⟨12, W, H, gs, os⟩ b = .inl 4) := by unfold Hid; rw [HS1.out, if_pos (.inl rfl)]
          go_wp2
          go_ret
          exact .inl ⟨4, HS'.out, rfl, by decide, B2.out⟩
        · have q5b : ((c : Int) == 12) = false := by rw [beq_eq_false_iff_ne]; omega
          by_cases q6 : H = 12
          · subst q6
            have HS' : Hid (Fd.step ⟨c, W, 12, gs, os⟩ b = .inl 4) := by unfold Hid; rw [HS1.out, if_pos (.inr rfl)]
            go_wp2
            go_ret
            exact .inl ⟨4, HS'.out, rfl, by decide, B2.out⟩
          · have q6b : ((H : Int) == 12) = false := by rw [beq_eq_false_iff_ne]; omega
            have HS' : Hid (Fd.step ⟨c, W, H, gs, os⟩ b = .inr ⟨c + 1, W, H, gs ++ [g], os ++ [o]⟩) := by unfold Hid; rw [HS1.out, if_neg (by omega)]
            have gl := K.out.gl
            have ol := K.out.ol
            simp only at gl ol
            have L2 : Hid (z < wc.heap.size) := D2.out.lt
            clear HS1
            go_wp2_with (at_builtin; refine app_int _ rfl _ _ rfl (z + 1) _ gs rfl (T2.out.o1.alloc _) ⟨wc.heap.size, 0, none⟩ g rfl (by simp) (by omega) (by have := L2.out; simp; omega) ?_)
            intro g1 cap1 w3 o3 g3 a3 l3
            have hob : ∀ k, u1.ownBlock = some k → z + 1 ≤ k := fun k hk => (T2.out.o1.block k hk).1
            have b3 : Below (z + 1) wc w3 := ((Below.refl _ _).alloc L2.out _).grown g3 (by have := L2.out; simp; omega) hob
            have D3 : Dt w3 z u1 u2 ⟨c, W, H, gs, os⟩ := D2.out.below b3 (Nat.lt_succ_self _)
            have O3 : Ow w3 (z + 1) u2 os := (T2.out.o2.alloc _).kept g3 (by
              cases hq : u2.ownBlock with
              | none => exact .inl rfl
              | some k => exact .inr (fun e => T2.out.ne k e.symm hq))
            have N3 : Hid (∀ k, u2.ownBlock = some k → k ≠ g1) := by
              intro k hk e
              subst e
              rcases a3 with a3 | a3
              · exact T2.out.ne _ a3 hk
              · have := (T2.out.o2.block _ hk).2
                try simp at a3
                omega
            have K3 : Kp z w3 (w3.setCell ⟨z, 2, none⟩ (.slice (some ⟨g1, 0, none⟩) (gs.length + 1) cap1)) := Kp.set _ _ _
            have T3 : Hid (Two (w3.setCell ⟨z, 2, none⟩ (.slice (some ⟨g1, 0, none⟩) (gs.length + 1) cap1)) (z + 1) (.slice (some ⟨g1, 0, none⟩) (gs.length + 1) cap1) u2 (gs ++ [g]) os) :=
              (show Two w3 (z + 1) (.slice (some ⟨g1, 0, none⟩) (gs.length + 1) cap1) u2 (gs ++ [g]) os from ⟨o3, O3, fun k hk e => N3.out k e (Option.some.inj hk).symm⟩).kp K3 (Nat.lt_succ_self _)
            have D4 : Hid (Dt (w3.setCell ⟨z, 2, none⟩ (.slice (some ⟨g1, 0, none⟩) (gs.length + 1) cap1)) z (.slice (some ⟨g1, 0, none⟩) (gs.length + 1) cap1) u2 ⟨c, W, H, gs ++ [g], os⟩) := by
              unfold Hid Dt
              rw [heap_setCell_same w3 z 2 _ _ _ D3]
              simp
            have B4 : Hid (Below z w1 (w3.setCell ⟨z, 2, none⟩ (.slice (some ⟨g1, 0, none⟩) (gs.length + 1) cap1))) := (B2.out.trans (b3.mono (Nat.le_succ _))).setCell (Nat.le_refl _) _
            have e2 := D3.c2
            have e3 := D3.c3
            have f2 := D3.fz 2
            have z3 : Hid (z < w3.heap.size) := D3.lt
            clear o3 g3 a3 l3 hob b3 D3 O3 K3 c0 c1 c2 c3 c4
            go_wp2_with (at_builtin; refine app_int _ rfl _ _ rfl (z + 1) _ os rfl (T3.out.o2.alloc _) ⟨w3.heap.size, 0, none⟩ o rfl (by rw [World.cell?_alloc_at _ _ _ _ (by simp)]; rfl) (by omega) (by have := z3.out; simp; omega) ?_)
            intro g2 cap2 w5 o5 g5 a5 l5
            have hob : ∀ k, u2.ownBlock = some k → z + 1 ≤ k := fun k hk => (T3.out.o2.block k hk).1
            have b5 : Below (z + 1) (w3.setCell ⟨z, 2, none⟩ (Value.slice (some ⟨g1, 0, none⟩) (gs.length + 1) cap1)) w5 := ((Below.refl _ _).alloc (by have := z3.out; simp; omega) _).grown g5 (by have := z3.out; simp; omega) hob
            have D5 : Dt w5 z (Value.slice (some ⟨g1, 0, none⟩) (gs.length + 1) cap1) u2 ⟨c, W, H, gs ++ [g], os⟩ := D4.out.below b5 (Nat.lt_succ_self _)
            have O5 : Ow w5 (z + 1) (Value.slice (some ⟨g1, 0, none⟩) (gs.length + 1) cap1) (gs ++ [g]) := (T3.out.o1.alloc _).kept g5 (by
              cases hq : (Value.slice (some ⟨g1, 0, none⟩) (gs.length + 1) cap1).ownBlock with
              | none => exact .inl rfl
              | some k => exact .inr (fun e => T3.out.ne k hq e.symm))
            have N5 : Hid (∀ k, (Value.slice (some ⟨g1, 0, none⟩) (gs.length + 1) cap1).ownBlock = some k → k ≠ g2) := by
              intro k hk e
              subst e
              rcases a5 with a5 | a5
              · exact T3.out.ne _ hk a5
              · have := (T3.out.o1.block _ hk).2
                simp at this
                try simp at a5
                omega
            have K5 : Kp z w5 (w5.setCell ⟨z, 3, none⟩ (.slice (some ⟨g2, 0, none⟩) (os.length + 1) cap2)) := Kp.set _ _ _
            have T5 : Hid (Two (w5.setCell ⟨z, 3, none⟩ (.slice (some ⟨g2, 0, none⟩) (os.length + 1) cap2)) (z + 1) (Value.slice (some ⟨g1, 0, none⟩) (gs.length + 1) cap1) (.slice (some ⟨g2, 0, none⟩) (os.length + 1) cap2) (gs ++ [g]) (os ++ [o])) :=
              (show Two w5 (z + 1) (Value.slice (some ⟨g1, 0, none⟩) (gs.length + 1) cap1) (.slice (some ⟨g2, 0, none⟩) (os.length + 1) cap2) (gs ++ [g]) (os ++ [o]) from ⟨O5, o5, fun k hk e => N5.out k hk (Option.some.inj e).symm⟩).kp K5 (Nat.lt_succ_self _)
            have D6 : Hid (Dt (w5.setCell ⟨z, 3, none⟩ (.slice (some ⟨g2, 0, none⟩) (os.length + 1) cap2)) z (Value.slice (some ⟨g1, 0, none⟩) (gs.length + 1) cap1) (.slice (some ⟨g2, 0, none⟩) (os.length + 1) cap2) ⟨c, W, H, gs ++ [g], os ++ [o]⟩) := by
              unfold Hid Dt
              rw [heap_setCell_same w5 z 3 _ _ _ D5]
              simp
            have B6 : Hid (Below z w1 (w5.setCell ⟨z, 3, none⟩ (.slice (some ⟨g2, 0, none⟩) (os.length + 1) cap2))) := (B4.out.trans (b5.mono (Nat.le_succ _))).setCell (Nat.le_refl _) _
            have e4 : w5.cell? ⟨z, 3, none⟩ = some u2 := D5.c3
            have e5 : w5.cell? ⟨z, 4, none⟩ = some (.int .i64 (c : Nat)) := D5.c4
            have f3 := D5.fz 3
            have f4 := D5.fz 4
            clear o5 g5 a5 l5 hob b5 D5 O5 K5 e2 e3 f2
            go_wp2
            go_ret
            refine .inr ⟨_, HS'.out, rfl, ⟨(Value.slice (some ⟨g1, 0, none⟩) (gs.length + 1) cap1), (Value.slice (some ⟨g2, 0, none⟩) (os.length + 1) cap2), ?_, T5.out.kp (Kp.set _ _ _) (Nat.lt_succ_self _)⟩, B6.out.setCell (Nat.le_refl _) _⟩
            unfold Dt
            rw [heap_setCell_same _ z 4 _ _ _ D6.out]
            simp
  · have HS : Hid (Fd.step s b = .inl 2) := step_none HB.out hm
    go_wp2_with fail
    go_quiet (fail)
    go_wp2
    go_ret
    exact .inl ⟨2, HS.out, rfl, by decide, _root_.Go.below_drewN (Below.refl _ _) _⟩
end Go.Proofs.YtplnhgllbhdfjaaDoor

