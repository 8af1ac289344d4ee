/- The reference's Move: along moves that are told. · Plain mathematics on integers: roots, floors, signs. No program stands in it. -/
import Derived.Test.YteieikgkmfglaaaGreatDoorZTurnGives18
import Derived.Test.YteieikgkmfglaaaGreatDoorZTurnGives5
import Derived.Test.YteieikgkmfglaaaGreatDoorZTurnGives10
import Derived.Test.YteieikgkmfglaaaGreatDoorZTurnGives9
import Derived.Test.YteieikgkmfglaaaGreatDoorZTurnGives15
import Derived.Test.YteieikgkmfglaaaGreatDoorRows
import Derived.WalkKit
import Derived.WalkSpells
import Derived.WalkLawsBesides
import Derived.KernelRfl
namespace Go.Proofs.YteieikgkmfglaaaGreatDoor
open Go.RowKit Wy
set_option linter.unusedVariables false

theorem gb_lowm {a b c : World} {r : Option Nat} {B : Nat} (h : a.grownBy b r) (k : Below B b c) (hB : a.heap.size ≤ B) : a.grownBy c r :=
  ⟨k.os.trans h.os, k.tape.trans h.tape, k.output.trans h.output, Nat.le_trans h.size k.size, fun i hi hn => (k.block i (by omega)).trans (h.block i hi hn)⟩
theorem below_gbm {w V V' : World} {n : Nat} {r : Option Nat} (h : Below n w V) (k : V.grownBy V' r) (hn : n ≤ V.heap.size) (hr : ∀ b, r = some b → n ≤ b) : Below n w V' :=
  ⟨k.os.trans h.os, k.tape.trans h.tape, k.output.trans h.output, Nat.le_trans h.size k.size, fun i hi => (k.block i (by omega) (fun e => by have := hr _ e.symm; omega)).trans (h.block i hi)⟩
theorem Wx.gb {w w' : World} {z : Nat} {c0 c1 c2 c3 c4 c5 c6 c7 c8 : Value} {r : Option Nat} (h : Wx w z c0 c1 c2 c3 c4 c5 c6 c7 c8) (k : w.grownBy w' r) (hn : r ≠ some z) : Wx w' z c0 c1 c2 c3 c4 c5 c6 c7 c8 := (k.block z h.lt (Ne.symm hn)).trans h
/-- units that may wish. -/
def Fins (ks : List KV) (N : Nat) (us : List UnV) : Prop := ∀ (j : Nat) (v : UnV), us[j]? = some v → ∃ k, ks[v.kind.toNat]? = some k ∧ Fit ks N v ∧ (0 ≤ v.goal ∧ v.goal < (N : Int)) ∧ (0 ≤ v.task ∧ v.task ≤ 2) ∧ v.load ≤ k.n7
theorem Fins.fits {ks : List KV} {N : Nat} {us : List UnV} (h : Fins ks N us) : ∀ v ∈ us, Fit ks N v := fun v hv => by
  obtain ⟨j, hj⟩ := List.mem_iff_getElem?.1 hv
  obtain ⟨k, -, h1, -⟩ := h j v hj
  exact h1
theorem Fins.set {ks : List KV} {N : Nat} {us : List UnV} (h : Fins ks N us) {i : Nat} {v : UnV} (hv : ∃ k, ks[v.kind.toNat]? = some k ∧ Fit ks N v ∧ (0 ≤ v.goal ∧ v.goal < (N : Int)) ∧ (0 ≤ v.task ∧ v.task ≤ 2) ∧ v.load ≤ k.n7) : Fins ks N (us.set i v) := fun j x hj => by
  rw [List.getElem?_set] at hj
  split at hj
  · split at hj
    · injection hj with hj; subst hj; exact hv
    · cases hj
  · exact h j x hj
theorem set_same {us : List UnV} {n : Nat} {u : UnV} (h : us[n]? = some u) : us.set n u = us := by
  obtain ⟨hi, e⟩ := List.getElem?_eq_some_iff.1 h
  rw [← e]
  exact List.set_getElem_self hi
theorem fins_start {ks : List KV} {X : WV} {Wn Hn : Nat} (h : WRight ks X) (G : Fd.Good Wn Hn X.gs X.os) : Fins ks (Wn * Hn) X.us := fun j v hj => by
  obtain ⟨k, f⟩ := h.fine hj
  have h1 := f.at_
  have h2 := f.goal
  rw [G.gl] at h1 h2
  exact ⟨k, f.kk, ⟨f.k0, h1⟩, h2, f.task, f.load.2⟩
theorem fst_low {q : UnV → Bool} {us : List UnV} {r : Int} (h : FstU q us r) : (us.any q = true ∧ 0 ≤ r) ∨ (us.any q = false ∧ r = -1) := by
  rcases h with ⟨h1, h2⟩ | ⟨k, x, h1, h2, h3, -⟩
  · exact .inr ⟨h2, h1⟩
  · exact .inl ⟨List.any_eq_true.2 ⟨x, List.mem_of_getElem? h2, h3⟩, by omega⟩
theorem onto_le {W H : Nat} {gs os : List Int} (G : Fd.Good W H gs os) {c : Nat} {gg : Int} (h : gs[c]? = some gg) : 0 ≤ gg ∧ gg ≤ 3 ∧ c < W * H := by
  have hc : c < gs.length := (List.getElem?_eq_some_iff.1 h).1
  obtain ⟨o, ho⟩ : ∃ o, os[c]? = some o := ⟨_, List.getElem?_eq_getElem (by rw [G.ol, ← G.gl]; exact hc)⟩
  have := G.cell c gg o h ho
  exact ⟨this.1, this.2.1, by rw [← G.gl]; exact hc⟩
set_option maxRecDepth 100000 in
set_option maxHeartbeats 40000000 in
theorem rmove_any (vk vw : Value) (ks : List KV) (X : WV) (Wn Hn : Nat) (us' : List UnV) (evs : List EvV) (w : World) (hk : Kl w vk ks) (hw : Wl w vw X) (WR0 : WRight ks X) (G0 : Fd.Good Wn Hn X.gs X.os) (e10 : X.wide = (Wn : Nat)) (e20 : X.high = (Hn : Nat)) (hm : Moves ks X Wn Hn 0 X.us evs us') :
    Calls Tryz.prog 48 #[vk, vw] w fun e w' => ∃ v ev, e = .returned (.tuple #[v, ev]) ∧ Wo w' w.heap.size v { X with us := us' } ∧ Evo w' w.heap.size ev evs ∧ Below w.heap.size w w' := by
  have WR : Hid (WRight ks X) := WR0
  have GD : Hid (Fd.Good Wn Hn X.gs X.os ∧ X.wide = (Wn : Nat) ∧ X.high = (Hn : Nat) ∧ X.gs.length ≤ 144 ∧ X.us.length ≤ 40) := ⟨G0, e10, e20, by rw [G0.gl]; exact G0.pos.2, WR0.ul⟩
  have MV : Hid (Moves ks X Wn Hn 0 X.us evs us') := hm
  have F0 : Hid (Fins ks (Wn * Hn) X.us) := fins_start WR0 G0
  have K : Hid (Kl w vk ks) := hk
  have H : Hid (Wl w vw X) := hw
  obtain ⟨p1, s1, p2, s2, p3, s3, p4, s4, p5, s5, rfl⟩ := wl_shape9 hw
  obtain ⟨pk, qk, rfl, ck1, ck2, kc⟩ := hk
  have KC : Hid (ks ≠ [] → ∃ x, pk = some x ∧ x.block < w.heap.size ∧ ∀ (i : Nat) k, ks[i]? = some k → Kc w (x.add (i * 11)) k) := kc
  clear hw hm WR0 G0 e10 e20 kc
  have B0 : Hid (Below w.heap.size w ((w.alloc (Obj.cells #[.int .i64 X.turn, .int .i64 X.next, .int .i64 X.wide, .int .i64 X.high, .slice p1 X.gs.length s1, .slice p2 X.os.length s2, .slice p3 X.gold.length s3, .slice p4 X.us.length s4, .slice p5 X.qs.length s5] 29)).alloc (Obj.cells #[.int .i64 0, .int .i64 0, .int .i64 0, .int .i64 0, .slice none 0 0, .slice none 0 0, .slice none 0 0, .slice none 0 0, .slice none 0 0] 29))) := ((Below.refl _ _).alloc (Nat.le_refl _) _).alloc (by simp) _
  have X0 : Hid (Wx ((w.alloc (Obj.cells #[.int .i64 X.turn, .int .i64 X.next, .int .i64 X.wide, .int .i64 X.high, .slice p1 X.gs.length s1, .slice p2 X.os.length s2, .slice p3 X.gold.length s3, .slice p4 X.us.length s4, .slice p5 X.qs.length s5] 29)).alloc (Obj.cells #[.int .i64 0, .int .i64 0, .int .i64 0, .int .i64 0, .slice none 0 0, .slice none 0 0, .slice none 0 0, .slice none 0 0, .slice none 0 0] 29)) w.heap.size (.int .i64 X.turn) (.int .i64 X.next) (.int .i64 X.wide) (.int .i64 X.high) (.slice p1 X.gs.length s1) (.slice p2 X.os.length s2) (.slice p3 X.gold.length s3) (.slice p4 X.us.length s4) (.slice p5 X.qs.length s5)) := (Wx.new _ _ _ _ _ _ _ _ _ rfl).below ((Below.refl _ _).alloc (Nat.le_refl _) _) (by simp)
  have R0 : Hid (Wx ((w.alloc (Obj.cells #[.int .i64 X.turn, .int .i64 X.next, .int .i64 X.wide, .int .i64 X.high, .slice p1 X.gs.length s1, .slice p2 X.os.length s2, .slice p3 X.gold.length s3, .slice p4 X.us.length s4, .slice p5 X.qs.length s5] 29)).alloc (Obj.cells #[.int .i64 0, .int .i64 0, .int .i64 0, .int .i64 0, .slice none 0 0, .slice none 0 0, .slice none 0 0, .slice none 0 0, .slice none 0 0] 29)) (w.heap.size + 1) (.int .i64 0) (.int .i64 0) (.int .i64 0) (.int .i64 0) (.slice none 0 0) (.slice none 0 0) (.slice none 0 0) (.slice none 0 0) (.slice none 0 0)) := Wx.new _ _ _ _ _ _ _ _ _ (by simp)
  go_enter Tryz.func48, Tryz.ntmps48
  go_upto_region 1 with fail
  generalize ((w.alloc (Obj.cells #[.int .i64 X.turn, .int .i64 X.next, .int .i64 X.wide, .int .i64 X.high, .slice p1 X.gs.length s1, .slice p2 X.os.length s2, .slice p3 X.gold.length s3, .slice p4 X.us.length s4, .slice p5 X.qs.length s5] 29)).alloc (Obj.cells #[.int .i64 0, .int .i64 0, .int .i64 0, .int .i64 0, .slice none 0 0, .slice none 0 0, .slice none 0 0, .slice none 0 0, .slice none 0 0] 29)) = w0 at *
  obtain ⟨x0, x1, x2, x3, x4, x5, x6, x7, x8⟩ := X0.out.cells
  go_wp2_with fail
  refine (rcopy_any _ X w0 (H.out.below B0.out) WR.out.len).mono ?_
  rintro e w1 ⟨cu, rfl, ⟨k1, k2, k3, k4, k5, rfl, ⟨o1, o2, o3, o4, o5⟩, -, -, d14, -, -, d24, -, d34, -, d45⟩, hb⟩
  obtain ⟨a1, r1, rfl⟩ := o1.len
  obtain ⟨a2, r2, rfl⟩ := o2.len
  obtain ⟨a3, r3, rfl⟩ := o3.len
  obtain ⟨a4, r4, rfl⟩ := o4.len
  obtain ⟨a5, r5, rfl⟩ := o5.len
  obtain ⟨b1, hb1⟩ : ∃ z, w0.heap.size = z := ⟨_, rfl⟩
  rw [hb1] at o1 o2 o3 o4 o5
  have BS : Hid (w.heap.size + 1 < b1) := by unfold Hid; rw [← hb1]; exact R0.out.lt
  have B1 : Hid (Below w.heap.size w w1) := B0.out.trans (hb.mono B0.out.size)
  have X1 : Hid (Wx w1 w.heap.size (.int .i64 X.turn) (.int .i64 X.next) (.int .i64 X.wide) (.int .i64 X.high) (.slice p1 X.gs.length s1) (.slice p2 X.os.length s2) (.slice p3 X.gold.length s3) (.slice p4 X.us.length s4) (.slice p5 X.qs.length s5)) := X0.out.below hb X0.out.lt
  have R1 : Hid (Wx w1 (w.heap.size + 1) (.int .i64 0) (.int .i64 0) (.int .i64 0) (.int .i64 0) (.slice none 0 0) (.slice none 0 0) (.slice none 0 0) (.slice none 0 0) (.slice none 0 0)) := R0.out.below hb R0.out.lt
  have O1 : Hid (Ow w1 b1 (.slice a1 X.gs.length r1) X.gs ∧ Ow w1 b1 (.slice a2 X.os.length r2) X.os ∧ Ow w1 b1 (.slice a3 X.gold.length r3) X.gold ∧ Jbo w1 b1 (.slice a5 X.qs.length r5) X.qs) := ⟨o1, o2, o3, o5⟩
  have U1 : Hid (Uno w1 b1 (.slice a4 X.us.length r4) X.us) := o4
  have DD : Hid (Dif (.slice a1 X.gs.length r1) (.slice a4 X.us.length r4) ∧ Dif (.slice a2 X.os.length r2) (.slice a4 X.us.length r4) ∧ Dif (.slice a3 X.gold.length r3) (.slice a4 X.us.length r4) ∧ Dif (.slice a4 X.us.length r4) (.slice a5 X.qs.length r5)) := ⟨d14, d24, d34, d45⟩
  clear hb hb1 x0 x1 x2 x3 x4 x5 x6 x7 x8 o1 o2 o3 o4 o5 d14 d24 d34 d45 B0 X0 R0
  obtain ⟨z0, z1, z2, z3, z4, z5, z6, z7, z8⟩ := X1.out.cells
  obtain ⟨t0, t1, t2, t3, t4, t5, t6, t7, t8⟩ := X1.out.thaws
  have KZ : Hid (Kp w.heap.size w1 (((((((((w1.setCell ⟨w.heap.size, 0, none⟩ (.int .i64 X.turn)).setCell ⟨w.heap.size, 1, none⟩ (.int .i64 X.next)).setCell ⟨w.heap.size, 2, none⟩ (.int .i64 X.wide)).setCell ⟨w.heap.size, 3, none⟩ (.int .i64 X.high)).setCell ⟨w.heap.size, 4, none⟩ (.slice a1 X.gs.length r1)).setCell ⟨w.heap.size, 5, none⟩ (.slice a2 X.os.length r2)).setCell ⟨w.heap.size, 6, none⟩ (.slice a3 X.gold.length r3)).setCell ⟨w.heap.size, 7, none⟩ (.slice a4 X.us.length r4)).setCell ⟨w.heap.size, 8, none⟩ (.slice a5 X.qs.length r5))) := put_kp _ _ _ _ _ _ _ _ _ _ _
  have X2 : Hid (Wx (((((((((w1.setCell ⟨w.heap.size, 0, none⟩ (.int .i64 X.turn)).setCell ⟨w.heap.size, 1, none⟩ (.int .i64 X.next)).setCell ⟨w.heap.size, 2, none⟩ (.int .i64 X.wide)).setCell ⟨w.heap.size, 3, none⟩ (.int .i64 X.high)).setCell ⟨w.heap.size, 4, none⟩ (.slice a1 X.gs.length r1)).setCell ⟨w.heap.size, 5, none⟩ (.slice a2 X.os.length r2)).setCell ⟨w.heap.size, 6, none⟩ (.slice a3 X.gold.length r3)).setCell ⟨w.heap.size, 7, none⟩ (.slice a4 X.us.length r4)).setCell ⟨w.heap.size, 8, none⟩ (.slice a5 X.qs.length r5)) w.heap.size (.int .i64 X.turn) (.int .i64 X.next) (.int .i64 X.wide) (.int .i64 X.high) (.slice a1 X.gs.length r1) (.slice a2 X.os.length r2) (.slice a3 X.gold.length r3) (.slice a4 X.us.length r4) (.slice a5 X.qs.length r5)) := X1.out.put (.int .i64 X.turn) (.int .i64 X.next) (.int .i64 X.wide) (.int .i64 X.high) (.slice a1 X.gs.length r1) (.slice a2 X.os.length r2) (.slice a3 X.gold.length r3) (.slice a4 X.us.length r4) (.slice a5 X.qs.length r5)
  go_upto_region 2 with fail
  clear z0 z1 z2 z3 z4 z5 z6 z7 z8 t0 t1 t2 t3 t4 t5 t6 t7 t8
  generalize (((((((((w1.setCell ⟨w.heap.size, 0, none⟩ (.int .i64 X.turn)).setCell ⟨w.heap.size, 1, none⟩ (.int .i64 X.next)).setCell ⟨w.heap.size, 2, none⟩ (.int .i64 X.wide)).setCell ⟨w.heap.size, 3, none⟩ (.int .i64 X.high)).setCell ⟨w.heap.size, 4, none⟩ (.slice a1 X.gs.length r1)).setCell ⟨w.heap.size, 5, none⟩ (.slice a2 X.os.length r2)).setCell ⟨w.heap.size, 6, none⟩ (.slice a3 X.gold.length r3)).setCell ⟨w.heap.size, 7, none⟩ (.slice a4 X.us.length r4)).setCell ⟨w.heap.size, 8, none⟩ (.slice a5 X.qs.length r5)) = w2 at *
  have R2 : Hid (Wx w2 (w.heap.size + 1) (.int .i64 0) (.int .i64 0) (.int .i64 0) (.int .i64 0) (.slice none 0 0) (.slice none 0 0) (.slice none 0 0) (.slice none 0 0) (.slice none 0 0)) := R1.out.kp KZ.out (by omega)
  have B2 : Hid (Below w.heap.size w w2) := KZ.out.below B1.out B1.out.size (Nat.le_refl _)
  have O2 : Hid (Ow w2 b1 (.slice a1 X.gs.length r1) X.gs ∧ Ow w2 b1 (.slice a2 X.os.length r2) X.os ∧ Ow w2 b1 (.slice a3 X.gold.length r3) X.gold ∧ Jbo w2 b1 (.slice a5 X.qs.length r5) X.qs) := by
    have h := BS.out
    exact ⟨O1.out.1.kp KZ.out (by omega), O1.out.2.1.kp KZ.out (by omega), O1.out.2.2.1.kp KZ.out (by omega), O1.out.2.2.2.kp KZ.out (by omega)⟩
  have U2 : Hid (Uno w2 b1 (.slice a4 X.us.length r4) X.us) := U1.out.kp KZ.out (by have := BS.out; omega)
  obtain ⟨b2, hb2⟩ : ∃ z, w2.heap.size = z := ⟨_, rfl⟩
  have LU : Hid ((∀ b, (Value.slice a4 X.us.length r4).ownBlock = some b → b1 ≤ b ∧ b < b2) ∧ w2.heap.size = b2 ∧ w.heap.size + 1 < b2) := by
    refine ⟨?_, hb2, ?_⟩
    · rw [← hb2]; exact World.ownsRow.lt U2.out
    · rw [← hb2]; exact R2.out.lt
  clear KZ hb2 B1 X1 R1 O1 U1
  go_upto_region 4 with fail
  go_loopw [6, 7] (fun v6 v7 V => ∃ (n : Nat) (ev : Value) (us : List UnV) (es rest : List EvV), v7 = .int .i64 (n : Nat) ∧ ev = v6 ∧ n ≤ X.us.length ∧ us.length = X.us.length ∧ Moves ks X Wn Hn n us rest us' ∧ es ++ rest = evs ∧ Fins ks (Wn * Hn) us ∧ Uno V b1 (.slice a4 X.us.length r4) us ∧ Evo V b2 ev es ∧ es.length ≤ 4 * n ∧ w2.grownBy V (Value.slice a4 X.us.length r4).ownBlock) (fun _ v7 _ => X.us.length - (intOf v7).toNat)
  case atStart => exact ⟨0, _, X.us, [], evs, rfl, rfl, Nat.zero_le _, rfl, MV.out, rfl, F0.out, U2.out, Evo.nil _ _, Nat.zero_le _, gb_below (Below.refl _ _)⟩
  case round =>
    obtain ⟨n, ev, us, es, rest, rfl, rfl, hn, hlen, hmv, hee, hfi, hun, hev, hel, hgb⟩ := hrel
    have ME : Hid (Moves ks X Wn Hn n us rest us' ∧ es ++ rest = evs ∧ us.length = X.us.length ∧ es.length ≤ 4 * n) := ⟨hmv, hee, hlen, hel⟩
    have FI0 : Hid (Fins ks (Wn * Hn) us) := hfi
    have UR : Hid (Uno wr b1 (.slice a4 X.us.length r4) us) := hun
    have ER : Hid (Evo wr b2 ev es) := hev
    have KR : Hid (w2.grownBy wr (Value.slice a4 X.us.length r4).ownBlock) := hgb
    have XR : Hid (Wx wr w.heap.size (.int .i64 X.turn) (.int .i64 X.next) (.int .i64 X.wide) (.int .i64 X.high) (.slice a1 X.gs.length r1) (.slice a2 X.os.length r2) (.slice a3 X.gold.length r3) (.slice a4 X.us.length r4) (.slice a5 X.qs.length r5)) := X2.out.gb hgb (fun e => by have := LU.out.1 _ e; have := BS.out; omega)
    clear hlen hmv hee hfi hun hev hel hgb
    have x7 := XR.out.cells.2.2.2.2.2.2.2.1
    by_cases h0 : n = X.us.length
    · subst h0
      have hnn : ¬ (((X.us.length : Nat) : Int) < (X.us.length : Nat)) := by omega
      have FE : Hid (us' = us ∧ evs = es) := by
        rcases moves_cases ME.out.1 with ⟨-, h2, h3⟩ | ⟨u, u1, k, cells, us1, evs', hu, -⟩
        · refine ⟨h3, ?_⟩
          rw [← ME.out.2.1, h2, List.append_nil]
        · have := (List.getElem?_eq_some_iff.1 hu).1
          have := ME.out.2.2.1
          omega
      have RR : Hid (Wx wr (w.heap.size + 1) (.int .i64 0) (.int .i64 0) (.int .i64 0) (.int .i64 0) (.slice none 0 0) (.slice none 0 0) (.slice none 0 0) (.slice none 0 0) (.slice none 0 0)) := R2.out.gb KR.out (fun e => by have := LU.out.1 _ e; have := BS.out; omega)
      have BR : Hid (Below w.heap.size w wr) := below_gbm B2.out KR.out B2.out.size (fun b e => by have := LU.out.1 _ e; have := BS.out; omega)
      have OR : Hid (Ow wr b1 (.slice a1 X.gs.length r1) X.gs ∧ Ow wr b1 (.slice a2 X.os.length r2) X.os ∧ Ow wr b1 (.slice a3 X.gold.length r3) X.gold ∧ Jbo wr b1 (.slice a5 X.qs.length r5) X.qs) := ⟨own_gb O2.out.1 KR.out (fun b h1 h2 => DD.out.1 b h1 h2), own_gb O2.out.2.1 KR.out (fun b h1 h2 => DD.out.2.1 b h1 h2), own_gb O2.out.2.2.1 KR.out (fun b h1 h2 => DD.out.2.2.1 b h1 h2), own_gb O2.out.2.2.2 KR.out (fun b h1 h2 => DD.out.2.2.2 b h2 h1)⟩
      clear x7
      obtain ⟨x0, x1, x2, x3, x4, x5, x6, x7, x8⟩ := XR.out.cells
      obtain ⟨z0, z1, z2, z3, z4, z5, z6, z7, z8⟩ := RR.out.cells
      obtain ⟨t0, t1, t2, t3, t4, t5, t6, t7, t8⟩ := RR.out.thaws
      have KZ : Hid (Kp (w.heap.size + 1) wr (((((((((wr.setCell ⟨w.heap.size + 1, 0, none⟩ (.int .i64 X.turn)).setCell ⟨w.heap.size + 1, 1, none⟩ (.int .i64 X.next)).setCell ⟨w.heap.size + 1, 2, none⟩ (.int .i64 X.wide)).setCell ⟨w.heap.size + 1, 3, none⟩ (.int .i64 X.high)).setCell ⟨w.heap.size + 1, 4, none⟩ (.slice a1 X.gs.length r1)).setCell ⟨w.heap.size + 1, 5, none⟩ (.slice a2 X.os.length r2)).setCell ⟨w.heap.size + 1, 6, none⟩ (.slice a3 X.gold.length r3)).setCell ⟨w.heap.size + 1, 7, none⟩ (.slice a4 X.us.length r4)).setCell ⟨w.heap.size + 1, 8, none⟩ (.slice a5 X.qs.length r5))) := put_kp _ _ _ _ _ _ _ _ _ _ _
      obtain ⟨y0, y1, y2, y3, y4, y5, y6, y7, y8⟩ := (RR.out.put (.int .i64 X.turn) (.int .i64 X.next) (.int .i64 X.wide) (.int .i64 X.high) (.slice a1 X.gs.length r1) (.slice a2 X.os.length r2) (.slice a3 X.gold.length r3) (.slice a4 X.us.length r4) (.slice a5 X.qs.length r5)).cells
      go_wp2
      clear x0 x1 x2 x3 x4 x5 x6 x7 x8 z0 z1 z2 z3 z4 z5 z6 z7 z8 t0 t1 t2 t3 t4 t5 t6 t7 t8
      generalize (((((((((wr.setCell ⟨w.heap.size + 1, 0, none⟩ (.int .i64 X.turn)).setCell ⟨w.heap.size + 1, 1, none⟩ (.int .i64 X.next)).setCell ⟨w.heap.size + 1, 2, none⟩ (.int .i64 X.wide)).setCell ⟨w.heap.size + 1, 3, none⟩ (.int .i64 X.high)).setCell ⟨w.heap.size + 1, 4, none⟩ (.slice a1 X.gs.length r1)).setCell ⟨w.heap.size + 1, 5, none⟩ (.slice a2 X.os.length r2)).setCell ⟨w.heap.size + 1, 6, none⟩ (.slice a3 X.gold.length r3)).setCell ⟨w.heap.size + 1, 7, none⟩ (.slice a4 X.us.length r4)).setCell ⟨w.heap.size + 1, 8, none⟩ (.slice a5 X.qs.length r5)) = wz at *
      refine bodyPost_ret (v := .tuple #[.agg #[.int .i64 X.turn, .int .i64 X.next, .int .i64 X.wide, .int .i64 X.high, .slice a1 X.gs.length r1, .slice a2 X.os.length r2, .slice a3 X.gold.length r3, .slice a4 X.us.length r4, .slice a5 X.qs.length r5], ev]) (by simp [results, Tryz.results48, go_sem, y0, y1, y2, y3, y4, y5, y6, y7, y8]) rfl ⟨_, _, rfl, ?_, ?_, KZ.out.below BR.out BR.out.size (by omega)⟩
      · have h := BS.out
        rw [FE.out.1]
        exact ⟨_, _, _, _, _, rfl, (OR.out.1.kp KZ.out (by omega)).mono (by omega), (OR.out.2.1.kp KZ.out (by omega)).mono (by omega), (OR.out.2.2.1.kp KZ.out (by omega)).mono (by omega), (UR.out.kp KZ.out (by omega)).mono (by omega), (OR.out.2.2.2.kp KZ.out (by omega)).mono (by omega)⟩
      · have h := BS.out
        have h' := LU.out.2.2
        rw [FE.out.2]
        exact (ER.out.kp9 KZ.out (by omega)).mono (by omega)
    · have hnl : n < X.us.length := by omega
      have hni : ((n : Nat) : Int) < (X.us.length : Nat) := by omega
      have HN : Hid (n < X.us.length) := hnl
      have WN : IntKind.i64.wrap ((n : Nat) + 1 : Int) = ((n : Nat) : Int) + 1 := by have := GD.out.2.2.2.2; rw [IntKind.wrap_i64]; omega
      obtain ⟨u, u1, k, cells, us1, evs', hu, hkk, hgo, hu1, hmv, hevs⟩ : ∃ (u u1 : UnV) (k : KV) (cells : List Int) (us1 : List UnV) (evs' : List EvV), us[n]? = some u ∧ ks[u.kind.toNat]? = some k ∧ Goes ks X Wn Hn k n us k.n4 cells us1 ∧ us1[n]? = some u1 ∧ Moves ks X Wn Hn (n + 1) (us1.set n (ends u1)) evs' us' ∧ rest = cells.map (fun c => (⟨1, u.id, c⟩ : EvV)) ++ evs' := by
        rcases moves_cases ME.out.1 with ⟨h1, -⟩ | h
        · have := ME.out.2.2.1; omega
        · exact h
      have MN : Hid (Moves ks X Wn Hn (n + 1) (us1.set n (ends u1)) evs' us' ∧ us1[n]? = some u1 ∧ (es ++ cells.map (fun c => (⟨1, u.id, c⟩ : EvV))) ++ evs' = evs) := ⟨hmv, hu1, by rw [← ME.out.2.1, hevs, List.append_assoc]⟩
      have GO : Hid (Goes ks X Wn Hn k n us k.n4 cells us1) := hgo
      have kN := kind_nums WR.out.kinds (List.mem_of_getElem? hkk)
      have KN4 : Hid (0 ≤ k.n4 ∧ k.n4 ≤ 4) := ⟨kN.2.2.1, kN.2.2.2.1⟩
      obtain ⟨k0, -, hft, -⟩ := FI0.out n u hu
      obtain ⟨kn, hkn⟩ : ∃ a : Nat, u.kind = a := ⟨u.kind.toNat, by have := hft.1.1; omega⟩
      have hk2 : ks[kn]? = some k := by have := hkk; rw [hkn] at this; exact this
      have hkl : kn < ks.length := (List.getElem?_eq_some_iff.1 hk2).1
      have hki : ((kn : Nat) : Int) < (ks.length : Nat) := by omega
      have HK : Hid (u.kind = (kn : Nat) ∧ ks[u.kind.toNat]? = some k) := ⟨hkn, hkk⟩
      obtain ⟨xk, hxk, hxl, hxc⟩ := KC.out (by intro h; rw [h] at hkl; simp at hkl)
      subst hxk
      have KK : Hid (Kc w (xk.add (kn * 11)) k ∧ (xk.add (kn * 11)).block < w.heap.size) := ⟨hxc kn k hk2, by rw [add_block]; exact hxl⟩
      obtain ⟨g, rest', hgu, hg0, hgb⟩ : ∃ g rest', Ub wr g us rest' ∧ a4 = some ⟨g, 0, none⟩ ∧ X.us.length ≤ r4 ∧ r4 ≤ maxLen ∧ X.us.length * 8 + rest'.length = r4 * 8 := by
        rcases UR.out.ub with ⟨h1, h2⟩ | ⟨g, cap, rest', h1, -, h3, h4, h5, h6⟩
        · have := ME.out.2.2.1
          rw [h2] at this
          simp at this
          omega
        · injection h1 with h1 h1' h1''
          subst h1''
          refine ⟨g, rest', h6, h1, ?_⟩
          rw [ME.out.2.2.1] at h3 h5
          exact ⟨h3, h4, h5⟩
      subst hg0
      have GB : Hid ((b1 ≤ g ∧ g < b2) ∧ (X.us.length ≤ r4 ∧ r4 ≤ maxLen ∧ X.us.length * 8 + rest'.length = r4 * 8)) := ⟨LU.out.1 g rfl, hgb⟩
      have UB : Hid (Ub wr g us rest') := hgu
      have KRg : Hid (w2.grownBy wr (some g)) := KR.out
      have U0I : Hid (us[n]? = some u) := hu
      have BR0 : Below w.heap.size w wr := below_gbm B2.out KR.out B2.out.size (fun b e => by have := LU.out.1 _ e; have := BS.out; omega)
      have c2 := (hgu.unc hu).c2
      rw [hkn] at c2
      have z5 := (KK.out.1.below BR0 KK.out.2).c5
      clear hmv hevs hgo kN hu1 hft hkn hk2 hkk hkl hxl hxc hgu hgb UR KR BR0 hu
      go_upto_region 8 with fail
      clear x7 c2 z5
      go_loopw [6, 8, 9] (fun v6 v8 v9 V => ∃ (ev : Value) (left : Int) (us2 : List UnV) (es2 : List EvV) (cells2 : List Int) (b : Bool), ev = v6 ∧ v8 = .int .i64 left ∧ v9 = .bool b ∧ 0 ≤ left ∧ us2.length = X.us.length ∧ ((b = true ∧ Goes ks X Wn Hn k n us2 left cells2 us1) ∨ (b = false ∧ us2 = us1 ∧ cells2 = [])) ∧ es2 ++ cells2.map (fun c => (⟨1, u.id, c⟩ : EvV)) = es ++ cells.map (fun c => (⟨1, u.id, c⟩ : EvV)) ∧ (es2.length : Int) + left ≤ 4 * (n : Nat) + 4 ∧ Fins ks (Wn * Hn) us2 ∧ (∃ u2, us2[n]? = some u2 ∧ u2.id = u.id ∧ u2.kind = u.kind) ∧ Ub V g us2 rest' ∧ Evo V b2 ev es2 ∧ w2.grownBy V (some g)) (fun _ v8 v9 _ => (intOf v8).toNat * 2 + one v9)
      case atStart => exact ⟨_, k.n4, us, es, cells, true, rfl, rfl, rfl, KN4.out.1, ME.out.2.2.1, .inl ⟨rfl, GO.out⟩, rfl, by have := ME.out.2.2.2; have := KN4.out.2; omega, FI0.out, ⟨u, U0I.out, rfl, rfl⟩, UB.out, ER.out, KRg.out⟩
      case round =>
        obtain ⟨ev, left, us2, es2, cells2, b, rfl, rfl, rfl, hlf, hl2, hph, hee, heb, hfi, ⟨u2, hu2, hid, hkd⟩, hub, hev, hgb⟩ := hrel
        clear UB ER KRg XR
        have LF : Hid (0 ≤ left) := hlf
        have LN2 : Hid (us2.length = X.us.length) := hl2
        have EE : Hid (es2 ++ cells2.map (fun c => (⟨1, u.id, c⟩ : EvV)) = es ++ cells.map (fun c => (⟨1, u.id, c⟩ : EvV))) := hee
        have EB : Hid ((es2.length : Int) + left ≤ 4 * (n : Nat) + 4) := heb
        have FI : Hid (Fins ks (Wn * Hn) us2) := hfi
        have U2I : Hid (us2[n]? = some u2) := hu2
        have UID : Hid (u2.id = u.id ∧ u2.kind = u.kind) := ⟨hid, hkd⟩
        have UR : Hid (Ub wr g us2 rest') := hub
        have ER : Hid (Evo wr b2 ev es2) := hev
        have KR : Hid (w2.grownBy wr (some g)) := hgb
        have XR : Hid (Wx wr w.heap.size (.int .i64 X.turn) (.int .i64 X.next) (.int .i64 X.wide) (.int .i64 X.high) (.slice a1 X.gs.length r1) (.slice a2 X.os.length r2) (.slice a3 X.gold.length r3) (.slice (some ⟨g, 0, none⟩) X.us.length r4) (.slice a5 X.qs.length r5)) := X2.out.gb hgb (fun e => by have := Option.some.inj e; have := GB.out.1; have := BS.out; omega)
        have BR : Hid (Below w.heap.size w wr) := below_gbm B2.out hgb B2.out.size (fun b e => by have := Option.some.inj e; have := GB.out.1; have := BS.out; omega)
        have OT : Hid (∀ V, w2.grownBy V (some g) → ∀ us2 : List UnV, us2.length = X.us.length → Ub V g us2 rest' → Wl V (.agg #[.int .i64 X.turn, .int .i64 X.next, .int .i64 X.wide, .int .i64 X.high, .slice a1 X.gs.length r1, .slice a2 X.os.length r2, .slice a3 X.gold.length r3, .slice (some ⟨g, 0, none⟩) X.us.length r4, .slice a5 X.qs.length r5]) { X with us := us2 }) := fun V hV us2 hl hu => by
          have h1 := own_gb O2.out.1 hV (fun b h1 h2 => DD.out.1 b h1 h2)
          have h2 := own_gb O2.out.2.1 hV (fun b h1 h2 => DD.out.2.1 b h1 h2)
          have h3 := own_gb O2.out.2.2.1 hV (fun b h1 h2 => DD.out.2.2.1 b h1 h2)
          have h5 := own_gb O2.out.2.2.2 hV (fun b h1 h2 => DD.out.2.2.2 b h2 h1)
          have h4 := hu.uno (base := b1) (cap := r4) GB.out.1.1 (by rw [hl]; exact GB.out.2.1) GB.out.2.2.1 (by rw [hl]; exact GB.out.2.2.2)
          rw [hl] at h4
          exact ⟨_, _, _, _, _, rfl, Ow.ro h1, Ow.ro h2, Ow.ro h3, Uno.l h4, Jbo.l h5⟩
        clear hlf hl2 hee heb hfi hu2 hid hkd hub hev hgb
        cases b with
        | false =>
          obtain ⟨EU, EC⟩ : us2 = us1 ∧ cells2 = [] := by
            rcases hph with ⟨h, -⟩ | ⟨-, h1, h2⟩
            · cases h
            · exact ⟨h1, h2⟩
          have U1E : Hid (u2 = u1 ∧ us2 = us1) := by
            have h := U2I.out
            rw [EU, MN.out.2.1] at h
            exact ⟨(Option.some.inj h).symm, EU⟩
          have ES : Hid (es2 = es ++ cells.map (fun c => (⟨1, u.id, c⟩ : EvV))) := by have h := EE.out; rw [EC] at h; unfold Hid; simpa using h
          clear hph EU EC EE
          obtain ⟨bt, hbt⟩ : ∃ b, decide (u2.task = 1 ∧ u2.at_ = u2.goal) = b := ⟨_, rfl⟩
          have BT : Hid (decide (u2.task = 1 ∧ u2.at_ = u2.goal) = bt) := hbt
          clear hbt
          have x7 := XR.out.cells.2.2.2.2.2.2.2.1
          obtain ⟨y0, y1, y2, y3, y4, y5, y6, y7⟩ := UR.out.unc U2I.out
          go_upto_region 17 with fail
          go_cut [113] (fun v113 V => v113 = .bool bt ∧ ∃ q, V = wr.drewN q)
          case first =>
            by_cases ht : u2.task = 1
            · rw [ht] at y6
              by_cases ha : u2.at_ = u2.goal
              · obtain rfl : bt = true := by rw [← BT.out]; exact decide_eq_true ⟨ht, ha⟩
                rw [ha] at y3
                clear ht ha
                go_quiet (fail)
                go_wp2_with fail
                go_meet
                case rel => exact ⟨rfl, _, rfl⟩
              · obtain rfl : bt = false := by rw [← BT.out]; exact decide_eq_false (fun h => ha h.2)
                have d1 : (u2.at_ == u2.goal) = false := by rw [beq_eq_false_iff_ne]; exact ha
                have d2 : decide (u2.at_ = u2.goal) = false := decide_eq_false ha
                clear ht
                go_quiet (fail)
                go_wp2_with fail
                go_meet
                case rel => exact ⟨by first | rfl | simp [ha], _, rfl⟩
            · obtain rfl : bt = false := by rw [← BT.out]; exact decide_eq_false (fun h => ht h.1)
              have d1 : (u2.task == 1) = false := by rw [beq_eq_false_iff_ne]; exact ht
              have d2 : decide (u2.task = 1) = false := decide_eq_false ht
              go_quiet (fail)
              go_wp2_with fail
              go_meet
              case rel => exact ⟨rfl, _, rfl⟩
          case rest =>
            obtain ⟨rfl, qq, hV⟩ := hcut
            have DQ : Hid (Below wr.heap.size wr wc) := by unfold Hid; rw [hV]; exact below_dq (Below.refl _ _) _
            have U5 : Hid (Ub wc g us2 rest') := UR.out.below DQ.out UR.out.lt
            have E5 : Hid (Evo wc b2 ev es2) := ER.out.below DQ.out
            have K5 : Hid (w2.grownBy wc (some g)) := gb_trans KR.out (gb_below DQ.out)
            have X5 : Hid (Wx wc w.heap.size (.int .i64 X.turn) (.int .i64 X.next) (.int .i64 X.wide) (.int .i64 X.high) (.slice a1 X.gs.length r1) (.slice a2 X.os.length r2) (.slice a3 X.gold.length r3) (.slice (some ⟨g, 0, none⟩) X.us.length r4) (.slice a5 X.qs.length r5)) := XR.out.below DQ.out XR.out.lt
            clear hV x7 y0 y1 y2 y3 y4 y5 y6 y7 DQ UR ER KR XR
            cases bt with
            | false =>
              have EN : Hid (us1.set n (ends u1) = us2) := by
                have h1 := U1E.out.1
                have h2 := of_decide_eq_false BT.out
                unfold Hid
                rw [← h1]
                unfold ends
                rw [if_neg h2, ← U1E.out.2]
                exact set_same U2I.out
              have N6 : Hid (Uno wc b1 (.slice (some ⟨g, 0, none⟩) X.us.length r4) us2) := by
                have h4 := U5.out.uno (base := b1) (cap := r4) GB.out.1.1 (by rw [LN2.out]; exact GB.out.2.1) GB.out.2.2.1 (by rw [LN2.out]; exact GB.out.2.2.2)
                rw [LN2.out] at h4
                exact h4
              go_wp2
              go_round
              case rel => exact ⟨n + 1, _, us2, es2, evs', by go_num, rfl, by have := HN.out; omega, LN2.out, by rw [← EN.out]; exact MN.out.1, by rw [ES.out]; exact MN.out.2.2, FI.out, N6.out, E5.out, by have := EB.out; have := LF.out; omega, K5.out⟩
              case measure => simp [intOf]; omega
            | true =>
              obtain ⟨ht, hag⟩ := of_decide_eq_true BT.out
              have EN : Hid (us1.set n (ends u1) = us2.set n { u2 with task := 0, goal := 0 }) := by
                have h1 := U1E.out.1
                unfold Hid
                rw [← h1, ← U1E.out.2]
                unfold ends
                rw [if_pos ⟨ht, hag⟩]
              have FN : Hid (Fins ks (Wn * Hn) (us2.set n { u2 with task := 0, goal := 0 })) := by
                obtain ⟨k9, h1, h2, h3, h4, h5⟩ := FI.out n u2 U2I.out
                exact FI.out.set ⟨k9, h1, h2, ⟨Int.le_refl _, by have := h2.2; show (0 : Int) < _; omega⟩, ⟨Int.le_refl _, by show (0 : Int) ≤ 2; omega⟩, h5⟩
              clear ht hag
              have x7 := X5.out.cells.2.2.2.2.2.2.2.1
              have y6 := (U5.out.unc U2I.out).c6
              have t6 := U5.out.thaw (n * 8 + 6)
              have U6 : Hid (Ub (wc.setCell ⟨g, n * 8 + 6, none⟩ (.int .i64 0)) g (us2.set n { u2 with task := 0 }) rest') := U5.out.set6 U2I.out 0
              have K6 : Hid (Kp g wc (wc.setCell ⟨g, n * 8 + 6, none⟩ (.int .i64 0))) := Kp.set _ _ _
              go_upto_region 19 with fail
              clear x7 y6 t6
              generalize (wc.setCell ⟨g, n * 8 + 6, none⟩ (.int .i64 0)) = w6 at *
              have I6 : (us2.set n { u2 with task := 0 })[n]? = some { u2 with task := 0 } := List.getElem?_set_self (List.getElem?_eq_some_iff.1 U2I.out).1
              have x7 := (X5.out.kp K6.out (by have := GB.out.1; have := BS.out; omega)).cells.2.2.2.2.2.2.2.1
              have y7 := (U6.out.unc I6).c7
              have t7 := U6.out.thaw (n * 8 + 7)
              have U7 : Hid (Ub (w6.setCell ⟨g, n * 8 + 7, none⟩ (.int .i64 0)) g (us2.set n { u2 with task := 0, goal := 0 }) rest') := by
                have h := U6.out.set7 I6 0
                rw [List.set_set] at h
                exact h
              have K7 : Hid (Kp g w6 (w6.setCell ⟨g, n * 8 + 7, none⟩ (.int .i64 0))) := Kp.set _ _ _
              clear I6
              go_wp2
              generalize (w6.setCell ⟨g, n * 8 + 7, none⟩ (.int .i64 0)) = w7 at *
              have LN7 : Hid ((us2.set n { u2 with task := 0, goal := 0 }).length = X.us.length) := by unfold Hid; rw [List.length_set]; exact LN2.out
              have N7 : Hid (Uno w7 b1 (.slice (some ⟨g, 0, none⟩) X.us.length r4) (us2.set n { u2 with task := 0, goal := 0 })) := by
                have h4 := U7.out.uno (base := b1) (cap := r4) GB.out.1.1 (by rw [LN7.out]; exact GB.out.2.1) GB.out.2.2.1 (by rw [LN7.out]; exact GB.out.2.2.2)
                rw [LN7.out] at h4
                exact h4
              have E7 : Hid (Evo w7 b2 ev es2) := own_gb (own_gb E5.out (gb_kp K6.out) (fun b h1 h2 => by have := (E5.out.block b h1).1; have := Option.some.inj h2; have := GB.out.1; omega)) (gb_kp K7.out) (fun b h1 h2 => by have := (E5.out.block b h1).1; have := Option.some.inj h2; have := GB.out.1; omega)
              have K8 : Hid (w2.grownBy w7 (some g)) := gb_trans (gb_trans K5.out (gb_kp K6.out)) (gb_kp K7.out)
              go_round
              case rel => exact ⟨n + 1, _, _, es2, evs', by go_num, rfl, by have := HN.out; omega, LN7.out, by rw [← EN.out]; exact MN.out.1, by rw [ES.out]; exact MN.out.2.2, FN.out, N7.out, E7.out, by have := EB.out; have := LF.out; omega, K8.out⟩
              case measure => simp [intOf]; omega
        | true =>
          have GO2 : Goes ks X Wn Hn k n us2 left cells2 us1 := by
            rcases hph with ⟨-, h⟩ | ⟨h, -⟩
            · exact h
            · cases h
          obtain ⟨u3, c, gg, hu3, hwi, hgg, hgo⟩ := goes_cases GO2
          obtain rfl : u3 = u2 := by have h := U2I.out; rw [hu3] at h; exact Option.some.inj h
          obtain ⟨k9, hk9, hf9, hg9, ht9, hl9⟩ := FI.out n u3 U2I.out
          obtain rfl : k9 = k := by rw [UID.out.2, HK.out.2] at hk9; exact (Option.some.inj hk9).symm
          obtain ⟨gg0, gg3, cN⟩ := onto_le GD.out.1 hgg
          have WI : Hid (WishSays ks { X with us := us2 } Wn Hn u3 k9 c ∧ ks[u3.kind.toNat]? = some k9 ∧ (0 ≤ u3.goal ∧ u3.goal < (Wn * Hn : Nat)) ∧ Able { X with us := us2 } u3 k9 ∧ X.gs[c]? = some gg ∧ 0 ≤ gg ∧ gg ≤ 3 ∧ c < Wn * Hn) := ⟨hwi, hk9, hg9, ⟨ht9, hl9⟩, hgg, gg0, gg3, cN⟩
          have GC : Hid (((left < Fd.onto gg k9.f ∨ us2.any (fun o => o.at_ == (c : Int)) = true) ∧ cells2 = [] ∧ us1 = us2) ∨ (¬ left < Fd.onto gg k9.f ∧ us2.any (fun o => o.at_ == (c : Int)) = false ∧ ∃ cells', cells2 = (c : Int) :: cells' ∧ Goes ks X Wn Hn k9 n (us2.set n { u3 with at_ := (c : Nat) }) (left - Fd.onto gg k9.f) cells' us1)) := hgo
          have WP : Hid (u3.at_ ≠ (c : Nat) → 0 < Fd.onto gg k9.f) := fun h => wish_pos hwi hgg h
          have SELF : Hid (us2.any (fun o => o.at_ == (c : Int)) = false → u3.at_ ≠ (c : Nat)) := fun h e => by
            rw [List.any_eq_false] at h
            exact h u3 (List.mem_of_getElem? U2I.out) (by rw [e]; exact beq_self_eq_true _)
          have ON : Hid (-1 ≤ Fd.onto gg k9.f ∧ Fd.onto gg k9.f ≤ 2) := ⟨by unfold Fd.onto; split <;> (try split) <;> (try split) <;> omega, onto_two gg k9.f⟩
          clear hph GO2 hu3 hwi hgg hgo hk9 hf9 hg9 ht9 hl9 gg0 gg3 cN
          obtain ⟨x0, x1, x2, x3, x4, x5, x6, x7, x8⟩ := XR.out.cells
          go_wp2_with fail
          refine (rwish_any _ _ ks { X with us := us2 } n Wn Hn u3 k9 c wr (K.out.below BR.out) (OT.out wr KR.out us2 LN2.out UR.out) GD.out.1 GD.out.2.1 GD.out.2.2.1 (by show us2.length ≤ 40; rw [LN2.out]; exact GD.out.2.2.2.2) U2I.out WI.out.2.1 FI.out.fits WI.out.2.2.1 WI.out.2.2.2.1 WI.out.1).mono ?_
          rintro e w3 ⟨rfl, hb⟩
          have U3 : Hid (Ub w3 g us2 rest') := UR.out.below hb UR.out.lt
          have E3 : Hid (Evo w3 b2 ev es2) := ER.out.below hb
          have K3 : Hid (w2.grownBy w3 (some g)) := gb_trans KR.out (gb_below hb)
          have X3 : Hid (Wx w3 w.heap.size (.int .i64 X.turn) (.int .i64 X.next) (.int .i64 X.wide) (.int .i64 X.high) (.slice a1 X.gs.length r1) (.slice a2 X.os.length r2) (.slice a3 X.gold.length r3) (.slice (some ⟨g, 0, none⟩) X.us.length r4) (.slice a5 X.qs.length r5)) := XR.out.below hb XR.out.lt
          have B3 : Hid (Below w.heap.size w w3) := BR.out.trans (hb.mono BR.out.size)
          clear hb x0 x1 x2 x3 x4 x5 x6 x7 x8 UR ER KR XR BR
          go_upto_region 10 with fail
          have CB : Hid (∀ V, Below w.heap.size w V → Ub V g us2 rest' → Wx V w.heap.size (.int .i64 X.turn) (.int .i64 X.next) (.int .i64 X.wide) (.int .i64 X.high) (.slice a1 X.gs.length r1) (.slice a2 X.os.length r2) (.slice a3 X.gold.length r3) (.slice (some ⟨g, 0, none⟩) X.us.length r4) (.slice a5 X.qs.length r5) → (Wx V w.heap.size (.int .i64 X.turn) (.int .i64 X.next) (.int .i64 X.wide) (.int .i64 X.high) (.slice a1 X.gs.length r1) (.slice a2 X.os.length r2) (.slice a3 X.gold.length r3) (.slice (some ⟨g, 0, none⟩) X.us.length r4) (.slice a5 X.qs.length r5) ∧ V.cell? ⟨g, n * 8 + 2, none⟩ = some (.int .i64 (kn : Nat)) ∧ V.cell? ⟨(xk.add (kn * 11)).block, (xk.add (kn * 11)).off + 9, none⟩ = some (.bool k9.f))) := fun V hb hu hx => ⟨hx, by have h := (hu.unc U2I.out).c2; rw [UID.out.2, HK.out.1] at h; exact h, (KK.out.1.below hb KK.out.2).c9⟩
          refine wp_region_two [(true, 0), (true, 1), (true, 2), (true, 3), (true, 4), (true, 5), (true, 6), (true, 7), (true, 8), (true, 9), (true, 10), (true, 11), (true, 12), (false, 13)] [(false, 14)] (fun V => Wx V w.heap.size (.int .i64 X.turn) (.int .i64 X.next) (.int .i64 X.wide) (.int .i64 X.high) (.slice a1 X.gs.length r1) (.slice a2 X.os.length r2) (.slice a3 X.gold.length r3) (.slice (some ⟨g, 0, none⟩) X.us.length r4) (.slice a5 X.qs.length r5) ∧ V.cell? ⟨g, n * 8 + 2, none⟩ = some (.int .i64 (kn : Nat)) ∧ V.cell? ⟨(xk.add (kn * 11)).block, (xk.add (kn * 11)).off + 9, none⟩ = some (.bool k9.f)) (by kernel_rfl) (by kernel_rfl) (by kernel_rfl) (by decide +kernel) (by decide +kernel) (CB.out _ B3.out.drew (U3.out.below ((Below.refl _ _).drew) U3.out.lt) X3.out.drew) ?_
          have D4 : Hid (Below w3.heap.size w3 { w3 with drawn := w3.drawn + 1 }) := (Below.refl _ _).drew
          generalize ({ w3 with drawn := w3.drawn + 1 } : World) = w4 at *
          have U4 : Hid (Ub w4 g us2 rest') := U3.out.below D4.out U3.out.lt
          have E4 : Hid (Evo w4 b2 ev es2) := E3.out.below D4.out
          have K4 : Hid (w2.grownBy w4 (some g)) := gb_trans K3.out (gb_below D4.out)
          have X4 : Hid (Wx w4 w.heap.size (.int .i64 X.turn) (.int .i64 X.next) (.int .i64 X.wide) (.int .i64 X.high) (.slice a1 X.gs.length r1) (.slice a2 X.os.length r2) (.slice a3 X.gold.length r3) (.slice (some ⟨g, 0, none⟩) X.us.length r4) (.slice a5 X.qs.length r5)) := X3.out.below D4.out X3.out.lt
          have B4 : Hid (Below w.heap.size w w4) := B3.out.trans (D4.out.mono B3.out.size)
          clear D4 U3 E3 K3 X3 B3
          refine headT_read rfl (.pointer (some ⟨w.heap.size, 2, none⟩)) (by go_simp) (fun V hV => by go_simp) ?_
          go_simp
          refine headT_read rfl (.agg #[.int .i64 X.wide, .int .i64 X.high, .slice a1 X.gs.length r1, .slice a2 X.os.length r2]) (by go_simp) (fun V hV => by obtain ⟨hx, d1, d2⟩ := hV; obtain ⟨x0, x1, x2, x3, x4, x5, x6, x7, x8⟩ := hx.cells; go_simp) ?_
          go_simp
          refine headT_read rfl (.int .i64 (c : Nat)) (by go_simp) (fun V hV => by go_simp) ?_
          go_simp
          refine headT_read rfl (.slice (some xk) ks.length qk) (by go_simp) (fun V hV => by go_simp) ?_
          go_simp
          refine headT_read rfl (.pointer (some ⟨w.heap.size, 7, none⟩)) (by go_simp) (fun V hV => by go_simp) ?_
          go_simp
          refine headT_read rfl (.slice (some ⟨g, 0, none⟩) X.us.length r4) (by go_simp) (fun V hV => by obtain ⟨hx, d1, d2⟩ := hV; obtain ⟨x0, x1, x2, x3, x4, x5, x6, x7, x8⟩ := hx.cells; go_simp) ?_
          go_simp
          refine headT_read rfl (.int .i64 (n : Nat)) (by go_simp) (fun V hV => by go_simp) ?_
          go_simp
          refine headT_read rfl (.pointer (some ⟨g, n * 8, none⟩)) (by go_simp) (fun V hV => by go_simp) ?_
          go_simp
          refine headT_read rfl (.pointer (some ⟨g, n * 8 + 2, none⟩)) (by go_simp) (fun V hV => by go_simp) ?_
          go_simp
          refine headT_read rfl (.int .i64 (kn : Nat)) (by go_simp) (fun V hV => by obtain ⟨hx, d1, d2⟩ := hV; obtain ⟨x0, x1, x2, x3, x4, x5, x6, x7, x8⟩ := hx.cells; go_simp) ?_
          go_simp
          refine headT_read rfl (.pointer (some (xk.add (kn * 11)))) (by go_simp) (fun V hV => by go_simp) ?_
          go_simp
          refine headT_read rfl (.pointer (some ⟨(xk.add (kn * 11)).block, (xk.add (kn * 11)).off + 9, none⟩)) (by go_simp) (fun V hV => by go_simp) ?_
          go_simp
          refine headT_read rfl (.bool k9.f) (by go_simp) (fun V hV => by obtain ⟨hx, d1, d2⟩ := hV; obtain ⟨x0, x1, x2, x3, x4, x5, x6, x7, x8⟩ := hx.cells; go_simp) ?_
          go_simp
          refine headT_call rfl 28 #[.agg #[.int .i64 X.wide, .int .i64 X.high, .slice a1 X.gs.length r1, .slice a2 X.os.length r2], .int .i64 (c : Nat), .bool k9.f] (by go_simp) (by go_simp) ?_
          refine (ref_onto _ X.wide X.high X.gs X.os c gg k9.f w4 (fl_of (X := { X with us := us2 }) (OT.out w4 K4.out us2 LN2.out U4.out)) GD.out.2.2.2.1 WI.out.2.2.2.2.1 WI.out.2.2.2.2.2.1 WI.out.2.2.2.2.2.2.1).mono ?_
          rintro e w5 ⟨rfl, hb⟩
          have U5 : Hid (Ub w5 g us2 rest') := U4.out.below hb U4.out.lt
          have E5 : Hid (Evo w5 b2 ev es2) := E4.out.below hb
          have K5 : Hid (w2.grownBy w5 (some g)) := gb_trans K4.out (gb_below hb)
          have X5 : Hid (Wx w5 w.heap.size (.int .i64 X.turn) (.int .i64 X.next) (.int .i64 X.wide) (.int .i64 X.high) (.slice a1 X.gs.length r1) (.slice a2 X.os.length r2) (.slice a3 X.gold.length r3) (.slice (some ⟨g, 0, none⟩) X.us.length r4) (.slice a5 X.qs.length r5)) := X4.out.below hb X4.out.lt
          have B5 : Hid (Below w.heap.size w w5) := B4.out.trans (hb.mono B4.out.size)
          refine ⟨_, rfl, CB.out _ B5.out U5.out X5.out, ?_⟩
          obtain ⟨sg, hsg⟩ : ∃ s, Fd.onto gg k9.f = s := ⟨_, rfl⟩
          rw [hsg] at GC WP ON ⊢
          clear hb hsg U4 E4 K4 X4 B4 CB
          go_simp
          refine sched_value rfl (.int .i64 sg) w5 (by go_simp) (by go_simp) trivial ?_
          go_simp
          unfold wpSched
          obtain ⟨x0, x1, x2, x3, x4, x5, x6, x7, x8⟩ := X5.out.cells
          go_wp2_with fail
          refine (ron_any _ { X with us := us2 } (c : Nat) w5 (OT.out w5 K5.out us2 LN2.out U5.out)).mono ?_
          rintro e w6 ⟨r, rfl, hr, hb⟩
          have RL := fst_low hr
          have U6 : Hid (Ub w6 g us2 rest') := U5.out.below hb U5.out.lt
          have E6 : Hid (Evo w6 b2 ev es2) := E5.out.below hb
          have K6 : Hid (w2.grownBy w6 (some g)) := gb_trans K5.out (gb_below hb)
          have X6 : Hid (Wx w6 w.heap.size (.int .i64 X.turn) (.int .i64 X.next) (.int .i64 X.wide) (.int .i64 X.high) (.slice a1 X.gs.length r1) (.slice a2 X.os.length r2) (.slice a3 X.gold.length r3) (.slice (some ⟨g, 0, none⟩) X.us.length r4) (.slice a5 X.qs.length r5)) := X5.out.below hb X5.out.lt
          clear hr hb x0 x1 x2 x3 x4 x5 x6 x7 x8 U5 E5 K5 X5 B5
          have U5 := U6
          have E5 := E6
          have K5 := K6
          have x7 := X6.out.cells.2.2.2.2.2.2.2.1
          obtain ⟨y0, y1, y2, y3, y4, y5, y6, y7⟩ := U6.out.unc U2I.out
          rcases GC.out with ⟨hst, hcl, hus⟩ | ⟨hnl2, hany, cells', hcl, hgo'⟩
          · have ECL : Hid (cells2 = []) := hcl
            have EUS : Hid (us1 = us2) := hus
            clear hcl hus
            rcases RL with ⟨-, hr0⟩ | ⟨han, rfl⟩
            · have hrd : decide (r < 0) = false := decide_eq_false (by omega)
              have hrn : ¬ r < 0 := by omega
              by_cases hca : ((c : Nat) : Int) = u3.at_
              · have hcb : (((c : Nat) : Int) == u3.at_) = true := by rw [hca]; exact beq_self_eq_true _
                rw [← hca] at y3
                clear hca hst
                go_wp2
                go_round
                case rel => exact ⟨_, left, us2, es2, [], false, rfl, rfl, rfl, LF.out, LN2.out, .inr ⟨rfl, EUS.out.symm, rfl⟩, by have := EE.out; rw [ECL.out] at this; exact this, EB.out, FI.out, ⟨u3, U2I.out, UID.out⟩, U5.out, E5.out, K5.out⟩
                case measure => simp [intOf, one]
              · have hcb : (((c : Nat) : Int) == u3.at_) = false := by rw [beq_eq_false_iff_ne]; exact hca
                clear hst
                go_wp2
                go_round
                case rel => exact ⟨_, left, us2, es2, [], false, rfl, rfl, rfl, LF.out, LN2.out, .inr ⟨rfl, EUS.out.symm, rfl⟩, by have := EE.out; rw [ECL.out] at this; exact this, EB.out, FI.out, ⟨u3, U2I.out, UID.out⟩, U5.out, E5.out, K5.out⟩
                case measure => simp [intOf, one]
            · have hsl : left < sg := by
                rcases hst with h | h
                · exact h
                · have h' : us2.any (fun o => o.at_ == (c : Int)) = false := han
                  rw [h'] at h; cases h
              have hca : ¬ ((c : Nat) : Int) = u3.at_ := fun e => SELF.out han e.symm
              have hcb : (((c : Nat) : Int) == u3.at_) = false := by rw [beq_eq_false_iff_ne]; exact hca
              have hsd : decide (sg ≤ left) = false := decide_eq_false (by omega)
              have hsn : ¬ sg ≤ left := by omega
              clear hst
              go_wp2
              go_round
              case rel => exact ⟨_, left, us2, es2, [], false, rfl, rfl, rfl, LF.out, LN2.out, .inr ⟨rfl, EUS.out.symm, rfl⟩, by have := EE.out; rw [ECL.out] at this; exact this, EB.out, FI.out, ⟨u3, U2I.out, UID.out⟩, U5.out, E5.out, K5.out⟩
              case measure => simp [intOf, one]
          · obtain rfl : r = -1 := by
              rcases RL with ⟨h, -⟩ | ⟨-, h⟩
              · have h' : us2.any (fun o => o.at_ == (c : Int)) = true := h
                rw [hany] at h'; cases h'
              · exact h
            have hca : ¬ ((c : Nat) : Int) = u3.at_ := fun e => SELF.out hany e.symm
            have hcb : (((c : Nat) : Int) == u3.at_) = false := by rw [beq_eq_false_iff_ne]; exact hca
            have hsd : decide (sg ≤ left) = true := decide_eq_true (by omega)
            have hsn : sg ≤ left := by omega
            have SP : Hid (0 < sg) := WP.out (SELF.out hany)
            have WL : IntKind.i64.wrap (left - sg) = left - sg := by have := LF.out; have := ON.out; have := EB.out; have := GD.out.2.2.2.2; have := HN.out; rw [IntKind.wrap_i64]; omega
            have ECL : Hid (cells2 = (c : Int) :: cells' ∧ Goes ks X Wn Hn k9 n (us2.set n { u3 with at_ := (c : Nat) }) (left - sg) cells' us1 ∧ sg ≤ left) := ⟨hcl, hgo', hsn⟩
            have t3 := U6.out.thaw (n * 8 + 3)
            have U7 : Hid (Ub (w6.setCell ⟨g, n * 8 + 3, none⟩ (.int .i64 (c : Nat))) g (us2.set n { u3 with at_ := (c : Nat) }) rest') := U6.out.set3 U2I.out (c : Nat)
            have K7 : Hid (Kp g w6 (w6.setCell ⟨g, n * 8 + 3, none⟩ (.int .i64 (c : Nat)))) := Kp.set _ _ _
            clear hcl hgo' hany RL hnl2
            go_upto_region 16 with fail
            clear x7 y0 y1 y2 y3 y4 y5 y6 y7 t3 hca hcb hsd hsn WL
            generalize (w6.setCell ⟨g, n * 8 + 3, none⟩ (.int .i64 (c : Nat))) = w7 at *
            have I7 : Hid ((us2.set n { u3 with at_ := (c : Nat) })[n]? = some { u3 with at_ := (c : Nat) }) := List.getElem?_set_self (List.getElem?_eq_some_iff.1 U2I.out).1
            have X7 : Hid (Wx w7 w.heap.size (.int .i64 X.turn) (.int .i64 X.next) (.int .i64 X.wide) (.int .i64 X.high) (.slice a1 X.gs.length r1) (.slice a2 X.os.length r2) (.slice a3 X.gold.length r3) (.slice (some ⟨g, 0, none⟩) X.us.length r4) (.slice a5 X.qs.length r5)) := X6.out.kp K7.out (by have := GB.out.1; have := BS.out; omega)
            have E7 : Hid (Evo w7 b2 ev es2) := own_gb E6.out (gb_kp K7.out) (fun b h1 h2 => by have := (E6.out.block b h1).1; have := Option.some.inj h2; have := GB.out.1; omega)
            have K8 : Hid (w2.grownBy w7 (some g)) := gb_trans K6.out (gb_kp K7.out)
            have S7 : Hid (b2 ≤ w7.heap.size) := by have h := K8.out.size; rw [LU.out.2.1] at h; exact h
            clear U5 E5 K5 U6 E6 K6 X6 K7
            have x7 := X7.out.cells.2.2.2.2.2.2.2.1
            have y0 := (U7.out.unc I7.out).c0
            have BA : Hid (Below w7.heap.size w7 (w7.alloc (Obj.cells #[.int .i64 1, .int .i64 u3.id, .int .i64 (c : Nat)] 73))) := (Below.refl _ _).alloc (Nat.le_refl _) _
            have EC : Hid (Evc (w7.alloc (Obj.cells #[.int .i64 1, .int .i64 u3.id, .int .i64 (c : Nat)] 73)) ⟨w7.heap.size, 0, none⟩ ⟨1, u3.id, (c : Nat)⟩) := Evc.mk' ⟨1, u3.id, (c : Nat)⟩ rfl
            have E8 : Hid (Evo (w7.alloc (Obj.cells #[.int .i64 1, .int .i64 u3.id, .int .i64 (c : Nat)] 73)) b2 ev es2) := E7.out.below BA.out
            have S8 : Hid (b2 ≤ (w7.alloc (Obj.cells #[.int .i64 1, .int .i64 u3.id, .int .i64 (c : Nat)] 73)).heap.size) := Nat.le_trans S7.out BA.out.size
            have EL : Hid (es2.length ≤ 1000000) := by have := EB.out; have := LF.out; have := GD.out.2.2.2.2; have := HN.out; unfold Hid; omega
            go_wp2_with (at_builtin; refine app_ev _ rfl _ _ rfl b2 _ es2 rfl E8.out _ (⟨1, u3.id, (c : Nat)⟩ : EvV) rfl EC.out EL.out S8.out ?_)
            intro g8 c8 w8 o8 gr8 _ _
            have BG : Hid (Below b2 w7 w8) := ((Below.refl _ _).alloc S7.out _).grown gr8 S8.out (fun b hb => (World.ownsRow.lt E8.out b hb).1)
            have E9 : Hid (Evo w8 b2 (.slice (some ⟨g8, 0, none⟩) (es2.length + 1) c8) (es2 ++ [⟨1, u3.id, (c : Nat)⟩])) := o8
            have U9 : Hid (Ub w8 g (us2.set n { u3 with at_ := (c : Nat) }) rest') := U7.out.below BG.out GB.out.1.2
            have K9 : Hid (w2.grownBy w8 (some g)) := gb_lowm K8.out BG.out (by rw [LU.out.2.1]; exact Nat.le_refl _)
            clear o8 gr8 x7 y0 BA EC E8 S8 E7 K8 U7 X7 BG S7
            have LN9 : Hid ((us2.set n { u3 with at_ := (c : Nat) }).length = X.us.length) := by unfold Hid; rw [List.length_set]; exact LN2.out
            have F9 : Hid (Fins ks (Wn * Hn) (us2.set n { u3 with at_ := (c : Nat) })) := by
              obtain ⟨k8, h1, h2, h3, h4, h5⟩ := FI.out n u3 U2I.out
              refine FI.out.set ⟨k8, h1, ⟨h2.1, ?_⟩, h3, h4, h5⟩
              have := WI.out.2.2.2.2.2.2.2
              exact ⟨by show (0 : Int) ≤ (c : Nat); omega, by show ((c : Nat) : Int) < _; omega⟩
            go_wp2
            go_round
            case rel => exact ⟨_, left - sg, _, es2 ++ [⟨1, u3.id, (c : Nat)⟩], cells', true, rfl, rfl, rfl, by have := ECL.out.2.2; omega, LN9.out, .inl ⟨rfl, ECL.out.2.1⟩, by have h := EE.out; rw [ECL.out.1, List.map_cons, ← UID.out.1] at h; rw [← UID.out.1, List.append_assoc]; exact h, by have h := EB.out; have := SP.out; simp; omega, F9.out, ⟨_, I7.out, UID.out⟩, U9.out, E9.out, K9.out⟩
            case measure => have := SP.out; have := ECL.out.2.2; simp [intOf, one]; omega
end Go.Proofs.YteieikgkmfglaaaGreatDoor

namespace Go.Proofs.YteieikgkmfglaaaGreatDoor
open Go.RowKit

set_option maxHeartbeats 400000 in
theorem within_yes (x m : Int) (w : World) (h1 : -m ≤ x) (h2 : x ≤ m) (m0 : 0 ≤ m) (m1 : m ≤ 2000000000000) :
    Calls Tryz.prog 174 #[.int .i64 x, .int .i64 m] w fun e w' => e = .returned (.bool true) ∧ w' = w := by
  go_enter Tryz.func174, Tryz.ntmps174
  go_wp2
  go_ret
  exact ⟨rfl, rfl⟩

set_option maxHeartbeats 400000 in
theorem within_no (x m : Int) (w : World) (h : x < -m ∨ m < x) (m0 : 0 ≤ m) (m1 : m ≤ 2000000000000) :
    Calls Tryz.prog 174 #[.int .i64 x, .int .i64 m] w fun e w' => e = .returned (.bool false) ∧ w' = w := by
  rcases h with h | h
  · have h' : ¬ -m ≤ x := by omega
    go_enter Tryz.func174, Tryz.ntmps174
    go_wp2
    go_ret
    exact ⟨rfl, rfl⟩
  · have h' : -m ≤ x := by omega
    have h'' : ¬ x ≤ m := by omega
    go_enter Tryz.func174, Tryz.ntmps174
    go_wp2
    go_ret
    exact ⟨rfl, rfl⟩

end Go.Proofs.YteieikgkmfglaaaGreatDoor

namespace Go.Proofs.YteieikgkmfglaaaGreatDoor.Ma

/-- r is the root of n, rounded down. -/
def Sq (r n : Int) : Prop := 0 ≤ r ∧ r * r ≤ n ∧ n < (r + 1) * (r + 1)

def pw (k : Nat) : Int := 2 ^ k

theorem pw_zero : pw 0 = 1 := rfl
theorem pw_succ (k : Nat) : pw (k + 1) = 2 * pw k := by unfold pw; rw [Int.pow_succ]; omega
theorem pw_pos (k : Nat) : 1 ≤ pw k := by
  induction k with
  | zero => rw [pw_zero]; omega
  | succ k ih => rw [pw_succ]; omega
theorem pw_mono (a b : Nat) (h : a ≤ b) : pw a ≤ pw b := by
  induction b with
  | zero => have : a = 0 := by omega
            subst this; exact Int.le_refl _
  | succ b ih =>
    by_cases e : a = b + 1
    · subst e; exact Int.le_refl _
    · have := ih (by omega)
      have p := pw_pos b
      rw [pw_succ]; omega
theorem pw_32 : pw 32 = 4294967296 := by unfold pw; decide

theorem mul_mono (a b : Int) (h0 : 0 ≤ a) (h : a ≤ b) : a * a ≤ b * b :=
  Int.mul_le_mul h h h0 (by omega)

theorem sq_expand (r d : Int) : (r + d) * (r + d) = r * r + 2 * (r * d) + d * d := by
  rw [Int.add_mul, Int.mul_add, Int.mul_add, Int.mul_comm d r]; omega

theorem lt_of_sq (a b : Int) (h0 : 0 ≤ b) (h : a * a < b * b) : a < b := by
  by_cases hc : a < b
  · exact hc
  · have := mul_mono b a h0 (by omega)
    omega

theorem le_of_sq (a b : Int) (h0 : 0 ≤ b) (h : a * a ≤ b * b) : a ≤ b := by
  have e := sq_expand b 1
  have : a < b + 1 := lt_of_sq a (b + 1) (by omega) (by omega)
  omega

theorem sq_uniq (r s n : Int) (h : Sq r n) (k : Sq s n) : r = s := by
  obtain ⟨h0, h1, h2⟩ := h
  obtain ⟨k0, k1, k2⟩ := k
  have a := lt_of_sq r (s + 1) (by omega) (by omega)
  have b := lt_of_sq s (r + 1) (by omega) (by omega)
  omega

theorem sq_self (m : Int) (h : 0 ≤ m) : Sq m (m * m) := by
  have e := sq_expand m 1
  exact ⟨h, Int.le_refl _, by omega⟩

/-- a root of an int is below this. -/
theorem root_small (r n : Int) (h : r * r ≤ n) (hn : n ≤ 9223372036854775807) : r ≤ 3037000499 := by
  have := lt_of_sq r 3037000500 (by omega) (by omega)
  omega

theorem test_iff (x n : Int) (hx : 0 < x) : x ≤ n / x ↔ x * x ≤ n := Int.le_ediv_iff_mul_le hx

end Go.Proofs.YteieikgkmfglaaaGreatDoor.Ma

