/- fight.target's three functions; cmp.Or of two numbers. · fight.target and fight.Target: whom a unit strikes. · fight.Target. · fight.strike: what Life they lose. · fight.strike where nobody is. · Jobs in a block that may be written. · slices.IndexFunc and slices.DeleteFunc of jobs. · fight.Fight's two functions; strike of any list of one's own. -/
import Derived.Test.YtkejdkajfnaieaaGreatDoorZTurnOrder8
import Derived.Test.YtkejdkajfnaieaaGreatDoorZTurnOrder4
import Derived.LoopN
import Derived.Test.YtkejdkajfnaieaaGreatDoorZTurnOrder7
import Derived.Test.YtkejdkajfnaieaaGreatDoorZTurnOrder6
import Derived.Test.YtkejdkajfnaieaaGreatDoorZTurnOrder3
import Derived.Test.YtkejdkajfnaieaaGreatDoorZTurnOrder5
import Derived.Test.YtkejdkajfnaieaaGreatDoorZTurnOrder1
import Derived.Laws.CopyRow
import Derived.Lib.SliceRun
import Derived.Deep.DeepCutAuto
namespace Go.Proofs.YtkejdkajfnaieaaGreatDoor
open Go.RowKit
set_option linter.unusedVariables false

theorem or2_any (x y : Int) (b : Nat) (w : World) (h0 : w.cell? ⟨b, 0, none⟩ = some (.int .i64 x)) (h1 : w.cell? ⟨b, 1, none⟩ = some (.int .i64 y)) :
    Calls Tryz.prog 189 #[.slice (some ⟨b, 0, none⟩) 2 2] w fun e w' => e = .returned (.int .i64 (if x = 0 then y else x)) ∧ w' = w := by
  by_cases hx : x = 0
  · subst hx
    by_cases hy : y = 0
    · subst hy
      go_enter Tryz.func189, Tryz.ntmps189
      go_wp2
      refine wp_loop_rounds 3 ?_
      rw [rounds_succ]
      go_wp2
      rw [rounds_succ]
      go_wp2
      rw [rounds_succ]
      go_wp2
      go_ret
      exact ⟨rfl, rfl⟩
    · have hyb : (y == 0) = false := beq_eq_false_iff_ne.2 hy
      go_enter Tryz.func189, Tryz.ntmps189
      go_wp2
      refine wp_loop_rounds 2 ?_
      rw [rounds_succ]
      go_wp2
      rw [rounds_succ]
      go_wp2
      go_ret
      exact ⟨by simp, rfl⟩
  · have hxb : (x == 0) = false := beq_eq_false_iff_ne.2 hx
    go_enter Tryz.func189, Tryz.ntmps189
    go_wp2
    refine wp_loop_rounds 1 ?_
    rw [rounds_succ]
    go_wp2
    go_ret
    exact ⟨by simp, rfl⟩

/-- a cell of a field. -/
def InF (u : UnV) : Prop := 0 ≤ u.at_ ∧ u.at_ ≤ 144
/-- target's boxes: the world, the unit. -/
structure Tb (w : World) (bw bu : Nat) (X : WV) (u1 u2 u3 u4 u5 : Value) (u : UnV) : Prop where
  x : Bw w bw X u1 u2 u3 u4 u5
  u : Unc w ⟨bu, 0, none⟩ u
theorem Tb.below {w V : World} {bw bu n : Nat} {X : WV} {u1 u2 u3 u4 u5 : Value} {u : UnV} (h : Tb w bw bu X u1 u2 u3 u4 u5 u) (hb : Below n w V) (h1 : bw < n) (h2 : bu < n) : Tb V bw bu X u1 u2 u3 u4 u5 u :=
  ⟨h.x.below hb h1, h.u.below hb h2⟩
set_option maxRecDepth 100000 in
set_option maxHeartbeats 2000000 in
theorem far_fg (X : WV) (u o : UnV) (Wn bw bu : Nat) (u1 u2 u3 u4 u5 : Value) (w : World) (hT : Tb w bw bu X u1 u2 u3 u4 u5 u) (hW : X.wide = (Wn : Nat)) (h1 : 0 < Wn) (h2 : Wn ≤ 12) (hu : InF u) (ho : InF o) :
    Calls Tryz.prog 197 #[o.val, .pointer (some ⟨bw, 0, none⟩), .pointer (some ⟨bu, 0, none⟩)] w fun e w' => e = .returned (.int .i64 (farU Wn u o)) ∧ Below w.heap.size w w' := by
  obtain ⟨an, han⟩ : ∃ n : Nat, u.at_ = n := ⟨u.at_.toNat, by have := hu.1; omega⟩
  obtain ⟨cn, hcn⟩ : ∃ n : Nat, o.at_ = n := ⟨o.at_.toNat, by have := ho.1; omega⟩
  have FU : Hid (farU Wn u o = farN Wn an cn) := by unfold Hid farU; rw [han, hcn]; rfl
  have LL : Hid (0 < Wn ∧ Wn ≤ 12 ∧ an ≤ 144 ∧ cn ≤ 144) := ⟨h1, h2, by have := hu.2; omega, by have := ho.2; omega⟩
  have HE : Hid (u.at_ = (an : Nat) ∧ o.at_ = (cn : Nat) ∧ X.wide = (Wn : Nat)) := ⟨han, hcn, hW⟩
  have T0 : Hid (Tb w bw bu X u1 u2 u3 u4 u5 u) := hT
  have B0 : Hid (Below w.heap.size w (w.alloc (Obj.cells #[.int .i64 o.id, .int .i64 o.player, .int .i64 o.kind, .int .i64 o.at_, .int .i64 o.life, .int .i64 o.load, .int .i64 o.task, .int .i64 o.goal] 42))) := (Below.refl _ _).alloc (Nat.le_refl _) _
  have O0 : Hid (Unc (w.alloc (Obj.cells #[.int .i64 o.id, .int .i64 o.player, .int .i64 o.kind, .int .i64 o.at_, .int .i64 o.life, .int .i64 o.load, .int .i64 o.task, .int .i64 o.goal] 42)) ⟨w.heap.size, 0, none⟩ o) := Unc.mk' o rfl
  clear hT han hcn hW h1 h2 hu ho
  unfold UnV.val
  go_enter Tryz.func197, Tryz.ntmps197
  go_upto_region 1 with fail
  generalize (w.alloc (Obj.cells #[.int .i64 o.id, .int .i64 o.player, .int .i64 o.kind, .int .i64 o.at_, .int .i64 o.life, .int .i64 o.load, .int .i64 o.task, .int .i64 o.goal] 42)) = w0 at *
  have T1 := T0.out.below B0.out T0.out.x.lt T0.out.u.lt
  obtain ⟨x0, x1, x2, x3, x4, x5, x6, x7, x8⟩ := T1.x
  obtain ⟨y0, y1, y2, y3, y4, y5, y6, y7⟩ := T1.u
  obtain ⟨q0, q1, q2, q3, q4, q5, q6, q7⟩ := O0.out
  rw [HE.out.1] at y3
  rw [HE.out.2.1] at q3
  rw [HE.out.2.2] at x2
  clear T1
  go_wp2_with fail
  refine (apart_any _ _ _ Wn an cn w0 LL.out.1 LL.out.2.1 LL.out.2.2.1 LL.out.2.2.2).mono ?_
  rintro e w1 ⟨rfl, hb⟩
  have B1 : Hid (Below w.heap.size w w1) := B0.out.trans (hb.mono B0.out.size)
  clear hb x0 x1 x2 x3 x4 x5 x6 x7 x8 y0 y1 y2 y3 y4 y5 y6 y7 q0 q1 q2 q3 q4 q5 q6 q7
  obtain ⟨f, hf⟩ : ∃ f, farN Wn an cn = f := ⟨_, rfl⟩
  rw [hf] at FU ⊢
  clear hf
  go_wp2
  go_ret
  exact ⟨by rw [FU.out]; rfl, B1.out⟩

set_option maxRecDepth 100000 in
set_option maxHeartbeats 4000000 in
theorem safe_fg (X : WV) (u o : UnV) (Wn bw bu bf bk : Nat) (rng : Int) (u1 u2 u3 u4 u5 : Value) (w : World) (hT : Tb w bw bu X u1 u2 u3 u4 u5 u) (hF : w.cell? ⟨bf, 0, none⟩ = some (.func (Fn.func 197) #[] #[.pointer (some ⟨bw, 0, none⟩), .pointer (some ⟨bu, 0, none⟩)])) (hK : w.cell? ⟨bk, 3, none⟩ = some (.int .i64 rng)) (hW : X.wide = (Wn : Nat)) (h1 : 0 < Wn) (h2 : Wn ≤ 12) (hu : InF u) (ho : InF o) :
    Calls Tryz.prog 199 #[o.val, .pointer (some ⟨bu, 0, none⟩), .pointer (some ⟨bf, 0, none⟩), .pointer (some ⟨bk, 0, none⟩)] w fun e w' => e = .returned (.bool (safeU Wn u rng o)) ∧ Below w.heap.size w w' := by
  have T0 : Hid (Tb w bw bu X u1 u2 u3 u4 u5 u) := hT
  have GG : Hid (X.wide = (Wn : Nat) ∧ 0 < Wn ∧ Wn ≤ 12 ∧ InF u ∧ InF o) := ⟨hW, h1, h2, hu, ho⟩
  have CF : Hid (w.cell? ⟨bf, 0, none⟩ = some (.func (Fn.func 197) #[] #[.pointer (some ⟨bw, 0, none⟩), .pointer (some ⟨bu, 0, none⟩)]) ∧ w.cell? ⟨bk, 3, none⟩ = some (.int .i64 rng) ∧ bf < w.heap.size ∧ bk < w.heap.size) := ⟨hF, hK, cell_lt hF, cell_lt hK⟩
  have B0 : Hid (Below w.heap.size w (w.alloc (Obj.cells #[.int .i64 o.id, .int .i64 o.player, .int .i64 o.kind, .int .i64 o.at_, .int .i64 o.life, .int .i64 o.load, .int .i64 o.task, .int .i64 o.goal] 42))) := (Below.refl _ _).alloc (Nat.le_refl _) _
  have O0 : Hid (Unc (w.alloc (Obj.cells #[.int .i64 o.id, .int .i64 o.player, .int .i64 o.kind, .int .i64 o.at_, .int .i64 o.life, .int .i64 o.load, .int .i64 o.task, .int .i64 o.goal] 42)) ⟨w.heap.size, 0, none⟩ o) := Unc.mk' o rfl
  have CB : Hid (∀ V, Below w.heap.size w V → Unc V ⟨w.heap.size, 0, none⟩ o → (V.cell? ⟨w.heap.size, 1, none⟩ = some (.int .i64 o.player) ∧ V.cell? ⟨bu, 1, none⟩ = some (.int .i64 u.player) ∧ V.cell? ⟨bf, 0, none⟩ = some (.func (Fn.func 197) #[] #[.pointer (some ⟨bw, 0, none⟩), .pointer (some ⟨bu, 0, none⟩)]) ∧ V.cell? ⟨bk, 3, none⟩ = some (.int .i64 rng) ∧ Unc V ⟨w.heap.size, 0, none⟩ o ∧ Tb V bw bu X u1 u2 u3 u4 u5 u)) := fun V hb h0 =>
    ⟨by have := h0.c1; rw [Nat.zero_add] at this; exact this, by have := (T0.out.u.below hb T0.out.u.lt).c1; rw [Nat.zero_add] at this; exact this, by rw [hb.cell (p := ⟨bf, 0, none⟩) CF.out.2.2.1]; exact CF.out.1, by rw [hb.cell (p := ⟨bk, 3, none⟩) CF.out.2.2.2]; exact CF.out.2.1, h0, T0.out.below hb T0.out.x.lt T0.out.u.lt⟩
  clear hT hF hK hW h1 h2 hu ho
  unfold UnV.val
  go_enter Tryz.func199, Tryz.ntmps199
  go_upto_region 1 with fail
  generalize (w.alloc (Obj.cells #[.int .i64 o.id, .int .i64 o.player, .int .i64 o.kind, .int .i64 o.at_, .int .i64 o.life, .int .i64 o.load, .int .i64 o.task, .int .i64 o.goal] 42)) = w0 at *
  by_cases hp : o.player = u.player
  · have S1 : Hid (safeU Wn u rng o = true) := by unfold Hid safeU; rw [hp]; simp
    obtain ⟨d1, d2, d3, d4, ⟨q0, q1, q2, q3, q4, q5, q6, q7⟩, -⟩ := CB.out w0 B0.out O0.out
    rw [hp] at d1 q1
    go_quiet (fail)
    go_wp2
    go_ret
    exact ⟨by rw [S1.out]; rfl, ⟨B0.out.os, B0.out.tape, B0.out.output, B0.out.size, B0.out.block⟩⟩
  · have hp' : (o.player == u.player) = false := by rw [beq_eq_false_iff_ne]; exact hp
    have S1 : Hid (safeU Wn u rng o = decide (rng < farU Wn u o)) := by unfold Hid safeU; rw [hp']; rfl
    clear hp
    refine wp_region_two [(true, 0), (true, 1), (true, 2), (true, 3), (true, 4), (true, 5), (true, 6), (true, 7), (true, 9), (true, 10), (false, 8)] [(true, 11), (true, 12), (false, 13)] (fun V => (V.cell? ⟨w.heap.size, 1, none⟩ = some (.int .i64 o.player) ∧ V.cell? ⟨bu, 1, none⟩ = some (.int .i64 u.player) ∧ V.cell? ⟨bf, 0, none⟩ = some (.func (Fn.func 197) #[] #[.pointer (some ⟨bw, 0, none⟩), .pointer (some ⟨bu, 0, none⟩)]) ∧ V.cell? ⟨bk, 3, none⟩ = some (.int .i64 rng) ∧ Unc V ⟨w.heap.size, 0, none⟩ o ∧ Tb V bw bu X u1 u2 u3 u4 u5 u)) (by kernel_rfl) (by kernel_rfl) (by kernel_rfl) (by decide +kernel) (by decide +kernel) (CB.out _ B0.out.drew (O0.out.below ((Below.refl _ _).drew) O0.out.lt)) ?_
    have B1 : Hid (Below w.heap.size w { w0 with drawn := w0.drawn + 1 }) := B0.out.drew
    have O1 : Hid (Unc { w0 with drawn := w0.drawn + 1 } ⟨w.heap.size, 0, none⟩ o) := O0.out.below ((Below.refl _ _).drew) O0.out.lt
    generalize ({ w0 with drawn := w0.drawn + 1 } : World) = w1 at *
    clear B0 O0
    refine headT_read rfl (.pointer (some ⟨w.heap.size, 1, none⟩)) (by go_simp) (fun V hV => by go_simp) ?_
    go_simp
    refine headT_read rfl (.int .i64 o.player) (by go_simp) (fun V hV => by obtain ⟨d1, d2, d3, d4, ⟨q0, q1, q2, q3, q4, q5, q6, q7⟩, -⟩ := hV; go_simp) ?_
    go_simp
    refine headT_read rfl (.pointer (some ⟨bu, 1, none⟩)) (by go_simp) (fun V hV => by go_simp) ?_
    go_simp
    refine headT_read rfl (.int .i64 u.player) (by go_simp) (fun V hV => by obtain ⟨d1, d2, d3, d4, ⟨q0, q1, q2, q3, q4, q5, q6, q7⟩, -⟩ := hV; go_simp) ?_
    go_simp
    refine headT_read rfl (.bool false) (by go_simp) (fun V hV => by go_simp) ?_
    go_simp
    refine headT_read rfl (.bool false) (by go_simp) (fun V hV => by go_simp) ?_
    go_simp
    refine headT_read rfl (.func (Fn.func 197) #[] #[.pointer (some ⟨bw, 0, none⟩), .pointer (some ⟨bu, 0, none⟩)]) (by go_simp) (fun V hV => by obtain ⟨d1, d2, d3, d4, ⟨q0, q1, q2, q3, q4, q5, q6, q7⟩, -⟩ := hV; go_simp) ?_
    go_simp
    refine headT_read rfl (.agg #[.int .i64 o.id, .int .i64 o.player, .int .i64 o.kind, .int .i64 o.at_, .int .i64 o.life, .int .i64 o.load, .int .i64 o.task, .int .i64 o.goal]) (by go_simp) (fun V hV => by obtain ⟨d1, d2, d3, d4, ⟨q0, q1, q2, q3, q4, q5, q6, q7⟩, -⟩ := hV; go_simp) ?_
    go_simp
    refine headT_read rfl (.pointer (some ⟨bk, 3, none⟩)) (by go_simp) (fun V hV => by go_simp) ?_
    go_simp
    refine headT_read rfl (.int .i64 rng) (by go_simp) (fun V hV => by obtain ⟨d1, d2, d3, d4, ⟨q0, q1, q2, q3, q4, q5, q6, q7⟩, -⟩ := hV; go_simp) ?_
    go_simp
    refine headT_call rfl 197 (#[o.val] ++ #[.pointer (some ⟨bw, 0, none⟩), .pointer (some ⟨bu, 0, none⟩)]) (by go_simp) (by go_simp; rfl) ?_
    refine (far_fg X u o Wn bw bu _ _ _ _ _ w1 (T0.out.below B1.out T0.out.x.lt T0.out.u.lt) GG.out.1 GG.out.2.1 GG.out.2.2.1 GG.out.2.2.2.1 GG.out.2.2.2.2).mono ?_
    rintro e w2 ⟨rfl, hb⟩
    have B2 : Hid (Below w.heap.size w w2) := B1.out.trans (hb.mono B1.out.size)
    refine ⟨_, rfl, CB.out _ B2.out (O1.out.below hb O1.out.lt), ?_⟩
    clear hb B1 O1
    go_simp
    obtain ⟨t, ht⟩ : ∃ t, farU Wn u o = t := ⟨_, rfl⟩
    rw [ht] at S1 ⊢
    clear ht
    refine sched_read rfl (.bool (decide (rng < t))) (by go_simp) (fun V hV => by go_simp) ?_
    go_simp
    refine sched_read rfl (.bool (decide (rng < t))) (by go_simp) (fun V hV => by go_simp) ?_
    go_simp
    refine sched_value rfl (.bool (decide (rng < t))) w2 (by go_simp) (by go_simp) trivial ?_
    go_simp
    unfold wpSched
    go_wp2
    go_ret
    exact ⟨by rw [S1.out]; rfl, B2.out⟩

set_option maxRecDepth 100000 in
set_option maxHeartbeats 4000000 in
theorem soon_fg (X : WV) (u a b : UnV) (Wn bw bu bf : Nat) (u1 u2 u3 u4 u5 : Value) (w : World) (hT : Tb w bw bu X u1 u2 u3 u4 u5 u) (hF : w.cell? ⟨bf, 0, none⟩ = some (.func (Fn.func 197) #[] #[.pointer (some ⟨bw, 0, none⟩), .pointer (some ⟨bu, 0, none⟩)])) (hW : X.wide = (Wn : Nat)) (h1 : 0 < Wn) (h2 : Wn ≤ 12) (hu : InF u) (ha : InF a) (hb : InF b) (la : 0 ≤ a.life ∧ a.life ≤ 1000000) (lb : 0 ≤ b.life ∧ b.life ≤ 1000000) :
    Calls Tryz.prog 201 #[a.val, b.val, .pointer (some ⟨bf, 0, none⟩)] w fun e w' => e = .returned (.int .i64 (soonU Wn u a b)) ∧ Below w.heap.size w w' := by
  have T0 : Hid (Tb w bw bu X u1 u2 u3 u4 u5 u) := hT
  have GG : Hid (X.wide = (Wn : Nat) ∧ 0 < Wn ∧ Wn ≤ 12 ∧ InF u ∧ InF a ∧ InF b) := ⟨hW, h1, h2, hu, ha, hb⟩
  have CF : Hid (w.cell? ⟨bf, 0, none⟩ = some (.func (Fn.func 197) #[] #[.pointer (some ⟨bw, 0, none⟩), .pointer (some ⟨bu, 0, none⟩)]) ∧ bf < w.heap.size) := ⟨hF, cell_lt hF⟩
  have wl : IntKind.i64.wrap (a.life - b.life) = a.life - b.life := by rw [IntKind.wrap_i64]; omega
  have wf : IntKind.i64.wrap (farU Wn u a - farU Wn u b) = farU Wn u a - farU Wn u b := by
    have g1 := farN_ge Wn u.at_.toNat a.at_.toNat
    have g2 := farN_ge Wn u.at_.toNat b.at_.toNat
    unfold farU
    rw [IntKind.wrap_i64]; omega
  have B0 : Hid (Below w.heap.size w ((w.alloc (Obj.cells #[.int .i64 a.id, .int .i64 a.player, .int .i64 a.kind, .int .i64 a.at_, .int .i64 a.life, .int .i64 a.load, .int .i64 a.task, .int .i64 a.goal] 42)).alloc (Obj.cells #[.int .i64 b.id, .int .i64 b.player, .int .i64 b.kind, .int .i64 b.at_, .int .i64 b.life, .int .i64 b.load, .int .i64 b.task, .int .i64 b.goal] 42))) := ((Below.refl _ _).alloc (Nat.le_refl _) _).alloc (by simp) _
  have A0 : Hid (Unc ((w.alloc (Obj.cells #[.int .i64 a.id, .int .i64 a.player, .int .i64 a.kind, .int .i64 a.at_, .int .i64 a.life, .int .i64 a.load, .int .i64 a.task, .int .i64 a.goal] 42)).alloc (Obj.cells #[.int .i64 b.id, .int .i64 b.player, .int .i64 b.kind, .int .i64 b.at_, .int .i64 b.life, .int .i64 b.load, .int .i64 b.task, .int .i64 b.goal] 42)) ⟨w.heap.size, 0, none⟩ a) := (Unc.mk' a rfl).below ((Below.refl _ _).alloc (Nat.le_refl _) _) (by simp)
  have V0 : Hid (Unc ((w.alloc (Obj.cells #[.int .i64 a.id, .int .i64 a.player, .int .i64 a.kind, .int .i64 a.at_, .int .i64 a.life, .int .i64 a.load, .int .i64 a.task, .int .i64 a.goal] 42)).alloc (Obj.cells #[.int .i64 b.id, .int .i64 b.player, .int .i64 b.kind, .int .i64 b.at_, .int .i64 b.life, .int .i64 b.load, .int .i64 b.task, .int .i64 b.goal] 42)) ⟨w.heap.size + 1, 0, none⟩ b) := Unc.mk' b (by simp)
  have CB : Hid (∀ V, Below w.heap.size w V → Unc V ⟨w.heap.size, 0, none⟩ a → Unc V ⟨w.heap.size + 1, 0, none⟩ b → (V.cell? ⟨bf, 0, none⟩ = some (.func (Fn.func 197) #[] #[.pointer (some ⟨bw, 0, none⟩), .pointer (some ⟨bu, 0, none⟩)]) ∧ Unc V ⟨w.heap.size, 0, none⟩ a ∧ Unc V ⟨w.heap.size + 1, 0, none⟩ b ∧ V.cell? ⟨w.heap.size, 4, none⟩ = some (.int .i64 a.life) ∧ V.cell? ⟨w.heap.size + 1, 4, none⟩ = some (.int .i64 b.life))) := fun V hb h0 h1 =>
    ⟨by rw [hb.cell (p := ⟨bf, 0, none⟩) CF.out.2]; exact CF.out.1, h0, h1, by have := h0.c4; rw [Nat.zero_add] at this; exact this, by have := h1.c4; rw [Nat.zero_add] at this; exact this⟩
  clear hT hF hW h1 h2 hu ha hb la lb
  unfold UnV.val
  go_enter Tryz.func201, Tryz.ntmps201
  go_upto_region 1 with fail
  generalize ((w.alloc (Obj.cells #[.int .i64 a.id, .int .i64 a.player, .int .i64 a.kind, .int .i64 a.at_, .int .i64 a.life, .int .i64 a.load, .int .i64 a.task, .int .i64 a.goal] 42)).alloc (Obj.cells #[.int .i64 b.id, .int .i64 b.player, .int .i64 b.kind, .int .i64 b.at_, .int .i64 b.life, .int .i64 b.load, .int .i64 b.task, .int .i64 b.goal] 42)) = w0 at *
  refine wp_region_two [(true, 0), (true, 1), (true, 3), (true, 4), (true, 7), (true, 8), (true, 9), (true, 10), (true, 11), (false, 2), (false, 5), (true, 6), (false, 12), (false, 13)] [(false, 14)] (fun V => (V.cell? ⟨bf, 0, none⟩ = some (.func (Fn.func 197) #[] #[.pointer (some ⟨bw, 0, none⟩), .pointer (some ⟨bu, 0, none⟩)]) ∧ Unc V ⟨w.heap.size, 0, none⟩ a ∧ Unc V ⟨w.heap.size + 1, 0, none⟩ b ∧ V.cell? ⟨w.heap.size, 4, none⟩ = some (.int .i64 a.life) ∧ V.cell? ⟨w.heap.size + 1, 4, none⟩ = some (.int .i64 b.life))) (by kernel_rfl) (by kernel_rfl) (by kernel_rfl) (by decide +kernel) (by decide +kernel) (CB.out _ B0.out.drew (A0.out.below ((Below.refl _ _).drew) A0.out.lt) (V0.out.below ((Below.refl _ _).drew) V0.out.lt)) ?_
  have B1 : Hid (Below w.heap.size w { w0 with drawn := w0.drawn + 1 }) := B0.out.drew
  have A1 : Hid (Unc { w0 with drawn := w0.drawn + 1 } ⟨w.heap.size, 0, none⟩ a) := A0.out.below ((Below.refl _ _).drew) A0.out.lt
  have V1 : Hid (Unc { w0 with drawn := w0.drawn + 1 } ⟨w.heap.size + 1, 0, none⟩ b) := V0.out.below ((Below.refl _ _).drew) V0.out.lt
  generalize ({ w0 with drawn := w0.drawn + 1 } : World) = w1 at *
  clear B0 A0 V0
  refine headT_read rfl (.func (Fn.func 197) #[] #[.pointer (some ⟨bw, 0, none⟩), .pointer (some ⟨bu, 0, none⟩)]) (by go_simp) (fun V hV => by obtain ⟨d1, ⟨q0, q1, q2, q3, q4, q5, q6, q7⟩, ⟨r0, r1, r2, r3, r4, r5, r6, r7⟩, d2, d3⟩ := hV; go_simp) ?_
  go_simp
  refine headT_read rfl (.agg #[.int .i64 a.id, .int .i64 a.player, .int .i64 a.kind, .int .i64 a.at_, .int .i64 a.life, .int .i64 a.load, .int .i64 a.task, .int .i64 a.goal]) (by go_simp) (fun V hV => by obtain ⟨d1, ⟨q0, q1, q2, q3, q4, q5, q6, q7⟩, ⟨r0, r1, r2, r3, r4, r5, r6, r7⟩, d2, d3⟩ := hV; go_simp) ?_
  go_simp
  refine headT_read rfl (.func (Fn.func 197) #[] #[.pointer (some ⟨bw, 0, none⟩), .pointer (some ⟨bu, 0, none⟩)]) (by go_simp) (fun V hV => by obtain ⟨d1, ⟨q0, q1, q2, q3, q4, q5, q6, q7⟩, ⟨r0, r1, r2, r3, r4, r5, r6, r7⟩, d2, d3⟩ := hV; go_simp) ?_
  go_simp
  refine headT_read rfl (.agg #[.int .i64 b.id, .int .i64 b.player, .int .i64 b.kind, .int .i64 b.at_, .int .i64 b.life, .int .i64 b.load, .int .i64 b.task, .int .i64 b.goal]) (by go_simp) (fun V hV => by obtain ⟨d1, ⟨q0, q1, q2, q3, q4, q5, q6, q7⟩, ⟨r0, r1, r2, r3, r4, r5, r6, r7⟩, d2, d3⟩ := hV; go_simp) ?_
  go_simp
  refine headT_read rfl (.pointer (some ⟨w.heap.size, 4, none⟩)) (by go_simp) (fun V hV => by go_simp) ?_
  go_simp
  refine headT_read rfl (.int .i64 a.life) (by go_simp) (fun V hV => by obtain ⟨d1, ⟨q0, q1, q2, q3, q4, q5, q6, q7⟩, ⟨r0, r1, r2, r3, r4, r5, r6, r7⟩, d2, d3⟩ := hV; go_simp) ?_
  go_simp
  refine headT_read rfl (.pointer (some ⟨w.heap.size + 1, 4, none⟩)) (by go_simp) (fun V hV => by go_simp) ?_
  go_simp
  refine headT_read rfl (.int .i64 b.life) (by go_simp) (fun V hV => by obtain ⟨d1, ⟨q0, q1, q2, q3, q4, q5, q6, q7⟩, ⟨r0, r1, r2, r3, r4, r5, r6, r7⟩, d2, d3⟩ := hV; go_simp) ?_
  go_simp
  refine headT_read rfl (.int .i64 (a.life - b.life)) (by go_simp) (fun V hV => by go_simp) ?_
  go_simp
  refine headT_call rfl 197 (#[a.val] ++ #[.pointer (some ⟨bw, 0, none⟩), .pointer (some ⟨bu, 0, none⟩)]) (by go_simp) (by go_simp; rfl) ?_
  refine (far_fg X u a Wn bw bu _ _ _ _ _ w1 (T0.out.below B1.out T0.out.x.lt T0.out.u.lt) GG.out.1 GG.out.2.1 GG.out.2.2.1 GG.out.2.2.2.1 GG.out.2.2.2.2.1).mono ?_
  rintro e w2 ⟨rfl, hb⟩
  have B2 : Hid (Below w.heap.size w w2) := B1.out.trans (hb.mono B1.out.size)
  have A2 : Hid (Unc w2 ⟨w.heap.size, 0, none⟩ a) := A1.out.below hb A1.out.lt
  have V2 : Hid (Unc w2 ⟨w.heap.size + 1, 0, none⟩ b) := V1.out.below hb V1.out.lt
  refine ⟨_, rfl, CB.out _ B2.out A2.out V2.out, ?_⟩
  clear hb B1 A1 V1
  go_simp
  refine headT_call rfl 197 (#[b.val] ++ #[.pointer (some ⟨bw, 0, none⟩), .pointer (some ⟨bu, 0, none⟩)]) (by go_simp) (by go_simp; rfl) ?_
  refine (far_fg X u b Wn bw bu _ _ _ _ _ w2 (T0.out.below B2.out T0.out.x.lt T0.out.u.lt) GG.out.1 GG.out.2.1 GG.out.2.2.1 GG.out.2.2.2.1 GG.out.2.2.2.2.2).mono ?_
  rintro e w3 ⟨rfl, hb⟩
  have B3 : Hid (Below w.heap.size w w3) := B2.out.trans (hb.mono B2.out.size)
  have A3 : Hid (Unc w3 ⟨w.heap.size, 0, none⟩ a) := A2.out.below hb A2.out.lt
  have V3 : Hid (Unc w3 ⟨w.heap.size + 1, 0, none⟩ b) := V2.out.below hb V2.out.lt
  refine ⟨_, rfl, CB.out _ B3.out A3.out V3.out, ?_⟩
  clear hb B2 A2 V2
  go_simp
  obtain ⟨fa, hfa⟩ : ∃ t, farU Wn u a = t := ⟨_, rfl⟩
  obtain ⟨fb, hfb⟩ : ∃ t, farU Wn u b = t := ⟨_, rfl⟩
  have SO : Hid (soonU Wn u a b = if fa - fb = 0 then a.life - b.life else fa - fb) := by unfold Hid soonU; rw [hfa, hfb]
  rw [hfa, hfb] at wf
  rw [hfa, hfb]
  clear hfa hfb
  refine headT_read rfl (.int .i64 (fa - fb)) (by go_simp) (fun V hV => by go_simp) ?_
  go_simp
  have BA : Hid (Below w3.heap.size w3 (w3.alloc (Obj.cells #[.int .i64 (fa - fb), .int .i64 (a.life - b.life)] 3))) := (Below.refl _ _).alloc (Nat.le_refl _) _
  have s0 : (w3.alloc (Obj.cells #[.int .i64 (fa - fb), .int .i64 (a.life - b.life)] 3)).cell? ⟨w3.heap.size, 0, none⟩ = some (.int .i64 (fa - fb)) := by simp
  have s1 : (w3.alloc (Obj.cells #[.int .i64 (fa - fb), .int .i64 (a.life - b.life)] 3)).cell? ⟨w3.heap.size, 1, none⟩ = some (.int .i64 (a.life - b.life)) := by simp
  refine headT_value rfl (.slice (some ⟨w3.heap.size, 0, none⟩) 2 2) (w3.alloc (Obj.cells #[.int .i64 (fa - fb), .int .i64 (a.life - b.life)] 3)) (by go_simp) (by go_simp) (CB.out _ (B3.out.trans (BA.out.mono B3.out.size)) (A3.out.below BA.out A3.out.lt) (V3.out.below BA.out V3.out.lt)) ?_
  go_simp
  generalize (w3.alloc (Obj.cells #[.int .i64 (fa - fb), .int .i64 (a.life - b.life)] 3)) = w4 at *
  have B4 : Hid (Below w.heap.size w w4) := B3.out.trans (BA.out.mono B3.out.size)
  have A4 : Hid (Unc w4 ⟨w.heap.size, 0, none⟩ a) := A3.out.below BA.out A3.out.lt
  have V4 : Hid (Unc w4 ⟨w.heap.size + 1, 0, none⟩ b) := V3.out.below BA.out V3.out.lt
  refine headT_call rfl 189 #[.slice (some ⟨w3.heap.size, 0, none⟩) 2 2] (by go_simp) (by go_simp) ?_
  refine (or2_any _ _ _ w4 s0 s1).mono ?_
  rintro e w5 ⟨rfl, rfl⟩
  refine ⟨_, rfl, CB.out _ B4.out A4.out V4.out, ?_⟩
  rw [← SO.out]
  obtain ⟨t, ht⟩ : ∃ t, soonU Wn u a b = t := ⟨_, rfl⟩
  have ST : Hid (soonU Wn u a b = t) := ht
  rw [ht]
  clear ht SO s0 s1 BA
  go_simp
  refine sched_value rfl (.int .i64 t) w5 (by go_simp) (by go_simp) trivial ?_
  go_simp
  unfold wpSched
  go_wp2
  go_ret
  exact ⟨by rw [ST.out]; rfl, B4.out⟩
end Go.Proofs.YtkejdkajfnaieaaGreatDoor

namespace Go.Proofs.YtkejdkajfnaieaaGreatDoor
open Go.RowKit
set_option linter.unusedVariables false

theorem field_id (m : UnV) (W : World) : (Instr.field 42 (.agg #[.int .i64 m.id, .int .i64 m.player, .int .i64 m.kind, .int .i64 m.at_, .int .i64 m.life, .int .i64 m.load, .int .i64 m.task, .int .i64 m.goal]) 0).run Tryz.prog W = .ok (.int .i64 m.id) W := by kernel_rfl
set_option maxRecDepth 100000 in
set_option maxHeartbeats 4000000 in
theorem target_any (vk vw : Value) (ks : List KV) (X : WV) (u : UnV) (Wn : Nat) (k : KV) (w : World) (hk : Kl w vk ks) (hw : Wl w vw X) (e1 : X.wide = (Wn : Nat)) (h1 : 0 < Wn) (h2 : Wn ≤ 12) (hl : X.us.length ≤ 1000000)
    (hu : InF u) (hk0 : 0 ≤ u.kind) (hk' : ks[u.kind.toNat]? = some k) (hus : ∀ h ∈ X.us, InF h ∧ 0 ≤ h.life ∧ h.life ≤ 1000000) :
    Calls Tryz.prog 164 #[vk, vw, u.val] w fun e w' => ∃ t, e = .returned (.int .i64 t) ∧ TgSays Wn u k X.us t ∧ Below w.heap.size w w' := by
  obtain ⟨kn, hkn⟩ : ∃ n : Nat, u.kind = n := ⟨u.kind.toNat, by omega⟩
  have hkk : ks[kn]? = some k := by rw [hkn, Int.toNat_natCast] at hk'; exact hk'
  have hkl : kn < ks.length := (List.getElem?_eq_some_iff.1 hkk).1
  have H : Hid (Wl w vw X) := hw
  have GD : Hid (X.wide = (Wn : Nat) ∧ 0 < Wn ∧ Wn ≤ 12 ∧ InF u ∧ X.us.length ≤ 1000000 ∧ ∀ h ∈ X.us, InF h ∧ 0 ≤ h.life ∧ h.life ≤ 1000000) := ⟨e1, h1, h2, hu, hl, hus⟩
  obtain ⟨p1, q1, p2, q2, p3, q3, p4, q4, p5, q5, rfl⟩ := wl_shape9 hw
  obtain ⟨pk, qk, rfl, ck1, ck2, kc⟩ := hk
  obtain ⟨xk, rfl, hxl, hxc⟩ := kc (by intro h; subst h; simp at hkl)
  have KK : Hid (Kc w (xk.add (kn * 11)) k ∧ (xk.add (kn * 11)).block < w.heap.size) := ⟨hxc kn k hkk, by rw [add_block]; exact hxl⟩
  have HE : Hid (u.kind = (kn : Nat)) := hkn
  clear hw e1 h1 h2 hl hu hk0 hk' hus hkn kc hxc hxl hkk
  unfold UnV.val
  go_enter Tryz.func164, Tryz.ntmps164
  go_upto_region 1 with fail
  have B0 : Hid (Below w.heap.size w ((w.alloc (Obj.cells #[.int .i64 X.turn, .int .i64 X.next, .int .i64 X.wide, .int .i64 X.high, .slice p1 X.gs.length q1, .slice p2 X.os.length q2, .slice p3 X.gold.length q3, .slice p4 X.us.length q4, .slice p5 X.qs.length q5] 29)).alloc (Obj.cells #[.int .i64 u.id, .int .i64 u.player, .int .i64 u.kind, .int .i64 u.at_, .int .i64 u.life, .int .i64 u.load, .int .i64 u.task, .int .i64 u.goal] 42))) := ((Below.refl _ _).alloc (Nat.le_refl _) _).alloc (by simp) _
  have T0 : Hid (Tb ((w.alloc (Obj.cells #[.int .i64 X.turn, .int .i64 X.next, .int .i64 X.wide, .int .i64 X.high, .slice p1 X.gs.length q1, .slice p2 X.os.length q2, .slice p3 X.gold.length q3, .slice p4 X.us.length q4, .slice p5 X.qs.length q5] 29)).alloc (Obj.cells #[.int .i64 u.id, .int .i64 u.player, .int .i64 u.kind, .int .i64 u.at_, .int .i64 u.life, .int .i64 u.load, .int .i64 u.task, .int .i64 u.goal] 42)) w.heap.size (w.heap.size + 1) X (.slice p1 X.gs.length q1) (.slice p2 X.os.length q2) (.slice p3 X.gold.length q3) (.slice p4 X.us.length q4) (.slice p5 X.qs.length q5) u) := ⟨(Bw.mk' X _ _ _ _ _ rfl).below ((Below.refl _ _).alloc (Nat.le_refl _) _) (by simp), Unc.mk' u (by simp)⟩
  have Z0 : Hid (((w.alloc (Obj.cells #[.int .i64 X.turn, .int .i64 X.next, .int .i64 X.wide, .int .i64 X.high, .slice p1 X.gs.length q1, .slice p2 X.os.length q2, .slice p3 X.gold.length q3, .slice p4 X.us.length q4, .slice p5 X.qs.length q5] 29)).alloc (Obj.cells #[.int .i64 u.id, .int .i64 u.player, .int .i64 u.kind, .int .i64 u.at_, .int .i64 u.life, .int .i64 u.load, .int .i64 u.task, .int .i64 u.goal] 42)).heap.size = w.heap.size + 2) := by unfold Hid; simp
  generalize ((w.alloc (Obj.cells #[.int .i64 X.turn, .int .i64 X.next, .int .i64 X.wide, .int .i64 X.high, .slice p1 X.gs.length q1, .slice p2 X.os.length q2, .slice p3 X.gold.length q3, .slice p4 X.us.length q4, .slice p5 X.qs.length q5] 29)).alloc (Obj.cells #[.int .i64 u.id, .int .i64 u.player, .int .i64 u.kind, .int .i64 u.at_, .int .i64 u.life, .int .i64 u.load, .int .i64 u.task, .int .i64 u.goal] 42)) = w0 at *
  obtain ⟨z0, z1, z2, z3, z4, z5, z6, z7, z8, z9, z10⟩ := KK.out.1.below B0.out KK.out.2
  obtain ⟨y0, y1, y2, y3, y4, y5, y6, y7⟩ := T0.out.u
  rw [HE.out] at y2
  go_upto_region 2 with fail
  have BK : Hid (Below w0.heap.size w0 (w0.alloc (Obj.cells #[.string k.b, .int .i64 k.n0, .int .i64 k.n1, .int .i64 k.n2, .int .i64 k.n3, .int .i64 k.n4, .int .i64 k.n5, .int .i64 k.n6, .int .i64 k.n7, .bool k.f, .bool k.t] 101))) := (Below.refl _ _).alloc (Nat.le_refl _) _
  have K1 : Hid (Kc (w0.alloc (Obj.cells #[.string k.b, .int .i64 k.n0, .int .i64 k.n1, .int .i64 k.n2, .int .i64 k.n3, .int .i64 k.n4, .int .i64 k.n5, .int .i64 k.n6, .int .i64 k.n7, .bool k.f, .bool k.t] 101)) ⟨w.heap.size + 2, 0, none⟩ k) := kind_new k Z0.out
  have Z1 : Hid ((w0.alloc (Obj.cells #[.string k.b, .int .i64 k.n0, .int .i64 k.n1, .int .i64 k.n2, .int .i64 k.n3, .int .i64 k.n4, .int .i64 k.n5, .int .i64 k.n6, .int .i64 k.n7, .bool k.f, .bool k.t] 101)).heap.size = w.heap.size + 3) := by have := Z0.out; unfold Hid; simp; omega
  rw [Z0.out]
  generalize (w0.alloc (Obj.cells #[.string k.b, .int .i64 k.n0, .int .i64 k.n1, .int .i64 k.n2, .int .i64 k.n3, .int .i64 k.n4, .int .i64 k.n5, .int .i64 k.n6, .int .i64 k.n7, .bool k.f, .bool k.t] 101)) = w1 at *
  have B1 : Hid (Below w.heap.size w w1) := B0.out.trans (BK.out.mono B0.out.size)
  have T1 : Hid (Tb w1 (w.heap.size) (w.heap.size + 1) X (.slice p1 X.gs.length q1) (.slice p2 X.os.length q2) (.slice p3 X.gold.length q3) (.slice p4 X.us.length q4) (.slice p5 X.qs.length q5) u) := T0.out.below BK.out T0.out.x.lt T0.out.u.lt
  clear z0 z1 z2 z3 z4 z5 z6 z7 z8 z9 z10 y0 y1 y2 y3 y4 y5 y6 y7 B0 BK T0 Z0
  have c2 : w1.cell? ⟨w.heap.size + 2, 2, none⟩ = some (.int .i64 k.n1) := by have := K1.out.c2; rw [Nat.zero_add] at this; exact this
  by_cases h0 : k.n1 = 0
  · have N1 : Hid (k.n1 = 0) := h0
    rw [h0] at c2
    go_wp2
    go_ret
    exact ⟨-1, rfl, .inl ⟨N1.out, rfl⟩, B1.out⟩
  have N1 : Hid (k.n1 ≠ 0) := h0
  have h0' : (k.n1 == 0) = false := by rw [beq_eq_false_iff_ne]; exact h0
  clear h0
  have sf : ∀ (a : Addr) (f : Fn) (x y : Array Value) (w : World) (m : Mode), (store a (.func f x y) m).run Tryz.prog w = stored Tryz.prog w a (.func f x y) m := fun a f x y w m => run_store _ w a _ m rfl
  go_upto_region 5 with fail
  clear sf
  have BF : Hid (Below w1.heap.size w1 (w1.alloc (Obj.cells #[.func (Fn.func 197) #[] #[.pointer (some ⟨w.heap.size, 0, none⟩), .pointer (some ⟨w.heap.size + 1, 0, none⟩)]] 252))) := (Below.refl _ _).alloc (Nat.le_refl _) _
  have F2 : Hid ((w1.alloc (Obj.cells #[.func (Fn.func 197) #[] #[.pointer (some ⟨w.heap.size, 0, none⟩), .pointer (some ⟨w.heap.size + 1, 0, none⟩)]] 252)).cell? ⟨w.heap.size + 3, 0, none⟩ = some (.func (Fn.func 197) #[] #[.pointer (some ⟨w.heap.size, 0, none⟩), .pointer (some ⟨w.heap.size + 1, 0, none⟩)])) := cell_of_new Z1.out rfl
  have Z2 : Hid (w.heap.size + 3 < (w1.alloc (Obj.cells #[.func (Fn.func 197) #[] #[.pointer (some ⟨w.heap.size, 0, none⟩), .pointer (some ⟨w.heap.size + 1, 0, none⟩)]] 252)).heap.size) := by have := Z1.out; unfold Hid; simp; omega
  rw [Z1.out]
  generalize (w1.alloc (Obj.cells #[.func (Fn.func 197) #[] #[.pointer (some ⟨w.heap.size, 0, none⟩), .pointer (some ⟨w.heap.size + 1, 0, none⟩)]] 252)) = w2 at *
  have B2 : Hid (Below w.heap.size w w2) := B1.out.trans (BF.out.mono B1.out.size)
  have T2 : Hid (Tb w2 (w.heap.size) (w.heap.size + 1) X (.slice p1 X.gs.length q1) (.slice p2 X.os.length q2) (.slice p3 X.gold.length q3) (.slice p4 X.us.length q4) (.slice p5 X.qs.length q5) u) := T1.out.below BF.out T1.out.x.lt T1.out.u.lt
  have K2 : Hid (w2.cell? ⟨w.heap.size + 2, 3, none⟩ = some (.int .i64 k.n2)) := by have := (K1.out.below BF.out K1.out.lt).c3; rw [Nat.zero_add] at this; exact this
  clear c2 B1 T1 K1 Z1 BF h0'
  obtain ⟨x0, x1, x2, x3, x4, x5, x6, x7, x8⟩ := T2.out.x
  have US : Hid (Unl w (.slice p4 X.us.length q4) X.us) := H.out.slices.2.2.2.1
  go_wp2_with fail
  refine (clone_any _ X.us w2 (US.out.below B2.out) GD.out.2.2.2.2.1).mono ?_
  rintro e w3 ⟨v, rfl, ho, hb⟩
  have O3 : Hid (Uno w3 w2.heap.size v X.us) := ho
  have B3 : Hid (Below w2.heap.size w2 w3) := hb
  have TT : Hid (∀ W, Below w2.heap.size w2 W → Tb W (w.heap.size) (w.heap.size + 1) X (.slice p1 X.gs.length q1) (.slice p2 X.os.length q2) (.slice p3 X.gold.length q3) (.slice p4 X.us.length q4) (.slice p5 X.qs.length q5) u ∧ W.cell? ⟨w.heap.size + 3, 0, none⟩ = some (.func (Fn.func 197) #[] #[.pointer (some ⟨w.heap.size, 0, none⟩), .pointer (some ⟨w.heap.size + 1, 0, none⟩)]) ∧ W.cell? ⟨w.heap.size + 2, 3, none⟩ = some (.int .i64 k.n2)) := fun W hW =>
    ⟨T2.out.below hW T2.out.x.lt T2.out.u.lt, by rw [hW.cell (p := ⟨w.heap.size + 3, 0, none⟩) Z2.out]; exact F2.out, by rw [hW.cell (p := ⟨w.heap.size + 2, 3, none⟩) (show w.heap.size + 2 < w2.heap.size by have := Z2.out; omega)]; exact K2.out⟩
  have PR : Hid (∀ W, Below w2.heap.size w2 W → ∀ h ∈ X.us, Calls Tryz.prog 199 (#[h.val] ++ #[.pointer (some ⟨w.heap.size + 1, 0, none⟩), .pointer (some ⟨w.heap.size + 3, 0, none⟩), .pointer (some ⟨w.heap.size + 2, 0, none⟩)]) W fun e w' => e = .returned (.bool (safeU Wn u k.n2 h)) ∧ Below W.heap.size W w') := fun W hW h hh =>
    safe_fg X u h Wn _ _ _ _ k.n2 _ _ _ _ _ W (TT.out W hW).1 (TT.out W hW).2.1 (TT.out W hW).2.2 GD.out.1 GD.out.2.1 GD.out.2.2.1 GD.out.2.2.2.1 (GD.out.2.2.2.2.2 h hh).1
  clear ho hb x0 x1 x2 x3 x4 x5 x6 x7 x8 F2 K2
  go_wp2_with fail
  refine (del_any 199 (by intro args w; go_simp) v #[.pointer (some ⟨w.heap.size + 1, 0, none⟩), .pointer (some ⟨w.heap.size + 3, 0, none⟩), .pointer (some ⟨w.heap.size + 2, 0, none⟩)] X.us (safeU Wn u k.n2) w3 w2.heap.size O3.out B3.out.size GD.out.2.2.2.2.1 (fun W hW h hh => PR.out W (B3.out.trans hW) h hh)).mono ?_
  rintro e w4 ⟨v4, rfl, ho, hb⟩
  have B4 : Hid (Below w2.heap.size w2 w4) := B3.out.trans hb
  have L4 : Hid (Unl w4 v4 (foesU Wn u k.n2 X.us)) := ho.l
  obtain ⟨a4, c4, rfl⟩ := ho.len
  obtain ⟨hs, hhs⟩ : ∃ hs, foesU Wn u k.n2 X.us = hs := ⟨_, rfl⟩
  have HS : Hid (foesU Wn u k.n2 X.us = hs) := hhs
  have e4 : (X.us.filter (fun o => !safeU Wn u k.n2 o)).length = hs.length := by rw [← hhs]; rfl
  rw [hhs, e4] at L4
  rw [e4]
  clear ho hb e4 hhs O3 B3 PR
  have BW : Hid (Below w.heap.size w w4) := B2.out.trans (B4.out.mono B2.out.size)
  cases hs with
  | nil =>
    simp only [List.length_nil]
    go_wp2
    go_ret
    exact ⟨-1, rfl, .inr (.inl ⟨N1.out, HS.out, rfl⟩), BW.out⟩
  | cons f0 tl =>
    have HM : Hid (∀ h ∈ f0 :: tl, h ∈ X.us) := fun h hh => by rw [← HS.out] at hh; exact (List.mem_filter.1 hh).1
    have TL : Hid (tl.length ≤ 1000000) := by
      have h1 : (foesU Wn u k.n2 X.us).length ≤ X.us.length := List.length_filter_le _ _
      rw [HS.out, List.length_cons] at h1
      have h2 := GD.out.2.2.2.2.1
      unfold Hid
      omega
    have hne : (((f0 :: tl).length : Nat) : Int) ≠ 0 := by rw [List.length_cons]; omega
    have hne' : ((((f0 :: tl).length : Nat) : Int) == 0) = false := by rw [beq_eq_false_iff_ne]; exact hne
    obtain ⟨n, hn⟩ : ∃ n, (f0 :: tl).length = n := ⟨_, rfl⟩
    have HN : Hid ((f0 :: tl).length = n) := hn
    rw [hn] at hne hne' ⊢
    clear hn
    have L5 : Hid (Unl w4 (.slice a4 n c4) (f0 :: tl)) := by rw [← HN.out]; exact L4.out
    clear L4
    go_upto_region 10 with fail
    have BX : Hid (∀ V, Below w2.heap.size w2 V → Bw V (w.heap.size) X (.slice p1 X.gs.length q1) (.slice p2 X.os.length q2) (.slice p3 X.gold.length q3) (.slice p4 X.us.length q4) (.slice p5 X.qs.length q5)) := fun V hV => (TT.out V hV).1.x
    refine wp_region_two [(true, 0), (true, 1), (true, 2), (false, 3), (true, 4), (false, 5)] [(false, 6)] (fun V => Bw V (w.heap.size) X (.slice p1 X.gs.length q1) (.slice p2 X.os.length q2) (.slice p3 X.gold.length q3) (.slice p4 X.us.length q4) (.slice p5 X.qs.length q5)) (by kernel_rfl) (by kernel_rfl) (by kernel_rfl) (by decide +kernel) (by decide +kernel) (BX.out _ B4.out.drew) ?_
    have B5 : Hid (Below w2.heap.size w2 { w4 with drawn := w4.drawn + 1 }) := B4.out.drew
    have L6 : Hid (Unl { w4 with drawn := w4.drawn + 1 } (.slice a4 n c4) (f0 :: tl)) := L5.out.below ((Below.refl _ _).drew)
    generalize ({ w4 with drawn := w4.drawn + 1 } : World) = w5 at *
    clear B4 L5 BW
    refine headT_read rfl (.agg #[.int .i64 X.turn, .int .i64 X.next, .int .i64 X.wide, .int .i64 X.high, .slice p1 X.gs.length q1, .slice p2 X.os.length q2, .slice p3 X.gold.length q3, .slice p4 X.us.length q4, .slice p5 X.qs.length q5]) (by go_simp) (fun V hV => by obtain ⟨x0, x1, x2, x3, x4, x5, x6, x7, x8⟩ := hV; go_simp) ?_
    go_simp
    refine headT_read rfl (.slice a4 n c4) (by go_simp) (fun V hV => by go_simp) ?_
    go_simp
    refine headT_read rfl (.func (Fn.func 201) #[] #[.pointer (some ⟨w.heap.size + 3, 0, none⟩)]) (by go_simp) (fun V hV => by go_simp) ?_
    go_simp
    refine headT_call rfl 202 #[.slice a4 n c4, .func (Fn.func 201) #[] #[.pointer (some ⟨w.heap.size + 3, 0, none⟩)]] (by go_simp) (by go_simp) ?_
    refine (min_gen 201 (by intro args w; go_simp) _ #[.pointer (some ⟨w.heap.size + 3, 0, none⟩)] f0 tl (keyU Wn u) (soonU Wn u) w5 L6.out TL.out (fun a ha b hb => soon_key (GD.out.2.2.2.2.2 a (HM.out a ha)).2 (GD.out.2.2.2.2.2 b (HM.out b hb)).2) (fun W hW a ha b hb => ?_)).mono ?_
    · have hWW := B5.out.trans (hW.mono B5.out.size)
      exact soon_fg X u a b Wn _ _ _ _ _ _ _ _ W (TT.out W hWW).1 (TT.out W hWW).2.1 GD.out.1 GD.out.2.1 GD.out.2.2.1 GD.out.2.2.2.1 (GD.out.2.2.2.2.2 a (HM.out a ha)).1 (GD.out.2.2.2.2.2 b (HM.out b hb)).1 (GD.out.2.2.2.2.2 a (HM.out a ha)).2 (GD.out.2.2.2.2.2 b (HM.out b hb)).2
    rintro e w6 ⟨rfl, hb⟩
    have B6 : Hid (Below w2.heap.size w2 w6) := B5.out.trans (hb.mono B5.out.size)
    refine ⟨_, rfl, BX.out _ B6.out, ?_⟩
    clear hb L6 B5
    obtain ⟨m, hm⟩ : ∃ m, minU (keyU Wn u) f0 tl = m := ⟨_, rfl⟩
    have MM : Hid (minU (keyU Wn u) f0 tl = m) := hm
    rw [hm]
    clear hm
    unfold UnV.val
    have hfi := fun W => field_id m W
    go_simp
    refine headT_read rfl (.int .i64 m.id) (by go_simp) (fun V hV => by go_simp) ?_
    go_simp
    refine headT_call rfl 94 #[.agg #[.int .i64 X.turn, .int .i64 X.next, .int .i64 X.wide, .int .i64 X.high, .slice p1 X.gs.length q1, .slice p2 X.os.length q2, .slice p3 X.gold.length q3, .slice p4 X.us.length q4, .slice p5 X.qs.length q5], .int .i64 m.id] (by go_simp) (by go_simp) ?_
    refine (wfind_any _ X m.id w6 (H.out.below (B2.out.trans (B6.out.mono B2.out.size)))).mono ?_
    rintro e w7 ⟨r, rfl, hf, hb⟩
    have B7 : Hid (Below w2.heap.size w2 w7) := B6.out.trans (hb.mono B6.out.size)
    have RR : Hid (TgSays Wn u k X.us r) := .inr (.inr ⟨N1.out, f0, tl, HS.out, by rw [MM.out]; exact hf⟩)
    refine ⟨_, rfl, BX.out _ B7.out, ?_⟩
    clear hb hf hfi
    go_simp
    refine sched_value rfl (.int .i64 r) w7 (by go_simp) (by go_simp) trivial ?_
    go_simp
    unfold wpSched
    go_wp2
    go_ret
    exact ⟨r, rfl, RR.out, B2.out.trans (B7.out.mono B2.out.size)⟩

end Go.Proofs.YtkejdkajfnaieaaGreatDoor

namespace Go.Proofs.YtkejdkajfnaieaaGreatDoor
open Go.RowKit
set_option linter.unusedVariables false

theorem right_fit {ks : List KV} {X : WV} (h : WRight ks X) : ∀ u ∈ X.us, InF u ∧ 0 ≤ u.life ∧ u.life ≤ 1000000 := by
  intro u hu
  obtain ⟨i, hi⟩ := List.mem_iff_getElem?.1 hu
  obtain ⟨k, f⟩ := h.fine hi
  obtain ⟨Wn, Hn, e1, e2, G⟩ := h.good
  have h1 := f.at_
  have h2 := f.life
  have h3 := kind_nums h.kinds (List.mem_of_getElem? f.kk)
  have h4 := G.gl
  have h5 := G.pos.2
  exact ⟨⟨h1.1, by omega⟩, by omega, by omega⟩
/-- what Target tells. -/
def TarSays (ks : List KV) (X : WV) (i t F : Int) : Prop :=
  (Wd.wfault ks X ≠ 0 ∧ F = Wd.wfault ks X ∧ t = 0) ∨ (Wd.wfault ks X = 0 ∧ ¬ (0 ≤ i ∧ i < (X.us.length : Int)) ∧ F = 6 ∧ t = 0)
  ∨ (Wd.wfault ks X = 0 ∧ F = 0 ∧ ∃ (n Wn : Nat) (u : UnV) (k : KV), i = n ∧ X.us[n]? = some u ∧ X.wide = (Wn : Nat) ∧ 0 < Wn ∧ Wn ≤ 12 ∧ ks[u.kind.toNat]? = some k ∧ TgSays Wn u k X.us t)
end Go.Proofs.YtkejdkajfnaieaaGreatDoor

namespace Go.Proofs.YtkejdkajfnaieaaGreatDoor
open Go.RowKit
set_option linter.unusedVariables false

theorem tgtOf_some {ks : List KV} {W : Nat} {us : List UnV} {u : UnV} {k : KV} (hk : ks[u.kind.toNat]? = some k) : tgtOf ks W us u = tgt W u k us := by
  unfold tgtOf; rw [hk]
theorem hitOf_some {ks : List KV} {u : UnV} {k : KV} (hk : ks[u.kind.toNat]? = some k) : hitOf ks u = k.n1 := by
  unfold hitOf; rw [hk]

set_option maxRecDepth 100000 in
set_option maxHeartbeats 16000000 in
theorem strike_some (vk : Value) (ks : List KV) (X : WV) (us : List UnV) (g1 g2 g3 g5 : Value) (g cap Wn : Nat) (rest : List Value) (w : World) (hX : WRight ks X) (hus : X.us = us) (hW : X.wide = (Wn : Nat)) (h1 : 0 < Wn) (h2 : Wn ≤ 12) (hne : us ≠ [])
    (hk : Kl w vk ks) (hw : Wl w (.agg #[.int .i64 X.turn, .int .i64 X.next, .int .i64 X.wide, .int .i64 X.high, g1, g2, g3, .slice (some ⟨g, 0, none⟩) us.length cap, g5]) X) (hub : Ub w g us rest) :
    Calls Tryz.prog 117 #[vk, .agg #[.int .i64 X.turn, .int .i64 X.next, .int .i64 X.wide, .int .i64 X.high, g1, g2, g3, .slice (some ⟨g, 0, none⟩) us.length cap, g5]] w fun e w' => ∃ ev, e = .returned ev ∧ Evo w' w.heap.size ev (strikes ks Wn us us).2 ∧ Ub w' g (hurt us (strikes ks Wn us us).1) rest ∧ Kp g w w' := by
  obtain ⟨xu, hxu⟩ : ∃ x : Addr, (⟨g, 0, none⟩ : Addr) = x := ⟨_, rfl⟩
  have HXU : Hid ((⟨g, 0, none⟩ : Addr) = xu) := hxu
  have HUB : Hid (Ub w g us rest) := hub
  have K : Hid (Kl w vk ks) := hk
  have R : Hid (WRight ks X ∧ X.us = us ∧ X.wide = (Wn : Nat) ∧ 0 < Wn ∧ Wn ≤ 12 ∧ us ≠ []) := ⟨hX, hus, hW, h1, h2, hne⟩
  have FT : Hid (∀ h ∈ us, InF h ∧ 0 ≤ h.life ∧ h.life ≤ 1000000) := by rw [← hus]; exact right_fit hX
  have hul : us.length ≤ 40 := by rw [← hus]; exact hX.ul
  have UC : Hid (∀ (i : Nat) k, us[i]? = some k → Unc w (xu.add (i * 8)) k) := fun i k hi => by
    rw [← hxu, Addr.add_lit, Nat.zero_add]
    exact hub.unc hi
  have UL : Hid (xu.block < w.heap.size ∧ g < w.heap.size) := ⟨by rw [← hxu]; exact hub.lt, hub.lt⟩
  have hcap : us.length ≤ cap ∧ cap ≤ 9223372036854775807 := by
    obtain ⟨a, c, he, h1, h2, -⟩ := hw.slices.2.2.2.1
    injection he with _ _ he
    subst he
    rw [hus] at h1
    exact ⟨h1, h2⟩
  obtain ⟨hcap1, hcap2⟩ := hcap
  have hlen : 0 < us.length := List.length_pos_iff.2 hne
  have HL : Hid (0 < us.length) := hlen
  rw [hxu] at hw ⊢
  have H : Hid (Wl w (.agg #[.int .i64 X.turn, .int .i64 X.next, .int .i64 X.wide, .int .i64 X.high, g1, g2, g3, .slice (some xu) us.length cap, g5]) X) := hw
  obtain ⟨pk, qk, rfl, ck1, ck2, kc⟩ := hk
  have hkn0 : ks ≠ [] := by
    intro h
    obtain ⟨u, hu⟩ : ∃ u, us[0]? = some u := ⟨_, List.getElem?_eq_getElem hlen⟩
    rw [← hus] at hu
    obtain ⟨k, f⟩ := hX.fine hu
    have := f.kk
    rw [h] at this
    simp at this
  obtain ⟨xk, rfl, hxl, hxc⟩ := kc hkn0
  have KC : Hid ((∀ (i : Nat) k, ks[i]? = some k → Kc w (xk.add (i * 11)) k) ∧ xk.block < w.heap.size) := ⟨hxc, hxl⟩
  clear hub hX hus hW h1 h2 hne hw kc hkn0 hxc hxl hxu hlen
  go_enter Tryz.func117, Tryz.ntmps117
  go_upto_region 2 with fail
  have B0 : Hid (Below w.heap.size w (w.alloc (Obj.cells #[.int .i64 X.turn, .int .i64 X.next, .int .i64 X.wide, .int .i64 X.high, g1, g2, g3, .slice (some xu) us.length cap, g5] 29))) := (Below.refl _ _).alloc (Nat.le_refl _) _
  have X0 : Hid (Bw (w.alloc (Obj.cells #[.int .i64 X.turn, .int .i64 X.next, .int .i64 X.wide, .int .i64 X.high, g1, g2, g3, .slice (some xu) us.length cap, g5] 29)) w.heap.size X g1 g2 g3 (.slice (some xu) us.length cap) g5) := Bw.mk' X _ _ _ _ _ rfl
  generalize (w.alloc (Obj.cells #[.int .i64 X.turn, .int .i64 X.next, .int .i64 X.wide, .int .i64 X.high, g1, g2, g3, .slice (some xu) us.length cap, g5] 29)) = w0 at *
  have x7 := X0.out.c7
  obtain ⟨w1, hmk, hbk, hb1, hs1⟩ := makeI us.length w0 (by omega)
  go_upto_region 3 with fail
  have BK : Hid (Bk w1 w0.heap.size (List.replicate us.length 0) #[]) := hbk
  have B1 : Hid (Below w.heap.size w w1) := B0.out.trans (hb1.mono B0.out.size)
  have X1 : Hid (Bw w1 w.heap.size X g1 g2 g3 (.slice (some xu) us.length cap) g5) := X0.out.below hb1 X0.out.lt
  obtain ⟨lb, hlb⟩ : ∃ z, w0.heap.size = z := ⟨_, rfl⟩
  have LBG : Hid (w.heap.size < lb ∧ w1.heap.size = lb + 1) := ⟨by rw [← hlb]; exact X0.out.lt, by rw [← hlb]; exact hs1⟩
  rw [hlb] at BK ⊢
  clear hmk hbk hb1 hs1 x7 hlb B0 X0
  have x7 := X1.out.c7
  go_upto_region 4 with fail
  clear x7
  go_loopw [5, 19] (fun v5 v19 V => ∃ (n : Nat) (ev : Value), v19 = .int .i64 (n : Nat) ∧ ev = v5 ∧ n ≤ us.length ∧ Bk V lb (strikes ks Wn us (us.take n)).1 #[] ∧ Evo V w1.heap.size ev (strikes ks Wn us (us.take n)).2 ∧ (strikes ks Wn us (us.take n)).2.length ≤ n ∧ Kp lb w1 V) (fun _ v19 _ => us.length - (intOf v19).toNat)
  case atStart => exact ⟨0, _, rfl, rfl, Nat.zero_le _, BK.out, Evo.nil _ _, Nat.le_refl _, Kp.refl _ _⟩
  case round =>
    obtain ⟨n, ev, rfl, rfl, hn, hbk, hev, hel, hkp⟩ := hrel
    have L1 : Hid (Bk wr lb (strikes ks Wn us (us.take n)).1 #[]) := hbk
    have E1 : Hid (Evo wr w1.heap.size ev (strikes ks Wn us (us.take n)).2 ∧ (strikes ks Wn us (us.take n)).2.length ≤ n) := ⟨hev, hel⟩
    have KP : Hid (Kp lb w1 wr) := hkp
    have BL : Hid (Below lb w1 wr) := hkp.below (Below.refl _ _) (by have := LBG.out.2; omega) (Nat.le_refl _)
    have BB : Hid (Below w.heap.size w wr) := B1.out.trans (BL.out.mono (by have := LBG.out.1; omega))
    have XR : Hid (Bw wr w.heap.size X g1 g2 g3 (.slice (some xu) us.length cap) g5) := X1.out.below BL.out LBG.out.1
    clear hbk hev hel hkp BK
    by_cases h0 : n = us.length
    · subst h0
      have hx9 := HXU.out
      subst hx9
      have hnl : ¬ (((us.length : Nat) : Int) < (us.length : Nat)) := by omega
      rw [List.take_of_length_le (Nat.le_refl _)] at L1 E1
      obtain ⟨ls, hls⟩ : ∃ l, (strikes ks Wn us us).1 = l := ⟨_, rfl⟩
      obtain ⟨es, hes⟩ : ∃ l, (strikes ks Wn us us).2 = l := ⟨_, rfl⟩
      have LS : Hid (ls.length = us.length ∧ Upto 40000 ls ∧ (strikes ks Wn us us).1 = ls ∧ (strikes ks Wn us us).2 = es) := ⟨by rw [← hls]; exact strikes_len', by
        have := strikes_upto (W := Wn) (us := us) R.out.1.kinds us.length (Nat.le_refl _)
        rw [List.take_of_length_le (Nat.le_refl _), hls] at this
        intro x hx
        have := this x hx
        omega, hls, hes⟩
      rw [hls] at L1
      rw [hes] at E1
      generalize wr = w2 at *
      have UB : Hid (Ub w2 g us rest) := HUB.out.below BB.out HUB.out.lt
      have NG : Hid (g < w.heap.size ∧ w.heap.size < lb) := ⟨UL.out.2, LBG.out.1⟩
      clear hls hes hnl
      go_upto_region 12 with fail
      go_loopw [56] (fun v56 V => ∃ (n : Nat), v56 = .int .i64 (n : Nat) ∧ n ≤ us.length ∧ Ub V g (hurtN us ls n) rest ∧ Kp g w2 V) (fun v56 _ => us.length - (intOf v56).toNat)
      case atStart => exact ⟨0, rfl, Nat.zero_le _, by rw [hurtN_zero]; exact UB.out, Kp.refl _ _⟩
      case round =>
        obtain ⟨n, rfl, hn, hub, hkp⟩ := hrel
        have U2 : Hid (Ub wr g (hurtN us ls n) rest) := hub
        have P2 : Hid (Kp g w2 wr) := hkp
        have L2 : Hid (Bk wr lb ls #[]) := L1.out.kp hkp (by have := NG.out; omega)
        have X2 : Hid (Bw wr w.heap.size X g1 g2 g3 (.slice (some ⟨g, 0, none⟩) us.length cap) g5) := XR.out.kp9 hkp (by have := NG.out; omega)
        clear hub hkp
        by_cases h0 : n = us.length
        · subst h0
          have hnl : ¬ (((us.length : Nat) : Int) < (us.length : Nat)) := by omega
          go_wp2
          go_ret
          refine ⟨ev, rfl, ?_, ?_, ?_⟩
          · rw [LS.out.2.2.2]
            exact (E1.out.1.kp9 P2.out (by have := NG.out; have := LBG.out.2; omega)).mono (by have := LBG.out; omega)
          · have := U2.out
            rw [hurtN_all LS.out.1] at this
            rw [LS.out.2.2.1]
            exact this
          · exact (Kp.of BB.out).trans P2.out
        · have hnl : n < us.length := by omega
          have hni : ((n : Nat) : Int) < (us.length : Nat) := by omega
          obtain ⟨u, hu⟩ : ∃ u, us[n]? = some u := ⟨_, List.getElem?_eq_getElem hnl⟩
          obtain ⟨x, hx⟩ : ∃ x, ls[n]? = some x := ⟨_, List.getElem?_eq_getElem (by rw [LS.out.1]; exact hnl)⟩
          have xb := LS.out.2.1 x (List.mem_of_getElem? hx)
          have ub := (FT.out u (List.mem_of_getElem? hu)).2
          have wsub : IntKind.i64.wrap (u.life - x) = u.life - x := by rw [IntKind.wrap_i64]; omega
          have WN : IntKind.i64.wrap ((n : Nat) + 1 : Int) = ((n : Nat) : Int) + 1 := by rw [IntKind.wrap_i64]; omega
          have cl := L2.out.cell hx
          have x7 := X2.out.c7
          have c4 := (U2.out.unc (hurtN_at LS.out.1 hu)).c4
          have t4 := U2.out.thaw (n * 8 + 4)
          have U3 : Hid (Ub (wr.setCell ⟨g, n * 8 + 4, none⟩ (.int .i64 (u.life - x))) g (hurtN us ls (n + 1)) rest) := by
            unfold Hid
            rw [← hurtN_next LS.out.1 hu hx]
            exact U2.out.set4 (hurtN_at LS.out.1 hu) _
          have P3 : Hid (Kp g w2 (wr.setCell ⟨g, n * 8 + 4, none⟩ (.int .i64 (u.life - x)))) := P2.out.trans (Kp.set _ _ _)
          clear xb ub hu hx
          go_wp2
          go_round
          case rel => exact ⟨n + 1, by go_num, by omega, U3.out, P3.out⟩
          case measure => simp [intOf]; omega
    · have hnl : n < us.length := by omega
      have hni : ((n : Nat) : Int) < (us.length : Nat) := by omega
      obtain ⟨u, hu⟩ : ∃ u, us[n]? = some u := ⟨_, List.getElem?_eq_getElem hnl⟩
      obtain ⟨k, fu⟩ := R.out.1.fine (show X.us[n]? = some u by rw [R.out.2.1]; exact hu)
      obtain ⟨kn, hkn⟩ : ∃ n : Nat, u.kind = n := ⟨u.kind.toNat, by have := fu.k0.1; omega⟩
      have hkk : ks[kn]? = some k := by have := fu.kk; rw [hkn, Int.toNat_natCast] at this; exact this
      have hkl : kn < ks.length := (List.getElem?_eq_some_iff.1 hkk).1
      have UK : Hid (us[n]? = some u ∧ u.kind = (kn : Nat) ∧ ks[u.kind.toNat]? = some k ∧ 0 ≤ u.kind) := ⟨hu, hkn, fu.kk, fu.k0.1⟩
      have KK : Hid (Kc w (xk.add (kn * 11)) k ∧ (xk.add (kn * 11)).block < w.heap.size) := ⟨KC.out.1 kn k hkk, by rw [add_block]; exact KC.out.2⟩
      have NX := strikes_next (ks := ks) (W := Wn) (us := us) hu
      have WN : IntKind.i64.wrap ((n : Nat) + 1 : Int) = ((n : Nat) : Int) + 1 := by rw [IntKind.wrap_i64]; omega
      obtain ⟨y0, y1, y2, y3, y4, y5, y6, y7⟩ := (UC.out n u hu).below BB.out (by rw [add_block]; exact UL.out.1)
      clear hu fu hkn hkk
      have NXH : Hid (strikes ks Wn us (us.take (n + 1)) = stk ks Wn us (strikes ks Wn us (us.take n)) u) := NX
      clear NX
      go_upto_region 6 with fail
      have BA : Hid (Below wr.heap.size wr (wr.alloc (Obj.cells #[.int .i64 u.id, .int .i64 u.player, .int .i64 u.kind, .int .i64 u.at_, .int .i64 u.life, .int .i64 u.load, .int .i64 u.task, .int .i64 u.goal] 42))) := (Below.refl _ _).alloc (Nat.le_refl _) _
      obtain ⟨bu, hbu⟩ : ∃ z, wr.heap.size = z := ⟨_, rfl⟩
      have U2 : Hid (Unc (wr.alloc (Obj.cells #[.int .i64 u.id, .int .i64 u.player, .int .i64 u.kind, .int .i64 u.at_, .int .i64 u.life, .int .i64 u.load, .int .i64 u.task, .int .i64 u.goal] 42)) ⟨bu, 0, none⟩ u) := Unc.mk' u hbu
      have VB : Hid (∀ b, ev.ownBlock = some b → b < bu) := fun b hb => by rw [← hbu]; exact (E1.out.1.block b hb).2
      have BUL : Hid (w1.heap.size ≤ bu) := by unfold Hid; rw [← hbu]; exact KP.out.size
      rw [hbu]
      generalize (wr.alloc (Obj.cells #[.int .i64 u.id, .int .i64 u.player, .int .i64 u.kind, .int .i64 u.at_, .int .i64 u.life, .int .i64 u.load, .int .i64 u.task, .int .i64 u.goal] 42)) = w2 at *
      have B2 : Hid (Below w.heap.size w w2) := BB.out.trans (BA.out.mono BB.out.size)
      have L2 : Hid (Bk w2 lb (strikes ks Wn us (us.take n)).1 #[]) := L1.out.below BA.out
      have E2 : Hid (Evo w2 w1.heap.size ev (strikes ks Wn us (us.take n)).2) := E1.out.1.below BA.out
      have P2 : Hid (Kp lb w1 w2) := KP.out.trans (Kp.of BA.out)
      have X2 : Hid (Bw w2 w.heap.size X g1 g2 g3 (.slice (some xu) us.length cap) g5) := XR.out.below BA.out XR.out.lt
      clear y0 y1 y2 y3 y4 y5 y6 y7 hbu BA BB L1 KP XR BL
      obtain ⟨x0, x1, x2, x3, x4, x5, x6, x7, x8⟩ := X2.out
      obtain ⟨y0, y1, y2, y3, y4, y5, y6, y7⟩ := U2.out
      go_wp2_with fail
      refine (target_any _ _ ks X u Wn k w2 (K.out.below B2.out) (H.out.below B2.out) R.out.2.2.1 R.out.2.2.2.1 R.out.2.2.2.2.1 (by rw [R.out.2.1]; omega) (FT.out u (List.mem_of_getElem? UK.out.1)).1 UK.out.2.2.2 UK.out.2.2.1 (by rw [R.out.2.1]; exact FT.out)).mono ?_
      rintro e w3 ⟨t, rfl, ht, hb⟩
      have TQ : Hid (t = tgtOf ks Wn us u) := by unfold Hid; rw [tgtOf_some UK.out.2.2.1]; rw [R.out.2.1] at ht; exact tg_eq ht
      have TW := tg_who R.out.1 ht
      rw [R.out.2.1] at TW
      have B3 : Hid (Below w.heap.size w w3) := B2.out.trans (hb.mono B2.out.size)
      have L3 : Hid (Bk w3 lb (strikes ks Wn us (us.take n)).1 #[]) := L2.out.below hb
      have E3 : Hid (Evo w3 w1.heap.size ev (strikes ks Wn us (us.take n)).2) := E2.out.below hb
      have P3 : Hid (Kp lb w1 w3) := P2.out.trans (Kp.of hb)
      have X3 : Hid (Bw w3 w.heap.size X g1 g2 g3 (.slice (some xu) us.length cap) g5) := X2.out.below hb X2.out.lt
      have U3 : Hid (Unc w3 ⟨bu, 0, none⟩ u) := U2.out.below hb U2.out.lt
      clear hb ht x0 x1 x2 x3 x4 x5 x6 x7 x8 y0 y1 y2 y3 y4 y5 y6 y7 B2 L2 E2 P2 X2 U2
      rcases TW with ⟨rfl, -⟩ | ⟨hn1, tn, x, f0, tl, rfl, hx, -, -⟩
      · have SAME : Hid (strikes ks Wn us (us.take (n + 1)) = strikes ks Wn us (us.take n)) := by
          unfold Hid
          rw [NXH.out]
          unfold stk
          rw [← TQ.out, if_pos rfl]
        go_wp2
        go_round
        case rel => exact ⟨n + 1, _, by go_num, rfl, by omega, by rw [SAME.out]; exact L3.out, by rw [SAME.out]; exact E3.out, by rw [SAME.out]; have := E1.out.2; omega, P3.out⟩
        case measure => simp [intOf]; omega
      · have htl : tn < us.length := (List.getElem?_eq_some_iff.1 hx).1
        obtain ⟨ls, hls⟩ : ∃ l, (strikes ks Wn us (us.take n)).1 = l := ⟨_, rfl⟩
        obtain ⟨es, hes⟩ : ∃ l, (strikes ks Wn us (us.take n)).2 = l := ⟨_, rfl⟩
        have hll : ls.length = us.length := by rw [← hls]; exact strikes_len'
        obtain ⟨ln, hln⟩ : ∃ x, ls[tn]? = some x := ⟨_, List.getElem?_eq_getElem (by omega)⟩
        have UPT := strikes_upto (W := Wn) (us := us) R.out.1.kinds n hn
        rw [hls] at UPT
        have lnb := UPT ln (List.mem_of_getElem? hln)
        have hitb := hit_in R.out.1.kinds u
        rw [hitOf_some UK.out.2.2.1] at hitb
        have wadd : IntKind.i64.wrap (ln + k.n1) = ln + k.n1 := by rw [IntKind.wrap_i64]; omega
        have NEW : Hid (strikes ks Wn us (us.take (n + 1)) = (ls.set tn (ln + k.n1), es ++ [⟨2, u.id, x.id⟩])) := by
          unfold Hid
          rw [NXH.out]
          unfold stk
          rw [← TQ.out, if_neg (by omega), Int.toNat_natCast, hitOf_some UK.out.2.2.1, hls, hes, hx, List.getD_eq_getElem?_getD, hln]
          rfl
        rw [hls] at L3
        rw [hes] at E3
        have EL : Hid (es.length ≤ n) := by rw [← hes]; exact E1.out.2
        have htn : ¬ ((tn : Nat) : Int) = -1 := by omega
        have htb : (((tn : Nat) : Int) == -1) = false := by rw [beq_eq_false_iff_ne]; exact htn
        have UT : Hid (Unc w (xu.add (tn * 8)) x ∧ (xu.add (tn * 8)).block < w.heap.size) := ⟨UC.out tn x hx, by rw [add_block]; exact UL.out.1⟩
        have htu : ((tn : Nat) : Int) < (us.length : Nat) := by omega
        have LNB : Hid (ls.length = us.length ∧ ls[tn]? = some ln) := ⟨hll, hln⟩
        clear hx NXH UPT lnb hitb hn1 E1 hls hes hll hln TQ htn
        go_upto_region 8 with fail
        have CB : Hid (∀ V, Below w.heap.size w V → Bk V lb ls #[] → Unc V ⟨bu, 0, none⟩ u → (V.cell? ⟨lb, tn, none⟩ = some (.int .i64 ln) ∧ V.cell? ⟨bu, 2, none⟩ = some (.int .i64 (kn : Nat)) ∧ V.cell? ⟨(xk.add (kn * 11)).block, (xk.add (kn * 11)).off + 2, none⟩ = some (.int .i64 k.n1))) := fun V hb hl hu => ⟨hl.cell LNB.out.2, by have := hu.c2; rw [Nat.zero_add, UK.out.2.1] at this; exact this, (KK.out.1.below hb KK.out.2).c2⟩
        refine wp_region_two [(true, 0), (true, 1), (true, 2), (true, 3), (true, 4), (true, 5), (true, 6), (true, 7), (true, 8), (true, 9), (true, 10), (true, 11)] [(false, 12)] (fun V => V.cell? ⟨lb, tn, none⟩ = some (.int .i64 ln) ∧ V.cell? ⟨bu, 2, none⟩ = some (.int .i64 (kn : Nat)) ∧ V.cell? ⟨(xk.add (kn * 11)).block, (xk.add (kn * 11)).off + 2, none⟩ = some (.int .i64 k.n1)) (by kernel_rfl) (by kernel_rfl) (by kernel_rfl) (by decide +kernel) (by decide +kernel) (CB.out _ B3.out.drew (L3.out.below ((Below.refl _ _).drew)) (U3.out.below ((Below.refl _ _).drew) U3.out.lt)) ?_
        have D4 : Hid (Below w3.heap.size w3 { w3 with drawn := w3.drawn + 1 }) := (Below.refl _ _).drew
        generalize ({ w3 with drawn := w3.drawn + 1 } : World) = w4 at *
        have B4 : Hid (Below w.heap.size w w4) := B3.out.trans (D4.out.mono B3.out.size)
        have L4 : Hid (Bk w4 lb ls #[]) := L3.out.below D4.out
        have E4 : Hid (Evo w4 w1.heap.size ev es) := E3.out.below D4.out
        have P4 : Hid (Kp lb w1 w4) := P3.out.trans (Kp.of D4.out)
        have X4 : Hid (Bw w4 w.heap.size X g1 g2 g3 (.slice (some xu) us.length cap) g5) := X3.out.below D4.out X3.out.lt
        have U4 : Hid (Unc w4 ⟨bu, 0, none⟩ u) := U3.out.below D4.out U3.out.lt
        clear B3 L3 E3 P3 X3 U3 D4
        refine headT_read rfl (.slice (some ⟨lb, 0, none⟩) us.length us.length) (by go_simp) (fun V hV => by go_simp) ?_
        go_simp
        refine headT_read rfl (.int .i64 (tn : Nat)) (by go_simp) (fun V hV => by go_simp) ?_
        go_simp
        refine headT_read rfl (.pointer (some ⟨lb, tn, none⟩)) (by go_simp) (fun V hV => by go_simp) ?_
        go_simp
        refine headT_read rfl (.int .i64 ln) (by go_simp) (fun V hV => by obtain ⟨d1, d2, d3⟩ := hV; go_simp) ?_
        go_simp
        refine headT_read rfl (.slice (some xk) ks.length qk) (by go_simp) (fun V hV => by go_simp) ?_
        go_simp
        refine headT_read rfl (.pointer (some ⟨bu, 2, none⟩)) (by go_simp) (fun V hV => by go_simp) ?_
        go_simp
        refine headT_read rfl (.int .i64 (kn : Nat)) (by go_simp) (fun V hV => by obtain ⟨d1, d2, d3⟩ := hV; go_simp) ?_
        go_simp
        refine headT_read rfl (.pointer (some (xk.add (kn * 11)))) (by go_simp) (fun V hV => by go_simp) ?_
        go_simp
        refine headT_read rfl (.pointer (some ⟨(xk.add (kn * 11)).block, (xk.add (kn * 11)).off + 2, none⟩)) (by go_simp) (fun V hV => by go_simp) ?_
        go_simp
        refine headT_read rfl (.int .i64 k.n1) (by go_simp) (fun V hV => by obtain ⟨d1, d2, d3⟩ := hV; go_simp) ?_
        go_simp
        refine headT_read rfl (.int .i64 (ln + k.n1)) (by go_simp) (fun V hV => by go_simp) ?_
        go_simp
        refine headT_read rfl (.pointer (some ⟨lb, tn, none⟩)) (by go_simp) (fun V hV => by go_simp) ?_
        go_simp
        unfold wpHeadT
        have t4 := L4.out.thaw tn
        have c4 := L4.out.cell LNB.out.2
        have L5 : Hid (Bk (w4.setCell ⟨lb, tn, none⟩ (.int .i64 (ln + k.n1))) lb (ls.set tn (ln + k.n1)) #[]) := L4.out.set tn _ (by rw [LNB.out.1]; omega)
        have K5 : Hid (Kp lb w4 (w4.setCell ⟨lb, tn, none⟩ (.int .i64 (ln + k.n1)))) := Kp.set _ _ _
        refine sched_skip rfl (w4.setCell ⟨lb, tn, none⟩ (.int .i64 (ln + k.n1))) (by go_simp) (by go_simp) trivial ?_
        go_simp
        clear t4 c4
        generalize (w4.setCell ⟨lb, tn, none⟩ (.int .i64 (ln + k.n1))) = w5 at *
        have B5 : Hid (Below w.heap.size w w5) := K5.out.below B4.out B4.out.size (by have := LBG.out.1; omega)
        have E5 : Hid (Evo w5 w1.heap.size ev es) := E4.out.kp9 K5.out (by have := LBG.out.2; omega)
        have P5 : Hid (Kp lb w1 w5) := P4.out.trans K5.out
        have X5 : Hid (Bw w5 w.heap.size X g1 g2 g3 (.slice (some xu) us.length cap) g5) := X4.out.kp9 K5.out (by have := LBG.out.1; omega)
        have U5 : Hid (Unc w5 ⟨bu, 0, none⟩ u) := U4.out.kp9 K5.out (by have := LBG.out.2; have := BUL.out; show bu ≠ lb; omega)
        unfold wpSched
        clear B4 L4 E4 P4 X4 U4 K5 CB
        go_upto_region 9 with fail
        have CB : Hid (∀ V, Below w.heap.size w V → Bw V w.heap.size X g1 g2 g3 (.slice (some xu) us.length cap) g5 → Unc V ⟨bu, 0, none⟩ u → (V.cell? ⟨bu, 0, none⟩ = some (.int .i64 u.id) ∧ V.cell? ⟨w.heap.size, 7, none⟩ = some (.slice (some xu) us.length cap) ∧ V.cell? (xu.add (tn * 8)) = some (.int .i64 x.id))) := fun V hb hx hu => ⟨hu.c0, hx.c7, (UT.out.1.below hb UT.out.2).c0⟩
        refine wp_region_two [(true, 0), (true, 1), (true, 2), (true, 3), (true, 4), (true, 5), (true, 6), (true, 7), (true, 8), (true, 9), (false, 10), (false, 11)] [(false, 12)] (fun V => V.cell? ⟨bu, 0, none⟩ = some (.int .i64 u.id) ∧ V.cell? ⟨w.heap.size, 7, none⟩ = some (.slice (some xu) us.length cap) ∧ V.cell? (xu.add (tn * 8)) = some (.int .i64 x.id)) (by kernel_rfl) (by kernel_rfl) (by kernel_rfl) (by decide +kernel) (by decide +kernel) (CB.out _ B5.out.drew (X5.out.below ((Below.refl _ _).drew) X5.out.lt) (U5.out.below ((Below.refl _ _).drew) U5.out.lt)) ?_
        have D6 : Hid (Below w5.heap.size w5 { w5 with drawn := w5.drawn + 1 }) := (Below.refl _ _).drew
        generalize ({ w5 with drawn := w5.drawn + 1 } : World) = w6 at *
        have B6 : Hid (Below w.heap.size w w6) := B5.out.trans (D6.out.mono B5.out.size)
        have L6 : Hid (Bk w6 lb (ls.set tn (ln + k.n1)) #[]) := L5.out.below D6.out
        have E6 : Hid (Evo w6 w1.heap.size ev es) := E5.out.below D6.out
        have P6 : Hid (Kp lb w1 w6) := P5.out.trans (Kp.of D6.out)
        have X6 : Hid (Bw w6 w.heap.size X g1 g2 g3 (.slice (some xu) us.length cap) g5) := X5.out.below D6.out X5.out.lt
        have U6 : Hid (Unc w6 ⟨bu, 0, none⟩ u) := U5.out.below D6.out U5.out.lt
        clear B5 L5 E5 P5 X5 U5 D6
        refine headT_read rfl (ev) (by go_simp) (fun V hV => by go_simp) ?_
        go_simp
        refine headT_read rfl (.pointer (some ⟨bu, 0, none⟩)) (by go_simp) (fun V hV => by go_simp) ?_
        go_simp
        refine headT_read rfl (.int .i64 u.id) (by go_simp) (fun V hV => by obtain ⟨d1, d2, d3⟩ := hV; go_simp) ?_
        go_simp
        refine headT_read rfl (.pointer (some ⟨w.heap.size, 7, none⟩)) (by go_simp) (fun V hV => by go_simp) ?_
        go_simp
        refine headT_read rfl (.slice (some xu) us.length cap) (by go_simp) (fun V hV => by obtain ⟨d1, d2, d3⟩ := hV; go_simp) ?_
        go_simp
        refine headT_read rfl (.int .i64 (tn : Nat)) (by go_simp) (fun V hV => by go_simp) ?_
        go_simp
        refine headT_read rfl (.pointer (some (xu.add (tn * 8)))) (by go_simp) (fun V hV => by go_simp) ?_
        go_simp
        refine headT_read rfl (.pointer (some (xu.add (tn * 8)))) (by go_simp) (fun V hV => by go_simp) ?_
        go_simp
        refine headT_read rfl (.int .i64 x.id) (by go_simp) (fun V hV => by obtain ⟨d1, d2, d3⟩ := hV; go_simp) ?_
        go_simp
        refine headT_read rfl (.agg #[.int .i64 2, .int .i64 u.id, .int .i64 x.id]) (by go_simp) (fun V hV => by go_simp) ?_
        go_simp
        have BA : Hid (Below w6.heap.size w6 (w6.alloc (Obj.cells #[.int .i64 2, .int .i64 u.id, .int .i64 x.id] 139))) := (Below.refl _ _).alloc (Nat.le_refl _) _
        have EC : Hid (Evc (w6.alloc (Obj.cells #[.int .i64 2, .int .i64 u.id, .int .i64 x.id] 139)) ⟨w6.heap.size, 0, none⟩ ⟨2, u.id, x.id⟩) := Evc.mk' ⟨2, u.id, x.id⟩ rfl
        refine headT_value rfl (.slice (some ⟨w6.heap.size, 0, none⟩) 1 1) (w6.alloc (Obj.cells #[.int .i64 2, .int .i64 u.id, .int .i64 x.id] 139)) (by go_simp) (by go_simp) (CB.out _ (B6.out.trans (BA.out.mono B6.out.size)) (X6.out.below BA.out X6.out.lt) (U6.out.below BA.out U6.out.lt)) ?_
        go_simp
        generalize (w6.alloc (Obj.cells #[.int .i64 2, .int .i64 u.id, .int .i64 x.id] 139)) = w7 at *
        have B7 : Hid (Below w.heap.size w w7) := B6.out.trans (BA.out.mono B6.out.size)
        have L7 : Hid (Bk w7 lb (ls.set tn (ln + k.n1)) #[]) := L6.out.below BA.out
        have E7 : Hid (Evo w7 w1.heap.size ev es) := E6.out.below BA.out
        have P7 : Hid (Kp lb w1 w7) := P6.out.trans (Kp.of BA.out)
        have X7 : Hid (Bw w7 w.heap.size X g1 g2 g3 (.slice (some xu) us.length cap) g5) := X6.out.below BA.out X6.out.lt
        have U7 : Hid (Unc w7 ⟨bu, 0, none⟩ u) := U6.out.below BA.out U6.out.lt
        clear B6 L6 E6 P6 X6 U6 BA
        obtain ⟨gg, gc, w8, hr, ho8, hg8, -, -⟩ := run_ev w7 33 w1.heap.size ev es E7.out _ _ EC.out (by have := EL.out; omega) P7.out.size
        have GB : Hid (∀ b, ev.ownBlock = some b → w1.heap.size ≤ b) := fun b hb => (E7.out.block b hb).1
        have BG : Hid (Below w1.heap.size w7 w8) := (Below.refl _ _).grown hg8 P7.out.size (fun b hb => GB.out b hb)
        have B8 : Hid (Below w.heap.size w w8) := B7.out.trans (BG.out.mono (by have := LBG.out; omega))
        have L8 : Hid (Bk w8 lb (ls.set tn (ln + k.n1)) #[]) := L7.out.low BG.out (by have := LBG.out.2; omega)
        have P8 : Hid (Kp lb w1 w8) := kp_gb P7.out hg8 (fun b hb => GB.out b hb)
        have X8 : Hid (Bw w8 w.heap.size X g1 g2 g3 (.slice (some xu) us.length cap) g5) := X7.out.below BG.out (by have := LBG.out; omega)
        have O8 : Hid (Evo w8 w1.heap.size (.slice (some ⟨gg, 0, none⟩) (es.length + 1) gc) (es ++ [⟨2, u.id, x.id⟩])) := ho8
        have U8 : Hid (Unc w8 ⟨bu, 0, none⟩ u) := U7.out.gb hg8 (fun e => Nat.lt_irrefl _ (VB.out bu e))
        refine headT_value rfl (.slice (some ⟨gg, 0, none⟩) (es.length + 1) gc) w8 (by go_simp) (exec_append _ _ _ _ rfl _ _ (by go_simp) (by go_simp) hr) (CB.out _ B8.out X8.out U8.out) ?_
        clear hr ho8 hg8 B7 L7 E7 P7 X7 U7 BG GB EC
        go_simp
        unfold wpHeadT
        refine sched_value rfl (.slice (some ⟨gg, 0, none⟩) (es.length + 1) gc) w8 (by go_simp) (by go_simp) trivial ?_
        go_simp
        unfold wpSched
        go_wp2
        go_round
        case rel => exact ⟨n + 1, _, by go_num, rfl, by omega, by rw [NEW.out]; exact L8.out, by rw [NEW.out]; exact O8.out, by rw [NEW.out]; have := EL.out; simp; omega, P8.out⟩
        case measure => simp [intOf]; omega
end Go.Proofs.YtkejdkajfnaieaaGreatDoor

namespace Go.Proofs.YtkejdkajfnaieaaGreatDoor
open Go.RowKit
set_option linter.unusedVariables false

set_option maxRecDepth 100000 in
set_option maxHeartbeats 2000000 in
theorem strike_nil (vk : Value) (t n W H : Int) (g1 g2 g3 g5 : Value) (a : Option Addr) (c : Nat) (w : World) :
    Calls Tryz.prog 117 #[vk, .agg #[.int .i64 t, .int .i64 n, .int .i64 W, .int .i64 H, g1, g2, g3, .slice a 0 c, g5]] w fun e w' => e = .returned (.slice none 0 0) ∧ Below w.heap.size w w' := by
  go_enter Tryz.func117, Tryz.ntmps117
  go_upto_region 2 with fail
  have B0 : Hid (Below w.heap.size w (w.alloc (Obj.cells #[.int .i64 t, .int .i64 n, .int .i64 W, .int .i64 H, g1, g2, g3, .slice a 0 c, g5] 29))) := (Below.refl _ _).alloc (Nat.le_refl _) _
  have x7 : (w.alloc (Obj.cells #[.int .i64 t, .int .i64 n, .int .i64 W, .int .i64 H, g1, g2, g3, .slice a 0 c, g5] 29)).cell? ⟨w.heap.size, 7, none⟩ = some (.slice a 0 c) := by simp
  have xl : w.heap.size < (w.alloc (Obj.cells #[.int .i64 t, .int .i64 n, .int .i64 W, .int .i64 H, g1, g2, g3, .slice a 0 c, g5] 29)).heap.size := by simp
  generalize (w.alloc (Obj.cells #[.int .i64 t, .int .i64 n, .int .i64 W, .int .i64 H, g1, g2, g3, .slice a 0 c, g5] 29)) = w0 at *
  obtain ⟨w1, hmk0, -, hb1, -⟩ := makeI 0 w0 (by omega)
  have hmk : (Instr.makeSlice 23 (.int .i64 0) (.int .i64 0)).run Tryz.prog w0 = .ok (.slice (some ⟨w0.heap.size, 0, none⟩) 0 0) w1 := hmk0
  clear hmk0
  go_upto_region 3 with fail
  have y7 : w1.cell? ⟨w.heap.size, 7, none⟩ = some (.slice a 0 c) := by rw [hb1.cell (p := ⟨w.heap.size, 7, none⟩) xl]; exact x7
  have B1 : Hid (Below w.heap.size w w1) := B0.out.trans (hb1.mono B0.out.size)
  clear hmk x7 xl hb1 B0
  go_wp2
  refine wp_loop_rounds 1 ?_
  rw [rounds_succ]
  go_wp2
  refine wp_loop_rounds 1 ?_
  rw [rounds_succ]
  go_wp2
  go_ret
  exact ⟨rfl, B1.out⟩
end Go.Proofs.YtkejdkajfnaieaaGreatDoor

namespace Go.Proofs.YtkejdkajfnaieaaGreatDoor
open Go.RowKit
set_option linter.unusedVariables false

/-- block g has these jobs, and more behind them. -/
def Jk (w : World) (g : Nat) (ks : List JbV) (rest : List Value) : Prop := w.heap[g]? = some (.cells (ks.flatMap JbV.cs ++ rest).toArray 104 (0, 0))
theorem Jk.lt {w : World} {g : Nat} {ks : List JbV} {rest : List Value} (h : Jk w g ks rest) : g < w.heap.size := lt_of_block h
theorem Jk.thaw {w : World} {g : Nat} {ks : List JbV} {rest : List Value} (h : Jk w g ks rest) (i : Nat) : w.frozen? ⟨g, i, none⟩ = false := by
  unfold Jk at h
  simp [World.frozen?, h]
theorem Jk.below {w w' : World} {g B : Nat} {ks : List JbV} {rest : List Value} (h : Jk w g ks rest) (hb : Below B w w') (hB : g < B) : Jk w' g ks rest := by
  unfold Jk at *
  rw [hb.block g hB]; exact h
theorem Jk.at_ {w : World} {g : Nat} {ks : List JbV} {rest : List Value} (h : Jk w g ks rest) {i : Nat} {o : JbV} (ho : ks[i]? = some o) {j : Nat} (hj : j < 4) : w.cell? ⟨g, i * 4 + j, none⟩ = o.cs[j]? := by
  unfold Jk at h
  have hi : i < ks.length := (List.getElem?_eq_some_iff.1 ho).1
  simp only [World.cell?, h]
  have e : (ks.flatMap JbV.cs ++ rest).toArray[i * 4 + j]? = o.cs[j]? := by
    rw [List.getElem?_toArray, List.getElem?_append_left (by rw [len_jb]; omega), flat_jb ks i j o ho hj]
  simp only [e]
  simp
theorem Jk.jbc {w : World} {g : Nat} {ks : List JbV} {rest : List Value} (h : Jk w g ks rest) {i : Nat} {o : JbV} (ho : ks[i]? = some o) : Jbc w ⟨g, i * 4, none⟩ o :=
  ⟨h.at_ ho (j := 0) (by decide), h.at_ ho (j := 1) (by decide), h.at_ ho (j := 2) (by decide), h.at_ ho (j := 3) (by decide)⟩
theorem jflat_set : ∀ (ks : List JbV) (i : Nat) (o : JbV) (rest : List Value), i < ks.length →
    (ks.set i o).flatMap JbV.cs ++ rest = ((((ks.flatMap JbV.cs ++ rest).set (i * 4) (.int .i64 o.player)).set (i * 4 + 1) (.int .i64 o.unit)).set (i * 4 + 2) (.int .i64 o.kind)).set (i * 4 + 3) (.int .i64 o.left)
  | [], i, o, rest, h => by simp at h
  | k :: ks, 0, o, rest, _ => by
    simp [JbV.cs]
  | k :: ks, i + 1, o, rest, h => by
    have ih := jflat_set ks i o rest (by simpa using h)
    rw [show (i + 1) * 4 = i * 4 + 4 by omega, show i * 4 + 4 + 1 = i * 4 + 1 + 4 by omega, show i * 4 + 4 + 2 = i * 4 + 2 + 4 by omega, show i * 4 + 4 + 3 = i * 4 + 3 + 4 by omega, List.set_cons_succ, List.flatMap_cons, List.append_assoc, ih, List.flatMap_cons]
    simp [JbV.cs]
theorem Jk.put {w : World} {g : Nat} {ks : List JbV} {rest : List Value} (h : Jk w g ks rest) {i : Nat} (hi : i < ks.length) (o : JbV) :
    Jk ((((w.setCell ⟨g, i * 4, none⟩ (.int .i64 o.player)).setCell ⟨g, i * 4 + 1, none⟩ (.int .i64 o.unit)).setCell ⟨g, i * 4 + 2, none⟩ (.int .i64 o.kind)).setCell ⟨g, i * 4 + 3, none⟩ (.int .i64 o.left)) g (ks.set i o) rest := by
  unfold Jk at *
  have h0 := heap_setCell_same w g (i * 4) _ _ (.int .i64 o.player) h
  have h1 := heap_setCell_same _ g (i * 4 + 1) _ _ (.int .i64 o.unit) h0
  have h2 := heap_setCell_same _ g (i * 4 + 2) _ _ (.int .i64 o.kind) h1
  have h3 := heap_setCell_same _ g (i * 4 + 3) _ _ (.int .i64 o.left) h2
  rw [h3, jflat_set ks i o rest hi]
  simp
theorem jk_below {B g : Nat} {w W : World} {i : Nat} (o : JbV) (h : Below B w W) (hb : B ≤ g) : Below B w ((((W.setCell ⟨g, i * 4, none⟩ (.int .i64 o.player)).setCell ⟨g, i * 4 + 1, none⟩ (.int .i64 o.unit)).setCell ⟨g, i * 4 + 2, none⟩ (.int .i64 o.kind)).setCell ⟨g, i * 4 + 3, none⟩ (.int .i64 o.left)) :=
  (((h.setCell (p := ⟨g, i * 4, none⟩) hb _).setCell (p := ⟨g, i * 4 + 1, none⟩) hb _).setCell (p := ⟨g, i * 4 + 2, none⟩) hb _).setCell (p := ⟨g, i * 4 + 3, none⟩) hb _
theorem jflat_set3 : ∀ (ks : List JbV) (i : Nat) (o : JbV) (a : Int) (rest : List Value), ks[i]? = some o → (ks.set i { o with left := a }).flatMap JbV.cs ++ rest = (ks.flatMap JbV.cs ++ rest).set (i * 4 + 3) (.int .i64 a)
  | [], i, o, a, rest, h => by simp at h
  | k :: ks, 0, o, a, rest, h => by
    simp at h
    subst h
    simp [JbV.cs]
  | k :: ks, i + 1, o, a, rest, h => by
    have ih := jflat_set3 ks i o a rest (by simpa using h)
    rw [show (i + 1) * 4 + 3 = i * 4 + 3 + 4 by omega, List.set_cons_succ, List.flatMap_cons, List.append_assoc, ih, List.flatMap_cons]
    simp [JbV.cs]
theorem Jk.set3 {w : World} {g : Nat} {ks : List JbV} {rest : List Value} (h : Jk w g ks rest) {i : Nat} {o : JbV} (ho : ks[i]? = some o) (a : Int) : Jk (w.setCell ⟨g, i * 4 + 3, none⟩ (.int .i64 a)) g (ks.set i { o with left := a }) rest := by
  unfold Jk at *
  have h0 := heap_setCell_same w g (i * 4 + 3) _ _ (.int .i64 a) h
  rw [h0, jflat_set3 ks i o a rest ho]
  simp
/-- a list of its own, as a block. -/
theorem Jbo.jk {w : World} {base : Nat} {v : Value} {ks : List JbV} (h : Jbo w base v ks) : (v = .slice none 0 0 ∧ ks = []) ∨ ∃ g cap rest, v = .slice (some ⟨g, 0, none⟩) ks.length cap ∧ base ≤ g ∧ ks.length ≤ cap ∧ cap ≤ maxLen ∧ ks.length * 4 + rest.length = cap * 4 ∧ Jk w g ks rest := by
  rcases h.2 with ⟨h1, h2⟩ | ⟨g, cap, cur, h1, h2, h3, h4, h5, h6, h7⟩
  · exact .inl ⟨h1, List.length_eq_zero_iff.1 h2⟩
  · refine .inr ⟨g, cap, cur.toList.drop (ks.length * 4), h1, h2, h4, h5, ?_, ?_⟩
    · have e6 : cur.toList.length = cap * 4 := by simpa using h6
      rw [List.length_drop, e6]
      have : ks.length * 4 ≤ cap * 4 := Nat.mul_le_mul_right _ h4
      omega
    · unfold Jk
      rw [← h7, List.take_append_drop, Array.toArray_toList]
      exact h3
theorem Jk.jbo {w : World} {base g cap : Nat} {ks : List JbV} {rest : List Value} (h : Jk w g ks rest) (hb : base ≤ g) (h1 : ks.length ≤ cap) (h2 : cap ≤ maxLen) (h3 : ks.length * 4 + rest.length = cap * 4) : Jbo w base (.slice (some ⟨g, 0, none⟩) ks.length cap) ks := by
  refine ⟨len_jb ks, .inr ⟨g, cap, _, rfl, hb, h, h1, h2, ?_, ?_⟩⟩
  · simp only [List.size_toArray, List.length_append, len_jb]; omega
  · show (ks.flatMap JbV.cs ++ rest).take (ks.length * 4) = _
    rw [List.take_append_of_le_length (by rw [len_jb]; exact Nat.le_refl _), List.take_of_length_le (by rw [len_jb]; exact Nat.le_refl _)]
/-- the first m of them, and the others behind. -/
theorem Jk.take {w : World} {g : Nat} {ks : List JbV} {rest : List Value} (h : Jk w g ks rest) (m : Nat) : Jk w g (ks.take m) ((ks.drop m).flatMap JbV.cs ++ rest) := by
  unfold Jk at *
  rw [← List.append_assoc, ← List.flatMap_append, List.take_append_drop]
  exact h
end Go.Proofs.YtkejdkajfnaieaaGreatDoor

namespace Go.Proofs.YtkejdkajfnaieaaGreatDoor
open Go.RowKit
set_option linter.unusedVariables false

def FstJ (p : JbV → Bool) (ks : List JbV) (r : Int) : Prop := (r = -1 ∧ ks.any p = false) ∨ ∃ (k : Nat) (x : JbV), r = k ∧ ks[k]? = some x ∧ p x = true ∧ (ks.take k).any p = false
theorem anyj_next {p : JbV → Bool} {ks : List JbV} {k : Nat} {x : JbV} (h : ks[k]? = some x) : (ks.take (k + 1)).any p = ((ks.take k).any p || p x) := by
  obtain ⟨hi, e⟩ := List.getElem?_eq_some_iff.1 h
  rw [List.take_succ_eq_append_getElem hi, List.any_append, e]
  simp

/-- clear of a slice of jobs. -/
theorem run_clear_jbs (w : World) (g m n c : Nat) (ks : List JbV) (rest : List Value) (hg : Jk w g ks rest) (hn : 0 < n) (hm : m + n = ks.length) :
    ∃ w', (∀ ty, (Builtin.clear_ #[27] ty #[.slice (some ⟨g, m * 4, none⟩) n c]).run Tryz.prog w = .ok (.tuple #[]) w') ∧ Jk w' g (ks.take m ++ List.replicate n (⟨0, 0, 0, 0⟩ : JbV)) rest ∧ Below g w w' ∧ w'.heap.size = w.heap.size ∧ Kp g w w' := by
  have hzv : ∀ w, (zeroValue 104).run Tryz.prog w = .ok (.agg #[.int .i64 0, .int .i64 0, .int .i64 0, .int .i64 0]) w := fun w => by kernel_rfl
  have hzc : (Builtin.zeroCells (Value.agg #[.int .i64 0, .int .i64 0, .int .i64 0, .int .i64 0]).cells n).toList = (List.replicate n (⟨0, 0, 0, 0⟩ : JbV)).flatMap JbV.cs := by
    have hz8 : (Value.agg #[.int .i64 0, .int .i64 0, .int .i64 0, .int .i64 0]).cells = #[.int .i64 0, .int .i64 0, .int .i64 0, .int .i64 0] := by rfl
    rw [hz8]
    unfold Builtin.zeroCells
    apply List.ext_getElem?
    intro i
    by_cases hi : i < n * 4
    · have e1 : (List.replicate n (⟨0, 0, 0, 0⟩ : JbV))[i / 4]? = some ⟨0, 0, 0, 0⟩ := by
        rw [List.getElem?_replicate, if_pos (by omega)]
      have e2 := flat_jb _ (i / 4) (i % 4) _ e1 (Nat.mod_lt _ (by decide))
      rw [show i / 4 * 4 + i % 4 = i by omega] at e2
      rw [e2]
      have h4 : i % 4 < 4 := Nat.mod_lt _ (by decide)
      simp [JbV.cs, hi]
      generalize i % 4 = r at *
      match r, h4 with
      | 0, _ => rfl
      | 1, _ => rfl
      | 2, _ => rfl
      | 3, _ => rfl
    · rw [List.getElem?_eq_none (by simp; omega), List.getElem?_eq_none (by rw [len_jb, List.length_replicate]; omega)]
  obtain ⟨vs, hvs⟩ : ∃ vs, (List.replicate n (⟨0, 0, 0, 0⟩ : JbV)).flatMap JbV.cs = vs := ⟨_, rfl⟩
  have hvl : vs.length = n * 4 := by rw [← hvs, len_jb, List.length_replicate]
  have h1c : ∀ v ∈ vs, v.oneCell' = true := by
    intro v hv
    rw [← hvs] at hv
    obtain ⟨k, -, hk⟩ := List.mem_flatMap.1 hv
    simp [JbV.cs] at hk
    rcases hk with rfl | rfl | rfl | rfl <;> rfl
  have hst := run_storeCells_at (P := Tryz.prog) g (m * 4) 104 vs 0 _ w hg (by simp only [List.size_toArray, List.length_append, len_jb, hvl]; omega) h1c
  have hml : (ks.take m).length = m := by rw [List.length_take]; omega
  have hL : (ks.flatMap JbV.cs ++ rest).toArray.toList.take (m * 4 + 0) ++ vs ++ (ks.flatMap JbV.cs ++ rest).toArray.toList.drop (m * 4 + 0 + vs.length) = (ks.take m ++ List.replicate n (⟨0, 0, 0, 0⟩ : JbV)).flatMap JbV.cs ++ rest := by
    have e1 : (ks.flatMap JbV.cs ++ rest).take (m * 4) = (ks.take m).flatMap JbV.cs := by
      conv => lhs; rw [← List.take_append_drop m ks, List.flatMap_append, List.append_assoc]
      rw [List.take_left' (by rw [len_jb, hml])]
    have e2 : (ks.flatMap JbV.cs ++ rest).drop (m * 4 + vs.length) = rest := by
      rw [List.drop_left' (by rw [len_jb, hvl]; omega)]
    show (ks.flatMap JbV.cs ++ rest).take (m * 4) ++ vs ++ (ks.flatMap JbV.cs ++ rest).drop (m * 4 + vs.length) = _
    rw [e1, e2, List.flatMap_append, hvs]
  rw [hL] at hst
  refine ⟨w.setRow g ((ks.take m ++ List.replicate n (⟨0, 0, 0, 0⟩ : JbV)).flatMap JbV.cs ++ rest).toArray, fun ty => ?_, ?_, ?_, ?_, ?_⟩
  · obtain ⟨n', rfl⟩ : ∃ n', n = n' + 1 := ⟨n - 1, by omega⟩
    simp only [hvs] at hzc
    simp [Builtin.clear_, run_underlying Tryz.underlying27, hzv, hzc, hst]
  · exact setRow_heap w g _ _ _ _ hg
  · exact ⟨rfl, rfl, rfl, by simp, fun k hk => setRow_other _ _ _ _ (by omega)⟩
  · simp
  · exact ⟨rfl, rfl, rfl, by simp, fun k hk hn => setRow_other _ _ _ _ (by omega)⟩
set_option maxHeartbeats 2000000 in
theorem idxj_any (K : Nat) (eK : ∀ args w, (callFunc K args).run Tryz.prog w = .ok (.enter K args) w) (u : Value) (cs : Array Value) (ks : List JbV) (p : JbV → Bool) (w : World) (hu : Jbl w u ks)
    (hp : ∀ W, Below w.heap.size w W → ∀ k ∈ ks, Calls Tryz.prog K (#[k.val] ++ cs) W fun e w' => e = .returned (.bool (p k)) ∧ Below W.heap.size W w') :
    Calls Tryz.prog 129 #[u, .func (Fn.func K) #[] cs] w fun e w' => ∃ r : Int, e = .returned (.int .i64 r) ∧ FstJ p ks r ∧ Below w.heap.size w w' := by
  obtain ⟨a, c, rfl, c1, c2, ca⟩ := hu
  have Ca : Hid (ks ≠ [] → ∃ x, a = some x ∧ x.block < w.heap.size ∧ ∀ (i : Nat) k, ks[i]? = some k → Jbc w (x.add (i * 4)) k) := ca
  have Hp : Hid (∀ W, Below w.heap.size w W → ∀ k ∈ ks, Calls Tryz.prog K (#[k.val] ++ cs) W fun e w' => e = .returned (.bool (p k)) ∧ Below W.heap.size W w') := hp
  clear ca hp
  go_enter Tryz.func129, Tryz.ntmps129
  go_wp2
  go_loopw [8] (fun i W' => ∃ k : Nat, k ≤ ks.length ∧ i = .int .i64 (k : Nat) ∧ (ks.take k).any p = false ∧ Below w.heap.size w W') (fun i _ => ks.length - (intOf i).toNat)
  case atStart => exact ⟨0, Nat.zero_le _, rfl, by simp, Below.refl _ _⟩
  case round =>
    obtain ⟨k, hk, rfl, ht, hb⟩ := hrel
    have Ht : Hid ((ks.take k).any p = false) := ht
    have B : Hid (Below w.heap.size w wr) := hb
    clear ht hb
    by_cases h0 : k = ks.length
    · subst h0
      go_wp2
      go_ret
      refine ⟨_, rfl, .inl ⟨rfl, ?_⟩, B⟩
      have := Ht.out
      rw [List.take_of_length_le (Nat.le_refl _)] at this
      exact this
    · have hkx : k < ks.length := by omega
      obtain ⟨x, rfl, hx1, hx⟩ := Ca.out (by intro h; rw [h] at hkx; simp at hkx)
      obtain ⟨y, hy⟩ : ∃ y, ks[k]? = some y := ⟨_, List.getElem?_eq_getElem hkx⟩
      have Yc := (hx k y hy).below B.out (by rw [add_block]; exact hx1)
      obtain ⟨q0, q1, q2, q3⟩ := Yc
      have hc := Hp.out wr B.out y (List.mem_of_getElem? hy)
      have Hs : Hid _ := anyj_next (p := p) hy
      have Hm : Hid (ks[k]? = some y) := hy
      clear hx hx1 hy
      cases hy : p y with
      | true =>
        rw [hy] at hc
        have Hc : Hid (Calls Tryz.prog K (#[y.val] ++ cs) wr fun e w' => e = .returned (.bool true) ∧ Below wr.heap.size wr w') := hc
        have Hy : Hid (p y = true) := hy
        clear hc hy
        go_wp2_with fail
        refine Calls.mono Hc.out ?_
        rintro e w1 ⟨rfl, b1⟩
        have B1 : Hid (Below w.heap.size w w1) := B.out.trans (b1.mono B.out.size)
        clear b1
        go_wp2
        go_ret
        exact ⟨_, rfl, .inr ⟨k, y, rfl, Hm, Hy, Ht⟩, B1⟩
      | false =>
        rw [hy] at hc
        have Hc : Hid (Calls Tryz.prog K (#[y.val] ++ cs) wr fun e w' => e = .returned (.bool false) ∧ Below wr.heap.size wr w') := hc
        have Hy : Hid (p y = false) := hy
        clear hc hy
        go_wp2_with fail
        refine Calls.mono Hc.out ?_
        rintro e w1 ⟨rfl, b1⟩
        have B1 : Hid (Below w.heap.size w w1) := B.out.trans (b1.mono B.out.size)
        clear b1
        go_wp2
        go_round
        case rel => exact ⟨k + 1, by omega, by go_num, by have := Hs.out; rw [Ht.out, Hy.out] at this; exact this, B1⟩
        case measure => simp [intOf]; omega


theorem delj_keep {ks L : List JbV} {p : JbV → Bool} {i j : Nat} {y : JbV} (h : L.take i = (ks.take j).filter (fun k => !p k)) (hd : L.drop j = ks.drop j) (hij : i < j) (hl : L.length = ks.length) (hy : ks[j]? = some y) (hp : p y = false) :
    (L.set i y).take (i + 1) = (ks.take (j + 1)).filter (fun k => !p k) ∧ (L.set i y).drop (j + 1) = ks.drop (j + 1) := by
  have hj : j < ks.length := (List.getElem?_eq_some_iff.1 hy).1
  have hi : i < L.length := by omega
  constructor
  · rw [List.take_succ_eq_append_getElem (by simpa using hi), List.take_set_of_le (Nat.le_refl _), List.getElem_set_self, h]
    have : (ks.take (j + 1)) = ks.take j ++ [y] := by
      rw [List.take_succ_eq_append_getElem hj]
      rw [(List.getElem?_eq_some_iff.1 hy).2]
    rw [this, List.filter_append]
    simp [hp]
  · rw [List.drop_set_of_lt (by omega)]
    have h1 : L.drop (j + 1) = (L.drop j).drop 1 := by rw [List.drop_drop]
    rw [h1, hd, List.drop_drop]
theorem delj_skip {ks L : List JbV} {p : JbV → Bool} {i j : Nat} {y : JbV} (h : L.take i = (ks.take j).filter (fun k => !p k)) (hd : L.drop j = ks.drop j) (hy : ks[j]? = some y) (hp : p y = true) :
    L.take i = (ks.take (j + 1)).filter (fun k => !p k) ∧ L.drop (j + 1) = ks.drop (j + 1) := by
  have hj : j < ks.length := (List.getElem?_eq_some_iff.1 hy).1
  constructor
  · have : (ks.take (j + 1)) = ks.take j ++ [y] := by
      rw [List.take_succ_eq_append_getElem hj]
      rw [(List.getElem?_eq_some_iff.1 hy).2]
    rw [this, List.filter_append, h]
    simp [hp]
  · have h1 : L.drop (j + 1) = (L.drop j).drop 1 := by rw [List.drop_drop]
    rw [h1, hd, List.drop_drop]
theorem delj_start {ks : List JbV} {p : JbV → Bool} {i : Nat} {x : JbV} (hx : ks[i]? = some x) (hp : p x = true) (hn : (ks.take i).any p = false) : ks.take i = (ks.take (i + 1)).filter (fun k => !p k) := by
  have hi : i < ks.length := (List.getElem?_eq_some_iff.1 hx).1
  have : (ks.take (i + 1)) = ks.take i ++ [x] := by
    rw [List.take_succ_eq_append_getElem hi]
    rw [(List.getElem?_eq_some_iff.1 hx).2]
  rw [this, List.filter_append]
  have e : (ks.take i).filter (fun k => !p k) = ks.take i := by
    rw [List.filter_eq_self]
    intro a ha
    have := List.any_eq_false.1 hn a ha
    simpa using this
  rw [e]
  simp [hp]

theorem delj_gb {w w1 w' : World} {g n c : Nat} (h : Below w.heap.size w w1) (k : Kp g w1 w') : w.grownBy w' (Value.slice (some ⟨g, 0, none⟩) n c).ownBlock :=
  ⟨k.os.trans h.os, k.tape.trans h.tape, k.output.trans h.output, Nat.le_trans h.size k.size, fun i hi hr => (k.block i (Nat.lt_of_lt_of_le hi h.size) (fun e => hr (by rw [e]; rfl))).trans (h.block i hi)⟩
theorem jk_kp (wb : World) (g i : Nat) (y : JbV) : Kp g wb ((((wb.setCell ⟨g, i * 4, none⟩ (.int .i64 y.player)).setCell ⟨g, i * 4 + 1, none⟩ (.int .i64 y.unit)).setCell ⟨g, i * 4 + 2, none⟩ (.int .i64 y.kind)).setCell ⟨g, i * 4 + 3, none⟩ (.int .i64 y.left)) :=
  (((Kp.set (z := g) _ _ _).trans (Kp.set _ _ _)).trans (Kp.set _ _ _)).trans (Kp.set _ _ _)
set_option maxRecDepth 100000 in
set_option maxHeartbeats 8000000 in
theorem delj_own (K : Nat) (eK : ∀ args w, (callFunc K args).run Tryz.prog w = .ok (.enter K args) w) (u : Value) (cs : Array Value) (ks : List JbV) (p : JbV → Bool) (w : World) (base : Nat) (hu : Jbo w base u ks) (hbase : base ≤ w.heap.size) (hl : ks.length ≤ 1000000)
    (hp : ∀ W, Below base w W → w.grownBy W u.ownBlock → ∀ k ∈ ks, Calls Tryz.prog K (#[k.val] ++ cs) W fun e w' => e = .returned (.bool (p k)) ∧ Below W.heap.size W w') :
    Calls Tryz.prog 77 #[u, .func (Fn.func K) #[] cs] w fun e w' => ∃ v, e = .returned v ∧ Jbo w' base v (ks.filter (fun k => !p k)) ∧ Below base w w' ∧ w.grownBy w' u.ownBlock ∧ v.ownBlock = u.ownBlock := by
  have H' : Hid (Calls Tryz.prog 129 #[u, .func (Fn.func K) #[] cs] w fun e w' => ∃ r : Int, e = .returned (.int .i64 r) ∧ FstJ p ks r ∧ Below w.heap.size w w') := idxj_any K eK u cs ks p w hu.l (fun W hW k hk => hp W (hW.mono hbase) ⟨hW.os, hW.tape, hW.output, hW.size, fun k hk _ => hW.block k hk⟩ k hk)
  have Hp : Hid (∀ W, Below base w W → w.grownBy W u.ownBlock → ∀ k ∈ ks, Calls Tryz.prog K (#[k.val] ++ cs) W fun e w' => e = .returned (.bool (p k)) ∧ Below W.heap.size W w') := hp
  have U : Hid (Jbo w base u ks) := hu
  have HB : Hid (base ≤ w.heap.size ∧ ks.length ≤ 1000000) := ⟨hbase, hl⟩
  clear hp hu hbase
  go_enter Tryz.func77, Tryz.ntmps77
  go_wp2_with fail
  refine Calls.mono H'.out ?_
  rintro e w1 ⟨r, rfl, hf, hb⟩
  have B1 : Hid (Below base w w1) := hb.mono HB.out.1
  have U1 : Hid (Jbo w1 base u ks) := U.out.below hb
  have S1 : Hid (w.heap.size ≤ w1.heap.size) := hb.size
  have G1 : Hid (Below w.heap.size w w1) := hb
  clear hb U H'
  rcases hf with ⟨rfl, hno⟩ | ⟨i0, x, rfl, hx, hpx, hnx⟩
  · have NO : Hid (ks.filter (fun k => !p k) = ks) := by
      unfold Hid
      rw [List.filter_eq_self]
      intro a ha
      have := List.any_eq_false.1 hno a ha
      simpa using this
    clear hno
    go_wp2
    go_ret
    exact ⟨u, rfl, by rw [NO.out]; exact U1.out, B1.out, ⟨G1.out.os, G1.out.tape, G1.out.output, G1.out.size, fun k hk _ => G1.out.block k hk⟩, rfl⟩
  have hi0 : i0 < ks.length := (List.getElem?_eq_some_iff.1 hx).1
  rcases U1.out.jk with ⟨rfl, h⟩ | ⟨g, cap, rest, rfl, hbg, hkc, hcm, hcl, hub⟩
  · rw [h] at hi0; simp at hi0
  have ST : Hid (ks.take i0 = (ks.take (i0 + 1)).filter (fun k => !p k)) := delj_start hx hpx hnx
  have GG : Hid (base ≤ g ∧ ks.length ≤ cap ∧ cap ≤ maxLen ∧ ks.length * 4 + rest.length = cap * 4) := ⟨hbg, hkc, hcm, hcl⟩
  have UB : Hid (Jk w1 g ks rest) := hub
  have hcm' : cap ≤ 9223372036854775807 := by unfold maxLen at hcm; omega
  clear hx hpx hnx hbg hcm hcl hub U1
  have hm1 : (((i0 : Nat) : Int) == -1) = false := by rw [beq_eq_false_iff_ne]; omega
  go_wp2
  go_loopw [5, 6] (fun vi vj W => ∃ (i j : Nat) (L : List JbV), vi = .int .i64 (i : Nat) ∧ vj = .int .i64 (j : Nat) ∧ i < j ∧ j ≤ ks.length ∧ L.length = ks.length ∧ L.take i = (ks.take j).filter (fun k => !p k) ∧ L.drop j = ks.drop j ∧ Jk W g L rest ∧ Below base w W ∧ Kp g w1 W) (fun _ vj _ => ks.length - (intOf vj).toNat)
  case atStart => exact ⟨i0, i0 + 1, ks, rfl, by go_num, by omega, by omega, rfl, ST.out, rfl, UB.out, B1.out, Kp.refl _ _⟩
  case round =>
    obtain ⟨i, j, L, rfl, rfl, hij, hjn, hLl, hLt, hLd, hLu, hLb, hLk⟩ := hrel
    have LU : Hid (Jk wr g L rest) := hLu
    have LB : Hid (Below base w wr) := hLb
    have LK : Hid (Kp g w1 wr) := hLk
    clear hLk
    have LL : Hid (L.length = ks.length ∧ L.take i = (ks.take j).filter (fun k => !p k) ∧ L.drop j = ks.drop j) := ⟨hLl, hLt, hLd⟩
    clear hLu hLb hLl hLt hLd UB B1 ST
    by_cases h0 : j = ks.length
    · subst h0
      obtain ⟨wc, hcl, hUc, hBc, hSc, hKc⟩ := run_clear_jbs wr g i (ks.length - i) (cap - i) L rest LU.out (by omega) (by rw [LL.out.1]; omega)
      have UC : Hid (Jk wc g (L.take i) ((List.replicate (ks.length - i) (⟨0, 0, 0, 0⟩ : JbV)).flatMap JbV.cs ++ rest)) := by
        unfold Jk at hUc
        unfold Hid Jk
        rw [← List.append_assoc, ← List.flatMap_append]
        exact hUc
      have BC : Hid (Below base w wc) := LB.out.trans (hBc.mono GG.out.1)
      have KC : Hid (Kp g w1 wc) := LK.out.trans hKc
      have IL : Hid ((L.take i).length = i) := by unfold Hid; rw [List.length_take, LL.out.1]; omega
      clear hUc hBc hSc hKc
      go_wp2
      go_ret
      have h1 := UC.out.jbo (base := base) (cap := cap) GG.out.1 (by rw [IL.out]; have := GG.out.2.1; omega) GG.out.2.2.1 (by
        rw [IL.out, List.length_append, len_jb, List.length_replicate]
        have := GG.out.2.2.2
        omega)
      rw [IL.out] at h1
      refine ⟨_, rfl, ?_, BC.out, delj_gb G1.out KC.out, rfl⟩
      have h2 := LL.out.2.1
      rw [List.take_of_length_le (Nat.le_refl _)] at h2
      rw [← h2]
      exact h1
    · have hjl : j < ks.length := by omega
      have hji : ((j : Nat) : Int) < (ks.length : Nat) := by omega
      obtain ⟨y, hy⟩ : ∃ y, ks[j]? = some y := ⟨_, List.getElem?_eq_getElem hjl⟩
      have hLy : L[j]? = some y := by
        have h1 : (L.drop j)[0]? = (ks.drop j)[0]? := by rw [LL.out.2.2]
        rw [List.getElem?_drop, List.getElem?_drop] at h1
        rw [Nat.add_zero] at h1
        rw [h1]; exact hy
      obtain ⟨q0, q1, q2, q3⟩ := LU.out.jbc hLy
      have HY : Hid (ks[j]? = some y) := hy
      have wi : IntKind.i64.wrap ((i : Nat) + 1 : Int) = ((i : Nat) : Int) + 1 := by rw [IntKind.wrap_i64]; omega
      have wj : IntKind.i64.wrap ((j : Nat) + 1 : Int) = ((j : Nat) : Int) + 1 := by rw [IntKind.wrap_i64]; omega
      clear hLy hy
      go_upto_region 8 with fail
      have BA : Hid (Below wr.heap.size wr (wr.alloc (Obj.cells #[.int .i64 y.player, .int .i64 y.unit, .int .i64 y.kind, .int .i64 y.left] 104))) := (Below.refl _ _).alloc (Nat.le_refl _) _
      have XA : Hid (Jbc (wr.alloc (Obj.cells #[.int .i64 y.player, .int .i64 y.unit, .int .i64 y.kind, .int .i64 y.left] 104)) ⟨wr.heap.size, 0, none⟩ y) := Jbc.mk' y rfl
      generalize (wr.alloc (Obj.cells #[.int .i64 y.player, .int .i64 y.unit, .int .i64 y.kind, .int .i64 y.left] 104)) = wa at *
      have UA : Hid (Jk wa g L rest) := LU.out.below BA.out LU.out.lt
      have AB : Hid (Below base w wa) := LB.out.trans (BA.out.mono (Nat.le_trans HB.out.1 LB.out.size))
      have KA : Hid (Kp g w1 wa) := LK.out.trans (Kp.of BA.out)
      clear LK
      obtain ⟨z, hz⟩ : ∃ z, wr.heap.size = z := ⟨_, rfl⟩
      rw [hz] at XA ⊢
      have ZG : Hid (g < z) := by rw [← hz]; exact LU.out.lt
      clear hz BA LU LB q0 q1 q2 q3
      obtain ⟨q0, q1, q2, q3⟩ := XA.out
      cases hpy : p y with
      | true =>
        have PY : Hid (p y = true) := hpy
        have hc := Hp.out wa AB.out (delj_gb G1.out KA.out) y (List.mem_of_getElem? HY.out)
        rw [hpy] at hc
        have Hc : Hid (Calls Tryz.prog K (#[y.val] ++ cs) wa fun e w' => e = .returned (.bool true) ∧ Below wa.heap.size wa w') := hc
        clear hc hpy
        go_wp2_with fail
        refine Calls.mono Hc.out ?_
        rintro e wb ⟨rfl, hb⟩
        have UW : Hid (Jk wb g L rest) := UA.out.below hb UA.out.lt
        have WB : Hid (Below base w wb) := AB.out.trans (hb.mono (Nat.le_trans HB.out.1 AB.out.size))
        have KW : Hid (Kp g w1 wb) := KA.out.trans (Kp.of hb)
        clear KA
        clear hb q0 q1 q2 q3 UA AB XA Hc
        go_wp2
        go_round
        case rel => exact ⟨i, j + 1, L, rfl, by go_num, by omega, by omega, LL.out.1, (delj_skip LL.out.2.1 LL.out.2.2 HY.out PY.out).1, (delj_skip LL.out.2.1 LL.out.2.2 HY.out PY.out).2, UW.out, WB.out, KW.out⟩
        case measure => simp [intOf]; omega
      | false =>
        have PY : Hid (p y = false) := hpy
        have hc := Hp.out wa AB.out (delj_gb G1.out KA.out) y (List.mem_of_getElem? HY.out)
        rw [hpy] at hc
        have Hc : Hid (Calls Tryz.prog K (#[y.val] ++ cs) wa fun e w' => e = .returned (.bool false) ∧ Below wa.heap.size wa w') := hc
        clear hc hpy
        go_wp2_with fail
        refine Calls.mono Hc.out ?_
        rintro e wb ⟨rfl, hb⟩
        have UW : Hid (Jk wb g L rest) := UA.out.below hb UA.out.lt
        have WB : Hid (Below base w wb) := AB.out.trans (hb.mono (Nat.le_trans HB.out.1 AB.out.size))
        have KW : Hid (Kp g w1 wb) := KA.out.trans (Kp.of hb)
        clear KA
        have XB : Hid (Jbc wb ⟨z, 0, none⟩ y) := XA.out.below hb XA.out.lt
        clear hb q0 q1 q2 q3 UA AB XA Hc
        have hil : i < L.length := by rw [LL.out.1]; omega
        obtain ⟨z0, hz0⟩ : ∃ z0, L[i]? = some z0 := ⟨_, List.getElem?_eq_getElem hil⟩
        obtain ⟨q0, q1, q2, q3⟩ := XB.out
        obtain ⟨r0, r1, r2, r3⟩ := UW.out.jbc hz0
        have f0 := UW.out.thaw (i * 4)
        have f1 := UW.out.thaw (i * 4 + 1)
        have f2 := UW.out.thaw (i * 4 + 2)
        have f3 := UW.out.thaw (i * 4 + 3)
        have UP : Hid (Jk ((((wb.setCell ⟨g, i * 4, none⟩ (.int .i64 y.player)).setCell ⟨g, i * 4 + 1, none⟩ (.int .i64 y.unit)).setCell ⟨g, i * 4 + 2, none⟩ (.int .i64 y.kind)).setCell ⟨g, i * 4 + 3, none⟩ (.int .i64 y.left)) g (L.set i y) rest) := UW.out.put hil y
        have BP : Hid (Below base w ((((wb.setCell ⟨g, i * 4, none⟩ (.int .i64 y.player)).setCell ⟨g, i * 4 + 1, none⟩ (.int .i64 y.unit)).setCell ⟨g, i * 4 + 2, none⟩ (.int .i64 y.kind)).setCell ⟨g, i * 4 + 3, none⟩ (.int .i64 y.left))) := jk_below y WB.out GG.out.1
        have KP : Hid (Kp g w1 ((((wb.setCell ⟨g, i * 4, none⟩ (.int .i64 y.player)).setCell ⟨g, i * 4 + 1, none⟩ (.int .i64 y.unit)).setCell ⟨g, i * 4 + 2, none⟩ (.int .i64 y.kind)).setCell ⟨g, i * 4 + 3, none⟩ (.int .i64 y.left))) := KW.out.trans (jk_kp wb g i y)
        have DK := delj_keep LL.out.2.1 LL.out.2.2 hij LL.out.1 HY.out PY.out
        have DH : Hid ((L.set i y).length = ks.length ∧ (L.set i y).take (i + 1) = (ks.take (j + 1)).filter (fun k => !p k) ∧ (L.set i y).drop (j + 1) = ks.drop (j + 1)) := ⟨by rw [List.length_set]; exact LL.out.1, DK.1, DK.2⟩
        clear DK hz0 hil
        go_wp2
        go_round
        case rel => exact ⟨i + 1, j + 1, L.set i y, by go_num, by go_num, by omega, by omega, DH.out.1, DH.out.2.1, DH.out.2.2, UP.out, BP.out, KP.out⟩
        case measure => simp [intOf]; omega
theorem delj_any (K : Nat) (eK : ∀ args w, (callFunc K args).run Tryz.prog w = .ok (.enter K args) w) (u : Value) (cs : Array Value) (ks : List JbV) (p : JbV → Bool) (w : World) (base : Nat) (hu : Jbo w base u ks) (hbase : base ≤ w.heap.size) (hl : ks.length ≤ 1000000)
    (hp : ∀ W, Below base w W → ∀ k ∈ ks, Calls Tryz.prog K (#[k.val] ++ cs) W fun e w' => e = .returned (.bool (p k)) ∧ Below W.heap.size W w') :
    Calls Tryz.prog 77 #[u, .func (Fn.func K) #[] cs] w fun e w' => ∃ v, e = .returned v ∧ Jbo w' base v (ks.filter (fun k => !p k)) ∧ Below base w w' :=
  (delj_own K eK u cs ks p w base hu hbase hl (fun W hW _ => hp W hW)).mono fun e w' h => by
    obtain ⟨v, h1, h2, h3, -⟩ := h
    exact ⟨v, h1, h2, h3⟩
end Go.Proofs.YtkejdkajfnaieaaGreatDoor

namespace Go.Proofs.YtkejdkajfnaieaaGreatDoor
open Go.RowKit
set_option linter.unusedVariables false

def fallenU (u : UnV) : Bool := decide (u.life ≤ 0)
def orphanJ (us : List UnV) (j : JbV) : Bool := !us.any (fun u => u.id == j.unit)
set_option maxHeartbeats 1000000 in
theorem fallen_fg (u : UnV) (w : World) : Calls Tryz.prog 118 (#[u.val] ++ #[]) w fun e w' => e = .returned (.bool (fallenU u)) ∧ Below w.heap.size w w' := by
  rw [Array.append_empty]
  have B0 : Hid (Below w.heap.size w (w.alloc (Obj.cells #[.int .i64 u.id, .int .i64 u.player, .int .i64 u.kind, .int .i64 u.at_, .int .i64 u.life, .int .i64 u.load, .int .i64 u.task, .int .i64 u.goal] 42))) := (Below.refl _ _).alloc (Nat.le_refl _) _
  have O0 : Hid (Unc (w.alloc (Obj.cells #[.int .i64 u.id, .int .i64 u.player, .int .i64 u.kind, .int .i64 u.at_, .int .i64 u.life, .int .i64 u.load, .int .i64 u.task, .int .i64 u.goal] 42)) ⟨w.heap.size, 0, none⟩ u) := Unc.mk' u rfl
  unfold UnV.val
  go_enter Tryz.func118, Tryz.ntmps118
  go_upto_region 1 with fail
  generalize (w.alloc (Obj.cells #[.int .i64 u.id, .int .i64 u.player, .int .i64 u.kind, .int .i64 u.at_, .int .i64 u.life, .int .i64 u.load, .int .i64 u.task, .int .i64 u.goal] 42)) = w0 at *
  obtain ⟨q0, q1, q2, q3, q4, q5, q6, q7⟩ := O0.out
  go_wp2
  go_ret
  exact ⟨rfl, B0.out⟩
set_option maxHeartbeats 1000000 in
theorem wfind_us (X : WV) (us : List UnV) (v1 v2 v3 v4 v5 : Value) (id : Int) (w : World) (h : Unl w v4 us) :
    Calls Tryz.prog 94 #[.agg #[.int .i64 X.turn, .int .i64 X.next, .int .i64 X.wide, .int .i64 X.high, v1, v2, v3, v4, v5], .int .i64 id] w fun e w' => ∃ r : Int, e = .returned (.int .i64 r) ∧ FstU (fun u => u.id == id) us r ∧ Below w.heap.size w w' := by
  have U : Hid (Unl w v4 us) := h
  clear h
  go_enter Tryz.func94, Tryz.ntmps94
  go_wp2_with fail
  have B0 : Hid (Below w.heap.size w ((w.alloc (Obj.cells #[.int .i64 X.turn, .int .i64 X.next, .int .i64 X.wide, .int .i64 X.high, v1, v2, v3, v4, v5] 29)).alloc (Obj.cells #[.int .i64 id] 3))) := ((Below.refl _ _).alloc (Nat.le_refl _) _).alloc (by simp) _
  have C0 : Hid (((w.alloc (Obj.cells #[.int .i64 X.turn, .int .i64 X.next, .int .i64 X.wide, .int .i64 X.high, v1, v2, v3, v4, v5] 29)).alloc (Obj.cells #[.int .i64 id] 3)).cell? ⟨w.heap.size + 1, 0, none⟩ = some (.int .i64 id)) := cell_of_new (by simp) rfl
  generalize ((w.alloc (Obj.cells #[.int .i64 X.turn, .int .i64 X.next, .int .i64 X.wide, .int .i64 X.high, v1, v2, v3, v4, v5] 29)).alloc (Obj.cells #[.int .i64 id] 3)) = w0 at *
  refine (idxu_any 138 (by intro args w; go_simp) v4 #[.pointer (some ⟨w.heap.size + 1, 0, none⟩)] us (fun u => u.id == id) w0 (U.out.below B0.out) (fun V hV k => fid_any k id (w.heap.size + 1) V (by rw [hV.cell (p := ⟨w.heap.size + 1, 0, none⟩) (cell_lt C0.out)]; exact C0.out))).mono ?_
  rintro e w1 ⟨r, rfl, hf, hb⟩
  have F : Hid (FstU (fun u => u.id == id) us r ∧ Below w.heap.size w w1) := ⟨hf, B0.out.trans (hb.mono B0.out.size)⟩
  clear hf hb
  go_wp2
  go_ret
  exact ⟨r, rfl, F.out.1, F.out.2⟩
set_option maxRecDepth 100000 in
set_option maxHeartbeats 2000000 in
theorem orphan_fg (X : WV) (us : List UnV) (j : JbV) (bw : Nat) (v1 v2 v3 v4 v5 : Value) (w : World) (hb : Bw w bw X v1 v2 v3 v4 v5) (hw : Unl w v4 us) :
    Calls Tryz.prog 119 (#[j.val] ++ #[.pointer (some ⟨bw, 0, none⟩)]) w fun e w' => e = .returned (.bool (orphanJ us j)) ∧ Below w.heap.size w w' := by
  have H : Hid (Unl w v4 us) := hw
  have B0 : Hid (Below w.heap.size w (w.alloc (Obj.cells #[.int .i64 j.player, .int .i64 j.unit, .int .i64 j.kind, .int .i64 j.left] 104))) := (Below.refl _ _).alloc (Nat.le_refl _) _
  have O0 : Hid (Jbc (w.alloc (Obj.cells #[.int .i64 j.player, .int .i64 j.unit, .int .i64 j.kind, .int .i64 j.left] 104)) ⟨w.heap.size, 0, none⟩ j) := Jbc.mk' j rfl
  have X0 : Hid (Bw (w.alloc (Obj.cells #[.int .i64 j.player, .int .i64 j.unit, .int .i64 j.kind, .int .i64 j.left] 104)) bw X v1 v2 v3 v4 v5) := hb.below B0.out hb.lt
  clear hw hb
  show Calls Tryz.prog 119 #[j.val, .pointer (some ⟨bw, 0, none⟩)] w _
  unfold JbV.val
  go_enter Tryz.func119, Tryz.ntmps119
  go_upto_region 1 with fail
  generalize (w.alloc (Obj.cells #[.int .i64 j.player, .int .i64 j.unit, .int .i64 j.kind, .int .i64 j.left] 104)) = w0 at *
  obtain ⟨q0, q1, q2, q3⟩ := O0.out
  obtain ⟨x0, x1, x2, x3, x4, x5, x6, x7, x8⟩ := X0.out
  go_wp2_with fail
  refine (wfind_us X us v1 v2 v3 v4 v5 j.unit w0 (H.out.below B0.out)).mono ?_
  rintro e w1 ⟨r, rfl, hf, hb⟩
  have B1 : Hid (Below w.heap.size w w1) := B0.out.trans (hb.mono B0.out.size)
  have OR : Hid (orphanJ us j = decide (r < 0)) := by
    have := hf.has
    unfold Hid orphanJ
    rw [← this]
    by_cases h : 0 ≤ r
    · rw [decide_eq_true h, decide_eq_false (by omega)]; rfl
    · rw [decide_eq_false h, decide_eq_true (by omega)]; rfl
  clear hb hf q0 q1 q2 q3 x0 x1 x2 x3 x4 x5 x6 x7 x8
  go_wp2
  go_ret
  exact ⟨by rw [OR.out]; rfl, B1.out⟩
theorem strike_own (vk : Value) (ks : List KV) (X : WV) (g1 g2 g3 g4 g5 : Value) (Wn base : Nat) (w : World) (hX : WRight ks X) (hW : X.wide = (Wn : Nat)) (h1 : 0 < Wn) (h2 : Wn ≤ 12)
    (hk : Kl w vk ks) (hw : Wl w (.agg #[.int .i64 X.turn, .int .i64 X.next, .int .i64 X.wide, .int .i64 X.high, g1, g2, g3, g4, g5]) X) (hub : Uno w base g4 X.us) :
    Calls Tryz.prog 117 #[vk, .agg #[.int .i64 X.turn, .int .i64 X.next, .int .i64 X.wide, .int .i64 X.high, g1, g2, g3, g4, g5]] w fun e w' => ∃ ev, e = .returned ev ∧ Evo w' w.heap.size ev (strikes ks Wn X.us X.us).2 ∧ Uno w' base g4 (hurt X.us (strikes ks Wn X.us X.us).1) ∧ w.grownBy w' g4.ownBlock := by
  by_cases hne : X.us = []
  · obtain ⟨a, c, rfl⟩ := hub.len
    rw [hne] at hub hw ⊢
    refine (strike_nil vk _ _ _ _ g1 g2 g3 g5 a c w).mono ?_
    rintro e w' ⟨rfl, hb⟩
    exact ⟨_, rfl, Evo.nil _ _, hub.below hb, gb_below hb⟩
  · rcases hub.ub with ⟨-, h⟩ | ⟨g, cap, rest, rfl, hbg, hkc, hcm, hcl, hu⟩
    · exact absurd h hne
    · refine (strike_some vk ks X X.us g1 g2 g3 g5 g cap Wn rest w hX rfl hW h1 h2 hne hk hw hu).mono ?_
      rintro e w' ⟨ev, rfl, he, hu', hkp⟩
      have hl : (hurt X.us (strikes ks Wn X.us X.us).1).length = X.us.length := hurt_len strikes_len'
      have h3 := hu'.uno (base := base) (cap := cap) hbg (by rw [hl]; exact hkc) hcm (by rw [hl]; exact hcl)
      rw [hl] at h3
      exact ⟨ev, rfl, he, h3, gb_kp hkp⟩
end Go.Proofs.YtkejdkajfnaieaaGreatDoor

