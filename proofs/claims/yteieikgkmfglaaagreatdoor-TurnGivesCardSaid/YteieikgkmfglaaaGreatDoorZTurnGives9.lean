/- works.Dig as mathematics: who takes how much, who brings what. · works.yield. · works.take. · works.take. · slices.Index and Contains, of integers. · slices.IndexFunc of units, the function only of what is in the list. · slices.ContainsFunc of units, the function only of what is in the list, and it may make memory. · works.isHome: its function. · Lines of cells: plain mathematics. · Fields: the place of a cell. · field.Step where no cell is asked for. · Fields: Near and Step. · field.Near. · works.isHome. · works.bring as mathematics, and what stays while units bring. · make([]int, N) for few. · One more event. -/
import Derived.Test.YteieikgkmfglaaaGreatDoorZTurnGives4
import Derived.Test.YteieikgkmfglaaaGreatDoorZTurnGives1
import Derived.Test.YteieikgkmfglaaaGreatDoorZTurnGives7
import Derived.Test.YteieikgkmfglaaaGreatDoorZTurnGives5
import Derived.BigRegion
import Derived.Deep.DeepCutAuto
import Derived.Test.YteieikgkmfglaaaGreatDoorZTurnGives2
import Derived.Laws.MakeOwn
namespace Go.Proofs.YteieikgkmfglaaaGreatDoor
set_option linter.unusedVariables false

def carryOf (ks : List KV) (u : UnV) : Int := match ks[u.kind.toNat]? with | some k => k.n7 | none => 0
/-- how much a unit takes where it stands. -/
def yieldN (ks : List KV) (Y : WV) (u : UnV) : Int := if u.task = 2 ∧ u.at_ = u.goal then min (min (carryOf ks u - u.load) (Y.os.getD u.at_.toNat 0)) 10 else 0
def loadU (u : UnV) (n : Int) : UnV := { u with load := n }
def takeW (Y : WV) (i : Nat) (u : UnV) (n : Int) : WV := { Y with us := Y.us.set i (loadU u (u.load + n)), os := Y.os.set u.at_.toNat (Y.os.getD u.at_.toNat 0 - n) }
/-- the first q units have taken; what happened. -/
def tk (ks : List KV) (Y : WV) : Nat → WV × List EvV
  | 0 => (Y, [])
  | q + 1 => match (tk ks Y q).1.us[q]? with
    | none => tk ks Y q
    | some u => if 0 < yieldN ks (tk ks Y q).1 u then (takeW (tk ks Y q).1 q u (yieldN ks (tk ks Y q).1 u), (tk ks Y q).2 ++ [⟨4, u.id, yieldN ks (tk ks Y q).1 u⟩]) else tk ks Y q
theorem tk_yes {ks : List KV} {Y : WV} {q : Nat} {u : UnV} (hu : (tk ks Y q).1.us[q]? = some u) (h : 0 < yieldN ks (tk ks Y q).1 u) : tk ks Y (q + 1) = (takeW (tk ks Y q).1 q u (yieldN ks (tk ks Y q).1 u), (tk ks Y q).2 ++ [⟨4, u.id, yieldN ks (tk ks Y q).1 u⟩]) := by
  rw [tk]; simp only [hu]; rw [if_pos h]
theorem tk_no {ks : List KV} {Y : WV} {q : Nat} {u : UnV} (hu : (tk ks Y q).1.us[q]? = some u) (h : ¬ 0 < yieldN ks (tk ks Y q).1 u) : tk ks Y (q + 1) = tk ks Y q := by
  rw [tk]; simp only [hu]; rw [if_neg h]
/-- what must hold for ore to be dug. -/
structure DFit (ks : List KV) (Y : WV) : Prop where
  wide : ∃ Wn Hn : Nat, Y.wide = Wn ∧ Y.high = Hn ∧ Fd.Good Wn Hn Y.gs Y.os
  units : ∀ u ∈ Y.us, (∃ kn : Nat, ∃ k, u.kind = kn ∧ ks[kn]? = some k ∧ 0 ≤ u.load ∧ u.load ≤ k.n7 ∧ k.n7 ≤ 1000) ∧ (∃ an : Nat, u.at_ = an ∧ an < Y.os.length) ∧ ∃ pn : Nat, u.player = pn ∧ pn < Y.gold.length
  gold : ∀ g ∈ Y.gold, 0 ≤ g ∧ g ≤ 1000000
  ul : Y.us.length ≤ 40
theorem DFit.ore {ks : List KV} {Y : WV} (h : DFit ks Y) {i : Nat} {x : Int} (hx : Y.os[i]? = some x) : 0 ≤ x ∧ x ≤ 1000000 := by
  obtain ⟨Wn, Hn, -, -, G⟩ := h.wide
  have hi := (List.getElem?_eq_some_iff.1 hx).1
  have hg := List.getElem?_eq_getElem (l := Y.gs) (i := i) (by rw [G.gl, ← G.ol]; exact hi)
  have := G.cell i _ x hg hx
  omega
theorem kinds_carry {ks : List KV} (h : Kd.kindsFault (ks.map KV.k) = 0) : ∀ k ∈ ks, 0 ≤ k.n7 ∧ k.n7 ≤ 1000 := by
  intro k hk
  unfold Kd.kindsFault at h
  split at h
  · omega
  · have h2 := kgo_nums h k.k (List.mem_map.2 ⟨k, hk, rfl⟩)
    unfold Kd.numsFault at h2
    split at h2
    · omega
    · rename_i h3
      rw [Bool.not_eq_true, List.any_eq_false] at h3
      have := h3 k.n7 (by simp [KV.k])
      simp only [decide_eq_true_eq] at this
      omega
theorem gold_inD {Y : WV} (h : Wd.numsBad Y = false) : ∀ g ∈ Y.gold, 0 ≤ g ∧ g ≤ 1000000 := by
  unfold Wd.numsBad at h
  simp only [Bool.or_eq_false_iff] at h
  obtain ⟨-, -, h3, h4⟩ := h
  intro g hg
  rw [List.any_eq_false] at h4
  have := h4 g hg
  unfold Wd.off at this
  simp at this
  exact this
theorem WRight.dfit {ks : List KV} {Y : WV} (h : WRight ks Y) : DFit ks Y := by
  have kc := kinds_carry h.kinds
  obtain ⟨Wn, Hn, e1, e2, G⟩ := h.good
  refine ⟨⟨Wn, Hn, e1, e2, G⟩, fun u hu => ?_, gold_inD h.nums, h.ul⟩
  obtain ⟨i, hi⟩ := List.mem_iff_getElem?.1 hu
  obtain ⟨k, F⟩ := h.fine hi
  have hl : Y.os.length = Y.gs.length := by rw [G.gl, G.ol]
  exact ⟨⟨u.kind.toNat, k, by have := F.k0; omega, F.kk, F.load.1, F.load.2, (kc k (List.mem_of_getElem? F.kk)).2⟩, ⟨u.at_.toNat, by have := F.at_; omega, by have := F.at_; omega⟩, ⟨u.player.toNat, by have := F.p; omega, by have := F.p; omega⟩⟩
theorem yield_le {ks : List KV} {Y : WV} {u : UnV} {kn an : Nat} {k : KV} {x : Int} (hk : u.kind = kn) (hkk : ks[kn]? = some k) (ha : u.at_ = an) (hx : Y.os[an]? = some x) : yieldN ks Y u = (if u.task = 2 ∧ u.at_ = u.goal then min (min (k.n7 - u.load) x) 10 else 0) := by
  unfold yieldN carryOf
  rw [hk, ha, Int.toNat_natCast, Int.toNat_natCast]
  simp only [hkk, List.getD_eq_getElem?_getD, hx, Option.getD_some]
theorem DFit.take {ks : List KV} {Y : WV} (h : DFit ks Y) {i : Nat} {u : UnV} (hu : Y.us[i]? = some u) (hn : 0 < yieldN ks Y u) : DFit ks (takeW Y i u (yieldN ks Y u)) := by
  obtain ⟨⟨kn, k, e1, e2, l1, l2, l3⟩, ⟨an, e3, hal⟩, pn, e4, hpl⟩ := h.units u (List.mem_of_getElem? hu)
  obtain ⟨x, hx⟩ : ∃ x, Y.os[an]? = some x := ⟨_, List.getElem?_eq_getElem hal⟩
  have ey := yield_le (ks := ks) (Y := Y) e1 e2 e3 hx
  have hox := h.ore hx
  have hy : yieldN ks Y u ≤ k.n7 - u.load ∧ yieldN ks Y u ≤ x := by
    rw [ey] at hn ⊢
    split
    · omega
    · rename_i hh; rw [if_neg hh] at hn; omega
  have eg : Y.os.getD u.at_.toNat 0 = x := by rw [e3, Int.toNat_natCast, List.getD_eq_getElem?_getD, hx, Option.getD_some]
  refine ⟨?_, fun v hv => ?_, h.gold, by simpa [takeW] using h.ul⟩
  · obtain ⟨Wn, Hn, a1, a2, G⟩ := h.wide
    refine ⟨Wn, Hn, a1, a2, ⟨G.w1, G.w2, G.h1, G.h2, G.gl, by simpa [takeW] using G.ol, fun j g o hg ho => ?_⟩⟩
    unfold takeW at ho
    simp only at ho
    rw [eg, e3, Int.toNat_natCast, List.getElem?_set] at ho
    split at ho
    · rename_i ej
      subst ej
      injection ho with ho
      have c := G.cell an g x hg hx
      refine ⟨c.1, c.2.1, by omega, by omega, fun h9 => c.2.2.2.2 (by omega)⟩
    · exact G.cell j g o hg ho
  · have hlen : (takeW Y i u (yieldN ks Y u)).os.length = Y.os.length := by simp [takeW]
    rw [hlen]
    rcases List.mem_or_eq_of_mem_set hv with hv | rfl
    · exact h.units v hv
    · exact ⟨⟨kn, k, e1, e2, by show 0 ≤ u.load + _; omega, by show u.load + _ ≤ _; omega, l3⟩, ⟨an, e3, hal⟩, pn, e4, hpl⟩
/-- what taking leaves as it was. -/
def TkK (Y Z : WV) : Prop := Z.turn = Y.turn ∧ Z.next = Y.next ∧ Z.wide = Y.wide ∧ Z.high = Y.high ∧ Z.gs = Y.gs ∧ Z.gold = Y.gold ∧ Z.qs = Y.qs ∧ Z.us.length = Y.us.length ∧ Z.os.length = Y.os.length
theorem tk_keep {ks : List KV} {Y : WV} : ∀ q, TkK Y (tk ks Y q).1
  | 0 => ⟨rfl, rfl, rfl, rfl, rfl, rfl, rfl, rfl, rfl⟩
  | q + 1 => by
    have ih := tk_keep (ks := ks) (Y := Y) q
    cases hu : (tk ks Y q).1.us[q]? with
    | none => rw [tk]; simp only [hu]; exact ih
    | some u =>
      by_cases h : 0 < yieldN ks (tk ks Y q).1 u
      · rw [tk_yes hu h]
        obtain ⟨a1, a2, a3, a4, a5, a6, a7, a8, a9⟩ := ih
        exact ⟨a1, a2, a3, a4, a5, a6, a7, by simpa [takeW] using a8, by simpa [takeW] using a9⟩
      · rw [tk_no hu h]; exact ih
theorem tk_fit {ks : List KV} {Y : WV} (h : DFit ks Y) : ∀ q, DFit ks (tk ks Y q).1
  | 0 => h
  | q + 1 => by
    have ih := tk_fit h q
    cases hu : (tk ks Y q).1.us[q]? with
    | none => rw [tk]; simp only [hu]; exact ih
    | some u =>
      by_cases hh : 0 < yieldN ks (tk ks Y q).1 u
      · rw [tk_yes hu hh]; exact ih.take hu hh
      · rw [tk_no hu hh]; exact ih
theorem tk_evs {ks : List KV} {Y : WV} : ∀ q, (tk ks Y q).2.length ≤ q
  | 0 => by simp [tk]
  | q + 1 => by
    have ih := tk_evs (ks := ks) (Y := Y) q
    cases hu : (tk ks Y q).1.us[q]? with
    | none => rw [tk]; simp only [hu]; omega
    | some u =>
      by_cases h : 0 < yieldN ks (tk ks Y q).1 u
      · rw [tk_yes hu h]; simp; omega
      · rw [tk_no hu h]; omega
end Go.Proofs.YteieikgkmfglaaaGreatDoor

namespace Go.Proofs.YteieikgkmfglaaaGreatDoor
open Go.RowKit
set_option linter.unusedVariables false

theorem unit_one {w : World} {z : Nat} (y : UnV) (hz : w.heap.size = z) : Ub (w.alloc (Obj.cells #[.int .i64 y.id, .int .i64 y.player, .int .i64 y.kind, .int .i64 y.at_, .int .i64 y.life, .int .i64 y.load, .int .i64 y.task, .int .i64 y.goal] 44)) z [y] [] := by
  subst hz
  exact heap_alloc_new _ _
theorem ret_inty {a b : Int} (h : a = b) : Ending.returned (.int .i64 a) = Ending.returned (.int .i64 b) := by rw [h]
set_option maxRecDepth 100000 in
set_option maxHeartbeats 8000000 in
theorem yield_any (vk vw : Value) (ks : List KV) (Y : WV) (u : UnV) (kn an : Nat) (k : KV) (x : Int) (w : World) (hk : Kl w vk ks) (hw : Wl w vw Y) (hkn : u.kind = kn) (hkk : ks[kn]? = some k) (han : u.at_ = an) (hx : Y.os[an]? = some x)
    (l1 : 0 ≤ u.load) (l2 : u.load ≤ 1000) (l3 : 0 ≤ k.n7) (l4 : k.n7 ≤ 1000) (l5 : 0 ≤ x ∧ x ≤ 1000000) :
    Calls Tryz.prog 60 #[vk, vw, u.val] w fun e w' => e = .returned (.int .i64 (yieldN ks Y u)) ∧ Below w.heap.size w w' := by
  have K : Hid (Kl w vk ks) := hk
  have H : Hid (Wl w vw Y) := hw
  have NN : Hid (u.kind = (kn : Nat) ∧ ks[kn]? = some k ∧ u.at_ = (an : Nat) ∧ Y.os[an]? = some x) := ⟨hkn, hkk, han, hx⟩
  have EY : Hid (yieldN ks Y u = (if u.task = 2 ∧ u.at_ = u.goal then min (min (k.n7 - u.load) x) 10 else 0)) := yield_le hkn hkk han hx
  have hkl : kn < ks.length := (List.getElem?_eq_some_iff.1 hkk).1
  have hal : an < Y.os.length := (List.getElem?_eq_some_iff.1 hx).1
  have hki : ((kn : Nat) : Int) < (ks.length : Nat) := by omega
  have hai : ((an : Nat) : Int) < (Y.os.length : Nat) := by omega
  obtain ⟨p1, q1, p2, q2, p3, q3, p4, q4, p5, q5, rfl⟩ := wl_shape9 hw
  obtain ⟨pk, qk, rfl, ck1, ck2, kc⟩ := hk
  obtain ⟨xk, rfl, hxk1, hxk⟩ := kc (by rintro hn; rw [hn] at hkl; simp at hkl)
  have KC : Hid (xk.block < w.heap.size ∧ Kc w (xk.add (kn * 11)) k) := ⟨hxk1, hxk kn k hkk⟩
  obtain ⟨xo, rfl, hxo⟩ : ∃ xo, p2 = some xo ∧ xo.block < w.heap.size ∧ w.cell? (xo.add an) = some (.int .i64 x) := by
    obtain ⟨k1, k2, k3, k4, k5, ev, r1, r2, r3, hu, r5⟩ := hw
    have e9 : k2 = .slice p2 Y.os.length q2 := by simp only [Value.agg.injEq, Array.mk.injEq, List.cons.injEq] at ev; exact ev.2.2.2.2.2.1.symm
    subst e9
    obtain ⟨a', c', e', -, -, hz⟩ := r2
    injection e' with e1' e2' e3'
    subst e1'
    obtain ⟨y, e, h1, h2⟩ := hz (by rintro hn; rw [hn] at hal; simp at hal)
    exact ⟨y, e, h1, h2 an x hx⟩
  have XO : Hid (xo.block < w.heap.size ∧ w.cell? (xo.add an) = some (.int .i64 x)) := hxo
  clear hw hxo hkn hkk han hx kc hxk hxk1
  unfold UnV.val
  go_enter Tryz.func60, Tryz.ntmps60
  go_upto_region 1 with fail
  have BA : Hid (Below w.heap.size w (w.alloc (Obj.cells #[.int .i64 Y.turn, .int .i64 Y.next, .int .i64 Y.wide, .int .i64 Y.high, .slice p1 Y.gs.length q1, .slice (some xo) Y.os.length q2, .slice p3 Y.gold.length q3, .slice p4 Y.us.length q4, .slice p5 Y.qs.length q5] 29))) := (Below.refl _ _).alloc (Nat.le_refl _) _
  have X0 : Hid (Bw (w.alloc (Obj.cells #[.int .i64 Y.turn, .int .i64 Y.next, .int .i64 Y.wide, .int .i64 Y.high, .slice p1 Y.gs.length q1, .slice (some xo) Y.os.length q2, .slice p3 Y.gold.length q3, .slice p4 Y.us.length q4, .slice p5 Y.qs.length q5] 29)) w.heap.size Y (.slice p1 Y.gs.length q1) (.slice (some xo) Y.os.length q2) (.slice p3 Y.gold.length q3) (.slice p4 Y.us.length q4) (.slice p5 Y.qs.length q5)) := Bw.mk' Y _ _ _ _ _ rfl
  have U0 : Hid (Ub ((w.alloc (Obj.cells #[.int .i64 Y.turn, .int .i64 Y.next, .int .i64 Y.wide, .int .i64 Y.high, .slice p1 Y.gs.length q1, .slice (some xo) Y.os.length q2, .slice p3 Y.gold.length q3, .slice p4 Y.us.length q4, .slice p5 Y.qs.length q5] 29)).alloc (Obj.cells #[.int .i64 u.id, .int .i64 u.player, .int .i64 u.kind, .int .i64 u.at_, .int .i64 u.life, .int .i64 u.load, .int .i64 u.task, .int .i64 u.goal] 44)) (w.heap.size + 1) [u] []) := unit_one u (by simp)
  have B1 : Hid (Below w.heap.size w ((w.alloc (Obj.cells #[.int .i64 Y.turn, .int .i64 Y.next, .int .i64 Y.wide, .int .i64 Y.high, .slice p1 Y.gs.length q1, .slice (some xo) Y.os.length q2, .slice p3 Y.gold.length q3, .slice p4 Y.us.length q4, .slice p5 Y.qs.length q5] 29)).alloc (Obj.cells #[.int .i64 u.id, .int .i64 u.player, .int .i64 u.kind, .int .i64 u.at_, .int .i64 u.life, .int .i64 u.load, .int .i64 u.task, .int .i64 u.goal] 44))) := BA.out.alloc (by simp) _
  have X1 : Hid (Bw ((w.alloc (Obj.cells #[.int .i64 Y.turn, .int .i64 Y.next, .int .i64 Y.wide, .int .i64 Y.high, .slice p1 Y.gs.length q1, .slice (some xo) Y.os.length q2, .slice p3 Y.gold.length q3, .slice p4 Y.us.length q4, .slice p5 Y.qs.length q5] 29)).alloc (Obj.cells #[.int .i64 u.id, .int .i64 u.player, .int .i64 u.kind, .int .i64 u.at_, .int .i64 u.life, .int .i64 u.load, .int .i64 u.task, .int .i64 u.goal] 44)) w.heap.size Y (.slice p1 Y.gs.length q1) (.slice (some xo) Y.os.length q2) (.slice p3 Y.gold.length q3) (.slice p4 Y.us.length q4) (.slice p5 Y.qs.length q5)) := X0.out.below ((Below.refl _ _).alloc (Nat.le_refl _) _) X0.out.lt
  generalize ((w.alloc (Obj.cells #[.int .i64 Y.turn, .int .i64 Y.next, .int .i64 Y.wide, .int .i64 Y.high, .slice p1 Y.gs.length q1, .slice (some xo) Y.os.length q2, .slice p3 Y.gold.length q3, .slice p4 Y.us.length q4, .slice p5 Y.qs.length q5] 29)).alloc (Obj.cells #[.int .i64 u.id, .int .i64 u.player, .int .i64 u.kind, .int .i64 u.at_, .int .i64 u.life, .int .i64 u.load, .int .i64 u.task, .int .i64 u.goal] 44)) = w1 at *
  clear BA X0
  have kc1 := KC.out.2.below B1.out (by rw [add_block]; exact KC.out.1)
  have k8 := kc1.c8
  have co : w1.cell? (xo.add an) = some (.int .i64 x) := by rw [B1.out.cell (by rw [add_block]; exact XO.out.1)]; exact XO.out.2
  obtain ⟨x0, x1, x2, x3, x4, x5, x6, x7, x8⟩ := X1.out
  obtain ⟨y0, y1, y2, y3, y4, y5, y6, y7⟩ := U0.out.unc (i := 0) (o := u) rfl
  simp only [Nat.zero_mul, Nat.zero_add] at y0 y1 y2 y3 y4 y5 y6 y7
  rw [NN.out.1] at y2
  by_cases h2 : u.task = 2
  · rw [h2] at y6
    by_cases hg : u.at_ = u.goal
    · have E : Hid (yieldN ks Y u = min (min (k.n7 - u.load) x) 10) := by unfold Hid; rw [EY.out, if_pos ⟨h2, hg⟩]
      rw [← hg, NN.out.2.2.1] at y7
      rw [NN.out.2.2.1] at y3
      have wr : IntKind.i64.wrap (k.n7 - u.load) = k.n7 - u.load := by rw [IntKind.wrap_i64]; omega
      clear h2 hg
      go_upto_region 3 with fail
      go_region
      all_goals (try go_wp2)
      all_goals go_ret
      all_goals refine ⟨?_, ⟨B1.out.os, B1.out.tape, B1.out.output, B1.out.size, B1.out.block⟩⟩
      all_goals (rw [E.out]; exact ret_inty (by omega))
    · have E : Hid (yieldN ks Y u = 0) := by unfold Hid; rw [EY.out, if_neg (fun h => hg h.2)]
      clear h2
      go_wp2
      go_ret
      exact ⟨by rw [E.out]; rfl, ⟨B1.out.os, B1.out.tape, B1.out.output, B1.out.size, B1.out.block⟩⟩
  · have E : Hid (yieldN ks Y u = 0) := by unfold Hid; rw [EY.out, if_neg (fun h => h2 h.1)]
    go_wp2
    go_ret
    exact ⟨by rw [E.out]; rfl, ⟨B1.out.os, B1.out.tape, B1.out.output, B1.out.size, B1.out.block⟩⟩
end Go.Proofs.YteieikgkmfglaaaGreatDoor

namespace Go.Proofs.YteieikgkmfglaaaGreatDoor
open Go.RowKit
set_option linter.unusedVariables false

/-- what stays while units take. -/
structure TkS (ks : List KV) (Y Z : WV) (es : List EvV) (b1 b : Nat) (w : World) (u1 u2 u3 u4 u5 ev : Value) (V : World) : Prop where
  o1 : Ow V b1 u1 Z.gs
  o2 : Ow V b1 u2 Z.os
  o3 : Ow V b1 u3 Z.gold
  o4 : Uno V b1 u4 Z.us
  o5 : Jbo V b1 u5 Z.qs
  e : Evo V b ev es
  d : [u1, u2, u3, u4, u5].Pairwise Dif
  fr : Fr (fun q => u2.ownBlock = some q ∨ u4.ownBlock = some q) w V
  k : TkK Y Z
  f : DFit ks Z
section
variable {ks : List KV} {Y Z : WV} {es : List EvV} {b1 b : Nat} {w : World} {u1 u2 u3 u4 u5 ev : Value} {V V' : World}
theorem TkS.below (h : TkS ks Y Z es b1 b w u1 u2 u3 u4 u5 ev V) (hb : Below V.heap.size V V') : TkS ks Y Z es b1 b w u1 u2 u3 u4 u5 ev V' :=
  ⟨h.o1.below hb, h.o2.below hb, h.o3.below hb, h.o4.below hb, h.o5.below hb, h.e.below hb, h.d, h.fr.trans (Fr.below hb), h.k, h.f⟩
theorem TkS.wl (h : TkS ks Y Z es b1 b w u1 u2 u3 u4 u5 ev V) : Wl V (.agg #[.int .i64 Y.turn, .int .i64 Y.next, .int .i64 Y.wide, .int .i64 Y.high, u1, u2, u3, u4, u5]) Z := by
  obtain ⟨a1, a2, a3, a4, -⟩ := h.k
  exact ⟨u1, u2, u3, u4, u5, by rw [a1, a2, a3, a4], h.o1.ro, h.o2.ro, h.o3.ro, h.o4.l, h.o5.l⟩
theorem TkS.difs (h : TkS ks Y Z es b1 b w u1 u2 u3 u4 u5 ev V) : (Dif u1 u2 ∧ Dif u1 u3 ∧ Dif u1 u4 ∧ Dif u1 u5) ∧ (Dif u2 u3 ∧ Dif u2 u4 ∧ Dif u2 u5) ∧ (Dif u3 u4 ∧ Dif u3 u5) ∧ Dif u4 u5 := by
  have := h.d
  simp only [List.pairwise_cons, List.mem_cons, List.not_mem_nil, or_false, forall_eq_or_imp, forall_eq] at this
  obtain ⟨⟨a1, a2, a3, a4⟩, ⟨b1, b2, b3⟩, ⟨c1, c2⟩, d1, -⟩ := this
  exact ⟨⟨a1, a2, a3, a4⟩, ⟨b1, b2, b3⟩, ⟨c1, c2⟩, d1⟩
theorem TkS.take {gu gs cu co i : Nat} {ur : List Value} {sr : Array Value} {u : UnV} {ev' : Value} (h : TkS ks Y Z es b1 b w u1 (.slice (some ⟨gs, 0, none⟩) Y.os.length co) u3 (.slice (some ⟨gu, 0, none⟩) Y.us.length cu) u5 ev V) (hwb : w.heap.size = b)
    (hl : ∀ x ∈ [u1, u3, u5], ∀ k, x.ownBlock = some k → k < b) (hgu : b1 ≤ gu) (c1 : Y.us.length ≤ cu) (c2 : cu ≤ maxLen) (c3 : Y.us.length * 8 + ur.length = cu * 8) (hgs : b1 ≤ gs) (d1 : Y.os.length ≤ co) (d2 : co ≤ maxLen) (d3 : Y.os.length + sr.size = co)
    (hu : Z.us[i]? = some u) (hy : 0 < yieldN ks Z u) (hub : Ub V' gu (takeW Z i u (yieldN ks Z u)).us ur) (hbk : Bk V' gs (takeW Z i u (yieldN ks Z u)).os sr) (he : Evo V' b ev' (es ++ [⟨4, u.id, yieldN ks Z u⟩])) (hf : Fr (fun q => q = gu ∨ q = gs ∨ ev.ownBlock = some q) V V') :
    TkS ks Y (takeW Z i u (yieldN ks Z u)) (es ++ [⟨4, u.id, yieldN ks Z u⟩]) b1 b w u1 (.slice (some ⟨gs, 0, none⟩) Y.os.length co) u3 (.slice (some ⟨gu, 0, none⟩) Y.us.length cu) u5 ev' V' := by
  obtain ⟨⟨d12, d13, d14, d15⟩, ⟨d23, d24, d25⟩, ⟨d34, d35⟩, d45⟩ := h.difs
  have owu : (Value.slice (some ⟨gu, 0, none⟩) Y.us.length cu).ownBlock = some gu := rfl
  have ows : (Value.slice (some ⟨gs, 0, none⟩) Y.os.length co).ownBlock = some gs := rfl
  have no : ∀ x ∈ [u1, u3, u5], Dif x (.slice (some ⟨gs, 0, none⟩) Y.os.length co) → Dif x (.slice (some ⟨gu, 0, none⟩) Y.us.length cu) → ∀ q, x.ownBlock = some q → ¬ (q = gu ∨ q = gs ∨ ev.ownBlock = some q) := fun x hx e2 e4 q hq hs => by
    rcases hs with e | e | e
    · exact e4 q hq (by rw [owu, e])
    · exact e2 q hq (by rw [ows, e])
    · have h8 := (h.e.block q e).1; have h9 := hl x hx q hq; omega
  have k' : TkK Y (takeW Z i u (yieldN ks Z u)) := by
    obtain ⟨a1, a2, a3, a4, a5, a6, a7, a8, a9⟩ := h.k
    exact ⟨a1, a2, a3, a4, a5, a6, a7, by simpa [takeW] using a8, by simpa [takeW] using a9⟩
  refine ⟨hf.own h.o1 (no u1 (by simp) d12 d14), ?_, hf.own h.o3 (no u3 (by simp) d23.symm d34), ?_, hf.own h.o5 (no u5 (by simp) d25.symm d45.symm), he, h.d, ?_, k', h.f.take hu hy⟩
  · have := hbk.ow (base := b1) (cap := co) hgs (by rw [k'.2.2.2.2.2.2.2.2]; exact d1) d2 (by rw [k'.2.2.2.2.2.2.2.2]; exact d3)
    rw [k'.2.2.2.2.2.2.2.2] at this
    exact this
  · have := hub.uno (base := b1) (cap := cu) hgu (by rw [k'.2.2.2.2.2.2.2.1]; exact c1) c2 (by rw [k'.2.2.2.2.2.2.2.1]; exact c3)
    rw [k'.2.2.2.2.2.2.2.1] at this
    exact this
  · refine ⟨hf.os.trans h.fr.os, hf.tape.trans h.fr.tape, hf.output.trans h.fr.output, Nat.le_trans h.fr.size hf.size, fun q hq hn => (hf.block q (Nat.lt_of_lt_of_le hq h.fr.size) (fun e => ?_)).trans (h.fr.block q hq hn)⟩
    rcases e with e | e | e
    · exact hn (.inr (by rw [owu, e]))
    · exact hn (.inl (by rw [ows, e]))
    · have := (h.e.block q e).1; omega
end
end Go.Proofs.YteieikgkmfglaaaGreatDoor

namespace Go.Proofs.YteieikgkmfglaaaGreatDoor
open Go.RowKit
set_option linter.unusedVariables false

def TkI (ks : List KV) (Y : WV) (z b1 : Nat) (w1 : World) (u1 u2 u3 u4 u5 ev j : Value) (V : World) : Prop := ∃ q : Nat, q ≤ Y.us.length ∧ j = .int .i64 (q : Nat) ∧ Wx V z (.int .i64 Y.turn) (.int .i64 Y.next) (.int .i64 Y.wide) (.int .i64 Y.high) u1 u2 u3 u4 u5 ∧ TkS ks Y (tk ks Y q).1 (tk ks Y q).2 b1 (z + 1) w1 u1 u2 u3 u4 u5 ev V
set_option maxRecDepth 100000 in
set_option maxHeartbeats 16000000 in
theorem take_any (vk : Value) (ks : List KV) (Y : WV) (u1 u2 u3 u4 u5 : Value) (b1 : Nat) (w0 w : World) (hk : Kl w0 vk ks) (hb0 : Below w0.heap.size w0 w) (h0b : w0.heap.size ≤ b1) (o1 : Ow w b1 u1 Y.gs) (o2 : Ow w b1 u2 Y.os) (o3 : Ow w b1 u3 Y.gold) (o4 : Uno w b1 u4 Y.us) (o5 : Jbo w b1 u5 Y.qs) (hd : [u1, u2, u3, u4, u5].Pairwise Dif) (hf : DFit ks Y) :
    Calls Tryz.prog 33 #[vk, .agg #[.int .i64 Y.turn, .int .i64 Y.next, .int .i64 Y.wide, .int .i64 Y.high, u1, u2, u3, u4, u5]] w fun e w' => ∃ ev, e = .returned ev ∧ TkS ks Y (tk ks Y Y.us.length).1 (tk ks Y Y.us.length).2 b1 w.heap.size w u1 u2 u3 u4 u5 ev w' := by
  have KB : Hid (Kl w0 vk ks ∧ Below w0.heap.size w0 w ∧ w0.heap.size ≤ b1) := ⟨hk, hb0, h0b⟩
  obtain ⟨pk, qk, rfl, ck1, ck2, kc⟩ := hk
  have T0 : Hid (TkS ks Y Y [] b1 w.heap.size w u1 u2 u3 u4 u5 (.slice none 0 0) w) := ⟨o1, o2, o3, o4, o5, Evo.nil _ _, hd, Fr.below (Below.refl _ _), ⟨rfl, rfl, rfl, rfl, rfl, rfl, rfl, rfl, rfl⟩, hf⟩
  have LW : Hid (∀ x ∈ [u1, u3, u5], ∀ k, x.ownBlock = some k → k < w.heap.size) := by
    intro x hx k hk
    simp only [List.mem_cons, List.not_mem_nil, or_false] at hx
    rcases hx with rfl | rfl | rfl
    · exact (o1.block k hk).2
    · exact (o3.block k hk).2
    · exact (o5.block k hk).2
  have L24 : Hid ((∀ k, u2.ownBlock = some k → b1 ≤ k ∧ k < w.heap.size) ∧ ∀ k, u4.ownBlock = some k → b1 ≤ k ∧ k < w.heap.size) := ⟨o2.block, o4.block⟩
  have ul : Y.us.length ≤ 40 := hf.ul
  obtain ⟨a1, h1, rfl⟩ := o1.len
  obtain ⟨a2, h2, rfl⟩ := o2.len
  obtain ⟨a3, h3, rfl⟩ := o3.len
  obtain ⟨a4, h4, rfl⟩ := o4.len
  obtain ⟨a5, h5, rfl⟩ := o5.len
  clear hb0 h0b kc o1 o2 o3 o4 o5 hd hf
  go_enter Tryz.func33, Tryz.ntmps33
  go_upto_region 2 with fail
  have BA : Hid (Below w.heap.size w (w.alloc (Obj.cells #[.int .i64 Y.turn, .int .i64 Y.next, .int .i64 Y.wide, .int .i64 Y.high, .slice a1 Y.gs.length h1, .slice a2 Y.os.length h2, .slice a3 Y.gold.length h3, .slice a4 Y.us.length h4, .slice a5 Y.qs.length h5] 29))) := (Below.refl _ _).alloc (Nat.le_refl _) _
  obtain ⟨z, hz⟩ : ∃ z, w.heap.size = z := ⟨_, rfl⟩
  have HZ : Hid (w.heap.size = z) := hz
  have X1 : Hid (Wx (w.alloc (Obj.cells #[.int .i64 Y.turn, .int .i64 Y.next, .int .i64 Y.wide, .int .i64 Y.high, .slice a1 Y.gs.length h1, .slice a2 Y.os.length h2, .slice a3 Y.gold.length h3, .slice a4 Y.us.length h4, .slice a5 Y.qs.length h5] 29)) z (.int .i64 Y.turn) (.int .i64 Y.next) (.int .i64 Y.wide) (.int .i64 Y.high) (.slice a1 Y.gs.length h1) (.slice a2 Y.os.length h2) (.slice a3 Y.gold.length h3) (.slice a4 Y.us.length h4) (.slice a5 Y.qs.length h5)) := Wx.new (w := w) _ _ _ _ _ _ _ _ _ hz
  have S1 : Hid ((w.alloc (Obj.cells #[.int .i64 Y.turn, .int .i64 Y.next, .int .i64 Y.wide, .int .i64 Y.high, .slice a1 Y.gs.length h1, .slice a2 Y.os.length h2, .slice a3 Y.gold.length h3, .slice a4 Y.us.length h4, .slice a5 Y.qs.length h5] 29)).heap.size = z + 1) := by unfold Hid; rw [← hz]; simp
  rw [hz]
  clear hz
  generalize w.alloc (Obj.cells #[.int .i64 Y.turn, .int .i64 Y.next, .int .i64 Y.wide, .int .i64 Y.high, .slice a1 Y.gs.length h1, .slice a2 Y.os.length h2, .slice a3 Y.gold.length h3, .slice a4 Y.us.length h4, .slice a5 Y.qs.length h5] 29) = w1 at *
  have T1 : Hid (TkS ks Y Y [] b1 (z + 1) w1 (.slice a1 Y.gs.length h1) (.slice a2 Y.os.length h2) (.slice a3 Y.gold.length h3) (.slice a4 Y.us.length h4) (.slice a5 Y.qs.length h5) (.slice none 0 0) w1) := by
    have h := T0.out.below BA.out
    exact ⟨h.o1, h.o2, h.o3, h.o4, h.o5, Evo.nil _ _, h.d, Fr.below (Below.refl _ _), h.k, h.f⟩
  clear T0
  obtain ⟨x0, x1, x2, x3, x4, x5, x6, x7, x8⟩ := X1.out.cells
  go_wp2_with fail
  clear x0 x1 x2 x3 x4 x5 x6 x7 x8
  go_loopw [5, 12] (fun ev j V => TkI ks Y z b1 w1 (.slice a1 Y.gs.length h1) (.slice a2 Y.os.length h2) (.slice a3 Y.gold.length h3) (.slice a4 Y.us.length h4) (.slice a5 Y.qs.length h5) ev j V) (fun _ j _ => Y.us.length - (intOf j).toNat)
  case atStart => exact ⟨0, Nat.zero_le _, rfl, X1.out, T1.out⟩
  case round =>
    obtain ⟨q, hq, rfl, hx, ht⟩ := hrel
    obtain ⟨Z, hZ⟩ : ∃ Z, (tk ks Y q).1 = Z := ⟨_, rfl⟩
    obtain ⟨es, hE⟩ : ∃ es, (tk ks Y q).2 = es := ⟨_, rfl⟩
    have HQ : Hid ((tk ks Y q).1 = Z ∧ (tk ks Y q).2 = es) := ⟨hZ, hE⟩
    have EL : Hid (es.length ≤ 40) := by have h9 := tk_evs (ks := ks) (Y := Y) q; rw [hE] at h9; unfold Hid; omega
    rw [hZ, hE] at ht
    clear hZ hE
    obtain ⟨ea, ec, rfl⟩ := ht.e.len
    have TQ : Hid (TkS ks Y Z es b1 (z + 1) w1 (.slice a1 Y.gs.length h1) (.slice a2 Y.os.length h2) (.slice a3 Y.gold.length h3) (.slice a4 Y.us.length h4) (.slice a5 Y.qs.length h5) (.slice ea es.length ec) wr) := ht
    have XQ : Hid (Wx wr z (.int .i64 Y.turn) (.int .i64 Y.next) (.int .i64 Y.wide) (.int .i64 Y.high) (.slice a1 Y.gs.length h1) (.slice a2 Y.os.length h2) (.slice a3 Y.gold.length h3) (.slice a4 Y.us.length h4) (.slice a5 Y.qs.length h5)) := hx
    clear hx ht
    by_cases hqn : q = Y.us.length
    · have FIN : Hid ((tk ks Y Y.us.length).1 = Z ∧ (tk ks Y Y.us.length).2 = es) := by rw [← hqn]; exact HQ.out
      subst hqn
      go_wp2
      go_ret
      refine ⟨_, rfl, ?_⟩
      rw [FIN.out.1, FIN.out.2]
      have h := TQ.out
      exact ⟨h.o1, h.o2, h.o3, h.o4, h.o5, h.e.mono (by have := HZ.out; omega), h.d, (Fr.below BA.out).trans h.fr, h.k, h.f⟩
    · have hql : q < Y.us.length := by omega
      have hqi : ((q : Nat) : Int) < (Y.us.length : Nat) := by omega
      have hzl : q < Z.us.length := by rw [TQ.out.k.2.2.2.2.2.2.2.1]; exact hql
      obtain ⟨u, hu⟩ : ∃ u, Z.us[q]? = some u := ⟨_, List.getElem?_eq_getElem hzl⟩
      obtain ⟨⟨kn, k, hkn, hkk, l1, l2, l3⟩, ⟨an, han, hal⟩, -⟩ := TQ.out.f.units u (List.mem_of_getElem? hu)
      obtain ⟨x, hx⟩ : ∃ x, Z.os[an]? = some x := ⟨_, List.getElem?_eq_getElem hal⟩
      have UU : Hid (Z.us[q]? = some u ∧ u.kind = (kn : Nat) ∧ ks[kn]? = some k ∧ u.at_ = (an : Nat) ∧ Z.os[an]? = some x) := ⟨hu, hkn, hkk, han, hx⟩
      have OX := TQ.out.f.ore hx
      have hali : ((an : Nat) : Int) < (Y.os.length : Nat) := by rw [← TQ.out.k.2.2.2.2.2.2.2.2]; omega
      obtain ⟨gu, cu, ur, e4, hgu, c1, c2, c3, hub⟩ : ∃ g cap rest, Value.slice a4 Y.us.length h4 = .slice (some ⟨g, 0, none⟩) Y.us.length cap ∧ b1 ≤ g ∧ Y.us.length ≤ cap ∧ cap ≤ maxLen ∧ Y.us.length * 8 + rest.length = cap * 8 ∧ Ub wr g Z.us rest := by
        rcases TQ.out.o4.ub with ⟨-, h⟩ | ⟨g, cap, rest, h⟩
        · rw [h] at hzl; simp at hzl
        · rw [TQ.out.k.2.2.2.2.2.2.2.1] at h; exact ⟨g, cap, rest, h⟩
      injection e4 with e41 e42 e43
      subst e41 e43
      obtain ⟨gs, co, sr, e2, hgs, d1, d2, d3, hbk⟩ : ∃ g cap rest, Value.slice a2 Y.os.length h2 = .slice (some ⟨g, 0, none⟩) Y.os.length cap ∧ b1 ≤ g ∧ Y.os.length ≤ cap ∧ cap ≤ maxLen ∧ Y.os.length + rest.size = cap ∧ Bk wr g Z.os rest := by
        rcases TQ.out.o2.bk with ⟨-, h⟩ | ⟨g, cap, rest, h⟩
        · rw [h] at hal; simp at hal
        · rw [TQ.out.k.2.2.2.2.2.2.2.2] at h; exact ⟨g, cap, rest, h⟩
      injection e2 with e21 e22 e23
      subst e21 e23
      have GB : Hid (b1 ≤ gu ∧ Y.us.length ≤ h4 ∧ h4 ≤ maxLen ∧ Y.us.length * 8 + ur.length = h4 * 8 ∧ b1 ≤ gs ∧ Y.os.length ≤ h2 ∧ h2 ≤ maxLen ∧ Y.os.length + sr.size = h2) := ⟨hgu, c1, c2, c3, hgs, d1, d2, d3⟩
      have UB : Hid (∀ V, Below wr.heap.size wr V → Ub V gu Z.us ur) := fun V hV => hub.below hV hub.lt
      have BB : Hid (∀ V, Below wr.heap.size wr V → Bk V gs Z.os sr) := fun V hV => hbk.below hV
      have GL : Hid (gu < z ∧ gs < z ∧ gu ≠ gs) := by
        rw [← HZ.out]
        refine ⟨(L24.out.2 gu rfl).2, (L24.out.1 gs rfl).2, fun e => TQ.out.difs.2.1.2.1 gs rfl (by rw [← e]; rfl)⟩
      have KV' : Hid (∀ V, Below wr.heap.size wr V → Kl V (.slice pk ks.length qk) ks) := fun V hV => by
        have b01 : Below w0.heap.size w0 w1 := KB.out.2.1.trans (BA.out.mono KB.out.2.1.size)
        have b1r : Below w0.heap.size w1 wr := TQ.out.fr.low b01.size (fun k hk => by
          rcases hk with hk | hk
          · have := (L24.out.1 k hk).1; have := KB.out.2.2; omega
          · have := (L24.out.2 k hk).1; have := KB.out.2.2; omega)
        exact KB.out.1.below ((b01.trans b1r).trans (hV.mono (b01.trans b1r).size))
      have CV : Hid (∀ V, Below wr.heap.size wr V → Wx V z (.int .i64 Y.turn) (.int .i64 Y.next) (.int .i64 Y.wide) (.int .i64 Y.high) (.slice a1 Y.gs.length h1) (.slice (some ⟨gs, 0, none⟩) Y.os.length h2) (.slice a3 Y.gold.length h3) (.slice (some ⟨gu, 0, none⟩) Y.us.length h4) (.slice a5 Y.qs.length h5) ∧ Unc V ⟨gu, q * 8, none⟩ u) := fun V hV => ⟨XQ.out.below hV XQ.out.lt, (UB.out V hV).unc UU.out.1⟩
      have D5 : Hid (Below wr.heap.size wr { wr with drawn := wr.drawn + 1 }) := (Below.refl _ _).drew
      have xq := XQ.out
      obtain ⟨x0, x1, x2, x3, x4, x5, x6, x7, x8⟩ := xq.cells
      clear xq hu hkn hkk han hx hal hzl hgu c1 c2 c3 hgs d1 d2 d3 hub hbk e42 e22
      go_upto_region 6 with fail
      clear x0 x1 x2 x3 x4 x5 x6 x7 x8
      refine wp_region_two [(true, 0), (true, 1), (true, 2), (true, 3), (true, 4), (false, 5)] [(false, 6)] (fun V => Wx V z (.int .i64 Y.turn) (.int .i64 Y.next) (.int .i64 Y.wide) (.int .i64 Y.high) (.slice a1 Y.gs.length h1) (.slice (some ⟨gs, 0, none⟩) Y.os.length h2) (.slice a3 Y.gold.length h3) (.slice (some ⟨gu, 0, none⟩) Y.us.length h4) (.slice a5 Y.qs.length h5) ∧ Unc V ⟨gu, q * 8, none⟩ u) (by kernel_rfl) (by kernel_rfl) (by kernel_rfl) (by decide +kernel) (by decide +kernel) (CV.out _ D5.out) ?_
      generalize ({ wr with drawn := wr.drawn + 1 } : World) = w6 at *
      refine headT_read rfl (.slice pk ks.length qk) (by go_simp) (fun V hV => by go_simp) ?_
      go_simp
      refine headT_read rfl (.agg #[.int .i64 Y.turn, .int .i64 Y.next, .int .i64 Y.wide, .int .i64 Y.high, .slice a1 Y.gs.length h1, .slice (some ⟨gs, 0, none⟩) Y.os.length h2, .slice a3 Y.gold.length h3, .slice (some ⟨gu, 0, none⟩) Y.us.length h4, .slice a5 Y.qs.length h5]) (by go_simp) (fun V hV => by obtain ⟨hX, hU⟩ := hV; obtain ⟨x0, x1, x2, x3, x4, x5, x6, x7, x8⟩ := hX.cells; obtain ⟨y0, y1, y2, y3, y4, y5, y6, y7⟩ := hU; go_simp) ?_
      go_simp
      refine headT_read rfl (.pointer (some ⟨gu, q * 8, none⟩)) (by go_simp) (fun V hV => by go_simp) ?_
      go_simp
      refine headT_read rfl (.pointer (some ⟨gu, q * 8, none⟩)) (by go_simp) (fun V hV => by obtain ⟨hX, hU⟩ := hV; obtain ⟨x0, x1, x2, x3, x4, x5, x6, x7, x8⟩ := hX.cells; obtain ⟨y0, y1, y2, y3, y4, y5, y6, y7⟩ := hU; go_simp) ?_
      go_simp
      refine headT_read rfl (.agg #[.int .i64 u.id, .int .i64 u.player, .int .i64 u.kind, .int .i64 u.at_, .int .i64 u.life, .int .i64 u.load, .int .i64 u.task, .int .i64 u.goal]) (by go_simp) (fun V hV => by obtain ⟨hX, hU⟩ := hV; obtain ⟨x0, x1, x2, x3, x4, x5, x6, x7, x8⟩ := hX.cells; obtain ⟨y0, y1, y2, y3, y4, y5, y6, y7⟩ := hU; go_simp) ?_
      go_simp
      refine headT_call rfl 60 #[.slice pk ks.length qk, .agg #[.int .i64 Y.turn, .int .i64 Y.next, .int .i64 Y.wide, .int .i64 Y.high, .slice a1 Y.gs.length h1, .slice (some ⟨gs, 0, none⟩) Y.os.length h2, .slice a3 Y.gold.length h3, .slice (some ⟨gu, 0, none⟩) Y.us.length h4, .slice a5 Y.qs.length h5], .agg #[.int .i64 u.id, .int .i64 u.player, .int .i64 u.kind, .int .i64 u.at_, .int .i64 u.life, .int .i64 u.load, .int .i64 u.task, .int .i64 u.goal]] (by go_simp) (by go_simp) ?_
      have T6 : Hid (TkS ks Y Z es b1 (z + 1) w1 (.slice a1 Y.gs.length h1) (.slice (some ⟨gs, 0, none⟩) Y.os.length h2) (.slice a3 Y.gold.length h3) (.slice (some ⟨gu, 0, none⟩) Y.us.length h4) (.slice a5 Y.qs.length h5) (.slice ea es.length ec) w6) := TQ.out.below D5.out
      refine Calls.mono (yield_any _ _ ks Z u kn an k x w6 (KV'.out _ D5.out) T6.out.wl UU.out.2.1 UU.out.2.2.1 UU.out.2.2.2.1 UU.out.2.2.2.2 l1 (by omega) (by omega) l3 OX) ?_
      rintro e w7 ⟨rfl, b7⟩
      have D7 : Hid (Below wr.heap.size wr w7) := D5.out.trans (b7.mono D5.out.size)
      refine ⟨_, rfl, CV.out _ D7.out, ?_⟩
      have EY := yield_le (ks := ks) (Y := Z) UU.out.2.1 UU.out.2.2.1 UU.out.2.2.2.1 UU.out.2.2.2.2
      obtain ⟨n, hn⟩ : ∃ n, yieldN ks Z u = n := ⟨_, rfl⟩
      have HN : Hid (yieldN ks Z u = n) := hn
      have nb : n ≤ 10 ∧ (0 < n → n ≤ x ∧ u.load + n ≤ k.n7) := by
        rw [hn] at EY
        split at EY
        · omega
        · omega
      rw [hn]
      clear b7 hn EY T6
      go_simp
      refine sched_value rfl (.int .i64 n) w7 (by go_simp) (by go_simp) trivial ?_
      go_simp
      unfold wpSched
      have T7 : Hid (TkS ks Y Z es b1 (z + 1) w1 (.slice a1 Y.gs.length h1) (.slice (some ⟨gs, 0, none⟩) Y.os.length h2) (.slice a3 Y.gold.length h3) (.slice (some ⟨gu, 0, none⟩) Y.us.length h4) (.slice a5 Y.qs.length h5) (.slice ea es.length ec) w7) := TQ.out.below D7.out
      have X7 : Hid (Wx w7 z (.int .i64 Y.turn) (.int .i64 Y.next) (.int .i64 Y.wide) (.int .i64 Y.high) (.slice a1 Y.gs.length h1) (.slice (some ⟨gs, 0, none⟩) Y.os.length h2) (.slice a3 Y.gold.length h3) (.slice (some ⟨gu, 0, none⟩) Y.us.length h4) (.slice a5 Y.qs.length h5)) := XQ.out.below D7.out XQ.out.lt
      by_cases hp : 0 < n
      · have NX : Hid (tk ks Y (q + 1) = (takeW Z q u n, es ++ [⟨4, u.id, n⟩])) := by
          have h9 := tk_yes (ks := ks) (Y := Y) (q := q) (u := u) (by rw [HQ.out.1]; exact UU.out.1) (by rw [HQ.out.1, HN.out]; exact hp)
          unfold Hid
          rw [h9, HQ.out.1, HQ.out.2, HN.out]
        have U7 := UB.out _ D7.out
        have B7 := BB.out _ D7.out
        obtain ⟨y0, y1, y2, y3, y4, y5, y6, y7⟩ := U7.unc UU.out.1
        have t5 := U7.thaw (q * 8 + 5)
        have wr1 : IntKind.i64.wrap (u.load + n) = u.load + n := by rw [IntKind.wrap_i64]; omega
        have U8 : Hid (Ub (w7.setCell ⟨gu, q * 8 + 5, none⟩ (.int .i64 (u.load + n))) gu (Z.us.set q (loadU u (u.load + n))) ur) := U7.set5 UU.out.1 _
        have K8 : Hid (Kp gu w7 (w7.setCell ⟨gu, q * 8 + 5, none⟩ (.int .i64 (u.load + n)))) := Kp.set _ _ _
        have B8 : Hid (Bk (w7.setCell ⟨gu, q * 8 + 5, none⟩ (.int .i64 (u.load + n))) gs Z.os sr) := B7.other (by have := GL.out.2.2; omega) _ _
        clear U7 B7
        go_upto_region 9 with fail
        clear y0 y1 y2 y3 y4 y5 y6 y7 t5 wr1
        generalize w7.setCell ⟨gu, q * 8 + 5, none⟩ (.int .i64 (u.load + n)) = w8 at *
        have F8 : Hid (Fr (fun q => q = gu) w7 w8) := Fr.kp K8.out rfl
        have X8 : Hid (Wx w8 z (.int .i64 Y.turn) (.int .i64 Y.next) (.int .i64 Y.wide) (.int .i64 Y.high) (.slice a1 Y.gs.length h1) (.slice (some ⟨gs, 0, none⟩) Y.os.length h2) (.slice a3 Y.gold.length h3) (.slice (some ⟨gu, 0, none⟩) Y.us.length h4) (.slice a5 Y.qs.length h5)) := F8.out.wx X7.out (by have := GL.out.1; omega)
        obtain ⟨y0, y1, y2, y3, y4, y5, y6, y7⟩ := U8.out.unc (i := q) (o := loadU u (u.load + n)) (by rw [List.getElem?_set_self (by have := (List.getElem?_eq_some_iff.1 UU.out.1).1; exact this)])
        have y3' : w8.cell? ⟨gu, q * 8 + 3, none⟩ = some (.int .i64 (an : Nat)) := by rw [← UU.out.2.2.2.1]; exact y3
        obtain ⟨x0, x1, x2, x3, x4, x5, x6, x7, x8⟩ := X8.out.cells
        have co := B8.out.cell UU.out.2.2.2.2
        have ts := B8.out.thaw an
        have wr2 : IntKind.i64.wrap (x - n) = x - n := by rw [IntKind.wrap_i64]; omega
        clear y0 y1 y2 y3 y4 y5 y6 y7
        go_region
        have K9 : Hid (Kp gs w8 (w8.setCell ⟨gs, an, none⟩ (.int .i64 (x - n))).drew) := (Kp.set _ _ _).trans (Kp.of (Below.refl _ _).drew)
        have B9 : Hid (Bk (w8.setCell ⟨gs, an, none⟩ (.int .i64 (x - n))).drew gs (Z.os.set an (x - n)) sr) := B8.out.set an _ (List.getElem?_eq_some_iff.1 UU.out.2.2.2.2).1
        clear x0 x1 x2 x3 x4 x5 x6 x7 x8 y3' co ts wr2
        generalize (w8.setCell ⟨gs, an, none⟩ (.int .i64 (x - n))).drew = w9 at *
        have F9 : Hid (Fr (fun q => q = gs) w8 w9) := Fr.kp K9.out rfl
        have X9 : Hid (Wx w9 z (.int .i64 Y.turn) (.int .i64 Y.next) (.int .i64 Y.wide) (.int .i64 Y.high) (.slice a1 Y.gs.length h1) (.slice (some ⟨gs, 0, none⟩) Y.os.length h2) (.slice a3 Y.gold.length h3) (.slice (some ⟨gu, 0, none⟩) Y.us.length h4) (.slice a5 Y.qs.length h5)) := F9.out.wx X8.out (by have := GL.out.2.1; omega)
        have U9 : Hid (Ub w9 gu (Z.us.set q (loadU u (u.load + n))) ur) := (F9.out.block gu U8.out.lt (by have := GL.out.2.2; omega)).trans U8.out
        have F79 : Hid (Fr (fun q => q = gu ∨ q = gs) w7 w9) := (F8.out.mono (fun k hk => .inl hk)).trans (F9.out.mono (fun k hk => .inr hk))
        have E9 : Hid (Evo w9 (z + 1) (.slice ea es.length ec) es) := F79.out.own T7.out.e (fun b hb e => by have h9 := (T7.out.e.block b hb).1; have h8 := GL.out; omega)
        obtain ⟨y0, y1, y2, y3, y4, y5, y6, y7⟩ := U9.out.unc (i := q) (o := loadU u (u.load + n)) (by rw [List.getElem?_set_self (by have := (List.getElem?_eq_some_iff.1 UU.out.1).1; exact this)])
        have y0' : w9.cell? ⟨gu, q * 8, none⟩ = some (.int .i64 u.id) := y0
        have OA : Hid (Evo (w9.alloc (Obj.cells #[.int .i64 4, .int .i64 u.id, .int .i64 n] 73)) (z + 1) (.slice ea es.length ec) es) := E9.out.alloc _
        have RC : Hid (Evc (w9.alloc (Obj.cells #[.int .i64 4, .int .i64 u.id, .int .i64 n] 73)) ⟨w9.heap.size, 0, none⟩ ⟨4, u.id, n⟩) := Evc.mk' (w := w9) ⟨4, u.id, n⟩ rfl
        have BE : Hid (Below w9.heap.size w9 (w9.alloc (Obj.cells #[.int .i64 4, .int .i64 u.id, .int .i64 n] 73))) := (Below.refl _ _).alloc (Nat.le_refl _) _
        have SB : Hid (z + 1 ≤ (w9.alloc (Obj.cells #[.int .i64 4, .int .i64 u.id, .int .i64 n] 73)).heap.size) := Nat.le_trans X9.out.lt BE.out.size
        clear y0 y1 y2 y3 y4 y5 y6 y7
        go_wp2_with (at_builtin; refine app_ev _ rfl _ _ rfl (z + 1) _ es rfl OA.out w9.heap.size ⟨4, u.id, n⟩ rfl RC.out (by have := EL.out; omega) SB.out ?_)
        intro g cap wE o8 g8 a8 l8
        have EO : Hid (Evo wE (z + 1) (.slice (some ⟨g, 0, none⟩) (es.length + 1) cap) (es ++ [⟨4, u.id, n⟩])) := o8
        have FE : Hid (Fr (fun q => (.slice ea es.length ec : Value).ownBlock = some q) w9 wE) := (Fr.below BE.out).trans (Fr.gb g8 (fun k hk => hk))
        have FA : Hid (Fr (fun q => q = gu ∨ q = gs ∨ (.slice ea es.length ec : Value).ownBlock = some q) w7 wE) := (F79.out.mono (fun k hk => by rcases hk with h | h; exact .inl h; exact .inr (.inl h))).trans (FE.out.mono (fun k hk => .inr (.inr hk)))
        have NE : Hid (∀ k, k ≤ z → ¬ (.slice ea es.length ec : Value).ownBlock = some k) := fun k hk e => by have := (E9.out.block k e).1; omega
        have UE : Hid (Ub wE gu (Z.us.set q (loadU u (u.load + n))) ur) := (FE.out.block gu U9.out.lt (NE.out gu (by have := GL.out.1; omega))).trans U9.out
        have BK : Hid (Bk wE gs (Z.os.set an (x - n)) sr) := (FE.out.block gs B9.out.lt (NE.out gs (by have := GL.out.2.1; omega))).trans B9.out
        have XE : Hid (Wx wE z (.int .i64 Y.turn) (.int .i64 Y.next) (.int .i64 Y.wide) (.int .i64 Y.high) (.slice a1 Y.gs.length h1) (.slice (some ⟨gs, 0, none⟩) Y.os.length h2) (.slice a3 Y.gold.length h3) (.slice (some ⟨gu, 0, none⟩) Y.us.length h4) (.slice a5 Y.qs.length h5)) := FE.out.wx X9.out (NE.out z (Nat.le_refl _))
        have EW : Hid ((takeW Z q u n).os = Z.os.set an (x - n)) := by
          unfold Hid takeW
          simp only [UU.out.2.2.2.1, Int.toNat_natCast, List.getD_eq_getElem?_getD, UU.out.2.2.2.2, Option.getD_some]
        have TE : Hid (TkS ks Y (takeW Z q u n) (es ++ [⟨4, u.id, n⟩]) b1 (z + 1) w1 (.slice a1 Y.gs.length h1) (.slice (some ⟨gs, 0, none⟩) Y.os.length h2) (.slice a3 Y.gold.length h3) (.slice (some ⟨gu, 0, none⟩) Y.us.length h4) (.slice a5 Y.qs.length h5) (.slice (some ⟨g, 0, none⟩) (es.length + 1) cap) wE) := by
          have h9 := T7.out.take (V' := wE) (i := q) (u := u) (ur := ur) (sr := sr) (ev' := .slice (some ⟨g, 0, none⟩) (es.length + 1) cap) S1.out (fun y hy k hk => by have := LW.out y hy k hk; have := HZ.out; omega) GB.out.1 GB.out.2.1 GB.out.2.2.1 GB.out.2.2.2.1 GB.out.2.2.2.2.1 GB.out.2.2.2.2.2.1 GB.out.2.2.2.2.2.2.1 GB.out.2.2.2.2.2.2.2 UU.out.1 (by rw [HN.out]; exact hp) (by rw [HN.out]; exact UE.out) (by rw [HN.out, EW.out]; exact BK.out) (by rw [HN.out]; exact EO.out) FA.out
          rw [HN.out] at h9
          exact h9
        clear o8 g8 a8 l8 y0'
        go_wp2
        go_round
        case rel => exact ⟨q + 1, by omega, by go_num, XE.out, by rw [NX.out]; exact TE.out⟩
        case measure => simp [intOf]; omega
      · have NX : Hid (tk ks Y (q + 1) = (Z, es)) := by
          have h9 := tk_no (ks := ks) (Y := Y) (q := q) (u := u) (by rw [HQ.out.1]; exact UU.out.1) (by rw [HQ.out.1, HN.out]; exact hp)
          unfold Hid
          rw [h9, ← HQ.out.1, ← HQ.out.2]
        go_wp2
        go_round
        case rel => exact ⟨q + 1, by omega, by go_num, X7.out, by rw [NX.out]; exact T7.out⟩
        case measure => simp [intOf]; omega
end Go.Proofs.YteieikgkmfglaaaGreatDoor

namespace Go.Proofs.YteieikgkmfglaaaGreatDoor
open Go.RowKit
set_option linter.unusedVariables false

set_option maxHeartbeats 1000000 in
theorem idxi_any (u : Value) (v : Int) (xs : List Int) (w : World) (hu : Ro w u xs) :
    Calls Tryz.prog 121 #[u, .int .i64 v] w fun e w' => ∃ r : Int, e = .returned (.int .i64 r) ∧ Fst (fun x => decide (v = x)) xs r ∧ w' = w := by
  obtain ⟨a, c, rfl, c1, c2, ca⟩ := hu
  have Ca : Hid (Cells w a xs) := ca
  clear ca
  go_enter Tryz.func121, Tryz.ntmps121
  go_wp2
  go_loopw [8] (fun i W' => ∃ k : Nat, k ≤ xs.length ∧ i = .int .i64 (k : Nat) ∧ (xs.take k).any (fun x => decide (v = x)) = false ∧ W' = w) (fun i _ => xs.length - (intOf i).toNat)
  case atStart => exact ⟨0, Nat.zero_le _, rfl, by simp, rfl⟩
  case round =>
    obtain ⟨k, hk, rfl, ht, rfl⟩ := hrel
    have Ht : Hid ((xs.take k).any (fun x => decide (v = x)) = false) := ht
    clear ht
    by_cases h0 : k = xs.length
    · subst h0
      go_wp2
      go_ret
      refine ⟨_, rfl, .inl ⟨rfl, ?_⟩, rfl⟩
      have := Ht.out
      rw [List.take_of_length_le (Nat.le_refl _)] at this
      exact this
    · have hkx : k < xs.length := by omega
      obtain ⟨x, rfl, -, hx⟩ := Ca.out (by intro h; rw [h] at hkx; simp at hkx)
      have cx := hx k xs[k] (List.getElem?_eq_getElem hkx)
      have Hs : Hid _ := any_next (p := fun x => decide (v = x)) hkx
      have Hm : Hid (xs[k]? = some xs[k]) := List.getElem?_eq_getElem hkx
      generalize xs[k] = y at *
      clear hx
      by_cases hy : v = y
      · have Hy : Hid (decide (v = y) = true) := decide_eq_true hy
        go_wp2
        go_ret
        exact ⟨_, rfl, .inr ⟨k, y, rfl, Hm, Hy, Ht⟩, rfl⟩
      · have Hy : Hid (decide (v = y) = false) := decide_eq_false hy
        go_wp2
        go_round
        case rel => exact ⟨k + 1, by omega, by go_num, by have := Hs.out; rw [Ht.out, Hy.out] at this; exact this, trivial⟩
        case measure => simp [intOf]; omega
set_option maxHeartbeats 1000000 in
theorem hasi_any (u : Value) (v : Int) (xs : List Int) (w : World) (hu : Ro w u xs) :
    Calls Tryz.prog 93 #[u, .int .i64 v] w fun e w' => e = .returned (.bool (xs.any (fun x => decide (v = x)))) ∧ w' = w := by
  have H : Hid _ := idxi_any u v xs w hu
  obtain ⟨a, c, rfl, -⟩ := hu
  go_enter Tryz.func93, Tryz.ntmps93
  go_wp2_with fail
  refine Calls.mono H.out ?_
  rintro e w1 ⟨r, rfl, hr, rfl⟩
  have Hr : Hid (decide (0 ≤ r) = xs.any (fun x => decide (v = x))) := hr.has
  clear hr
  go_wp2
  go_ret
  exact ⟨by show Ending.returned (.bool (decide (0 ≤ r))) = _; rw [Hr.out], rfl⟩
end Go.Proofs.YteieikgkmfglaaaGreatDoor

namespace Go.Proofs.YteieikgkmfglaaaGreatDoor
open Go.RowKit
set_option linter.unusedVariables false

set_option maxHeartbeats 2000000 in
theorem idxm_any (K : Nat) (eK : ∀ args w, (callFunc K args).run Tryz.prog w = .ok (.enter K args) w) (u : Value) (cs : Array Value) (ks : List UnV) (p : UnV → Bool) (w : World) (hu : Unl w u ks)
    (hp : ∀ W, Below w.heap.size w W → ∀ k ∈ ks, Calls Tryz.prog K (#[k.val] ++ cs) W fun e w' => e = .returned (.bool (p k)) ∧ Below W.heap.size W w') :
    Calls Tryz.prog 64 #[u, .func (Fn.func K) #[] cs] w fun e w' => ∃ r : Int, e = .returned (.int .i64 r) ∧ FstU p ks r ∧ Below w.heap.size w w' := by
  obtain ⟨a, c, rfl, c1, c2, ca⟩ := hu
  have Ca : Hid (ks ≠ [] → ∃ x, a = some x ∧ x.block < w.heap.size ∧ ∀ (i : Nat) k, ks[i]? = some k → Unc w (x.add (i * 8)) k) := ca
  have Hp : Hid (∀ W, Below w.heap.size w W → ∀ k ∈ ks, Calls Tryz.prog K (#[k.val] ++ cs) W fun e w' => e = .returned (.bool (p k)) ∧ Below W.heap.size W w') := hp
  clear ca hp
  go_enter Tryz.func64, Tryz.ntmps64
  go_wp2
  go_loopw [8] (fun i W' => ∃ k : Nat, k ≤ ks.length ∧ i = .int .i64 (k : Nat) ∧ (ks.take k).any p = false ∧ Below w.heap.size w W') (fun i _ => ks.length - (intOf i).toNat)
  case atStart => exact ⟨0, Nat.zero_le _, rfl, by simp, Below.refl _ _⟩
  case round =>
    obtain ⟨k, hk, rfl, ht, hb⟩ := hrel
    have Ht : Hid ((ks.take k).any p = false) := ht
    have B : Hid (Below w.heap.size w wr) := hb
    clear ht hb
    by_cases h0 : k = ks.length
    · subst h0
      go_wp2
      go_ret
      refine ⟨_, rfl, .inl ⟨rfl, ?_⟩, B⟩
      have := Ht.out
      rw [List.take_of_length_le (Nat.le_refl _)] at this
      exact this
    · have hkx : k < ks.length := by omega
      obtain ⟨x, rfl, hx1, hx⟩ := Ca.out (by intro h; rw [h] at hkx; simp at hkx)
      obtain ⟨y, hy⟩ : ∃ y, ks[k]? = some y := ⟨_, List.getElem?_eq_getElem hkx⟩
      have Yc := (hx k y hy).below B.out (by rw [add_block]; exact hx1)
      obtain ⟨q0, q1, q2, q3, q4, q5, q6, q7⟩ := Yc
      have hc := Hp.out wr B.out y (List.mem_of_getElem? hy)
      have Hs : Hid _ := anyu_next (p := p) hy
      have Hm : Hid (ks[k]? = some y) := hy
      clear hx hx1 hy
      cases hy : p y with
      | true =>
        rw [hy] at hc
        have Hc : Hid (Calls Tryz.prog K (#[y.val] ++ cs) wr fun e w' => e = .returned (.bool true) ∧ Below wr.heap.size wr w') := hc
        have Hy : Hid (p y = true) := hy
        clear hc hy
        go_wp2_with fail
        refine Calls.mono Hc.out ?_
        rintro e w1 ⟨rfl, b1⟩
        have B1 : Hid (Below w.heap.size w w1) := B.out.trans (b1.mono B.out.size)
        clear b1
        go_wp2
        go_ret
        exact ⟨_, rfl, .inr ⟨k, y, rfl, Hm, Hy, Ht⟩, B1⟩
      | false =>
        rw [hy] at hc
        have Hc : Hid (Calls Tryz.prog K (#[y.val] ++ cs) wr fun e w' => e = .returned (.bool false) ∧ Below wr.heap.size wr w') := hc
        have Hy : Hid (p y = false) := hy
        clear hc hy
        go_wp2_with fail
        refine Calls.mono Hc.out ?_
        rintro e w1 ⟨rfl, b1⟩
        have B1 : Hid (Below w.heap.size w w1) := B.out.trans (b1.mono B.out.size)
        clear b1
        go_wp2
        go_round
        case rel => exact ⟨k + 1, by omega, by go_num, by have := Hs.out; rw [Ht.out, Hy.out] at this; exact this, B1⟩
        case measure => simp [intOf]; omega


end Go.Proofs.YteieikgkmfglaaaGreatDoor

namespace Go.Proofs.YteieikgkmfglaaaGreatDoor
open Go.RowKit
set_option linter.unusedVariables false

set_option maxHeartbeats 4000000 in
theorem hasq_any (K : Nat) (eK : ∀ args w, (callFunc K args).run Tryz.prog w = .ok (.enter K args) w) (u : Value) (cs : Array Value) (ks : List UnV) (p : UnV → Bool) (w : World) (hu : Unl w u ks)
    (hp : ∀ W, Below w.heap.size w W → ∀ k ∈ ks, Calls Tryz.prog K (#[k.val] ++ cs) W fun e w' => e = .returned (.bool (p k)) ∧ Below W.heap.size W w') :
    Calls Tryz.prog 42 #[u, .func (Fn.func K) #[] cs] w fun e w' => e = .returned (.bool (ks.any p)) ∧ Below w.heap.size w w' := by
  have H' : Hid (Calls Tryz.prog 64 #[u, .func (Fn.func K) #[] cs] w fun e w' => ∃ r : Int, e = .returned (.int .i64 r) ∧ FstU p ks r ∧ Below w.heap.size w w') := idxm_any K eK u cs ks p w hu hp
  clear hp
  go_enter Tryz.func42, Tryz.ntmps42
  go_wp2_with fail
  refine Calls.mono H'.out ?_
  rintro e w1 ⟨r, rfl, hr, q⟩
  have Hr : Hid (decide (0 ≤ r) = ks.any p) := hr.has
  have Q : Hid (Below w.heap.size w w1) := q
  clear hr q
  go_wp2
  go_ret
  exact ⟨by show Ending.returned (.bool (decide (0 ≤ r))) = _; rw [Hr.out], Q⟩

end Go.Proofs.YteieikgkmfglaaaGreatDoor

namespace Go.Proofs.YteieikgkmfglaaaGreatDoor
open Go.RowKit
set_option linter.unusedVariables false

def trainsOf (ks : List KV) (h : UnV) : Bool := match ks[h.kind.toNat]? with | some k => k.t | none => false
/-- does h take in what u brings? -/
def takesIn (ks : List KV) (near : List Int) (u h : UnV) : Bool := decide (h.player = u.player) && (trainsOf ks h && near.any (fun x => decide (h.at_ = x)))
set_option maxRecDepth 100000 in
set_option maxHeartbeats 8000000 in
theorem takesin_fn (ks : List KV) (near : List Int) (u h : UnV) (kn : Nat) (k : KV) (bu bk bn : Nat) (xk : Addr) (qk : Nat) (vn : Value) (W : World) (hkn : h.kind = kn) (hkk : ks[kn]? = some k)
    (c1 : W.cell? ⟨bu, 1, none⟩ = some (.int .i64 u.player)) (c2 : W.cell? ⟨bk, 0, none⟩ = some (.slice (some xk) ks.length qk)) (c3 : W.cell? ⟨bn, 0, none⟩ = some vn) (hK : Kc W (xk.add (kn * 11)) k) (hn : Ro W vn near) :
    Calls Tryz.prog 92 (#[h.val] ++ #[.pointer (some ⟨bu, 0, none⟩), .pointer (some ⟨bk, 0, none⟩), .pointer (some ⟨bn, 0, none⟩)]) W fun e w' => e = .returned (.bool (takesIn ks near u h)) ∧ Below W.heap.size W w' := by
  have TO : Hid (trainsOf ks h = k.t) := by unfold Hid trainsOf; rw [hkn, Int.toNat_natCast]; simp only [hkk]
  have hkl : kn < ks.length := (List.getElem?_eq_some_iff.1 hkk).1
  have hki : ((kn : Nat) : Int) < (ks.length : Nat) := by omega
  have HK : Hid (h.kind = (kn : Nat)) := hkn
  have RN : Hid (Ro W vn near) := hn
  have CC : Hid (W.cell? ⟨bu, 1, none⟩ = some (.int .i64 u.player) ∧ W.cell? ⟨bk, 0, none⟩ = some (.slice (some xk) ks.length qk) ∧ W.cell? ⟨bn, 0, none⟩ = some vn ∧ Kc W (xk.add (kn * 11)) k) := ⟨c1, c2, c3, hK⟩
  obtain ⟨na, nc, rfl, -⟩ := hn
  clear hkn hkk c1 c2 c3 hK
  unfold UnV.val
  go_enter Tryz.func92, Tryz.ntmps92
  go_upto_region 1 with fail
  have BA : Hid (Below W.heap.size W (W.alloc (Obj.cells #[.int .i64 h.id, .int .i64 h.player, .int .i64 h.kind, .int .i64 h.at_, .int .i64 h.life, .int .i64 h.load, .int .i64 h.task, .int .i64 h.goal] 44))) := (Below.refl _ _).alloc (Nat.le_refl _) _
  have U1 : Hid (Ub (W.alloc (Obj.cells #[.int .i64 h.id, .int .i64 h.player, .int .i64 h.kind, .int .i64 h.at_, .int .i64 h.life, .int .i64 h.load, .int .i64 h.task, .int .i64 h.goal] 44)) W.heap.size [h] []) := unit_one h rfl
  obtain ⟨y, hy⟩ : ∃ y, W.heap.size = y := ⟨_, rfl⟩
  rw [hy] at U1 ⊢
  have HY : Hid (W.heap.size = y) := hy
  clear hy
  generalize W.alloc (Obj.cells #[.int .i64 h.id, .int .i64 h.player, .int .i64 h.kind, .int .i64 h.at_, .int .i64 h.life, .int .i64 h.load, .int .i64 h.task, .int .i64 h.goal] 44) = w1 at *
  have e1 : w1.cell? ⟨bu, 1, none⟩ = some (.int .i64 u.player) := by rw [BA.out.cell (p := ⟨bu, 1, none⟩) (cell_lt CC.out.1)]; exact CC.out.1
  have e2 : w1.cell? ⟨bk, 0, none⟩ = some (.slice (some xk) ks.length qk) := by rw [BA.out.cell (p := ⟨bk, 0, none⟩) (cell_lt CC.out.2.1)]; exact CC.out.2.1
  have e3 : w1.cell? ⟨bn, 0, none⟩ = some (.slice na near.length nc) := by rw [BA.out.cell (p := ⟨bn, 0, none⟩) (cell_lt CC.out.2.2.1)]; exact CC.out.2.2.1
  have k10 := (CC.out.2.2.2.below BA.out CC.out.2.2.2.lt).c10
  obtain ⟨y0, y1, y2, y3, y4, y5, y6, y7⟩ := U1.out.unc (i := 0) (o := h) rfl
  simp only [Nat.zero_mul, Nat.zero_add] at y0 y1 y2 y3 y4 y5 y6 y7
  rw [HK.out] at y2
  by_cases hp : h.player = u.player
  · have PD : Hid (decide (h.player = u.player) = true) := decide_eq_true hp
    rw [hp] at y1
    clear hp
    cases hkt : k.t with
    | false =>
      rw [hkt] at k10
      have E : Hid (takesIn ks near u h = false) := by unfold Hid takesIn; rw [TO.out, hkt]; simp
      clear hkt
      go_wp2
      go_ret
      exact ⟨by rw [E.out]; rfl, BA.out⟩
    | true =>
      rw [hkt] at k10
      have E : Hid (takesIn ks near u h = near.any (fun x => decide (h.at_ = x))) := by unfold Hid takesIn; rw [TO.out, hkt, PD.out]; simp
      clear hkt
      go_wp2_with fail
      refine (hasi_any _ h.at_ near w1 (RN.out.below BA.out)).mono ?_
      rintro e w2 ⟨rfl, rfl⟩
      go_wp2
      go_ret
      exact ⟨by rw [E.out]; rfl, BA.out⟩
  · have E : Hid (takesIn ks near u h = false) := by unfold Hid takesIn; rw [decide_eq_false hp]; simp
    go_wp2
    go_ret
    exact ⟨by rw [E.out]; rfl, BA.out⟩
end Go.Proofs.YteieikgkmfglaaaGreatDoor

namespace Go.Proofs.YteieikgkmfglaaaGreatDoor.Fd

/-- a column, or row, of a line. -/
def along (n f t k : Int) : Int := (2 * f * n + 2 * k * (t - f) + n) / (2 * n)

theorem along_num (n f t k : Int) : 2 * f * n + 2 * k * (t - f) + n = (f * (n - k) + t * k) * 2 + n := by
  rw [Int.mul_sub, Int.mul_sub, Int.add_mul, Int.sub_mul, Int.mul_assoc 2 f n, Int.mul_assoc 2 k t, Int.mul_assoc 2 k f, Int.mul_comm k t, Int.mul_comm k f]
  omega
theorem mix_le (lo f t x y : Int) (hx : 0 ≤ x) (hy : 0 ≤ y) (hf : lo ≤ f) (ht : lo ≤ t) : lo * (x + y) ≤ f * x + t * y := by
  rw [Int.mul_add]
  have := Int.mul_le_mul_of_nonneg_right hf hx
  have := Int.mul_le_mul_of_nonneg_right ht hy
  omega
theorem mix_ge (hi f t x y : Int) (hx : 0 ≤ x) (hy : 0 ≤ y) (hf : f ≤ hi) (ht : t ≤ hi) : f * x + t * y ≤ hi * (x + y) := by
  rw [Int.mul_add]
  have := Int.mul_le_mul_of_nonneg_right hf hx
  have := Int.mul_le_mul_of_nonneg_right ht hy
  omega
theorem along_ge (lo n f t k : Int) (h0 : 0 ≤ k) (h1 : k ≤ n) (hn : 0 < n) (hf : lo ≤ f) (ht : lo ≤ t) : lo ≤ along n f t k := by
  unfold along
  rw [along_num, Int.le_ediv_iff_mul_le (by omega)]
  have h := mix_le lo f t (n - k) k (by omega) h0 hf ht
  rw [show n - k + k = n by omega] at h
  have e : lo * (2 * n) = lo * n * 2 := by rw [← Int.mul_assoc, Int.mul_comm lo 2, Int.mul_assoc, Int.mul_comm]
  omega
theorem along_le (hi n f t k : Int) (h0 : 0 ≤ k) (h1 : k ≤ n) (hn : 0 < n) (hf : f ≤ hi) (ht : t ≤ hi) : along n f t k ≤ hi := by
  unfold along
  rw [along_num]
  have h := mix_ge hi f t (n - k) k (by omega) h0 hf ht
  rw [show n - k + k = n by omega] at h
  have e : (hi + 1) * (2 * n) = hi * n * 2 + 2 * n := by rw [Int.add_mul, ← Int.mul_assoc, Int.mul_comm hi 2, Int.mul_assoc, Int.mul_comm 2 (hi * n)]; omega
  have : ((f * (n - k) + t * k) * 2 + n) / (2 * n) < hi + 1 := by
    rw [Int.ediv_lt_iff_lt_mul (by omega)]
    omega
  omega
theorem along_zero (n f t : Int) (hn : 0 < n) : along n f t 0 = f := by
  unfold along
  rw [show 2 * f * n + 2 * 0 * (t - f) + n = n + f * (2 * n) by rw [← Int.mul_assoc, Int.mul_comm f 2]; omega, Int.add_mul_ediv_right _ _ (by omega), Int.ediv_eq_zero_of_lt (by omega) (by omega)]
  omega
theorem along_end (n f t : Int) (hn : 0 < n) : along n f t n = t := by
  unfold along
  rw [along_num, show n - n = 0 by omega, Int.mul_zero, show (0 + t * n) * 2 + n = n + t * (2 * n) by rw [← Int.mul_assoc, Int.mul_comm t 2, Int.mul_assoc]; omega, Int.add_mul_ediv_right _ _ (by omega), Int.ediv_eq_zero_of_lt (by omega) (by omega)]
  omega
theorem along_up (n f k : Int) (hn : 0 < n) : along n f (f + n) k = f + k := by
  unfold along
  rw [show f + n - f = n by omega, show 2 * f * n + 2 * k * n + n = n + (f + k) * (2 * n) by rw [Int.add_mul, ← Int.mul_assoc f, ← Int.mul_assoc k, Int.mul_comm f 2, Int.mul_comm k 2]; omega, Int.add_mul_ediv_right _ _ (by omega), Int.ediv_eq_zero_of_lt (by omega) (by omega)]
  omega
theorem along_down (n f k : Int) (hn : 0 < n) : along n f (f - n) k = f - k := by
  unfold along
  rw [show f - n - f = -n by omega, show 2 * f * n + 2 * k * (-n) + n = n + (f - k) * (2 * n) by rw [Int.sub_mul, ← Int.mul_assoc f, ← Int.mul_assoc k, Int.mul_comm f 2, Int.mul_comm k 2, Int.mul_neg]; omega, Int.add_mul_ediv_right _ _ (by omega), Int.ediv_eq_zero_of_lt (by omega) (by omega)]
  omega
theorem div_step (x d m : Int) (hm : 0 < m) (h1 : -m ≤ d) (h2 : d ≤ m) : -1 ≤ (x + d) / m - x / m ∧ (x + d) / m - x / m ≤ 1 := by
  have e1 : (x + m) / m = x / m + 1 := Int.add_ediv_of_dvd_right (Int.dvd_refl m) |>.trans (by rw [Int.ediv_self (by omega)])
  have e2 : (x + -m) / m = x / m + -1 := (Int.add_ediv_of_dvd_right (Int.dvd_neg.2 (Int.dvd_refl m))).trans (by rw [Int.neg_ediv_of_dvd (Int.dvd_refl m), Int.ediv_self (by omega)])
  have l1 : (x + d) / m ≤ (x + m) / m := Int.ediv_le_ediv hm (by omega)
  have l2 : (x + -m) / m ≤ (x + d) / m := Int.ediv_le_ediv hm (by omega)
  omega
theorem along_step (n f t k : Int) (hn : 0 < n) (h1 : -n ≤ t - f) (h2 : t - f ≤ n) : -1 ≤ along n f t (k + 1) - along n f t k ∧ along n f t (k + 1) - along n f t k ≤ 1 := by
  unfold along
  have e : 2 * f * n + 2 * (k + 1) * (t - f) + n = 2 * f * n + 2 * k * (t - f) + n + 2 * (t - f) := by
    rw [Int.mul_add 2 k 1, Int.add_mul]; omega
  rw [e]
  exact div_step _ _ _ (by omega) (by omega) (by omega)

/-- the greater of both distances. -/
def span (W a b : Nat) : Nat := max (max (a % W - b % W) (b % W - a % W)) (max (a / W - b / W) (b / W - a / W))
/-- the k-th cell of a line. -/
def spot (W a b : Nat) (k : Nat) : Int := along (span W a b) (a / W : Nat) (b / W : Nat) k * W + along (span W a b) (a % W : Nat) (b % W : Nat) k
def line (W a b : Nat) : List Int := if span W a b = 0 then [(a : Int)] else (List.range (span W a b + 1)).map (spot W a b)

theorem span_zero {W a b : Nat} (h : span W a b = 0) : a = b := by
  unfold span at h
  have h1 : a % W = b % W := by omega
  have h2 : a / W = b / W := by omega
  rw [← Nat.div_add_mod a W, ← Nat.div_add_mod b W, h1, h2]
theorem span_le {W H a b : Nat} (hW : 0 < W) (w2 : W ≤ 12) (h2 : H ≤ 12) (ha : a < W * H) (hb : b < W * H) : span W a b ≤ 11 := by
  have h3 : a / W < H := Nat.div_lt_of_lt_mul ha
  have h4 : b / W < H := Nat.div_lt_of_lt_mul hb
  have h5 := Nat.mod_lt a hW
  have h6 := Nat.mod_lt b hW
  unfold span
  generalize a / W = x at *
  generalize b / W = y at *
  generalize a % W = u at *
  generalize b % W = v at *
  omega

/-- where a cell of a line lies. -/
theorem spot_in {W H a b k : Nat} (hW : 0 < W) (ha : a < W * H) (hb : b < W * H) (hn : 0 < span W a b) (hk : k ≤ span W a b) :
    ∃ r c : Nat, along (span W a b) (a / W : Nat) (b / W : Nat) k = r ∧ along (span W a b) (a % W : Nat) (b % W : Nat) k = c ∧ r < H ∧ c < W ∧ spot W a b k = ((r * W + c : Nat) : Int) ∧ r * W + c < W * H ∧ (r * W + c) % W = c ∧ (r * W + c) / W = r := by
  have h3 : a / W < H := Nat.div_lt_of_lt_mul ha
  have h4 : b / W < H := Nat.div_lt_of_lt_mul hb
  have h5 := Nat.mod_lt a hW
  have h6 := Nat.mod_lt b hW
  have n1 : (0 : Int) ≤ (a / W : Nat) := Int.natCast_nonneg _
  have n2 : (0 : Int) ≤ (b / W : Nat) := Int.natCast_nonneg _
  have r1 := along_ge 0 (span W a b) (a / W : Nat) (b / W : Nat) k (by omega) (by omega) (by omega) (by omega) (by omega)
  have r2 := along_le (H - 1) (span W a b) (a / W : Nat) (b / W : Nat) k (by omega) (by omega) (by omega) (by omega) (by omega)
  have c1 := along_ge 0 (span W a b) (a % W : Nat) (b % W : Nat) k (by omega) (by omega) (by omega) (by omega) (by omega)
  have c2 := along_le (W - 1) (span W a b) (a % W : Nat) (b % W : Nat) k (by omega) (by omega) (by omega) (by omega) (by omega)
  refine ⟨(along (span W a b) (a / W : Nat) (b / W : Nat) k).toNat, (along (span W a b) (a % W : Nat) (b % W : Nat) k).toNat, by omega, by omega, by omega, by omega, ?_, ?_, ?_, ?_⟩
  · unfold spot
    rw [Int.natCast_add, Int.natCast_mul, Int.toNat_of_nonneg r1, Int.toNat_of_nonneg c1]
  · have h := Nat.mul_le_mul_right W (show (along (span W a b) (a / W : Nat) (b / W : Nat) k).toNat + 1 ≤ H by omega)
    rw [Nat.add_mul, Nat.mul_comm H W] at h
    omega
  · rw [Nat.add_comm, Nat.add_mul_mod_self_right, Nat.mod_eq_of_lt (by omega)]
  · rw [Nat.add_comm, Nat.add_mul_div_right _ _ hW, Nat.div_eq_of_lt (by omega)]
    omega
theorem spot_zero {W a b : Nat} (hn : 0 < span W a b) : spot W a b 0 = a := by
  unfold spot
  have e := along_zero (span W a b) (a / W : Nat) (b / W : Nat) (by omega)
  have e' := along_zero (span W a b) (a % W : Nat) (b % W : Nat) (by omega)
  rw [show (((0 : Nat) : Nat) : Int) = 0 from rfl, e, e', ← Int.natCast_mul, ← Int.natCast_add, Nat.mul_comm, Nat.div_add_mod]
theorem spot_end {W a b : Nat} (hn : 0 < span W a b) : spot W a b (span W a b) = b := by
  unfold spot
  have e := along_end (span W a b) (a / W : Nat) (b / W : Nat) (by omega)
  have e' := along_end (span W a b) (a % W : Nat) (b % W : Nat) (by omega)
  rw [e, e', ← Int.natCast_mul, ← Int.natCast_add, Nat.mul_comm, Nat.div_add_mod]

/-- on the way that is the longer one a line goes one by one. -/
theorem along_major (W a b : Nat) (hn : 0 < span W a b) :
    (∀ k : Int, along (span W a b) (a % W : Nat) (b % W : Nat) k = (a % W : Nat) + k) ∨ (∀ k : Int, along (span W a b) (a % W : Nat) (b % W : Nat) k = (a % W : Nat) - k) ∨
    (∀ k : Int, along (span W a b) (a / W : Nat) (b / W : Nat) k = (a / W : Nat) + k) ∨ (∀ k : Int, along (span W a b) (a / W : Nat) (b / W : Nat) k = (a / W : Nat) - k) := by
  have h : ((b % W : Nat) : Int) = (a % W : Nat) + (span W a b : Nat) ∨ ((b % W : Nat) : Int) = (a % W : Nat) - (span W a b : Nat) ∨ ((b / W : Nat) : Int) = (a / W : Nat) + (span W a b : Nat) ∨ ((b / W : Nat) : Int) = (a / W : Nat) - (span W a b : Nat) := by
    unfold span
    omega
  rcases h with h | h | h | h
  · left; intro k; rw [h]; exact along_up _ _ k (by omega)
  · right; left; intro k; rw [h]; exact along_down _ _ k (by omega)
  · right; right; left; intro k; rw [h]; exact along_up _ _ k (by omega)
  · right; right; right; intro k; rw [h]; exact along_down _ _ k (by omega)

/-- a line goes by steps. -/
theorem spot_step {W H a b k : Nat} (hW : 0 < W) (ha : a < W * H) (hb : b < W * H) (hn : 0 < span W a b) (hk : k + 1 ≤ span W a b) :
    ∃ p q : Nat, spot W a b k = p ∧ spot W a b (k + 1) = q ∧ p < W * H ∧ q < W * H ∧ -1 ≤ ((q % W : Nat) : Int) - (p % W : Nat) ∧ ((q % W : Nat) : Int) - (p % W : Nat) ≤ 1 ∧ -1 ≤ ((q / W : Nat) : Int) - (p / W : Nat) ∧ ((q / W : Nat) : Int) - (p / W : Nat) ≤ 1 ∧
      ¬ (((q % W : Nat) : Int) - (p % W : Nat) = 0 ∧ ((q / W : Nat) : Int) - (p / W : Nat) = 0) := by
  obtain ⟨r, c, er, ec, hr, hc, es, hl, hm, hd⟩ := spot_in hW ha hb hn (show k ≤ span W a b by omega)
  obtain ⟨r', c', er', ec', hr', hc', es', hl', hm', hd'⟩ := spot_in hW ha hb hn hk
  refine ⟨r * W + c, r' * W + c', es, es', hl, hl', ?_⟩
  rw [hm, hm', hd, hd']
  have s1 := along_step (span W a b) (a / W : Nat) (b / W : Nat) k (by omega) (by unfold span; omega) (by unfold span; omega)
  have s2 := along_step (span W a b) (a % W : Nat) (b % W : Nat) k (by omega) (by unfold span; omega) (by unfold span; omega)
  have ek : ((k + 1 : Nat) : Int) = (k : Int) + 1 := by omega
  rw [ek] at er' ec'
  rw [er', er] at s1
  rw [ec', ec] at s2
  refine ⟨s2.1, s2.2, s1.1, s1.2, ?_⟩
  rcases along_major W a b hn with m | m | m | m
  · have := m k; have := m (k + 1); omega
  · have := m k; have := m (k + 1); omega
  · have := m k; have := m (k + 1); omega
  · have := m k; have := m (k + 1); omega
/-- what is between is neither end. -/
theorem spot_inner {W H a b k : Nat} (hW : 0 < W) (ha : a < W * H) (hb : b < W * H) (hn : 0 < span W a b) (h0 : 0 < k) (hk : k < span W a b) : spot W a b k ≠ a ∧ spot W a b k ≠ b := by
  obtain ⟨r, c, er, ec, hr, hc, es, hl, hm, hd⟩ := spot_in hW ha hb hn (show k ≤ span W a b by omega)
  have e0 : ∀ k : Int, ((k = 0 ∨ k = span W a b) → ∃ p : Nat, (k = 0 → p = a) ∧ (k = span W a b → p = b) ∧ along (span W a b) (a / W : Nat) (b / W : Nat) k = (p / W : Nat) ∧ along (span W a b) (a % W : Nat) (b % W : Nat) k = (p % W : Nat)) := by
    rintro k (rfl | rfl)
    · exact ⟨a, fun _ => rfl, fun h => by omega, along_zero _ _ _ (by omega), along_zero _ _ _ (by omega)⟩
    · exact ⟨b, fun h => by omega, fun _ => rfl, along_end _ _ _ (by omega), along_end _ _ _ (by omega)⟩
  rw [es]
  have hA := along_zero (span W a b) (a / W : Nat) (b / W : Nat) (by omega)
  have hA' := along_zero (span W a b) (a % W : Nat) (b % W : Nat) (by omega)
  have hB := along_end (span W a b) (a / W : Nat) (b / W : Nat) (by omega)
  have hB' := along_end (span W a b) (a % W : Nat) (b % W : Nat) (by omega)
  constructor
  · intro e
    have e : r * W + c = a := by omega
    rw [e] at hm hd
    rcases along_major W a b hn with m | m | m | m
    all_goals have := m k; have := m 0; omega
  · intro e
    have e : r * W + c = b := by omega
    rw [e] at hm hd
    rcases along_major W a b hn with m | m | m | m
    all_goals have := m k; have := m (span W a b); omega
theorem line_len (W a b : Nat) : (line W a b).length = span W a b + 1 := by
  unfold line
  split
  · rename_i h; rw [h]; rfl
  · simp
theorem line_get {W a b k : Nat} (hk : k ≤ span W a b) : (line W a b)[k]? = some (if span W a b = 0 then (a : Int) else spot W a b k) := by
  unfold line
  split
  · have : k = 0 := by omega
    subst this
    rfl
  · simp only [List.getElem?_map]
    rw [List.getElem?_range (by omega)]
    rfl
end Go.Proofs.YteieikgkmfglaaaGreatDoor.Fd

namespace Go.Proofs.YteieikgkmfglaaaGreatDoor
open Go.RowKit
set_option linter.unusedVariables false

set_option maxHeartbeats 400000 in
theorem fplace_any (W a c r : Nat) (w : World) (h1 : 0 < W) (h2 : W ≤ 12) (h3 : a ≤ 144) (hc : a % W = c) (hr : a / W = r) :
    Calls Tryz.prog 150 #[.int .i64 (W : Nat), .int .i64 (a : Nat)] w fun e w' => e = .returned (.tuple #[.int .i64 (c : Nat), .int .i64 (r : Nat)]) ∧ ∃ n, w' = w.drewN n := by
  have hw : ¬ (W : Int) = 0 := by omega
  have e1 : (a : Int) % (W : Int) = (c : Nat) := by rw [← hc]; rfl
  have e2 : (a : Int) / (W : Int) = (r : Nat) := by rw [← hr]; rfl
  have l1 : r ≤ 144 := by rw [← hr]; exact Nat.le_trans (Nat.div_le_self _ _) h3
  clear hc hr
  go_enter Tryz.func150, Tryz.ntmps150
  go_wp2
  go_quiet (fail)
  go_wp2
  go_ret2
  exact ⟨by show Ending.returned (.tuple #[.int .i64 ((a : Int) % W), .int .i64 r]) = _; rw [e1], _, rfl⟩
end Go.Proofs.YteieikgkmfglaaaGreatDoor

namespace Go.Proofs.YteieikgkmfglaaaGreatDoor
open Go.RowKit
set_option linter.unusedVariables false

set_option maxHeartbeats 1000000 in
theorem Step_bad (v : Value) (W H : Int) (gs os : List Int) (a F : Int) (fl : Bool) (w : World) (h : Fl w v W H gs os) (hF : Fd.askFault (Fd.fault W H gs os) gs.length [a] = F) (h0 : F ≠ 0) :
    Calls Tryz.prog 106 #[v, .int .i64 a, .bool fl] w fun e w' => e = .returned (.tuple #[.int .i64 0, .iface 77 (.int .i64 F)]) ∧ Below w.heap.size w w' := by
  have F0 : Hid (Fl w v W H gs os) := h
  have HF : Hid (Fd.askFault (Fd.fault W H gs os) gs.length [a] = F) := hF
  have H0 : Hid (F ≠ 0) := h0
  obtain ⟨u1, u2, rfl, ⟨a1, c, rfl, c1, c2, ca⟩, ⟨b1, d, rfl, d1, d2, cb⟩⟩ := h
  clear hF h0 ca cb
  go_enter Tryz.func106, Tryz.ntmps106
  go_wp2_with fail
  refine (ask_any _ _ W H gs os [a] _ (F0.out.below (((Below.refl _ _).alloc (Nat.le_refl _) _).alloc (by simp) _)) (Ro.lit1 (w := w.alloc _) a (by simp))).mono ?_
  rintro e w1 ⟨v1, rfl, hv, hb⟩
  have B1 : Hid (Below w.heap.size w w1) := (((Below.refl _ _).alloc (Nat.le_refl _) _).alloc (by simp) _).trans (hb.mono (by simp; omega))
  rw [HF.out] at hv
  clear hb
  rcases hv with ⟨hz, rfl⟩ | ⟨hz, rfl⟩
  · exact absurd hz H0.out
  · clear hz
    go_wp2
    go_ret2
    exact ⟨rfl, B1⟩

end Go.Proofs.YteieikgkmfglaaaGreatDoor

namespace Go.Proofs.YteieikgkmfglaaaGreatDoor
open Go.RowKit
set_option linter.unusedVariables false

/-- the package variable of the four sides. -/
structure Sd (w : World) : Prop where
  c0 : w.cell? ⟨1, 0, none⟩ = some (.int .i64 0)
  c1 : w.cell? ⟨1, 1, none⟩ = some (.int .i64 (-1))
  c2 : w.cell? ⟨1, 2, none⟩ = some (.int .i64 (-1))
  c3 : w.cell? ⟨1, 3, none⟩ = some (.int .i64 0)
  c4 : w.cell? ⟨1, 4, none⟩ = some (.int .i64 1)
  c5 : w.cell? ⟨1, 5, none⟩ = some (.int .i64 0)
  c6 : w.cell? ⟨1, 6, none⟩ = some (.int .i64 0)
  c7 : w.cell? ⟨1, 7, none⟩ = some (.int .i64 1)
theorem Sd.lt {w : World} (h : Sd w) : 1 < w.heap.size := cell_lt h.c0
theorem Sd.below {w w' : World} (h : Sd w) (hb : Below w.heap.size w w') : Sd w' := by
  have l := h.lt
  refine ⟨?_, ?_, ?_, ?_, ?_, ?_, ?_, ?_⟩
  · rw [hb.cell (p := ⟨1, 0, none⟩) l]; exact h.c0
  · rw [hb.cell (p := ⟨1, 1, none⟩) l]; exact h.c1
  · rw [hb.cell (p := ⟨1, 2, none⟩) l]; exact h.c2
  · rw [hb.cell (p := ⟨1, 3, none⟩) l]; exact h.c3
  · rw [hb.cell (p := ⟨1, 4, none⟩) l]; exact h.c4
  · rw [hb.cell (p := ⟨1, 5, none⟩) l]; exact h.c5
  · rw [hb.cell (p := ⟨1, 6, none⟩) l]; exact h.c6
  · rw [hb.cell (p := ⟨1, 7, none⟩) l]; exact h.c7

namespace Fd
/-- how many columns, and rows, further the k-th cell beside one is. -/
def sc (k : Nat) : Int := if k = 1 then -1 else if k = 2 then 1 else 0
def sr (k : Nat) : Int := if k = 0 then -1 else if k = 3 then 1 else 0
/-- the first k cells beside one, as far as they are. -/
def nb (W H p r : Nat) : Nat → List Int
  | 0 => []
  | k + 1 => nb W H p r k ++ (if (0 ≤ (p : Int) + sc k ∧ (p : Int) + sc k ≤ (W : Int) - 1) ∧ (0 ≤ (r : Int) + sr k ∧ (r : Int) + sr k ≤ (H : Int) - 1) then [((r : Int) + sr k) * W + (p + sc k)] else [])
theorem nb_len (W H p r k : Nat) : (nb W H p r k).length ≤ k := by
  induction k with
  | zero => exact Nat.le_refl _
  | succ k ih =>
    simp only [nb, List.length_append]
    split
    · simp; omega
    · simp; omega
theorem nb_near {W H a p r : Nat} (hp : p < W) (hr : r < H) (e : W * r + p = a) : nb W H p r 4 = (if 0 < r then [(a : Int) - W] else []) ++ ((if 0 < p then [(a : Int) - 1] else []) ++ ((if p + 1 < W then [(a : Int) + 1] else []) ++ (if r + 1 < H then [(a : Int) + W] else []))) := by
  have e1 : (a : Int) = W * r + p := by rw [← e]; simp
  have e2 : ((r : Int) + -1) * W = W * r - W := by rw [Int.add_mul, Int.mul_comm (r : Int) W]; omega
  have e3 : ((r : Int) + 1) * W = W * r + W := by rw [Int.add_mul, Int.mul_comm (r : Int) W]; omega
  have e4 : ((r : Int) + 0) * W = W * r := by rw [Int.add_zero, Int.mul_comm (r : Int) W]
  simp only [nb, List.nil_append, List.append_assoc]
  rw [show sc 0 = 0 from rfl, show sc 1 = -1 from rfl, show sc 2 = 1 from rfl, show sc 3 = 0 from rfl, show sr 0 = -1 from rfl, show sr 1 = 0 from rfl, show sr 2 = 0 from rfl, show sr 3 = 1 from rfl, e2, e3, e4]
  congr 1
  · by_cases h : 0 < r
    · rw [if_pos (by omega), if_pos h]; congr 1; omega
    · rw [if_neg (by omega), if_neg h]
  · congr 1
    · by_cases h : 0 < p
      · rw [if_pos (by omega), if_pos h]; congr 1; omega
      · rw [if_neg (by omega), if_neg h]
    · congr 1
      · by_cases h : p + 1 < W
        · rw [if_pos (by omega), if_pos h]; congr 1; omega
        · rw [if_neg (by omega), if_neg h]
      · by_cases h : r + 1 < H
        · rw [if_pos (by omega), if_pos h]; congr 1; omega
        · rw [if_neg (by omega), if_neg h]
end Fd

theorem side0 (w : World) : (Instr.index 203 (.agg #[.int .i64 0, .int .i64 (-1), .int .i64 (-1), .int .i64 0, .int .i64 1, .int .i64 0, .int .i64 0, .int .i64 1]) (.int .i64 0)).run Tryz.prog w = .ok (.agg #[.int .i64 0, .int .i64 (-1)]) w := by kernel_rfl
theorem side1 (w : World) : (Instr.index 203 (.agg #[.int .i64 0, .int .i64 (-1), .int .i64 (-1), .int .i64 0, .int .i64 1, .int .i64 0, .int .i64 0, .int .i64 1]) (.int .i64 1)).run Tryz.prog w = .ok (.agg #[.int .i64 (-1), .int .i64 0]) w := by kernel_rfl
theorem side2 (w : World) : (Instr.index 203 (.agg #[.int .i64 0, .int .i64 (-1), .int .i64 (-1), .int .i64 0, .int .i64 1, .int .i64 0, .int .i64 0, .int .i64 1]) (.int .i64 2)).run Tryz.prog w = .ok (.agg #[.int .i64 1, .int .i64 0]) w := by kernel_rfl
theorem side3 (w : World) : (Instr.index 203 (.agg #[.int .i64 0, .int .i64 (-1), .int .i64 (-1), .int .i64 0, .int .i64 1, .int .i64 0, .int .i64 0, .int .i64 1]) (.int .i64 3)).run Tryz.prog w = .ok (.agg #[.int .i64 0, .int .i64 1]) w := by kernel_rfl
theorem side_at (k : Nat) (hk : k < 4) (w : World) : (Instr.index 203 (.agg #[.int .i64 0, .int .i64 (-1), .int .i64 (-1), .int .i64 0, .int .i64 1, .int .i64 0, .int .i64 0, .int .i64 1]) (.int .i64 (k : Nat))).run Tryz.prog w = .ok (.agg #[.int .i64 (Fd.sc k), .int .i64 (Fd.sr k)]) w := by
  have h : k = 0 ∨ k = 1 ∨ k = 2 ∨ k = 3 := by omega
  rcases h with rfl | rfl | rfl | rfl
  · exact side0 w
  · exact side1 w
  · exact side2 w
  · exact side3 w

set_option maxHeartbeats 2000000 in
theorem near_own (v : Value) (W H : Nat) (gs os : List Int) (a : Nat) (w : World) (h : Fl w v W H gs os) (G : Fd.Good W H gs os) (ha : a < W * H) (hs : Sd w) :
    Calls Tryz.prog 120 #[v, .int .i64 (a : Nat)] w fun e w' => ∃ u, e = .returned u ∧ Ow w' w.heap.size u (Fd.near W H a) ∧ Below w.heap.size w w' := by
  have F0 : Hid (Fl w v W H gs os) := h
  have S0 : Hid (Sd w) := hs
  obtain ⟨u1, u2, rfl, ⟨a1, c, rfl, c1, c2, ca⟩, ⟨b1, d, rfl, d1, d2, cb⟩⟩ := h
  have gp := G.pos.2
  have W1 : 0 < W := G.w1
  have W2 : W ≤ 12 := G.w2
  have H1 : 0 < H := G.h1
  have H2 : H ≤ 12 := G.h2
  have A1 : a ≤ 144 := by omega
  have r1 : a / W < H := Nat.div_lt_of_lt_mul ha
  have p1 := Nat.mod_lt a W1
  have Ea : Hid (W * (a / W) + a % W = a) := Nat.div_add_mod a W
  have En : Hid (Fd.near W H a = (if 0 < a / W then [(a : Int) - W] else []) ++ ((if 0 < a % W then [(a : Int) - 1] else []) ++ ((if a % W + 1 < W then [(a : Int) + 1] else []) ++ (if a / W + 1 < H then [(a : Int) + W] else [])))) := rfl
  obtain ⟨p, hp⟩ : ∃ c, a % W = c := ⟨_, rfl⟩
  obtain ⟨r, hr⟩ : ∃ c, a / W = c := ⟨_, rfl⟩
  rw [hp, hr] at En Ea
  rw [hp] at p1
  rw [hr] at r1
  have Pa : Hid (a % W = p ∧ a / W = r) := ⟨hp, hr⟩
  clear hp hr hs ca cb G ha gp
  go_enter Tryz.func120, Tryz.ntmps120
  go_wp2_with fail
  refine (fplace_any W a p r _ W1 W2 A1 Pa.out.1 Pa.out.2).mono ?_
  rintro e w3 ⟨rfl, q3, hq3⟩
  have B3 : Hid (Below w.heap.size w w3) := by rw [hq3]; exact _root_.Go.below_drewN ((Below.refl _ _).alloc (Nat.le_refl _) _) _
  have X3 : Hid (Bf w3 w.heap.size W H (Value.slice a1 gs.length c) (Value.slice b1 os.length d)) := by
    rw [hq3]
    have h0 := Bf.mk' (w := w) W H (Value.slice a1 gs.length c) (Value.slice b1 os.length d) rfl
    exact h0.below (_root_.Go.below_drewN (Below.refl _ _) _) h0.lt
  have S3 : Hid (Sd w3) := S0.out.below B3.out
  clear hq3
  obtain ⟨x0, x1, x2, x3⟩ := X3.out
  obtain ⟨s0, s1, s2, s3, s4, s5, s6, s7⟩ := S3.out
  go_wp2_with fail
  have Z3 : Hid (w.heap.size < w3.heap.size) := X3.out.lt
  clear s0 s1 s2 s3 s4 s5 s6 s7 S3 S0 x0 x1 x2 x3
  go_loopw [5, 20] (fun v i W' => ∃ k : Nat, k ≤ 4 ∧ i = .int .i64 (k : Nat) ∧ Ow W' (w.heap.size + 1) v (Fd.nb W H p r k) ∧ Bf W' w.heap.size W H (Value.slice a1 gs.length c) (Value.slice b1 os.length d) ∧ Below w.heap.size w W') (fun _ i _ => 4 - (intOf i).toNat)
  case atStart => exact ⟨0, Nat.zero_le _, rfl, Ow.nil _ _, X3, B3⟩
  case round =>
    obtain ⟨k, hk, rfl, ho, hx, hb⟩ := hrel
    clear X3 B3 Z3
    have O : Hid (Ow wr (w.heap.size + 1) u5 (Fd.nb W H p r k)) := ho
    have X : Hid (Bf wr w.heap.size W H (Value.slice a1 gs.length c) (Value.slice b1 os.length d)) := hx
    have B : Hid (Below w.heap.size w wr) := hb
    clear ho hx hb
    by_cases h0 : k = 4
    · subst h0
      have En' : Hid (Fd.near W H a = Fd.nb W H p r 4) := by unfold Hid; rw [En.out, Fd.nb_near p1 r1 Ea.out]
      go_wp2
      go_ret
      exact ⟨_, rfl, by rw [En'.out]; exact O.out.mono (Nat.le_succ _), B⟩
    · have hk4 : k < 4 := by omega
      have hi := side_at k hk4
      have l1 : -1 ≤ Fd.sc k ∧ Fd.sc k ≤ 1 := by unfold Fd.sc; split <;> (try split) <;> omega
      have l2 : -1 ≤ Fd.sr k ∧ Fd.sr k ≤ 1 := by unfold Fd.sr; split <;> (try split) <;> omega
      have Ek : Hid (Fd.nb W H p r (k + 1) = Fd.nb W H p r k ++ (if (0 ≤ (p : Int) + Fd.sc k ∧ (p : Int) + Fd.sc k ≤ (W : Int) - 1) ∧ (0 ≤ (r : Int) + Fd.sr k ∧ (r : Int) + Fd.sr k ≤ (H : Int) - 1) then [((r : Int) + Fd.sr k) * W + (p + Fd.sc k)] else [])) := rfl
      have Ll : Hid ((Fd.nb W H p r k).length ≤ k) := Fd.nb_len W H p r k
      generalize Fd.sc k = sc at *
      generalize Fd.sr k = sr at *
      generalize Fd.nb W H p r k = xs at *
      obtain ⟨l11, l12⟩ := l1
      obtain ⟨l21, l22⟩ := l2
      go_wp2
      go_quiet (fail)
      clear hi
      have k5 : Below wr.heap.size wr ((wr.alloc (Obj.cells #[.int .i64 sc, .int .i64 sr] 202)).drewN nq) := _root_.Go.below_drewN ((Below.refl _ _).alloc (Nat.le_refl _) _) _
      generalize (wr.alloc (Obj.cells #[.int .i64 sc, .int .i64 sr] 202)).drewN nq = w5 at *
      have O5 : Hid (Ow w5 (w.heap.size + 1) u5 xs) := O.out.below k5
      have X5 : Hid (Bf w5 w.heap.size W H (Value.slice a1 gs.length c) (Value.slice b1 os.length d)) := X.out.below k5 X.out.lt
      have B5 : Hid (Below w.heap.size w w5) := B.out.trans (k5.mono B.out.size)
      clear k5 O X B
      obtain ⟨x0, x1, x2, x3⟩ := X5.out
      by_cases hc : 0 ≤ (p : Int) + sc ∧ (p : Int) + sc ≤ (W : Int) - 1
      · by_cases hd : 0 ≤ (r : Int) + sr ∧ (r : Int) + sr ≤ (H : Int) - 1
        · have Ek' : Hid (Fd.nb W H p r (k + 1) = xs ++ [((r : Int) + sr) * W + (p + sc)]) := by
            have := Ek.out
            rw [if_pos ⟨hc, hd⟩] at this
            exact this
          clear Ek
          obtain ⟨C, hC⟩ : ∃ C : Int, (p : Int) + sc = C := ⟨_, rfl⟩
          obtain ⟨R, hR⟩ : ∃ R : Int, (r : Int) + sr = R := ⟨_, rfl⟩
          rw [hC] at hc Ek' ⊢
          rw [hR] at hd Ek' ⊢
          obtain ⟨hc1, hc2⟩ := hc
          obtain ⟨hd1, hd2⟩ := hd
          have R2 : R ≤ 11 := by omega
          have C2 : C ≤ 11 := by omega
          clear hC hR l11 l12 l21 l22
          have m1 : 0 ≤ R * (W : Int) := Int.mul_nonneg hd1 (by omega)
          have m2 : R * (W : Int) ≤ 11 * 12 := Int.mul_le_mul R2 (by omega) (by omega) (by omega)
          go_wp2_with fail
          refine (fin_yes _ _ _ _ hc1 hc2).mono ?_
          rintro e w' ⟨rfl, rfl⟩
          go_wp2_with fail
          refine (fin_yes _ _ _ _ hd1 hd2).mono ?_
          rintro e w' ⟨rfl, rfl⟩
          go_wp2_with (at_builtin; refine app_int _ rfl _ _ rfl (w.heap.size + 1) _ xs rfl (O5.out.alloc _) ⟨w'.heap.size, 0, none⟩ (R * W + C) rfl (by simp) (by have := Ll.out; omega) (by have := X5.out.lt; simp; omega) ?_)
          intro g cap w6 o6 g6 a6 l6
          have O6 : Hid (Ow w6 (w.heap.size + 1) (.slice (some ⟨g, 0, none⟩) (xs.length + 1) cap) (xs ++ [R * W + C])) := o6
          have hob : ∀ k, u5.ownBlock = some k → w.heap.size + 1 ≤ k := fun k hk => (O5.out.block k hk).1
          have b6 : Below (w.heap.size + 1) w' w6 := ((Below.refl _ _).alloc (by have := X5.out.lt; omega) _).grown g6 (by have := X5.out.lt; simp; omega) hob
          have X6 : Hid (Bf w6 w.heap.size W H (Value.slice a1 gs.length c) (Value.slice b1 os.length d)) := X5.out.below b6 (Nat.lt_succ_self _)
          have B6 : Hid (Below w.heap.size w w6) := B5.out.trans (b6.mono (Nat.le_succ _))
          clear o6 g6 a6 l6 hob b6 x0 x1 x2 x3 m1 m2
          go_wp2
          go_round
          case rel => exact ⟨k + 1, by omega, by go_num, by rw [Ek'.out]; exact O6, X6, B6⟩
          case measure => simp [intOf]; omega
        · have Ek' : Hid (Fd.nb W H p r (k + 1) = xs) := by
            have := Ek.out
            rw [if_neg (fun h => hd h.2), List.append_nil] at this
            exact this
          clear Ek
          obtain ⟨hc1, hc2⟩ := hc
          have hd' : (r : Int) + sr < 0 ∨ (H : Int) - 1 < (r : Int) + sr := by omega
          clear hd
          go_wp2_with fail
          refine (fin_yes _ _ _ _ hc1 hc2).mono ?_
          rintro e w' ⟨rfl, rfl⟩
          go_wp2_with fail
          refine (fin_no _ _ _ _ hd').mono ?_
          rintro e w' ⟨rfl, rfl⟩
          go_wp2
          go_round
          case rel => exact ⟨k + 1, by omega, by go_num, by rw [Ek'.out]; exact O5, X5, B5⟩
          case measure => simp [intOf]; omega
      · have Ek' : Hid (Fd.nb W H p r (k + 1) = xs) := by
          have := Ek.out
          rw [if_neg (fun h => hc h.1), List.append_nil] at this
          exact this
        clear Ek
        have hc' : (p : Int) + sc < 0 ∨ (W : Int) - 1 < (p : Int) + sc := by omega
        clear hc
        go_wp2_with fail
        refine (fin_no _ _ _ _ hc').mono ?_
        rintro e w' ⟨rfl, rfl⟩
        go_wp2
        go_round
        case rel => exact ⟨k + 1, by omega, by go_num, by rw [Ek'.out]; exact O5, X5, B5⟩
        case measure => simp [intOf]; omega

end Go.Proofs.YteieikgkmfglaaaGreatDoor

namespace Go.Proofs.YteieikgkmfglaaaGreatDoor
open Go.RowKit
set_option linter.unusedVariables false

set_option maxHeartbeats 1000000 in
theorem Near_bad (v : Value) (W H : Int) (gs os : List Int) (a F : Int) (w : World) (h : Fl w v W H gs os) (hF : Fd.askFault (Fd.fault W H gs os) gs.length [a] = F) (h0 : F ≠ 0) :
    Calls Tryz.prog 91 #[v, .int .i64 a] w fun e w' => e = .returned (.tuple #[.slice none 0 0, .iface 77 (.int .i64 F)]) ∧ Below w.heap.size w w' := by
  have F0 : Hid (Fl w v W H gs os) := h
  have HF : Hid (Fd.askFault (Fd.fault W H gs os) gs.length [a] = F) := hF
  have H0 : Hid (F ≠ 0) := h0
  obtain ⟨u1, u2, rfl, ⟨a1, c, rfl, c1, c2, ca⟩, ⟨b1, d, rfl, d1, d2, cb⟩⟩ := h
  clear hF h0 ca cb
  go_enter Tryz.func91, Tryz.ntmps91
  go_wp2_with fail
  refine (ask_any _ _ W H gs os [a] _ (F0.out.below (((Below.refl _ _).alloc (Nat.le_refl _) _).alloc (by simp) _)) (Ro.lit1 (w := w.alloc _) a (by simp))).mono ?_
  rintro e w1 ⟨v1, rfl, hv, hb⟩
  have B1 : Hid (Below w.heap.size w w1) := (((Below.refl _ _).alloc (Nat.le_refl _) _).alloc (by simp) _).trans (hb.mono (by simp; omega))
  rw [HF.out] at hv
  clear hb
  rcases hv with ⟨hz, rfl⟩ | ⟨hz, rfl⟩
  · exact absurd hz H0.out
  · clear hz
    go_wp2
    go_ret2
    exact ⟨rfl, B1⟩

set_option maxHeartbeats 1000000 in
theorem Near_ok (v : Value) (W H : Nat) (gs os : List Int) (a : Nat) (w : World) (h : Fl w v W H gs os) (G : Fd.Good W H gs os) (ha : a < W * H) (hs : Sd w) :
    Calls Tryz.prog 91 #[v, .int .i64 (a : Nat)] w fun e w' => ∃ u, e = .returned (.tuple #[u, .nilIface]) ∧ Ro w' u (Fd.near W H a) ∧ Below w.heap.size w w' := by
  have F0 : Hid (Fl w v W H gs os) := h
  have S0 : Hid (Sd w) := hs
  have G0 : Hid (Fd.Good W H gs os) := G
  have HF : Hid (Fd.askFault (Fd.fault W H gs os) gs.length [(a : Int)] = 0) := ask1_good G ha
  obtain ⟨u1, u2, rfl, ⟨a1, c, rfl, c1, c2, ca⟩, ⟨b1, d, rfl, d1, d2, cb⟩⟩ := h
  have Ha : Hid (a < W * H) := ha
  clear hs ca cb G ha
  go_enter Tryz.func91, Tryz.ntmps91
  go_wp2_with fail
  refine (ask_any _ _ W H gs os [(a : Int)] _ (F0.out.below (((Below.refl _ _).alloc (Nat.le_refl _) _).alloc (by simp) _)) (Ro.lit1 (w := w.alloc _) a (by simp))).mono ?_
  rintro e w1 ⟨v1, rfl, hv, hb⟩
  have B1 : Hid (Below w.heap.size w w1) := (((Below.refl _ _).alloc (Nat.le_refl _) _).alloc (by simp) _).trans (hb.mono (by simp; omega))
  have X1 : Hid (Bf w1 w.heap.size W H (Value.slice a1 gs.length c) (Value.slice b1 os.length d)) := ((Bf.mk' (w := w) W H (Value.slice a1 gs.length c) (Value.slice b1 os.length d) rfl).below ((Below.refl _ _).alloc (Nat.le_refl _) (Obj.cells #[Value.int IntKind.i64 a] 3)) (by simp)).below hb (by simp; omega)
  rw [HF.out] at hv
  clear hb
  rcases hv with ⟨hz, rfl⟩ | ⟨hz, rfl⟩
  · clear hz
    obtain ⟨x0, x1, x2, x3⟩ := X1.out
    go_wp2_with fail
    refine (near_own _ W H gs os a _ (F0.out.below B1.out) G0.out Ha.out (S0.out.below B1.out)).mono ?_
    rintro e w2 ⟨u, rfl, hu, hb2⟩
    have U2 : Hid (Ro w2 u (Fd.near W H a)) := hu.ro
    have B2 : Hid (Below w.heap.size w w2) := B1.out.trans (hb2.mono B1.out.size)
    clear hu hb2 x0 x1 x2 x3
    go_wp2
    go_ret2
    exact ⟨_, rfl, U2.out, B2⟩
  · exact absurd rfl hz
end Go.Proofs.YteieikgkmfglaaaGreatDoor

namespace Go.Proofs.YteieikgkmfglaaaGreatDoor
open Go.RowKit
set_option linter.unusedVariables false

/-- is one that trains beside u? -/
def homeB (ks : List KV) (Wn Hn an : Nat) (Y : WV) (u : UnV) : Bool := Y.us.any (takesIn ks (Fd.near Wn Hn an) u)
set_option maxRecDepth 100000 in
set_option maxHeartbeats 8000000 in
theorem ishome_any (vk vw : Value) (ks : List KV) (Y : WV) (u : UnV) (Wn Hn an : Nat) (w : World) (hk : Kl w vk ks) (hw : Wl w vw Y) (hf : DFit ks Y) (e1 : Y.wide = (Wn : Nat)) (e2 : Y.high = (Hn : Nat)) (G : Fd.Good Wn Hn Y.gs Y.os) (ha : u.at_ = (an : Nat)) (hal : an < Wn * Hn) (hs : Sd w) :
    Calls Tryz.prog 61 #[vk, vw, u.val] w fun e w' => e = .returned (.bool (homeB ks Wn Hn an Y u)) ∧ Below w.heap.size w w' := by
  have K : Hid (Kl w vk ks) := hk
  have H : Hid (Wl w vw Y) := hw
  have NN : Hid (Y.wide = (Wn : Nat) ∧ Y.high = (Hn : Nat) ∧ Fd.Good Wn Hn Y.gs Y.os ∧ u.at_ = (an : Nat) ∧ an < Wn * Hn ∧ Sd w ∧ DFit ks Y) := ⟨e1, e2, G, ha, hal, hs, hf⟩
  obtain ⟨p1, q1, p2, q2, p3, q3, p4, q4, p5, q5, rfl⟩ := wl_shape9 hw
  obtain ⟨pk, qk, rfl, ck1, ck2, kc⟩ := hk
  clear hw kc hf e1 e2 G ha hal hs
  unfold UnV.val
  go_enter Tryz.func61, Tryz.ntmps61
  go_upto_region 1 with fail
  obtain ⟨z, hz⟩ : ∃ z, w.heap.size = z := ⟨_, rfl⟩
  have BA : Hid (Below w.heap.size w (w.alloc (Obj.cells #[.slice pk ks.length qk] 22))) := (Below.refl _ _).alloc (Nat.le_refl _) _
  have BB : Hid (Below (w.alloc (Obj.cells #[.slice pk ks.length qk] 22)).heap.size (w.alloc (Obj.cells #[.slice pk ks.length qk] 22)) ((w.alloc (Obj.cells #[.slice pk ks.length qk] 22)).alloc (Obj.cells #[.int .i64 Y.turn, .int .i64 Y.next, .int .i64 Y.wide, .int .i64 Y.high, .slice p1 Y.gs.length q1, .slice p2 Y.os.length q2, .slice p3 Y.gold.length q3, .slice p4 Y.us.length q4, .slice p5 Y.qs.length q5] 29))) := (Below.refl _ _).alloc (Nat.le_refl _) _
  have BC : Hid (Below ((w.alloc (Obj.cells #[.slice pk ks.length qk] 22)).alloc (Obj.cells #[.int .i64 Y.turn, .int .i64 Y.next, .int .i64 Y.wide, .int .i64 Y.high, .slice p1 Y.gs.length q1, .slice p2 Y.os.length q2, .slice p3 Y.gold.length q3, .slice p4 Y.us.length q4, .slice p5 Y.qs.length q5] 29)).heap.size ((w.alloc (Obj.cells #[.slice pk ks.length qk] 22)).alloc (Obj.cells #[.int .i64 Y.turn, .int .i64 Y.next, .int .i64 Y.wide, .int .i64 Y.high, .slice p1 Y.gs.length q1, .slice p2 Y.os.length q2, .slice p3 Y.gold.length q3, .slice p4 Y.us.length q4, .slice p5 Y.qs.length q5] 29)) (((w.alloc (Obj.cells #[.slice pk ks.length qk] 22)).alloc (Obj.cells #[.int .i64 Y.turn, .int .i64 Y.next, .int .i64 Y.wide, .int .i64 Y.high, .slice p1 Y.gs.length q1, .slice p2 Y.os.length q2, .slice p3 Y.gold.length q3, .slice p4 Y.us.length q4, .slice p5 Y.qs.length q5] 29)).alloc (Obj.cells #[.int .i64 u.id, .int .i64 u.player, .int .i64 u.kind, .int .i64 u.at_, .int .i64 u.life, .int .i64 u.load, .int .i64 u.task, .int .i64 u.goal] 44))) := (Below.refl _ _).alloc (Nat.le_refl _) _
  have B1 : Hid (Below w.heap.size w (((w.alloc (Obj.cells #[.slice pk ks.length qk] 22)).alloc (Obj.cells #[.int .i64 Y.turn, .int .i64 Y.next, .int .i64 Y.wide, .int .i64 Y.high, .slice p1 Y.gs.length q1, .slice p2 Y.os.length q2, .slice p3 Y.gold.length q3, .slice p4 Y.us.length q4, .slice p5 Y.qs.length q5] 29)).alloc (Obj.cells #[.int .i64 u.id, .int .i64 u.player, .int .i64 u.kind, .int .i64 u.at_, .int .i64 u.life, .int .i64 u.load, .int .i64 u.task, .int .i64 u.goal] 44))) := (BA.out.trans (BB.out.mono BA.out.size)).trans (BC.out.mono (Nat.le_trans BA.out.size BB.out.size))
  have CK : Hid ((((w.alloc (Obj.cells #[.slice pk ks.length qk] 22)).alloc (Obj.cells #[.int .i64 Y.turn, .int .i64 Y.next, .int .i64 Y.wide, .int .i64 Y.high, .slice p1 Y.gs.length q1, .slice p2 Y.os.length q2, .slice p3 Y.gold.length q3, .slice p4 Y.us.length q4, .slice p5 Y.qs.length q5] 29)).alloc (Obj.cells #[.int .i64 u.id, .int .i64 u.player, .int .i64 u.kind, .int .i64 u.at_, .int .i64 u.life, .int .i64 u.load, .int .i64 u.task, .int .i64 u.goal] 44)).cell? ⟨z, 0, none⟩ = some (.slice pk ks.length qk)) := by
    rw [← hz]
    have c0 : (w.alloc (Obj.cells #[.slice pk ks.length qk] 22)).cell? ⟨w.heap.size, 0, none⟩ = some (.slice pk ks.length qk) := by simp
    have l0 := cell_lt c0
    have c1 : ((w.alloc (Obj.cells #[.slice pk ks.length qk] 22)).alloc (Obj.cells #[.int .i64 Y.turn, .int .i64 Y.next, .int .i64 Y.wide, .int .i64 Y.high, .slice p1 Y.gs.length q1, .slice p2 Y.os.length q2, .slice p3 Y.gold.length q3, .slice p4 Y.us.length q4, .slice p5 Y.qs.length q5] 29)).cell? ⟨w.heap.size, 0, none⟩ = some (.slice pk ks.length qk) := by rw [BB.out.cell (p := ⟨w.heap.size, 0, none⟩) l0]; exact c0
    unfold Hid
    rw [BC.out.cell (p := ⟨w.heap.size, 0, none⟩) (cell_lt c1)]
    exact c1
  have X1 : Hid (Bw (((w.alloc (Obj.cells #[.slice pk ks.length qk] 22)).alloc (Obj.cells #[.int .i64 Y.turn, .int .i64 Y.next, .int .i64 Y.wide, .int .i64 Y.high, .slice p1 Y.gs.length q1, .slice p2 Y.os.length q2, .slice p3 Y.gold.length q3, .slice p4 Y.us.length q4, .slice p5 Y.qs.length q5] 29)).alloc (Obj.cells #[.int .i64 u.id, .int .i64 u.player, .int .i64 u.kind, .int .i64 u.at_, .int .i64 u.life, .int .i64 u.load, .int .i64 u.task, .int .i64 u.goal] 44)) (z + 1) Y (.slice p1 Y.gs.length q1) (.slice p2 Y.os.length q2) (.slice p3 Y.gold.length q3) (.slice p4 Y.us.length q4) (.slice p5 Y.qs.length q5)) := (Bw.mk' (w := (w.alloc (Obj.cells #[.slice pk ks.length qk] 22))) Y _ _ _ _ _ (by rw [← hz]; simp)).below BC.out (by rw [← hz]; simp)
  have U1 : Hid (Ub (((w.alloc (Obj.cells #[.slice pk ks.length qk] 22)).alloc (Obj.cells #[.int .i64 Y.turn, .int .i64 Y.next, .int .i64 Y.wide, .int .i64 Y.high, .slice p1 Y.gs.length q1, .slice p2 Y.os.length q2, .slice p3 Y.gold.length q3, .slice p4 Y.us.length q4, .slice p5 Y.qs.length q5] 29)).alloc (Obj.cells #[.int .i64 u.id, .int .i64 u.player, .int .i64 u.kind, .int .i64 u.at_, .int .i64 u.life, .int .i64 u.load, .int .i64 u.task, .int .i64 u.goal] 44)) (z + 2) [u] []) := unit_one u (by rw [← hz]; simp)
  rw [hz]
  clear BA BB BC hz
  generalize (((w.alloc (Obj.cells #[.slice pk ks.length qk] 22)).alloc (Obj.cells #[.int .i64 Y.turn, .int .i64 Y.next, .int .i64 Y.wide, .int .i64 Y.high, .slice p1 Y.gs.length q1, .slice p2 Y.os.length q2, .slice p3 Y.gold.length q3, .slice p4 Y.us.length q4, .slice p5 Y.qs.length q5] 29)).alloc (Obj.cells #[.int .i64 u.id, .int .i64 u.player, .int .i64 u.kind, .int .i64 u.at_, .int .i64 u.life, .int .i64 u.load, .int .i64 u.task, .int .i64 u.goal] 44)) = w1 at *
  obtain ⟨x0, x1, x2, x3, x4, x5, x6, x7, x8⟩ := X1.out
  obtain ⟨y0, y1, y2, y3, y4, y5, y6, y7⟩ := U1.out.unc (i := 0) (o := u) rfl
  simp only [Nat.zero_mul, Nat.zero_add] at y0 y1 y2 y3 y4 y5 y6 y7
  rw [NN.out.2.2.2.1] at y3
  go_wp2_with fail
  refine (Near_ok _ Wn Hn Y.gs Y.os an w1 ?_ NN.out.2.2.1 NN.out.2.2.2.2.1 (NN.out.2.2.2.2.2.1.below B1.out)).mono ?_
  · have h := fl_of (H.out.below B1.out)
    rw [← NN.out.1, ← NN.out.2.1]
    exact h
  rintro e w2 ⟨vn, rfl, hn, hb⟩
  have B2 : Hid (Below w.heap.size w w2) := B1.out.trans (hb.mono B1.out.size)
  have CK2 : Hid (w2.cell? ⟨z, 0, none⟩ = some (.slice pk ks.length qk)) := by unfold Hid; rw [hb.cell (p := ⟨z, 0, none⟩) (cell_lt CK.out)]; exact CK.out
  have X2 : Hid (Bw w2 (z + 1) Y (.slice p1 Y.gs.length q1) (.slice p2 Y.os.length q2) (.slice p3 Y.gold.length q3) (.slice p4 Y.us.length q4) (.slice p5 Y.qs.length q5)) := X1.out.below hb X1.out.lt
  have U2 : Hid (Ub w2 (z + 2) [u] []) := U1.out.below hb U1.out.lt
  have RN0 : Hid (Ro w2 vn (Fd.near Wn Hn an)) := hn
  obtain ⟨na, nc, rfl, -⟩ := hn
  clear hb x0 x1 x2 x3 x4 x5 x6 x7 x8 y0 y1 y2 y3 y4 y5 y6 y7 B1 CK X1 U1
  go_upto_region 3 with fail
  have BD : Hid (Below w2.heap.size w2 (w2.alloc (Obj.cells #[.slice na (Fd.near Wn Hn an).length nc] 23))) := (Below.refl _ _).alloc (Nat.le_refl _) _
  obtain ⟨bn, hbn⟩ : ∃ z, w2.heap.size = z := ⟨_, rfl⟩
  have CN : Hid ((w2.alloc (Obj.cells #[.slice na (Fd.near Wn Hn an).length nc] 23)).cell? ⟨bn, 0, none⟩ = some (.slice na (Fd.near Wn Hn an).length nc)) := by unfold Hid; rw [← hbn]; simp
  rw [hbn]
  clear hbn
  generalize (w2.alloc (Obj.cells #[.slice na (Fd.near Wn Hn an).length nc] 23)) = w3 at *
  have B3 : Hid (Below w.heap.size w w3) := B2.out.trans (BD.out.mono B2.out.size)
  have CK3 : Hid (w3.cell? ⟨z, 0, none⟩ = some (.slice pk ks.length qk)) := by unfold Hid; rw [BD.out.cell (p := ⟨z, 0, none⟩) (cell_lt CK2.out)]; exact CK2.out
  have X3 : Hid (Bw w3 (z + 1) Y (.slice p1 Y.gs.length q1) (.slice p2 Y.os.length q2) (.slice p3 Y.gold.length q3) (.slice p4 Y.us.length q4) (.slice p5 Y.qs.length q5)) := X2.out.below BD.out X2.out.lt
  have U3 : Hid (Ub w3 (z + 2) [u] []) := U2.out.below BD.out U2.out.lt
  have RN3 : Hid (Ro w3 (.slice na (Fd.near Wn Hn an).length nc) (Fd.near Wn Hn an)) := RN0.out.below BD.out
  have x7 := X3.out.c7
  clear BD B2 CK2 X2 U2 RN0
  go_wp2_with fail
  refine (hasq_any 92 (by intro args w; go_simp) _ #[.pointer (some ⟨z + 2, 0, none⟩), .pointer (some ⟨z, 0, none⟩), .pointer (some ⟨bn, 0, none⟩)] Y.us (takesIn ks (Fd.near Wn Hn an) u) w3 (H.out.below B3.out).slices.2.2.2.1 (fun W hW h hh => ?_)).mono ?_
  · obtain ⟨⟨kn, k, f1, f2, -⟩, -⟩ := NN.out.2.2.2.2.2.2.units h hh
    obtain ⟨xk, hxk, hl, hc⟩ : ∃ x, pk = some x ∧ x.block < w.heap.size ∧ ∀ (i : Nat) k, ks[i]? = some k → Kc w (x.add (i * 11)) k := by
      obtain ⟨a', c', e', -, -, hx⟩ := K.out
      injection e' with e1' e2' e3'
      subst e1'
      exact hx (by rintro hn; rw [hn] at f2; simp at f2)
    subst hxk
    have bW : Below w.heap.size w W := B3.out.trans (hW.mono B3.out.size)
    obtain ⟨-, y1, -⟩ := (U3.out.below hW U3.out.lt).unc (i := 0) (o := u) rfl
    simp only [Nat.zero_mul, Nat.zero_add] at y1
    exact takesin_fn ks _ u h kn k (z + 2) z bn xk qk _ W f1 f2 y1 (by rw [hW.cell (p := ⟨z, 0, none⟩) (cell_lt CK3.out)]; exact CK3.out) (by rw [hW.cell (p := ⟨bn, 0, none⟩) (cell_lt CN.out)]; exact CN.out) ((hc kn k f2).below bW (by rw [add_block]; exact hl)) (RN3.out.below hW)
  rintro e w4 ⟨rfl, hb⟩
  have B4 : Hid (Below w.heap.size w w4) := B3.out.trans (hb.mono B3.out.size)
  clear hb x7
  go_wp2
  go_ret
  exact ⟨rfl, ⟨B4.out.os, B4.out.tape, B4.out.output, B4.out.size, B4.out.block⟩⟩
end Go.Proofs.YteieikgkmfglaaaGreatDoor

namespace Go.Proofs.YteieikgkmfglaaaGreatDoor
open Go.RowKit
set_option linter.unusedVariables false

def bringW (Y : WV) (i : Nat) (u : UnV) : WV := { Y with us := Y.us.set i (loadU u 0), gold := Y.gold.set u.player.toNat (min (Y.gold.getD u.player.toNat 0 + u.load) 1000000) }
def brings (ks : List KV) (Wn Hn : Nat) (Y : WV) (u : UnV) : Bool := decide (0 < u.load) && homeB ks Wn Hn u.at_.toNat Y u
/-- the first q units have brought; what happened. -/
def br (ks : List KV) (Wn Hn : Nat) (Y : WV) : Nat → WV × List EvV
  | 0 => (Y, [])
  | q + 1 => match (br ks Wn Hn Y q).1.us[q]? with
    | none => br ks Wn Hn Y q
    | some u => if brings ks Wn Hn (br ks Wn Hn Y q).1 u = true then (bringW (br ks Wn Hn Y q).1 q u, (br ks Wn Hn Y q).2 ++ [⟨5, u.id, u.load⟩]) else br ks Wn Hn Y q
theorem br_yes {ks : List KV} {Wn Hn : Nat} {Y : WV} {q : Nat} {u : UnV} (hu : (br ks Wn Hn Y q).1.us[q]? = some u) (h : brings ks Wn Hn (br ks Wn Hn Y q).1 u = true) : br ks Wn Hn Y (q + 1) = (bringW (br ks Wn Hn Y q).1 q u, (br ks Wn Hn Y q).2 ++ [⟨5, u.id, u.load⟩]) := by
  rw [br]; simp only [hu]; rw [if_pos h]
theorem br_no {ks : List KV} {Wn Hn : Nat} {Y : WV} {q : Nat} {u : UnV} (hu : (br ks Wn Hn Y q).1.us[q]? = some u) (h : brings ks Wn Hn (br ks Wn Hn Y q).1 u = false) : br ks Wn Hn Y (q + 1) = br ks Wn Hn Y q := by
  rw [br]; simp only [hu]; rw [if_neg (by rw [h]; simp)]
theorem DFit.bring {ks : List KV} {Y : WV} (h : DFit ks Y) {i : Nat} {u : UnV} (hu : Y.us[i]? = some u) : DFit ks (bringW Y i u) := by
  obtain ⟨⟨kn, k, e1, e2, l1, l2, l3⟩, ⟨an, e3, hal⟩, pn, e4, hpl⟩ := h.units u (List.mem_of_getElem? hu)
  have hlen : (bringW Y i u).gold.length = Y.gold.length := by simp [bringW]
  refine ⟨h.wide, fun v hv => ?_, fun g hg => ?_, by simpa [bringW] using h.ul⟩
  · rw [hlen]
    rcases List.mem_or_eq_of_mem_set hv with hv | rfl
    · exact h.units v hv
    · exact ⟨⟨kn, k, e1, e2, by show (0 : Int) ≤ 0; omega, by show (0 : Int) ≤ k.n7; omega, l3⟩, ⟨an, e3, hal⟩, pn, e4, hpl⟩
  · rcases List.mem_or_eq_of_mem_set hg with hg | rfl
    · exact h.gold g hg
    · have : Y.gold.getD u.player.toNat 0 ∈ Y.gold := by
        rw [e4, Int.toNat_natCast, List.getD_eq_getElem?_getD, List.getElem?_eq_getElem hpl]
        exact List.getElem_mem hpl
      have := h.gold _ this
      omega
/-- what bringing leaves as it was. -/
def BrK (Y Z : WV) : Prop := Z.turn = Y.turn ∧ Z.next = Y.next ∧ Z.wide = Y.wide ∧ Z.high = Y.high ∧ Z.gs = Y.gs ∧ Z.os = Y.os ∧ Z.qs = Y.qs ∧ Z.us.length = Y.us.length ∧ Z.gold.length = Y.gold.length
theorem br_evs {ks : List KV} {Wn Hn : Nat} {Y : WV} : ∀ q, (br ks Wn Hn Y q).2.length ≤ q
  | 0 => by simp [br]
  | q + 1 => by
    have ih := br_evs (ks := ks) (Wn := Wn) (Hn := Hn) (Y := Y) q
    cases hu : (br ks Wn Hn Y q).1.us[q]? with
    | none => rw [br]; simp only [hu]; omega
    | some u =>
      cases h : brings ks Wn Hn (br ks Wn Hn Y q).1 u with
      | true => rw [br_yes hu h]; simp; omega
      | false => rw [br_no hu h]; omega
structure BrS (ks : List KV) (Y Z : WV) (es : List EvV) (b1 b : Nat) (w : World) (u1 u2 u3 u4 u5 ev : Value) (V : World) : Prop where
  o1 : Ow V b1 u1 Z.gs
  o2 : Ow V b1 u2 Z.os
  o3 : Ow V b1 u3 Z.gold
  o4 : Uno V b1 u4 Z.us
  o5 : Jbo V b1 u5 Z.qs
  e : Evo V b ev es
  d : [u1, u2, u3, u4, u5].Pairwise Dif
  fr : Fr (fun q => u3.ownBlock = some q ∨ u4.ownBlock = some q) w V
  k : BrK Y Z
  f : DFit ks Z
section
variable {ks : List KV} {Y Z : WV} {es : List EvV} {b1 b : Nat} {w : World} {u1 u2 u3 u4 u5 ev : Value} {V V' : World}
theorem BrS.below (h : BrS ks Y Z es b1 b w u1 u2 u3 u4 u5 ev V) (hb : Below V.heap.size V V') : BrS ks Y Z es b1 b w u1 u2 u3 u4 u5 ev V' :=
  ⟨h.o1.below hb, h.o2.below hb, h.o3.below hb, h.o4.below hb, h.o5.below hb, h.e.below hb, h.d, h.fr.trans (Fr.below hb), h.k, h.f⟩
theorem BrS.wl (h : BrS ks Y Z es b1 b w u1 u2 u3 u4 u5 ev V) : Wl V (.agg #[.int .i64 Y.turn, .int .i64 Y.next, .int .i64 Y.wide, .int .i64 Y.high, u1, u2, u3, u4, u5]) Z := by
  obtain ⟨a1, a2, a3, a4, -⟩ := h.k
  exact ⟨u1, u2, u3, u4, u5, by rw [a1, a2, a3, a4], h.o1.ro, h.o2.ro, h.o3.ro, h.o4.l, h.o5.l⟩
theorem BrS.difs (h : BrS ks Y Z es b1 b w u1 u2 u3 u4 u5 ev V) : (Dif u1 u2 ∧ Dif u1 u3 ∧ Dif u1 u4 ∧ Dif u1 u5) ∧ (Dif u2 u3 ∧ Dif u2 u4 ∧ Dif u2 u5) ∧ (Dif u3 u4 ∧ Dif u3 u5) ∧ Dif u4 u5 := by
  have := h.d
  simp only [List.pairwise_cons, List.mem_cons, List.not_mem_nil, or_false, forall_eq_or_imp, forall_eq] at this
  obtain ⟨⟨a1, a2, a3, a4⟩, ⟨b1, b2, b3⟩, ⟨c1, c2⟩, d1, -⟩ := this
  exact ⟨⟨a1, a2, a3, a4⟩, ⟨b1, b2, b3⟩, ⟨c1, c2⟩, d1⟩
theorem BrS.bring {gu gg cu cg i : Nat} {ur : List Value} {gr : Array Value} {u : UnV} {ev' : Value} (h : BrS ks Y Z es b1 b w u1 u2 (.slice (some ⟨gg, 0, none⟩) Y.gold.length cg) (.slice (some ⟨gu, 0, none⟩) Y.us.length cu) u5 ev V) (hwb : w.heap.size = b)
    (hl : ∀ x ∈ [u1, u2, u5], ∀ k, x.ownBlock = some k → k < b) (hgu : b1 ≤ gu) (c1 : Y.us.length ≤ cu) (c2 : cu ≤ maxLen) (c3 : Y.us.length * 8 + ur.length = cu * 8) (hgg : b1 ≤ gg) (d1 : Y.gold.length ≤ cg) (d2 : cg ≤ maxLen) (d3 : Y.gold.length + gr.size = cg)
    (hu : Z.us[i]? = some u) (hub : Ub V' gu (bringW Z i u).us ur) (hbk : Bk V' gg (bringW Z i u).gold gr) (he : Evo V' b ev' (es ++ [⟨5, u.id, u.load⟩])) (hf : Fr (fun q => q = gu ∨ q = gg ∨ ev.ownBlock = some q) V V') :
    BrS ks Y (bringW Z i u) (es ++ [⟨5, u.id, u.load⟩]) b1 b w u1 u2 (.slice (some ⟨gg, 0, none⟩) Y.gold.length cg) (.slice (some ⟨gu, 0, none⟩) Y.us.length cu) u5 ev' V' := by
  obtain ⟨⟨d12, d13, d14, d15⟩, ⟨d23, d24, d25⟩, ⟨d34, d35⟩, d45⟩ := h.difs
  have owu : (Value.slice (some ⟨gu, 0, none⟩) Y.us.length cu).ownBlock = some gu := rfl
  have owg : (Value.slice (some ⟨gg, 0, none⟩) Y.gold.length cg).ownBlock = some gg := rfl
  have no : ∀ x ∈ [u1, u2, u5], Dif x (.slice (some ⟨gg, 0, none⟩) Y.gold.length cg) → Dif x (.slice (some ⟨gu, 0, none⟩) Y.us.length cu) → ∀ q, x.ownBlock = some q → ¬ (q = gu ∨ q = gg ∨ ev.ownBlock = some q) := fun x hx e2 e4 q hq hs => by
    rcases hs with e | e | e
    · exact e4 q hq (by rw [owu, e])
    · exact e2 q hq (by rw [owg, e])
    · have h8 := (h.e.block q e).1; have h9 := hl x hx q hq; omega
  have k' : BrK Y (bringW Z i u) := by
    obtain ⟨a1, a2, a3, a4, a5, a6, a7, a8, a9⟩ := h.k
    exact ⟨a1, a2, a3, a4, a5, a6, a7, by simpa [bringW] using a8, by simpa [bringW] using a9⟩
  refine ⟨hf.own h.o1 (no u1 (by simp) d13 d14), hf.own h.o2 (no u2 (by simp) d23 d24), ?_, ?_, hf.own h.o5 (no u5 (by simp) d35.symm d45.symm), he, h.d, ?_, k', h.f.bring hu⟩
  · have := hbk.ow (base := b1) (cap := cg) hgg (by rw [k'.2.2.2.2.2.2.2.2]; exact d1) d2 (by rw [k'.2.2.2.2.2.2.2.2]; exact d3)
    rw [k'.2.2.2.2.2.2.2.2] at this
    exact this
  · have := hub.uno (base := b1) (cap := cu) hgu (by rw [k'.2.2.2.2.2.2.2.1]; exact c1) c2 (by rw [k'.2.2.2.2.2.2.2.1]; exact c3)
    rw [k'.2.2.2.2.2.2.2.1] at this
    exact this
  · refine ⟨hf.os.trans h.fr.os, hf.tape.trans h.fr.tape, hf.output.trans h.fr.output, Nat.le_trans h.fr.size hf.size, fun q hq hn => (hf.block q (Nat.lt_of_lt_of_le hq h.fr.size) (fun e => ?_)).trans (h.fr.block q hq hn)⟩
    rcases e with e | e | e
    · exact hn (.inr (by rw [owu, e]))
    · exact hn (.inl (by rw [owg, e]))
    · have := (h.e.block q e).1; omega
end
end Go.Proofs.YteieikgkmfglaaaGreatDoor

namespace Go.Proofs.YteieikgkmfglaaaGreatDoor
open Go.RowKit
set_option linter.unusedVariables false

theorem made_ints (n : Nat) : madeCells #[Value.int .i64 0] n = (intCells (List.replicate n 0)).toArray := by
  apply Array.ext_getElem?
  intro i
  unfold madeCells intCells
  by_cases h : i < n
  · simp [h, Nat.mod_one]
  · simp [h]
theorem makeI (n : Nat) (w : World) (h : n ≤ 1000000) : ∃ w', (Instr.makeSlice 23 (.int .i64 (n : Nat)) (.int .i64 (n : Nat))).run Tryz.prog w = .ok (.slice (some ⟨w.heap.size, 0, none⟩) n n) w' ∧ Bk w' w.heap.size (List.replicate n 0) #[] ∧ Below w.heap.size w w' ∧ w'.heap.size = w.heap.size + 1 := by
  obtain ⟨i0, hi, hz0, hz1, hz2⟩ := info_parts info_int
  have hr := run_make (P := Tryz.prog) w 23 3 i0 (.int .i64 0) Tryz.underlying23 hi hz0 .i64 .i64 (n : Nat) (n : Nat) (by omega) (Int.le_refl _) (by rw [hz2]; omega) (by omega)
  refine ⟨_, hr, ?_, (Below.refl _ _).alloc (Nat.le_refl _) _, by simp⟩
  unfold Bk
  rw [hz1, Int.toNat_natCast, Nat.mul_one, heap_alloc_new]
  have e : (Value.int .i64 0).cells = #[Value.int .i64 0] := rfl
  rw [e, made_ints, Array.append_empty]
end Go.Proofs.YteieikgkmfglaaaGreatDoor

namespace Go.Proofs.YteieikgkmfglaaaGreatDoor
open Go.RowKit
set_option linter.unusedVariables false

/-- one more event: the run itself. -/
theorem run_ev (w : World) (ty : TypeId) (base : Nat) (v : Value) (ks : List EvV) (hown : Evo w base v ks) (b : Nat) (d : EvV) (hd : Evc w ⟨b, 0, none⟩ d) (hl : ks.length ≤ 1000000) (hbase : base ≤ w.heap.size) :
    ∃ g cap w', (Builtin.append_ #[31, 31] ty #[v, .slice (some ⟨b, 0, none⟩) 1 1]).run Tryz.prog w = .ok (.slice (some ⟨g, 0, none⟩) (ks.length + 1) cap) w' ∧ Evo w' base (.slice (some ⟨g, 0, none⟩) (ks.length + 1) cap) (ks ++ [d]) ∧ w.grownBy w' v.ownBlock ∧ (v.ownBlock = some g ∨ g = w.heap.size) ∧ g < w'.heap.size := by
  obtain ⟨i0, hi, hz0, hz1, hz2⟩ := info_parts info_ev
  obtain ⟨g, cap, w6, hr, ho6, hg6, ha6, hl6⟩ := run_append_lies (P := Tryz.prog) w 31 31 base 73 i0 _ 3 24 Tryz.underlying31 hi hz0 hz1 hz2 rfl (by decide) v ks.length _ hown ⟨b, 0, none⟩ 1 1 (EvV.cs d) rfl (fun j u hj => by
    have hjn : j < 3 := (List.getElem?_eq_some_iff.1 hj).1
    rw [Addr.add_lit, Nat.zero_add]
    match j, hjn, hj with
    | 0, _, hj => simp [EvV.cs] at hj; subst hj; exact hd.c0
    | 1, _, hj => simp [EvV.cs] at hj; subst hj; exact hd.c1
    | 2, _, hj => simp [EvV.cs] at hj; subst hj; exact hd.c2) (fun u hu => by
    simp [EvV.cs] at hu
    rcases hu with rfl | rfl | rfl <;> rfl) (by decide) (by unfold maxLen; omega) (by omega) hbase _ rfl
  refine ⟨g, cap, w6, hr, ?_, hg6, ha6, hl6⟩
  unfold Evo
  rw [List.length_append, List.flatMap_append]
  simpa using ho6
end Go.Proofs.YteieikgkmfglaaaGreatDoor

