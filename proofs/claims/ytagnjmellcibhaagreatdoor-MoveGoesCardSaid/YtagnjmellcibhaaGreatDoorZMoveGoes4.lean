/- move.isDone and move.aim. · Lands: the next cell on a way. · The calls of package path: the way. · Worlds: what is wrong with one. Plain mathematics. · world.within. · Worlds: a unit by its id; whether a list has one of that number. · Worlds: whether one may stand on a cell. · A region whose operations read, and call what makes memory, ahead of a tail in one order: it may be walked in the text's order. · Worlds: what is wrong with a unit. · Worlds: what is wrong with a job. · The program's kinds: a number within bounds, where a name is. · The program's kinds: their numbers, and whether these are within bounds. · A name's letters, asked rune by rune. Plain mathematics. · The program's kinds: what is a name; what is wrong with one kind, those ahead being right. · The program's kinds: what is wrong with some; the number of a name. · Worlds: what is wrong with what one lies on, and with its numbers. · Worlds: Check. · Slices of api.Job: a whole list behind another one. -/
import Derived.Test.YtagnjmellcibhaaGreatDoorZMoveGoes3
import Derived.Test.YtagnjmellcibhaaGreatDoorZMoveGoes1
import Derived.Test.YtagnjmellcibhaaGreatDoorZMoveGoes2
import Derived.StillTail
import Derived.Below
import Derived.BigQuiet
import Derived.BigRegion
import Derived.Deep.DeepCutAuto
import Derived.Laws.Closers25
import Derived.IntWalk
import Derived.Shelf.GgClosure.StringsIndexFunc
import Derived.Test.YtagnjmellcibhaaGreatDoorShelf
namespace Go.Proofs.YtagnjmellcibhaaGreatDoor
open Go.RowKit
set_option linter.unusedVariables false

/-- the boxes of a world and a unit. -/
structure Am (w V : World) (X : WV) (u1 u2 u3 u4 u5 : Value) (u : UnV) : Prop where
  b : Below w.heap.size w V
  x : Bw V w.heap.size X u1 u2 u3 u4 u5
  u : Unc V ⟨w.heap.size + 1, 0, none⟩ u
theorem Am.below {w V V' : World} {X : WV} {u1 u2 u3 u4 u5 : Value} {u : UnV} (h : Am w V X u1 u2 u3 u4 u5 u) (hb : Below V.heap.size V V') : Am w V' X u1 u2 u3 u4 u5 u :=
  ⟨h.b.trans (hb.mono h.b.size), h.x.below hb h.x.lt, h.u.below hb h.u.lt⟩
theorem Am.new {w : World} (X : WV) (u1 u2 u3 u4 u5 : Value) (u : UnV) : Am w ((w.alloc (Obj.cells #[.int .i64 X.turn, .int .i64 X.next, .int .i64 X.wide, .int .i64 X.high, u1, u2, u3, u4, u5] 29)).alloc (Obj.cells #[.int .i64 u.id, .int .i64 u.player, .int .i64 u.kind, .int .i64 u.at_, .int .i64 u.life, .int .i64 u.load, .int .i64 u.task, .int .i64 u.goal] 59)) X u1 u2 u3 u4 u5 u :=
  ⟨((Below.refl _ _).alloc (Nat.le_refl _) _).alloc (by simp) _, (Bw.mk' X _ _ _ _ _ rfl).below ((Below.refl _ _).alloc (Nat.le_refl _) _) (by simp), Unc.mk' u (by simp)⟩
/-- it has nothing to take at its Goal. -/
def doneU (os : List Int) (u : UnV) (k : KV) : Bool := (u.load == k.n7) || (os.getD u.goal.toNat 0 == 0)

set_option maxRecDepth 100000 in
set_option maxHeartbeats 2000000 in
theorem isdone_any (vk vw : Value) (ks : List KV) (X : WV) (u : UnV) (k : KV) (w : World) (hk : Kl w vk ks) (hw : Wl w vw X) (h1 : 0 ≤ u.kind ∧ u.kind < (ks.length : Int)) (hk' : ks[u.kind.toNat]? = some k) (h2 : 0 ≤ u.goal ∧ u.goal < (X.os.length : Int)) :
    Calls Tryz.prog 103 #[vk, vw, u.val] w fun e w' => e = .returned (.bool (doneU X.os u k)) ∧ Below w.heap.size w w' := by
  obtain ⟨kn, hkn⟩ : ∃ n : Nat, u.kind = n := ⟨u.kind.toNat, by omega⟩
  obtain ⟨gn, hgn⟩ : ∃ n : Nat, u.goal = n := ⟨u.goal.toNat, by omega⟩
  have hkl : kn < ks.length := by omega
  have hgl : gn < X.os.length := by omega
  have hkk : ks[kn]? = some k := by rw [hkn, Int.toNat_natCast] at hk'; exact hk'
  have DU : Hid (doneU X.os u k = ((u.load == k.n7) || (X.os[gn] == 0))) := by unfold Hid doneU; rw [hgn, Int.toNat_natCast, List.getD_eq_getElem?_getD, List.getElem?_eq_getElem hgl]; rfl
  have H : Hid (Wl w vw X) := hw
  obtain ⟨p1, q1, p2, q2, p3, q3, p4, q4, p5, q5, rfl⟩ := wl_shape9 hw
  obtain ⟨pk, qk, rfl, ck1, ck2, kc⟩ := hk
  obtain ⟨xk, rfl, hxl, hxc⟩ := kc (by intro h; subst h; simp at hkl)
  have KK : Hid (Kc w (xk.add (kn * 11)) k ∧ (xk.add (kn * 11)).block < w.heap.size) := ⟨hxc kn k hkk, by rw [add_block]; exact hxl⟩
  have HE : Hid (u.kind = (kn : Nat) ∧ u.goal = (gn : Nat)) := ⟨hkn, hgn⟩
  clear hw h1 hk' h2 hkn hgn kc hxc hxl hkk
  unfold UnV.val
  go_enter Tryz.func103, Tryz.ntmps103
  go_upto_region 1 with fail
  have A0 : Hid (Am w ((w.alloc (Obj.cells #[.int .i64 X.turn, .int .i64 X.next, .int .i64 X.wide, .int .i64 X.high, .slice p1 X.gs.length q1, .slice p2 X.os.length q2, .slice p3 X.gold.length q3, .slice p4 X.us.length q4, .slice p5 X.qs.length q5] 29)).alloc (Obj.cells #[.int .i64 u.id, .int .i64 u.player, .int .i64 u.kind, .int .i64 u.at_, .int .i64 u.life, .int .i64 u.load, .int .i64 u.task, .int .i64 u.goal] 59)) X (.slice p1 X.gs.length q1) (.slice p2 X.os.length q2) (.slice p3 X.gold.length q3) (.slice p4 X.us.length q4) (.slice p5 X.qs.length q5) u) := Am.new X _ _ _ _ _ u
  generalize ((w.alloc (Obj.cells #[.int .i64 X.turn, .int .i64 X.next, .int .i64 X.wide, .int .i64 X.high, .slice p1 X.gs.length q1, .slice p2 X.os.length q2, .slice p3 X.gold.length q3, .slice p4 X.us.length q4, .slice p5 X.qs.length q5] 29)).alloc (Obj.cells #[.int .i64 u.id, .int .i64 u.player, .int .i64 u.kind, .int .i64 u.at_, .int .i64 u.life, .int .i64 u.load, .int .i64 u.task, .int .i64 u.goal] 59)) = w0 at *
  obtain ⟨x0, x1, x2, x3, x4, x5, x6, x7, x8⟩ := A0.out.x
  obtain ⟨y0, y1, y2, y3, y4, y5, y6, y7⟩ := A0.out.u
  rw [HE.out.1] at y2
  rw [HE.out.2] at y7
  have c8 := (KK.out.1.below A0.out.b KK.out.2).c8
  obtain ⟨ao, co, he, -, -, hoc⟩ := (H.out.below A0.out.b).slices.2.1
  obtain ⟨xo, hxo, -, hoc2⟩ := hoc (by intro h; rw [h] at hgl; simp at hgl)
  injection he with he1 he2 he3
  subst he1
  subst hxo
  have cg : w0.cell? (xo.add gn) = some (.int .i64 X.os[gn])   := hoc2 gn _ (List.getElem?_eq_getElem hgl)
  clear hoc hoc2 he2 he3
  have BB : Hid (Below w.heap.size w w0) := A0.out.b
  by_cases hd : u.load = k.n7
  · have D1 : Hid (doneU X.os u k = true) := by unfold Hid; rw [DU.out, hd]; simp
    rw [hd] at y5
    go_quiet (fail)
    go_wp2
    go_ret
    exact ⟨by rw [D1.out]; rfl, ⟨BB.out.os, BB.out.tape, BB.out.output, BB.out.size, BB.out.block⟩⟩
  · have hd' : (u.load == k.n7) = false := by rw [beq_eq_false_iff_ne]; exact hd
    by_cases hg : X.os[gn] = 0
    · have D1 : Hid (doneU X.os u k = true) := by unfold Hid; rw [DU.out, hg]; simp
      rw [hg] at cg
      go_quiet (fail)
      go_wp2
      go_ret
      exact ⟨by rw [D1.out]; rfl, ⟨BB.out.os, BB.out.tape, BB.out.output, BB.out.size, BB.out.block⟩⟩
    · have hg' : (X.os[gn] == 0) = false := by rw [beq_eq_false_iff_ne]; exact hg
      have D1 : Hid (doneU X.os u k = false) := by unfold Hid; rw [DU.out, hd', hg']; rfl
      go_quiet (fail)
      go_wp2
      go_ret
      exact ⟨by rw [D1.out]; first | rfl | simp [hg'], ⟨BB.out.os, BB.out.tape, BB.out.output, BB.out.size, BB.out.block⟩⟩

/-- the cell to which a unit is on its way. -/
def AimSays (ks : List KV) (X : WV) (Wn Hn : Nat) (u : UnV) (k : KV) (c : Int) : Prop :=
  (u.task = 0 ∧ c = u.at_) ∨ (u.task ≠ 0 ∧ ¬ (u.task = 2 ∧ doneU X.os u k = true) ∧ c = u.goal) ∨
    (u.task = 2 ∧ doneU X.os u k = true ∧ ∃ l, (Wy.IsFar (Fd.near Wn Hn) (fun i _ => (X.gs.map fun g => Fd.onto g k.f).getD i 0) u.at_.toNat (Wn * Hn) l ∧ Wy.Flat l) ∧ c = homeAt ks X.us l u)
set_option maxRecDepth 100000 in
set_option maxHeartbeats 2000000 in
theorem aim_any (vk vw : Value) (ks : List KV) (X : WV) (u : UnV) (Wn Hn : Nat) (k : KV) (w : World) (hk : Kl w vk ks) (hw : Wl w vw X) (hs : Sd w) (G : Fd.Good Wn Hn X.gs X.os) (e1 : X.wide = (Wn : Nat)) (e2 : X.high = (Hn : Nat)) (hl : X.us.length ≤ 1000000)
    (hu : Fit ks (Wn * Hn) u) (hk' : ks[u.kind.toNat]? = some k) (hus : ∀ h ∈ X.us, Fit ks (Wn * Hn) h) (hg : 0 ≤ u.goal ∧ u.goal < (Wn * Hn : Nat)) :
    Calls Tryz.prog 82 #[vk, vw, u.val] w fun e w' => ∃ c, e = .returned (.int .i64 c) ∧ AimSays ks X Wn Hn u k c ∧ Below w.heap.size w w' := by
  have H : Hid (Wl w vw X) := hw
  have K : Hid (Kl w vk ks) := hk
  have S : Hid (Sd w) := hs
  have GD : Hid (Fd.Good Wn Hn X.gs X.os ∧ X.wide = (Wn : Nat) ∧ X.high = (Hn : Nat) ∧ X.us.length ≤ 1000000 ∧ Fit ks (Wn * Hn) u ∧ ks[u.kind.toNat]? = some k ∧ (∀ h ∈ X.us, Fit ks (Wn * Hn) h) ∧ 0 ≤ u.goal ∧ u.goal < (X.os.length : Int)) := ⟨G, e1, e2, hl, hu, hk', hus, hg.1, by rw [G.ol]; exact hg.2⟩
  obtain ⟨p1, q1, p2, q2, p3, q3, p4, q4, p5, q5, rfl⟩ := wl_shape9 hw
  obtain ⟨pk, qk, rfl, ck1, ck2, -⟩ := hk
  clear hw hs G e1 e2 hl hu hk' hus hg
  have UV : Hid (u.val = .agg #[.int .i64 u.id, .int .i64 u.player, .int .i64 u.kind, .int .i64 u.at_, .int .i64 u.life, .int .i64 u.load, .int .i64 u.task, .int .i64 u.goal]) := rfl
  rw [UV.out]
  go_enter Tryz.func82, Tryz.ntmps82
  go_upto_region 1 with fail
  have A0 : Hid (Am w ((w.alloc (Obj.cells #[.int .i64 X.turn, .int .i64 X.next, .int .i64 X.wide, .int .i64 X.high, .slice p1 X.gs.length q1, .slice p2 X.os.length q2, .slice p3 X.gold.length q3, .slice p4 X.us.length q4, .slice p5 X.qs.length q5] 29)).alloc (Obj.cells #[.int .i64 u.id, .int .i64 u.player, .int .i64 u.kind, .int .i64 u.at_, .int .i64 u.life, .int .i64 u.load, .int .i64 u.task, .int .i64 u.goal] 59)) X (.slice p1 X.gs.length q1) (.slice p2 X.os.length q2) (.slice p3 X.gold.length q3) (.slice p4 X.us.length q4) (.slice p5 X.qs.length q5) u) := Am.new X _ _ _ _ _ u
  generalize ((w.alloc (Obj.cells #[.int .i64 X.turn, .int .i64 X.next, .int .i64 X.wide, .int .i64 X.high, .slice p1 X.gs.length q1, .slice p2 X.os.length q2, .slice p3 X.gold.length q3, .slice p4 X.us.length q4, .slice p5 X.qs.length q5] 29)).alloc (Obj.cells #[.int .i64 u.id, .int .i64 u.player, .int .i64 u.kind, .int .i64 u.at_, .int .i64 u.life, .int .i64 u.load, .int .i64 u.task, .int .i64 u.goal] 59)) = w0 at *
  obtain ⟨x0, x1, x2, x3, x4, x5, x6, x7, x8⟩ := A0.out.x
  obtain ⟨y0, y1, y2, y3, y4, y5, y6, y7⟩ := A0.out.u
  by_cases h0 : u.task = 0
  · have T0 : Hid (u.task = 0) := h0
    rw [h0] at y6
    clear h0
    go_wp2
    go_ret
    exact ⟨u.at_, rfl, .inl ⟨T0.out, rfl⟩, A0.out.b⟩
  have T0 : Hid (u.task ≠ 0) := h0
  have h0' : (u.task == 0) = false := by rw [beq_eq_false_iff_ne]; exact h0
  by_cases h2 : u.task = 2
  · have T2 : Hid (u.task = 2) := h2
    have h2' : (u.task == 2) = true := by rw [h2]; rfl
    clear h0 h2
    have ID : Hid (Calls Tryz.prog 103 #[.slice pk ks.length qk, .agg #[.int .i64 X.turn, .int .i64 X.next, .int .i64 X.wide, .int .i64 X.high, .slice p1 X.gs.length q1, .slice p2 X.os.length q2, .slice p3 X.gold.length q3, .slice p4 X.us.length q4, .slice p5 X.qs.length q5], .agg #[.int .i64 u.id, .int .i64 u.player, .int .i64 u.kind, .int .i64 u.at_, .int .i64 u.life, .int .i64 u.load, .int .i64 u.task, .int .i64 u.goal]] w0 fun e w' => e = .returned (.bool (doneU X.os u k)) ∧ Below w0.heap.size w0 w') := by
      have h := isdone_any _ _ ks X u k w0 (K.out.below A0.out.b) (H.out.below A0.out.b) GD.out.2.2.2.2.1.1 GD.out.2.2.2.2.2.1 GD.out.2.2.2.2.2.2.2
      rw [UV.out] at h
      exact h
    go_wp2_with fail
    refine Calls.mono ID.out ?_
    rintro e w1 ⟨rfl, hb⟩
    have A1 : Hid (Am w w1 X (.slice p1 X.gs.length q1) (.slice p2 X.os.length q2) (.slice p3 X.gold.length q3) (.slice p4 X.us.length q4) (.slice p5 X.qs.length q5) u) := A0.out.below hb
    obtain ⟨dn, hdn⟩ : ∃ d, doneU X.os u k = d := ⟨_, rfl⟩
    have DN : Hid (doneU X.os u k = dn) := hdn
    rw [hdn]
    clear hb hdn A0 x0 x1 x2 x3 x4 x5 x6 x7 x8 y0 y1 y2 y3 y4 y5 y6 y7
    obtain ⟨x0, x1, x2, x3, x4, x5, x6, x7, x8⟩ := A1.out.x
    obtain ⟨y0, y1, y2, y3, y4, y5, y6, y7⟩ := A1.out.u
    cases dn with
    | true =>
      have hh := home_any _ _ ks X u Wn Hn k w1 (K.out.below A1.out.b) (H.out.below A1.out.b) (S.out.below A1.out.b) GD.out.1 GD.out.2.1 GD.out.2.2.1 GD.out.2.2.2.1 GD.out.2.2.2.2.1 GD.out.2.2.2.2.2.1 GD.out.2.2.2.2.2.2.1
      rw [UV.out] at hh
      have HH : Hid _ := hh
      clear hh
      go_wp2_with fail
      refine Calls.mono HH.out ?_
      rintro e w2 ⟨l, rfl, hf, hb⟩
      have F : Hid (AimSays ks X Wn Hn u k (homeAt ks X.us l u)) := .inr (.inr ⟨T2.out, DN.out, l, hf, rfl⟩)
      have B2 : Hid (Below w.heap.size w w2) := A1.out.b.trans (hb.mono A1.out.b.size)
      obtain ⟨c, hc⟩ : ∃ c, homeAt ks X.us l u = c := ⟨_, rfl⟩
      rw [hc] at F ⊢
      clear hb hf hc x0 x1 x2 x3 x4 x5 x6 x7 x8 y0 y1 y2 y3 y4 y5 y6 y7
      go_wp2
      go_ret
      exact ⟨c, rfl, F.out, B2.out⟩
    | false =>
      go_wp2
      go_ret
      exact ⟨u.goal, rfl, .inr (.inl ⟨T0.out, fun h => (by have h9 := h.2; rw [DN.out] at h9; cases h9), rfl⟩), A1.out.b⟩
  · have h2' : (u.task == 2) = false := by rw [beq_eq_false_iff_ne]; exact h2
    have T2 : Hid (u.task ≠ 2) := h2
    clear h0 h2
    go_wp2
    go_ret
    exact ⟨u.goal, rfl, .inr (.inl ⟨T0.out, fun h => T2.out h.1, rfl⟩), A0.out.b⟩
end Go.Proofs.YtagnjmellcibhaaGreatDoor

namespace Go.Proofs.YtagnjmellcibhaaGreatDoor
open Go.RowKit Wy
set_option linter.unusedVariables false

theorem enter_next : ∀ args w, (callFunc 133 args).run Tryz.prog w = .ok (.enter 133 args) w := by
  intro args w
  go_simp

theorem get_some {l : List Int} {i n : Nat} (hl : l.length = n) (h : i < n) : l[i]? = some (l.getD i 0) := by rw [List.getD_eq_getElem?_getD, List.getElem?_eq_getElem (by omega)]; rfl

set_option maxHeartbeats 2000000 in
theorem pn_any (z1 z2 z3 n : Nat) (u1 u2 uf : Value) (ss l : List Int) (i x : Nat) (w : World) (X : Bl w z1 u1 u2) (hu : Ro w u2 ss) (hf : Ro w uf l) (hl : ss.length = n) (hm : l.length = n) (c2 : w.cell? ⟨z2, 0, none⟩ = some uf) (c3 : w.cell? ⟨z3, 0, none⟩ = some (.int .i64 (i : Nat)))
    (hi : i < n) (hx : x < n) (hn : n ≤ 144) (bs : ∀ j, ss.getD j 0 ≤ 2) (bl : ∀ j, l.getD j 0 ≤ 288) :
    Calls Tryz.prog 133 #[.int .i64 (x : Nat), .pointer (some ⟨z1, 0, none⟩), .pointer (some ⟨z2, 0, none⟩), .pointer (some ⟨z3, 0, none⟩)] w fun e w' => e = .returned (.bool (pn ss l i x)) ∧ ∃ q, w' = w.drewN q := by
  obtain ⟨a, c, rfl, e1, e2, ca⟩ := hu
  obtain ⟨a', c', rfl, e1', e2', ca'⟩ := hf
  obtain ⟨y, rfl, -, hy⟩ := ca (by intro e; rw [e] at hl; simp at hl; omega)
  obtain ⟨y', rfl, -, hy'⟩ := ca' (by intro e; rw [e] at hm; simp at hm; omega)
  have cs := hy x _ (get_some hl hx)
  have cd := hy' x _ (get_some hm hx)
  have ce := hy' i _ (get_some hm hi)
  have P : Hid (pn ss l i x = (decide (0 < ss.getD x 0) && (decide (0 ≤ l.getD x 0) && decide (ss.getD x 0 + l.getD x 0 = l.getD i 0)))) := by unfold Hid pn; rw [Int.toNat_natCast]
  have b1 := bs x
  have b2 := bl x
  have x1 := X.c1
  rw [hl] at e1 x1
  rw [hm] at e1' c2
  generalize ss.getD x 0 = s at *
  generalize l.getD x 0 = d at *
  generalize l.getD i 0 = f at *
  clear hy hy' ca ca' X hl hm bs bl
  by_cases h1 : 0 < s
  · by_cases h2 : 0 ≤ d
    · by_cases h3 : s + d = f
      · have R : Hid (pn ss l i x = true) := by unfold Hid; rw [P.out, decide_eq_true h1, decide_eq_true h2, decide_eq_true h3]; rfl
        clear P
        go_enter Tryz.func133, Tryz.ntmps133
        go_wp2
        go_quiet (fail)
        go_wp2
        go_ret
        exact ⟨by rw [R.out]; rfl, _, rfl⟩
      · have R : Hid (pn ss l i x = false) := by unfold Hid; rw [P.out, decide_eq_true h1, decide_eq_true h2, decide_eq_false h3]; rfl
        have h3' : (s + d == f) = false := by simpa using h3
        clear P
        go_enter Tryz.func133, Tryz.ntmps133
        go_wp2
        go_quiet (fail)
        go_wp2
        go_ret
        exact ⟨by rw [R.out]; rfl, _, rfl⟩
    · have R : Hid (pn ss l i x = false) := by unfold Hid; rw [P.out, decide_eq_true h1, decide_eq_false h2]; rfl
      have h2' : decide (0 ≤ d) = false := decide_eq_false h2
      clear P
      go_enter Tryz.func133, Tryz.ntmps133
      go_wp2
      go_quiet (fail)
      go_wp2
      go_ret
      exact ⟨by rw [R.out]; rfl, _, rfl⟩
  · have R : Hid (pn ss l i x = false) := by unfold Hid; rw [P.out, decide_eq_false h1]; rfl
    have h1' : decide (0 < s) = false := decide_eq_false h1
    clear P
    go_enter Tryz.func133, Tryz.ntmps133
    go_wp2
    go_quiet (fail)
    go_wp2
    go_ret
    exact ⟨by rw [R.out]; rfl, _, rfl⟩

set_option maxHeartbeats 2000000 in
theorem next_ok (v uf : Value) (n i : Nat) (nb : Nat → List Int) (ss l : List Int) (w : World) (h : Ld w v n nb ss) (hf : Ro w uf l) (hm : l.length = n) (hi : i < n) (hn : n ≤ 144) (bs : ∀ j, ss.getD j 0 ≤ 2) (bl : ∀ j, l.getD j 0 ≤ 288)
    (E : ∀ x, x ∈ nb i → ∃ j : Nat, x = j ∧ j < n) (hx : ∃ x ∈ nb i, pn ss l i x = true) :
    Calls Tryz.prog 121 #[v, uf, .int .i64 (i : Nat)] w fun e w' => ∃ j : Nat, e = .returned (.int .i64 (j : Nat)) ∧ j < n ∧ Nx nb ss l i j ∧ Below w.heap.size w w' := by
  obtain ⟨r, hr⟩ := fst_ex (pn ss l i) (nb i)
  obtain ⟨k, j, rfl, hj, hk, hN⟩ := fst_nx E hr hx
  have HN : Hid (j < n ∧ Nx nb ss l i j) := ⟨hj, hN⟩
  obtain ⟨u1, u2, rfl, ⟨x, c, rfl, c1, c2, hb⟩, hr2, hl⟩ := h
  obtain ⟨ui, hui, hri⟩ := hb i hi
  have k0 : w.heap.size ≤ w.heap.size := Nat.le_refl _
  generalize hw1 : w.alloc (Obj.cells #[.slice (some x) n c, u2] 165) = w1
  have b1 : Below w.heap.size w w1 := by rw [← hw1]; exact (Below.refl _ _).alloc (Nat.le_refl _) _
  have X1 : Bl w1 w.heap.size (.slice (some x) n c) u2 := by rw [← hw1]; exact Bl.mk' _ _ rfl
  have z1 : w1.heap.size = w.heap.size + 1 := by rw [← hw1]; simp
  generalize hw2 : w1.alloc (Obj.cells #[uf] 23) = w2
  have b2 : Below w1.heap.size w1 w2 := by rw [← hw2]; exact (Below.refl _ _).alloc (Nat.le_refl _) _
  have d2 : w2.cell? ⟨w.heap.size + 1, 0, none⟩ = some uf := by rw [← hw2, ← z1]; simp
  have z2 : w2.heap.size = w.heap.size + 1 + 1 := by rw [← hw2]; simp [z1]
  generalize hw3 : w2.alloc (Obj.cells #[.int .i64 (i : Nat)] 3) = w3
  have b3 : Below w2.heap.size w2 w3 := by rw [← hw3]; exact (Below.refl _ _).alloc (Nat.le_refl _) _
  have d3 : w3.cell? ⟨w.heap.size + 1 + 1, 0, none⟩ = some (.int .i64 (i : Nat)) := by rw [← hw3, ← z2]; simp
  have b03 : Below w.heap.size w w3 := (b1.trans (b2.mono b1.size)).trans (b3.mono (Nat.le_trans b1.size b2.size))
  have X3 : Bl w3 w.heap.size (.slice (some x) n c) u2 := (X1.below b2 X1.lt).below b3 (Nat.lt_of_lt_of_le X1.lt b2.size)
  have d2' : w3.cell? ⟨w.heap.size + 1, 0, none⟩ = some uf := by rw [b3.cell (p := ⟨w.heap.size + 1, 0, none⟩) (by rw [z2]; exact Nat.lt_succ_self _)]; exact d2
  have ri3 : Ro w3 ui (nb i) := hri.below b03
  have hui3 : w3.cell? (x.add i) = some ui := by rw [b03.cell (p := x.add i) (cell_lt hui)]; exact hui
  have CI : Hid (∀ m, Calls Tryz.prog 108 #[ui, .func (Fn.func 133) #[] #[.pointer (some ⟨w.heap.size, 0, none⟩), .pointer (some ⟨w.heap.size + 1, 0, none⟩), .pointer (some ⟨w.heap.size + 1 + 1, 0, none⟩)]] (w3.drewN m) fun e w' => e = .returned (.int .i64 (k : Nat)) ∧ ∃ q, w' = (w3.drewN m).drewN q) := by
    intro m
    refine (idxf_any 133 enter_next ui _ (nb i) (pn ss l i) (w3.drewN m) (ri3.drewN m) ?_).mono ?_
    · intro m' y hy
      obtain ⟨y', rfl, hy'⟩ := E y hy
      rw [show (#[Value.int .i64 (y' : Nat)] ++ #[Value.pointer (some ⟨w.heap.size, 0, none⟩), Value.pointer (some ⟨w.heap.size + 1, 0, none⟩), Value.pointer (some ⟨w.heap.size + 1 + 1, 0, none⟩)] : Array Value) = #[.int .i64 (y' : Nat), .pointer (some ⟨w.heap.size, 0, none⟩), .pointer (some ⟨w.heap.size + 1, 0, none⟩), .pointer (some ⟨w.heap.size + 1 + 1, 0, none⟩)] from rfl]
      refine (pn_any w.heap.size (w.heap.size + 1) (w.heap.size + 1 + 1) n (.slice (some x) n c) u2 uf ss l i y' _ (X3.below (_root_.Go.below_drewN (_root_.Go.below_drewN (Below.refl _ _) _) _) X3.lt) (((hr2.below b03).drewN m).drewN m') (((hf.below b03).drewN m).drewN m') hl hm d2' d3 hi hy' hn bs bl).mono ?_
      rintro e w' ⟨h1, q, h2⟩
      exact ⟨h1, m' + q, by rw [h2, World.drewN_drewN]⟩
    · rintro e w' ⟨r, rfl, h2, q, h3⟩
      exact ⟨by rw [fst_uniq h2 hr], q, h3⟩
  have B3 : Hid (Below w.heap.size w w3) := b03
  have Hw : Hid (((w.alloc (Obj.cells #[.slice (some x) n c, u2] 165)).alloc (Obj.cells #[uf] 23)).alloc (Obj.cells #[.int .i64 (i : Nat)] 3) = w3) := by unfold Hid; rw [hw1, hw2, hw3]
  obtain ⟨ai, ci, rfl, g1, g2, ca⟩ := ri3
  have hkl : k < (nb i).length := (List.getElem?_eq_some_iff.1 hk).1
  obtain ⟨yi, rfl, -, hyi⟩ := ca (by intro e; rw [e] at hkl; simp at hkl)
  have ck := hyi k _ hk
  have x0 := X3.c0
  obtain ⟨af, cf, rfl, -⟩ := hf
  obtain ⟨a2, cc2, rfl, -⟩ := hr2
  clear hm hl hr hx hN hb hri hui k0 hw1 b1 X1 z1 hw2 b2 d2 z2 hw3 b3 b03 X3 d2' ca hyi hk E bs bl hj
  go_enter Tryz.func121, Tryz.ntmps121
  go_wp2_with fail
  rw [Hw.out]
  go_quiet ((go_at_call 108; exact Calls.quiet_of (CI.out _)))
  go_wp2
  go_ret
  exact ⟨j, rfl, HN.out.1, HN.out.2, _root_.Go.below_drewN B3.out _⟩
end Go.Proofs.YtagnjmellcibhaaGreatDoor

namespace Go.Proofs.YtagnjmellcibhaaGreatDoor
open Go.RowKit Wy
set_option linter.unusedVariables false

set_option maxHeartbeats 1000000 in
theorem Path_bad (v : Value) (W H : Int) (gs os : List Int) (a b F : Int) (fl : Bool) (w : World) (h : Fl w v W H gs os) (hs : Sd w) (hF : Fd.askFault (Fd.fault W H gs os) gs.length [a, b] = F) (h0 : F ≠ 0) :
    Calls Tryz.prog 102 #[v, .int .i64 a, .int .i64 b, .bool fl] w fun e w' => e = .returned (.tuple #[.slice none 0 0, .iface 75 (.int .i64 F)]) ∧ Below w.heap.size w w' := by
  have F0 : Hid (Fl w v W H gs os) := h
  have S0 : Hid (Sd w) := hs
  have HF : Hid (Fd.askFault (Fd.fault W H gs os) gs.length [a, b] = F) := hF
  have H0 : Hid (F ≠ 0) := h0
  obtain ⟨u1, u2, rfl, ⟨a1, c, rfl, c1, c2, ca⟩, ⟨b1, d, rfl, d1, d2, cb⟩⟩ := h
  clear hF h0 ca cb hs
  go_enter Tryz.func102, Tryz.ntmps102
  go_wp2_with fail
  have b0 : Below w.heap.size w ((w.alloc (Obj.cells #[.int .i64 W, .int .i64 H, .slice a1 gs.length c, .slice b1 os.length d] 25)).alloc (Obj.cells #[.int .i64 a, .int .i64 b] 3)) := ((Below.refl _ _).alloc (Nat.le_refl _) _).alloc (by simp) _
  refine (look_no _ _ W H gs os [a, b] F fl _ (F0.out.below b0) (S0.out.below b0) (Ro.lit2 (w := w.alloc _) a b (by simp)) HF.out H0.out).mono ?_
  rintro e w1 ⟨rfl, hb⟩
  have B1 : Hid (Below w.heap.size w w1) := b0.trans (hb.mono (by simp; omega))
  clear hb b0
  go_wp2
  go_ret2
  exact ⟨rfl, B1.out.alloc B1.out.size _⟩

set_option maxHeartbeats 4000000 in
theorem Path_ok (v : Value) (W H : Nat) (gs os : List Int) (a b : Nat) (fl : Bool) (w : World) (h : Fl w v W H gs os) (hs : Sd w) (G : Fd.Good W H gs os) (ha : a < W * H) (hb : b < W * H) :
    Calls Tryz.prog 102 #[v, .int .i64 (a : Nat), .int .i64 (b : Nat), .bool fl] w fun e w' => ∃ l, (IsFar (Fd.near W H) (fun _ j => (gs.map fun g => Fd.onto g fl).getD j 0) b (W * H) l ∧ Flat l) ∧
      ((l.getD a 0 < 0 ∧ e = .returned (.tuple #[.slice none 0 0, .iface 75 (.int .i64 7)])) ∨ (0 ≤ l.getD a 0 ∧ ∃ u p, e = .returned (.tuple #[u, .nilIface]) ∧ Ro w' u p ∧ Pth (Fd.near W H) (gs.map fun g => Fd.onto g fl) l b a p ∧ p.length ≤ 1000)) ∧ Below w.heap.size w w' := by
  have F0 : Hid (Fl w v W H gs os) := h
  have S0 : Hid (Sd w) := hs
  have G0 : Hid (Fd.Good W H gs os) := G
  have A0 : Hid (a < W * H ∧ b < W * H) := ⟨ha, hb⟩
  obtain ⟨u1, u2, rfl, ⟨a1, c, rfl, c1, c2, ca⟩, ⟨b1, d, rfl, d1, d2, cb⟩⟩ := h
  obtain ⟨ss, hss⟩ : ∃ ss, (gs.map fun g => Fd.onto g fl) = ss := ⟨_, rfl⟩
  have Hss : Hid ((gs.map fun g => Fd.onto g fl) = ss) := hss
  have E0 : Hid (Even (Fd.near W H) (fun _ j => ss.getD j 0) (W * H)) := by rw [← hss]; exact even_to G.w1 gs fl
  have T0 : Hid (∀ j, ss.getD j 0 ≤ 2) := by rw [← hss]; exact ss_two gs fl
  rw [hss]
  clear ca cb hs G ha hb hss
  go_enter Tryz.func102, Tryz.ntmps102
  go_wp2_with fail
  have b0 : Below w.heap.size w ((w.alloc (Obj.cells #[.int .i64 W, .int .i64 H, .slice a1 gs.length c, .slice b1 os.length d] 25)).alloc (Obj.cells #[.int .i64 (a : Nat), .int .i64 (b : Nat)] 3)) := ((Below.refl _ _).alloc (Nat.le_refl _) _).alloc (by simp) _
  refine (look_ok _ _ W H gs os [(a : Int), (b : Int)] fl _ (F0.out.below b0) G0.out (S0.out.below b0) (Ro.lit2 (w := w.alloc _) (a : Int) (b : Int) (by simp)) (by have := A0.out; simp; omega)).mono ?_
  rintro e w1 ⟨⟨v1, rfl, hL⟩, hb⟩
  rw [Hss.out] at hL
  have B1 : Hid (Below w.heap.size w w1) := b0.trans (hb.mono (by simp; omega))
  have L1 : Hid (Ld w1 v1 (W * H) (Fd.near W H) ss) := hL
  obtain ⟨p1, p2, rfl, ⟨x1, k1, rfl, -⟩, ⟨x2, k2, rfl, -⟩, -⟩ := hL
  clear hb b0
  go_wp2_with fail
  have b2 : Below w1.heap.size w1 (w1.alloc (Obj.cells #[.slice (some x1) (W * H) k1, .slice x2 ss.length k2] 165)) := (Below.refl _ _).alloc (Nat.le_refl _) _
  have X1 := Bl.mk' (w := w1) (.slice (some x1) (W * H) k1) (.slice x2 ss.length k2) rfl
  refine (farTo_ok _ (W * H) b (Fd.near W H) ss _ (L1.out.below b2) E0.out A0.out.2 G0.out.pos.2 (Fd.near_len W H)).mono ?_
  rintro e w2 ⟨g, l, rfl, hbz, hbk, ⟨hf, hfl⟩, hb⟩
  have P : Hid (Ro w2 (.slice (some ⟨g, 0, none⟩) (W * H) (W * H)) l) := by
    have := hbk.ro (c := W * H) (by rw [hf.1]; exact Nat.le_refl _) (by have := G0.out.pos.2; omega)
    rw [hf.1] at this
    exact this
  have HF : Hid (IsFar (Fd.near W H) (fun _ j => ss.getD j 0) b (W * H) l ∧ Flat l) := ⟨hf, hfl⟩
  have B2 : Hid (Below w.heap.size w w2) := (B1.out.trans (b2.mono B1.out.size)).trans (hb.mono (Nat.le_trans B1.out.size b2.size))
  have X2 : Hid (Bl w2 w1.heap.size (.slice (some x1) (W * H) k1) (.slice x2 ss.length k2)) := X1.below hb X1.lt
  have L2 : Hid (Ld w2 (.agg #[.slice (some x1) (W * H) k1, .slice x2 ss.length k2]) (W * H) (Fd.near W H) ss) := (L1.out.below b2).below hb
  have N0 : W * H ≤ 144 := G0.out.pos.2
  have ca := hbk.cell (get_some hf.1 A0.out.1)
  have LB : Hid (∀ j, l.getD j 0 ≤ 288) := flat_le hfl hf.1 N0
  clear hbz hbk hb b2 X1 L1 B1 hf hfl
  have a0 : a < W * H := A0.out.1
  obtain ⟨y, hy⟩ : ∃ y, l.getD a 0 = y := ⟨_, rfl⟩
  have Hy : Hid (l.getD a 0 = y) := hy
  rw [hy] at ca
  clear hy
  by_cases hd : y < 0
  · go_wp2
    go_ret2
    exact ⟨l, HF, .inl ⟨by rw [Hy.out]; exact hd, rfl⟩, B2⟩
  · go_wp2_with fail
    have O3 : Hid (Ow (w2.alloc (Obj.cells #[.int .i64 (a : Nat)] 3)) w2.heap.size (.slice (some ⟨w2.heap.size, 0, none⟩) 1 1) [(a : Int)]) := Ow.one (a : Int) (Nat.le_refl _) rfl
    have B3 : Hid (Below w2.heap.size w2 (w2.alloc (Obj.cells #[.int .i64 (a : Nat)] 3))) := (Below.refl _ _).alloc (Nat.le_refl _) _
    generalize w2.alloc (Obj.cells #[.int .i64 (a : Nat)] 3) = w3 at *
    have Ya : Hid (0 ≤ l.getD a 0) := by unfold Hid; rw [Hy.out]; omega
    have Yb : Hid (l.getD a 0 ≤ 288) := LB.out a
    clear ca hd
    go_loopw [13, 14] (fun v i W' => ∃ (k : Nat) (pre : List Int), i = .int .i64 (k : Nat) ∧ k < W * H ∧ 0 ≤ l.getD k 0 ∧ Ow W' w2.heap.size v (pre ++ [(k : Int)]) ∧ (∀ p, Pth (Fd.near W H) ss l b k p → Pth (Fd.near W H) ss l b a (pre ++ p)) ∧ Below w2.heap.size w2 W' ∧ (pre.length : Int) + l.getD k 0 ≤ l.getD a 0) (fun _ i _ => (l.getD (intOf i).toNat 0).toNat)
    case atStart => exact ⟨a, [], rfl, a0, Ya, O3, fun p hp => hp, B3, by simp⟩
    case round =>
      obtain ⟨k, pre, rfl, hk, hk0, ho, hp, hb, hm⟩ := hrel
      clear O3 B3
      have O : Hid (Ow wr w2.heap.size u13 (pre ++ [(k : Int)])) := ho
      have Pp : Hid (∀ p, Pth (Fd.near W H) ss l b k p → Pth (Fd.near W H) ss l b a (pre ++ p)) := hp
      have B : Hid (Below w2.heap.size w2 wr) := hb
      have M : Hid ((pre.length : Int) + l.getD k 0 ≤ l.getD a 0 ∧ 0 ≤ l.getD k 0 ∧ k < W * H) := ⟨hm, hk0, hk⟩
      clear ho hp hb hm hk0
      by_cases h0 : k = b
      · subst h0
        go_wp2
        go_ret2
        refine ⟨l, HF, .inr ⟨Ya, _, _, rfl, O.out.ro, Pp.out _ .here, ?_⟩, B2.out.trans (B.out.mono B2.out.size)⟩
        have := M.out
        have := Yb.out
        simp
        omega
      · have hx := has_next E0.out HF.out.1 hk M.out.2.1 h0
        have e0 : (fun x : Int => ∃ j : Nat, x = j ∧ j < W * H) = fun x : Int => ∃ j : Nat, x = j ∧ j < W * H := rfl
        have CN : Hid (Calls Tryz.prog 121 #[.agg #[.slice (some x1) (W * H) k1, .slice x2 ss.length k2], .slice (some ⟨g, 0, none⟩) (W * H) (W * H), .int .i64 (k : Nat)] wr fun e w' => ∃ j : Nat, e = .returned (.int .i64 (j : Nat)) ∧ j < W * H ∧ Nx (Fd.near W H) ss l k j ∧ Below wr.heap.size wr w') :=
          next_ok _ _ (W * H) k (Fd.near W H) ss l wr (L2.out.below B.out) (P.out.below B.out) HF.out.1.1 hk N0 T0.out LB.out (fun x hx => by obtain ⟨j, h1, h2, -⟩ := E0.out.cell k x hk hx; exact ⟨j, h1, h2⟩) hx
        obtain ⟨y0, y1⟩ := X2.out.below B.out X2.out.lt
        clear e0 hx
        go_wp2_with fail
        refine Calls.mono CN.out ?_
        rintro e w4 ⟨j, rfl, hj, hN, hb4⟩
        have ba : Below w4.heap.size w4 (w4.alloc (Obj.cells #[.int .i64 (j : Nat)] 3)) := (Below.refl _ _).alloc (Nat.le_refl _) _
        have O5 : Hid (Ow (w4.alloc (Obj.cells #[.int .i64 (j : Nat)] 3)) w2.heap.size u13 (pre ++ [(k : Int)])) := (O.out.below hb4).below ba
        have B5 : Hid (Below w2.heap.size w2 (w4.alloc (Obj.cells #[.int .i64 (j : Nat)] 3))) := (B.out.trans (hb4.mono B.out.size)).trans (ba.mono (Nat.le_trans B.out.size hb4.size))
        have Cd : Hid ((w4.alloc (Obj.cells #[.int .i64 (j : Nat)] 3)).cell? ⟨w4.heap.size, 0, none⟩ = some (.int .i64 (j : Nat))) := by unfold Hid; simp
        have HN : Hid (Nx (Fd.near W H) ss l k j) := hN
        have is := hN.is
        have Ln : Hid ((pre ++ [(k : Int)]).length ≤ 1000000000) := by
          have := M.out
          have := Yb.out
          unfold Hid
          simp
          omega
        have Q : Hid (∀ p, Pth (Fd.near W H) ss l b j p → Pth (Fd.near W H) ss l b a ((pre ++ [(k : Int)]) ++ p)) := fun p hp => by
          have := Pp.out _ (.step h0 hN hp)
          rw [List.append_assoc]
          exact this
        have M' : Hid (((pre ++ [(k : Int)]).length : Int) + l.getD j 0 ≤ l.getD a 0 ∧ 0 ≤ l.getD j 0 ∧ l.getD j 0 < l.getD k 0) := by
          have := M.out
          unfold Hid
          simp only [List.length_append, List.length_cons, List.length_nil]
          omega
        clear hb4 ba O B CN hN is y0 y1 Pp
        generalize pre ++ [(k : Int)] = pr at *
        go_wp2_with (at_builtin; refine app_int _ rfl _ _ rfl w2.heap.size _ pr rfl O5.out ⟨w4.heap.size, 0, none⟩ (j : Nat) rfl Cd.out Ln.out B5.out.size ?_)
        intro g6 cap6 w6 o6 gr6 at6 lt6
        have O6 : Hid (Ow w6 w2.heap.size (.slice (some ⟨g6, 0, none⟩) (pr.length + 1) cap6) (pr ++ [(j : Int)])) := o6
        have B6 : Hid (Below w2.heap.size w2 w6) := B5.out.trans ((Below.refl _ _).grown gr6 B5.out.size (fun k hk => (O5.out.block k hk).1))
        clear o6 gr6 at6 lt6 O5 B5 Cd
        go_wp2
        go_round
        case rel => exact ⟨j, pr, rfl, hj, M'.out.2.1, O6, Q, B6, M'.out.1⟩
        case measure =>
          have := M'.out
          show (l.getD (Int.toNat (j : Int)) 0).toNat < (l.getD (Int.toNat (k : Int)) 0).toNat
          rw [Int.toNat_natCast, Int.toNat_natCast]
          omega

set_option maxHeartbeats 1000000 in
theorem Next_bad (v : Value) (W H : Int) (gs os : List Int) (a b F : Int) (fl : Bool) (w : World) (h : Fl w v W H gs os) (hs : Sd w) (hF : Fd.askFault (Fd.fault W H gs os) gs.length [a, b] = F) (h0 : F ≠ 0) :
    Calls Tryz.prog 81 #[v, .int .i64 a, .int .i64 b, .bool fl] w fun e w' => e = .returned (.tuple #[.int .i64 0, .iface 75 (.int .i64 F)]) ∧ Below w.heap.size w w' := by
  have F0 : Hid (Fl w v W H gs os) := h
  have S0 : Hid (Sd w) := hs
  have HF : Hid (Fd.askFault (Fd.fault W H gs os) gs.length [a, b] = F) := hF
  have H0 : Hid (F ≠ 0) := h0
  obtain ⟨u1, u2, rfl, ⟨a1, c, rfl, c1, c2, ca⟩, ⟨b1, d, rfl, d1, d2, cb⟩⟩ := h
  clear hF h0 ca cb hs
  have b0 : Hid (Below w.heap.size w (w.alloc (Obj.cells #[.int .i64 W, .int .i64 H, .slice a1 gs.length c, .slice b1 os.length d] 25))) := (Below.refl _ _).alloc (Nat.le_refl _) _
  go_enter Tryz.func81, Tryz.ntmps81
  go_wp2_with fail
  refine (Path_bad _ W H gs os a b F fl _ (F0.out.below b0.out) (S0.out.below b0.out) HF.out H0.out).mono ?_
  rintro e w1 ⟨rfl, hb⟩
  have B1 : Hid (Below w.heap.size w w1) := b0.out.trans (hb.mono b0.out.size)
  clear hb b0
  go_wp2
  go_ret2
  exact ⟨rfl, B1⟩

set_option maxHeartbeats 1000000 in
theorem Next_ok (v : Value) (W H : Nat) (gs os : List Int) (a b : Nat) (fl : Bool) (w : World) (h : Fl w v W H gs os) (hs : Sd w) (G : Fd.Good W H gs os) (ha : a < W * H) (hb : b < W * H) :
    Calls Tryz.prog 81 #[v, .int .i64 (a : Nat), .int .i64 (b : Nat), .bool fl] w fun e w' => ∃ l, (IsFar (Fd.near W H) (fun _ j => (gs.map fun g => Fd.onto g fl).getD j 0) b (W * H) l ∧ Flat l) ∧
      ((l.getD a 0 < 0 ∧ e = .returned (.tuple #[.int .i64 0, .iface 75 (.int .i64 7)])) ∨ (0 ≤ l.getD a 0 ∧ ∃ j : Nat, e = .returned (.tuple #[.int .i64 (j : Nat), .nilIface]) ∧ Nxt (Fd.near W H) (gs.map fun g => Fd.onto g fl) l b a j)) ∧ Below w.heap.size w w' := by
  have F0 : Hid (Fl w v W H gs os) := h
  have S0 : Hid (Sd w) := hs
  have G0 : Hid (Fd.Good W H gs os) := G
  have A0 : Hid (a < W * H ∧ b < W * H) := ⟨ha, hb⟩
  obtain ⟨u1, u2, rfl, ⟨a1, c, rfl, c1, c2, ca⟩, ⟨b1, d, rfl, d1, d2, cb⟩⟩ := h
  obtain ⟨ss, hss⟩ : ∃ ss, (gs.map fun g => Fd.onto g fl) = ss := ⟨_, rfl⟩
  have Hss : Hid ((gs.map fun g => Fd.onto g fl) = ss) := hss
  rw [hss]
  clear ca cb hs G ha hb hss
  have b0 : Hid (Below w.heap.size w (w.alloc (Obj.cells #[.int .i64 W, .int .i64 H, .slice a1 gs.length c, .slice b1 os.length d] 25))) := (Below.refl _ _).alloc (Nat.le_refl _) _
  go_enter Tryz.func81, Tryz.ntmps81
  go_wp2_with fail
  refine (Path_ok _ W H gs os a b fl _ (F0.out.below b0.out) (S0.out.below b0.out) G0.out A0.out.1 A0.out.2).mono ?_
  rintro e w1 ⟨l, hl, he, hb⟩
  rw [Hss.out] at hl he
  have B1 : Hid (Below w.heap.size w w1) := b0.out.trans (hb.mono b0.out.size)
  have HL : Hid (IsFar (Fd.near W H) (fun _ j => ss.getD j 0) b (W * H) l ∧ Flat l) := hl
  clear hb b0 hl
  rcases he with ⟨h0, rfl⟩ | ⟨h0, u, p, rfl, hu, hp, hlen⟩
  · have H0 : Hid (l.getD a 0 < 0) := h0
    clear h0
    go_wp2
    go_ret2
    exact ⟨l, HL, .inl ⟨H0, rfl⟩, B1⟩
  · have H0 : Hid (0 ≤ l.getD a 0) := h0
    have HP : Hid (Pth (Fd.near W H) ss l b a p) := hp
    clear h0
    by_cases hab : a = b
    · subst hab
      obtain ⟨ua, uc, rfl, -⟩ := hu
      clear hp
      go_wp2
      go_ret2
      exact ⟨l, HL, .inr ⟨H0, a, rfl, .inl ⟨rfl, rfl⟩⟩, B1⟩
    · obtain ⟨j, h1, h2⟩ := hp.second hab
      have hl1 : 1 < p.length := (List.getElem?_eq_some_iff.1 h1).1
      obtain ⟨ua, uc, rfl, k1, k2, hc⟩ := hu
      obtain ⟨y, rfl, -, hy⟩ := hc (by intro e; rw [e] at hl1; simp at hl1)
      have HN : Hid (Nx (Fd.near W H) ss l a j) := h2
      have hne : ¬ (a : Int) = (b : Int) := by omega
      have c1' : w1.cell? ⟨y.block, y.off + 1, none⟩ = some (.int .i64 (j : Nat)) := hy 1 _ h1
      clear hp hc hy h1 h2
      go_wp2
      go_ret2
      exact ⟨l, HL, .inr ⟨H0, j, rfl, .inr ⟨hab, HN⟩⟩, B1⟩
end Go.Proofs.YtagnjmellcibhaaGreatDoor

namespace Go.Proofs.YtagnjmellcibhaaGreatDoor
set_option linter.unusedVariables false
namespace Wd

/-- not from least to 1000000. -/
def off (least n : Int) : Bool := !decide (least ≤ n ∧ n ≤ 1000000)
def numsBad (W : WV) : Bool := off 0 W.turn || (off 1 W.next || (!decide (1 ≤ (W.gold.length : Int) ∧ (W.gold.length : Int) ≤ 4) || W.gold.any (off 0)))
def has (n : Nat) (i : Int) : Bool := decide (0 ≤ i ∧ i < (n : Int))
/-- one who goes, or flies, may stand there. -/
def open_ (gs : List Int) (ahead : List UnV) (at_ : Int) (fl : Bool) : Bool := decide (0 < Fd.onto (gs.getD at_.toNat 0) fl) && !ahead.any (fun u => u.at_ == at_)
/-- what is wrong with the i-th unit, as far as its kind does not matter; as far as it does. -/
def kindPart (W : WV) (ahead : List UnV) (u : UnV) (k : KV) : Int :=
  if !decide (1 ≤ u.life ∧ u.life ≤ k.n0) || (!decide (0 ≤ u.load ∧ u.load ≤ k.n7) || !decide (0 ≤ u.task ∧ u.task ≤ 2)) then 1
  else if !has W.gs.length u.at_ || !has W.gs.length u.goal then 6
  else if !open_ W.gs ahead u.at_ k.f || (u.goal != 0 && u.task == 0) then 7 else 0
def notAbove (us : List UnV) (i : Nat) (u : UnV) : Bool := match i with
  | 0 => false
  | j + 1 => match us[j]? with
    | none => false
    | some x => decide (u.id ≤ x.id)
def unitFault (ks : List KV) (W : WV) (i : Nat) (u : UnV) : Int :=
  if !decide (1 ≤ u.id ∧ u.id ≤ W.next - 1) then 1
  else if notAbove W.us i u then 5
  else if !has W.gold.length u.player || !has ks.length u.kind then 1
  else match ks[u.kind.toNat]? with
    | none => 1
    | some k => kindPart W (W.us.take i) u k
def unitsGo (ks : List KV) (W : WV) (i : Nat) : List UnV → Int
  | [] => 0
  | u :: r => if unitFault ks W i u = 0 then unitsGo ks W (i + 1) r else unitFault ks W i u
def jobFault (ks : List KV) (W : WV) (j : JbV) : Int := match W.us.find? (fun u => u.id == j.unit) with
  | none => 6
  | some u => match ks[u.kind.toNat]? with
    | none => 7
    | some k => if u.player != j.player || !k.t then 7 else if !has ks.length j.kind || !decide (1 ≤ j.left ∧ j.left ≤ 1000) then 1 else 0
def jobsGo (ks : List KV) (W : WV) : List JbV → Int
  | [] => 0
  | j :: r => if jobFault ks W j = 0 then jobsGo ks W r else jobFault ks W j
def ground (ks : List KV) (W : WV) : Int := if Kd.kindsFault (ks.map KV.k) = 0 then Fd.fault W.wide W.high W.gs W.os else Kd.kindsFault (ks.map KV.k)
/-- what is wrong with a world. -/
def wfault (ks : List KV) (W : WV) : Int :=
  if ground ks W ≠ 0 then ground ks W
  else if numsBad W then 1
  else if 40 < W.us.length then 4
  else if unitsGo ks W 0 W.us ≠ 0 then unitsGo ks W 0 W.us
  else if 12 < W.qs.length then 4
  else jobsGo ks W W.qs
theorem unitsGo_at {ks : List KV} {W : WV} {i : Nat} {u : UnV} (h : W.us[i]? = some u) : unitsGo ks W i (W.us.drop i) = if unitFault ks W i u = 0 then unitsGo ks W (i + 1) (W.us.drop (i + 1)) else unitFault ks W i u := by
  obtain ⟨hi, e⟩ := List.getElem?_eq_some_iff.1 h
  rw [List.drop_eq_getElem_cons hi, e]
  rfl
theorem jobsGo_at {ks : List KV} {W : WV} {i : Nat} {j : JbV} (h : W.qs[i]? = some j) : jobsGo ks W (W.qs.drop i) = if jobFault ks W j = 0 then jobsGo ks W (W.qs.drop (i + 1)) else jobFault ks W j := by
  obtain ⟨hi, e⟩ := List.getElem?_eq_some_iff.1 h
  rw [List.drop_eq_getElem_cons hi, e]
  rfl
end Wd
end Go.Proofs.YtagnjmellcibhaaGreatDoor

namespace Go.Proofs.YtagnjmellcibhaaGreatDoor
open Go.RowKit
set_option linter.unusedVariables false

theorem wwithin_any (x lo hi : Int) (w : World) : Calls Tryz.prog 87 #[.int .i64 x, .int .i64 lo, .int .i64 hi] w fun e w' => e = .returned (.bool (decide (lo ≤ x ∧ x ≤ hi))) ∧ w' = w := by
  by_cases h1 : lo ≤ x
  · by_cases h2 : x ≤ hi
    · go_enter Tryz.func87, Tryz.ntmps87
      go_wp2
      go_ret
      refine ⟨?_, rfl⟩
      rw [decide_eq_true ⟨h1, h2⟩]
      rfl
    · go_enter Tryz.func87, Tryz.ntmps87
      go_wp2
      go_ret
      refine ⟨?_, rfl⟩
      rw [decide_eq_false (by omega)]
      rfl
  · go_enter Tryz.func87, Tryz.ntmps87
    go_wp2
    go_ret
    refine ⟨?_, rfl⟩
    rw [decide_eq_false (by omega)]
    rfl
end Go.Proofs.YtagnjmellcibhaaGreatDoor

namespace Go.Proofs.YtagnjmellcibhaaGreatDoor
open Go.RowKit
set_option linter.unusedVariables false

theorem FstU.one {p : UnV → Bool} {us : List UnV} {r r' : Int} (h : FstU p us r) (h' : FstU p us r') : r = r' := by
  rcases h with ⟨rfl, h1⟩ | ⟨k, x, rfl, h1, h2, h3⟩
  · rcases h' with ⟨rfl, _⟩ | ⟨k, x, rfl, g1, g2, g3⟩
    · rfl
    · have : us.any p = true := List.any_eq_true.2 ⟨x, List.mem_of_getElem? g1, g2⟩
      rw [h1] at this; cases this
  · rcases h' with ⟨rfl, g⟩ | ⟨k', x', rfl, g1, g2, g3⟩
    · have : us.any p = true := List.any_eq_true.2 ⟨x, List.mem_of_getElem? h1, h2⟩
      rw [g] at this; cases this
    · rcases Nat.lt_trichotomy k k' with hl | hl | hl
      · have : (us.take k').any p = true := List.any_eq_true.2 ⟨x, List.mem_of_getElem? (by rw [List.getElem?_take, if_pos hl]; exact h1), h2⟩
        rw [g3] at this; cases this
      · rw [hl]
      · have : (us.take k).any p = true := List.any_eq_true.2 ⟨x', List.mem_of_getElem? (by rw [List.getElem?_take, if_pos hl]; exact g1), g2⟩
        rw [h3] at this; cases this
set_option maxHeartbeats 1000000 in
theorem fid_any (u : UnV) (id : Int) (b : Nat) (w : World) (hc : w.cell? ⟨b, 0, none⟩ = some (.int .i64 id)) :
    Calls Tryz.prog 62 #[u.val, .pointer (some ⟨b, 0, none⟩)] w fun e w' => e = .returned (.bool (u.id == id)) ∧ Below w.heap.size w w' := by
  have hb : b < w.heap.size := cell_lt hc
  have hne : b ≠ w.heap.size := by omega
  unfold UnV.val
  go_enter Tryz.func62, Tryz.ntmps62
  go_wp2
  go_ret
  exact ⟨rfl, (Below.refl _ _).alloc (Nat.le_refl _) _⟩
set_option maxHeartbeats 1000000 in
theorem wfind_any (v : Value) (W : WV) (id : Int) (w : World) (h : Wl w v W) :
    Calls Tryz.prog 37 #[v, .int .i64 id] w fun e w' => ∃ r : Int, e = .returned (.int .i64 r) ∧ FstU (fun u => u.id == id) W.us r ∧ Below w.heap.size w w' := by
  have H : Hid (Wl w v W) := h
  obtain ⟨u1, u2, u3, u4, u5, rfl, -, -, -, h4, -⟩ := h
  have U : Hid (Unl w u4 W.us) := h4
  clear h4
  go_enter Tryz.func37, Tryz.ntmps37
  go_wp2_with fail
  have B0 : Hid (Below w.heap.size w ((w.alloc (Obj.cells #[.int .i64 W.turn, .int .i64 W.next, .int .i64 W.wide, .int .i64 W.high, u1, u2, u3, u4, u5] 29)).alloc (Obj.cells #[.int .i64 id] 3))) := ((Below.refl _ _).alloc (Nat.le_refl _) _).alloc (by simp) _
  have C0 : Hid (((w.alloc (Obj.cells #[.int .i64 W.turn, .int .i64 W.next, .int .i64 W.wide, .int .i64 W.high, u1, u2, u3, u4, u5] 29)).alloc (Obj.cells #[.int .i64 id] 3)).cell? ⟨w.heap.size + 1, 0, none⟩ = some (.int .i64 id)) := cell_of_new (by simp) rfl
  generalize ((w.alloc (Obj.cells #[.int .i64 W.turn, .int .i64 W.next, .int .i64 W.wide, .int .i64 W.high, u1, u2, u3, u4, u5] 29)).alloc (Obj.cells #[.int .i64 id] 3)) = w0 at *
  refine (idxu_any 62 (by intro args w; go_simp) u4 #[.pointer (some ⟨w.heap.size + 1, 0, none⟩)] W.us (fun u => u.id == id) w0 (U.out.below B0.out) (fun V hV k => fid_any k id (w.heap.size + 1) V (by rw [hV.cell (p := ⟨w.heap.size + 1, 0, none⟩) (cell_lt C0.out)]; exact C0.out))).mono ?_
  rintro e w1 ⟨r, rfl, hf, hb⟩
  have F : Hid (FstU (fun u => u.id == id) W.us r ∧ Below w.heap.size w w1) := ⟨hf, B0.out.trans (hb.mono B0.out.size)⟩
  clear hf hb
  go_wp2
  go_ret
  exact ⟨r, rfl, F.out.1, F.out.2⟩
set_option maxHeartbeats 1000000 in
theorem isone_ints (a : Option Addr) (n c : Nat) (i : Int) (w : World) (hn : n ≤ 9223372036854775807) :
    Calls Tryz.prog 89 #[.slice a n c, .int .i64 i] w fun e w' => e = .returned (.bool (decide (0 ≤ i ∧ i < (n : Int)))) ∧ w' = w := by
  have hw : IntKind.i64.wrap ((n : Int) - 1) = (n : Int) - 1 := by rw [IntKind.wrap_i64]; omega
  go_enter Tryz.func89, Tryz.ntmps89
  go_wp2_with fail
  refine (wwithin_any i 0 ((n : Int) - 1) w).mono ?_
  rintro e w1 ⟨rfl, rfl⟩
  have E : decide (0 ≤ i ∧ i ≤ (n : Int) - 1) = decide (0 ≤ i ∧ i < (n : Int)) := decide_eq_decide.2 ⟨fun h => by omega, fun h => by omega⟩
  rw [E]
  obtain ⟨b, hb⟩ : ∃ b, decide (0 ≤ i ∧ i < (n : Int)) = b := ⟨_, rfl⟩
  rw [hb]
  have HB : Hid (decide (0 ≤ i ∧ i < (n : Int)) = b) := hb
  clear hb E
  go_wp2
  go_ret
  exact ⟨by rw [HB.out]; rfl, rfl⟩
set_option maxHeartbeats 1000000 in
theorem isone_kinds (a : Option Addr) (n c : Nat) (i : Int) (w : World) (hn : n ≤ 9223372036854775807) :
    Calls Tryz.prog 90 #[.slice a n c, .int .i64 i] w fun e w' => e = .returned (.bool (decide (0 ≤ i ∧ i < (n : Int)))) ∧ w' = w := by
  have hw : IntKind.i64.wrap ((n : Int) - 1) = (n : Int) - 1 := by rw [IntKind.wrap_i64]; omega
  go_enter Tryz.func90, Tryz.ntmps90
  go_wp2_with fail
  refine (wwithin_any i 0 ((n : Int) - 1) w).mono ?_
  rintro e w1 ⟨rfl, rfl⟩
  have E : decide (0 ≤ i ∧ i ≤ (n : Int) - 1) = decide (0 ≤ i ∧ i < (n : Int)) := decide_eq_decide.2 ⟨fun h => by omega, fun h => by omega⟩
  rw [E]
  obtain ⟨b, hb⟩ : ∃ b, decide (0 ≤ i ∧ i < (n : Int)) = b := ⟨_, rfl⟩
  rw [hb]
  have HB : Hid (decide (0 ≤ i ∧ i < (n : Int)) = b) := hb
  clear hb E
  go_wp2
  go_ret
  exact ⟨by rw [HB.out]; rfl, rfl⟩
end Go.Proofs.YtagnjmellcibhaaGreatDoor

namespace Go.Proofs.YtagnjmellcibhaaGreatDoor
open Go.RowKit
set_option linter.unusedVariables false

set_option maxHeartbeats 1000000 in
theorem fat_any (u : UnV) (at_ : Int) (b : Nat) (w : World) (hc : w.cell? ⟨b, 0, none⟩ = some (.int .i64 at_)) :
    Calls Tryz.prog 109 #[u.val, .pointer (some ⟨b, 0, none⟩)] w fun e w' => e = .returned (.bool (u.at_ == at_)) ∧ Below w.heap.size w w' := by
  have hb : b < w.heap.size := cell_lt hc
  have hne : b ≠ w.heap.size := by omega
  unfold UnV.val
  go_enter Tryz.func109, Tryz.ntmps109
  go_wp2
  go_ret
  exact ⟨rfl, (Below.refl _ _).alloc (Nat.le_refl _) _⟩
theorem onto_or (g : Int) (fl : Bool) : Fd.onto g fl = 0 ∨ 0 < Fd.onto g fl := by
  unfold Fd.onto
  cases fl <;> (repeat' split) <;> omega
set_option maxRecDepth 100000 in
set_option maxHeartbeats 2000000 in
theorem isopen_any (f us : Value) (Wd_ H : Nat) (gs os : List Int) (ahead : List UnV) (a : Nat) (g : Int) (fl : Bool) (w : World) (hf : Fl w f Wd_ H gs os) (G : Fd.Good Wd_ H gs os) (hu : Unl w us ahead) (ha : a < Wd_ * H) (hg : gs[a]? = some g) :
    Calls Tryz.prog 91 #[f, us, .int .i64 (a : Nat), .bool fl] w fun e w' => e = .returned (.bool (Wd.open_ gs ahead (a : Nat) fl)) ∧ Below w.heap.size w w' := by
  have F : Hid (Fl w f Wd_ H gs os) := hf
  have U : Hid (Unl w us ahead) := hu
  have HG : Hid (Fd.Good Wd_ H gs os) := G
  have AT : Hid (a < Wd_ * H ∧ gs[a]? = some g) := ⟨ha, hg⟩
  have OP : Hid (Wd.open_ gs ahead (a : Nat) fl = (decide (0 < Fd.onto g fl) && !ahead.any (fun u => u.at_ == (a : Int)))) := by
    unfold Hid Wd.open_
    rw [Int.toNat_natCast, List.getD_eq_getElem?_getD, hg]
    rfl
  obtain ⟨u1, u2, rfl, h1, h2⟩ := hf
  clear h1 h2 G ha hg hu
  go_enter Tryz.func91, Tryz.ntmps91
  go_wp2_with fail
  have B0 : Hid (Below w.heap.size w ((w.alloc (Obj.cells #[.int .i64 (Wd_ : Int), .int .i64 (H : Int), u1, u2] 25)).alloc (Obj.cells #[.int .i64 (a : Int)] 3))) := ((Below.refl _ _).alloc (Nat.le_refl _) _).alloc (by simp) _
  have C0 : Hid (((w.alloc (Obj.cells #[.int .i64 (Wd_ : Int), .int .i64 (H : Int), u1, u2] 25)).alloc (Obj.cells #[.int .i64 (a : Int)] 3)).cell? ⟨w.heap.size + 1, 0, none⟩ = some (.int .i64 (a : Int))) := cell_of_new (by simp) rfl
  generalize ((w.alloc (Obj.cells #[.int .i64 (Wd_ : Int), .int .i64 (H : Int), u1, u2] 25)).alloc (Obj.cells #[.int .i64 (a : Int)] 3)) = w0 at *
  refine (Step_ok _ Wd_ H gs os a g fl w0 (F.out.below B0.out) HG.out AT.out.1 AT.out.2).mono ?_
  rintro e w1 ⟨rfl, hb1⟩
  have B1 : Hid (Below w.heap.size w w1) := B0.out.trans (hb1.mono B0.out.size)
  have C1 : Hid (w1.cell? ⟨w.heap.size + 1, 0, none⟩ = some (.int .i64 (a : Int))) := by unfold Hid; rw [hb1.cell (p := ⟨w.heap.size + 1, 0, none⟩) (cell_lt C0.out)]; exact C0.out
  clear hb1 C0
  obtain ⟨o, ho⟩ : ∃ o, Fd.onto g fl = o := ⟨_, rfl⟩
  have OR := onto_or g fl
  rw [ho] at OP OR ⊢
  clear ho
  rcases OR with rfl | hpos
  · have E : Hid (Wd.open_ gs ahead (a : Nat) fl = false) := by unfold Hid; rw [OP.out]; rfl
    go_wp2
    go_ret
    exact ⟨by rw [E.out]; rfl, B1.out⟩
  · have E : Hid (Wd.open_ gs ahead (a : Nat) fl = !ahead.any (fun u => u.at_ == (a : Int))) := by unfold Hid; rw [OP.out, decide_eq_true hpos]; rfl
    go_wp2_with fail
    refine (hasu_any 109 (by intro args w; go_simp) us #[.pointer (some ⟨w.heap.size + 1, 0, none⟩)] ahead (fun u => u.at_ == (a : Int)) w1 (U.out.below B1.out) (fun V hV k => fat_any k (a : Int) (w.heap.size + 1) V (by rw [hV.cell (p := ⟨w.heap.size + 1, 0, none⟩) (cell_lt C1.out)]; exact C1.out))).mono ?_
    rintro e w2 ⟨rfl, hb2⟩
    have B2 : Hid (Below w.heap.size w w2) := B1.out.trans (hb2.mono B1.out.size)
    obtain ⟨m, hm⟩ : ∃ m, ahead.any (fun u => u.at_ == (a : Int)) = m := ⟨_, rfl⟩
    rw [hm] at E ⊢
    clear hb2 hm
    go_wp2
    go_ret
    exact ⟨by rw [E.out]; rfl, B2.out⟩
end Go.Proofs.YtagnjmellcibhaaGreatDoor

namespace Go.Proofs.YtagnjmellcibhaaGreatDoor
open Go Go.RowKit
set_option linter.unusedVariables false

section
variable {P : Program} {ops : Array Oper} {md : Region.Mode} {C : World → Prop}

/-- the operation gives v, in each of the worlds C, and leaves one of them. -/
def YieldsC (P : Program) (ops : Array Oper) (C : World → Prop) (o : Oper) (v : Value) (a : Act) : Prop :=
  (Region.wanted o (yielded ops a.tmps) = true ∧ ∀ W, C W → ((execOp a.eval o).run P W = .ok (.value v) W ∨ ((execOp a.eval o).run P W = .ok .skip W ∧ v = undef) ∨
    ∃ f args, (execOp a.eval o).run P W = .ok (.enter f args) W ∧ Calls P f args W (fun e w' => e = .returned v ∧ C w'))) ∨
  (Region.wanted o (yielded ops a.tmps) = false ∧ v = undef)
def stC (P : Program) (ops : Array Oper) (C : World → Prop) (i : Nat) (K : Act → Prop) (a : Act) : Prop :=
  match ops[i]? with
  | none => K a
  | some o => ∃ v, YieldsC P ops C o v a ∧ K (a.put o.dst v)
theorem stC_mono {i : Nat} {a : Act} {K K' : Act → Prop} (h : ∀ a, K a → K' a) (hh : stC P ops C i K a) : stC P ops C i K' a := by
  unfold stC at *
  split
  · rename_i ho
    simp only [ho] at hh
    exact h _ hh
  · rename_i o ho
    simp only [ho] at hh
    obtain ⟨v, h1, h2⟩ := hh
    exact ⟨v, h1, h _ h2⟩
theorem YieldsC.of_same {o : Oper} {v : Value} {a a' : Act} (hy : YieldsC P ops C o v a) (he : execOp a'.eval o = execOp a.eval o)
    (hw : Region.wanted o (yielded ops a'.tmps) = Region.wanted o (yielded ops a.tmps)) : YieldsC P ops C o v a' := by
  unfold YieldsC at *
  rw [he, hw]
  exact hy
theorem stC_put {j : Nat} {oi oj : Oper} {v : Value} (hj : ops[j]? = some oj) (hap : oi.apart ops oj = true)
    (hsi : ∀ cs b, oi.op ≠ .select cs b) (hsj : ∀ cs b, oj.op ≠ .select cs b) {K : Act → Prop} {a : Act}
    (hy : YieldsC P ops C oi v a) (h : stC P ops C j K (a.put oi.dst v)) :
    stC P ops C j (fun a' => YieldsC P ops C oi v a' ∧ K (a'.put oi.dst v)) a := by
  obtain ⟨h1, h2, h3⟩ := Oper.apart_spec hap
  unfold stC at *
  simp only [hj] at *
  obtain ⟨u, hu, hk⟩ := h
  refine ⟨u, hu.of_same (execOp_put oj hsj a oi.dst v h1).symm (wanted_put oj a oi.dst v h1).symm, hy.of_same (execOp_put oi hsi a oj.dst u h3) (wanted_put oi a oj.dst u h3), ?_⟩
  rw [← Act.put_comm a v u h2]
  exact hk
theorem wpOp_of_stC {i : Nat} {a : Act} {W : World} {K : Act → Prop} {K' : Act → World → Prop} {Q' : Exit → Act → World → Prop} (h : ∀ a W, K a → C W → K' a W) (hh : stC P ops C i K a) (hW : C W) : wpOp P ops Q' i K' a W := by
  unfold stC at hh
  unfold wpOp
  split
  · rename_i ho
    simp only [ho] at hh
    exact h _ _ hh hW
  · rename_i o ho
    simp only [ho] at hh
    obtain ⟨v, hy, hk⟩ := hh
    rcases hy with ⟨hw, hr⟩ | ⟨hw, rfl⟩
    · simp only [hw, if_true]
      refine .inl ?_
      unfold Oper.wp
      rcases hr W hW with e | ⟨e, rfl⟩ | ⟨f, args, e, hc⟩
      · rw [e]
        exact h _ _ hk hW
      · rw [e]
        exact h _ _ hk hW
      · rw [e]
        exact hc.mono fun e w' ⟨he, hw'⟩ => by subst he; exact h _ _ hk hw'
    · simp only [hw]
      exact h _ _ hk hW
def wpAnyC (P : Program) (md : Region.Mode) (ops : Array Oper) (C : World → Prop) (n : Nat) (L : Array Bool → Act → Prop) : Nat → Array Bool → Act → Prop
  | 0, listed, a => L listed a
  | f + 1, listed, a =>
    Region.ready md ops listed ≠ [] ∧ ∀ i ∈ Region.ready md ops listed, i < n ∧ stC P ops C i (wpAnyC P md ops C n L f (listed.setIfInBounds i true)) a
theorem wpAny_of_headC {n g : Nat} {L : Array Bool → Act → Prop} {Q' : Exit → Act → World → Prop} (hL : ∀ listed a W, L listed a → C W → wpAny P md ops Q' g listed a W) :
    ∀ (f : Nat) (listed : Array Bool) (a : Act) (W : World), wpAnyC P md ops C n L f listed a → C W → wpAny P md ops Q' (f + g) listed a W
  | 0, listed, a, W, h, hW => by rw [Nat.zero_add]; exact hL _ _ _ h hW
  | f + 1, listed, a, W, h, hW => by
    rw [show f + 1 + g = (f + g) + 1 by omega]
    exact ⟨fun h0 => absurd h0 h.1, fun i hi => wpOp_of_stC (fun a' W' h' hW' => wpAny_of_headC hL f _ a' W' h' hW') (h.2 i hi).2 hW⟩
theorem wpAnyC_first {n i : Nat} {oi : Oper} {v : Value} {L : Array Bool → Act → Prop} (hi : ops[i]? = some oi) (hsel : ∀ (j : Nat) (o : Oper) cs b, ops[j]? = some o → o.op ≠ .select cs b)
    (hs : Region.sinkB md ops n = true) (hc : Region.chainB md ops n = true) (hn : n < ops.size) (hin : i < n)
    (hdone : ∀ listed a, L listed a → ∀ j ∈ Region.ready md ops listed, n ≤ j) :
    ∀ (f : Nat) (listed : Array Bool) (a : Act), HeadInv md ops n listed →
      (∀ j oj, ops[j]? = some oj → j ≠ i → listed.getD j true = false → (∀ e ∈ oj.after, Region.binds md e = true → e.on ≠ i) → oi.apart ops oj = true) →
      i ∈ Region.ready md ops listed → YieldsC P ops C oi v a →
      wpAnyC P md ops C n L f (listed.setIfInBounds i true) (a.put oi.dst v) → wpAnyC P md ops C n L (f + 1) listed a := by
  have hit : ∀ {K : Act → Prop} {a : Act}, YieldsC P ops C oi v a → K (a.put oi.dst v) → stC P ops C i K a := fun hy hk => by
    unfold stC
    simp only [hi]
    exact ⟨v, hy, hk⟩
  intro f
  induction f with
  | zero =>
    intro listed a inv _ hr hy H
    have hun := (mem_ready.1 hr).1
    refine ⟨fun h => (by rw [h] at hr; cases hr), fun j hj => ?_⟩
    have hjn : j < n := by
      rcases Nat.lt_or_ge j n with h | h
      · exact h
      · exact absurd hj (tail_waits hs hc hn inv _ i rfl hin hun j h)
    refine ⟨hjn, ?_⟩
    by_cases hji : j = i
    · subst hji; exact hit hy H
    · have := hdone _ _ H j (ready_mono hj hji)
      omega
  | succ f ih =>
    intro listed a inv hfree hr hy H
    have hun := (mem_ready.1 hr).1
    refine ⟨fun h => (by rw [h] at hr; cases hr), fun j hj => ?_⟩
    have hjn : j < n := by
      rcases Nat.lt_or_ge j n with h | h
      · exact h
      · exact absurd hj (tail_waits hs hc hn inv _ i rfl hin hun j h)
    refine ⟨hjn, ?_⟩
    by_cases hji : j = i
    · subst hji; exact hit hy H
    · have h1 := (H.2 j (ready_mono hj hji)).2
      obtain ⟨hjun, oj, hoj, hall⟩ := mem_ready.1 hj
      have hnot : ∀ e ∈ oj.after, Region.binds md e = true → e.on ≠ i := fun e he hb heq => by
        have h1 := hall e he hb
        rw [heq, getD_both hun] at h1
        cases h1
      have h2 := stC_put hoj (hfree j oj hoj hji hjun hnot) (fun cs b => hsel i oi cs b hi) (fun cs b => hsel j oj cs b hoj) hy h1
      have hfree' : ∀ k ok, ops[k]? = some ok → k ≠ i → (listed.setIfInBounds j true).getD k true = false →
          (∀ e ∈ ok.after, Region.binds md e = true → e.on ≠ i) → oi.apart ops ok = true := fun k ok hk hki hun hno => by
        refine hfree k ok hk hki ?_ hno
        by_cases hjk : j = k
        · subst hjk; exact hjun
        · rw [getD_set_ne true hjk] at hun; exact hun
      refine stC_mono (fun a' h3 => ih (listed.setIfInBounds j true) a' (inv.set hj hjn) hfree' (ready_mono hr (Ne.symm hji)) h3.1 ?_) h2
      rw [Array.setIfInBounds_comm _ _ hji]
      exact h3.2
/-- the head, in the text's order. -/
def wpHead (P : Program) (ops : Array Oper) (C : World → Prop) (Q : Act → Prop) : List Oper → Act → Prop
  | [], a => Q a
  | o :: rest, a => ∃ v, YieldsC P ops C o v a ∧ wpHead P ops C Q rest (a.put o.dst v)
theorem wpAnyC_lex {n g : Nat} {Lq : Act → Prop} (hsel : Region.noSelect ops = true) (hs : Region.sinkB md ops n = true) (hc : Region.chainB md ops n = true) (hn : n < ops.size) :
    ∀ (l : List Oper) (k : Nat) (listed : Array Bool) (a : Act), (∀ j, j < l.length → l[j]? = ops[k + j]?) → k + l.length = n → HeadInv md ops n listed →
    Region.lexHead md ops g l.length k listed = true → wpHead P ops C Lq l a →
    wpAnyC P md ops C n (fun listed' a' => Region.seqB md ops g n listed' = true ∧ Lq a') l.length listed a
  | [], k, listed, a, _, hk, _, hB, h => by
    have : k = n := by simpa using hk
    subst this
    exact ⟨by simpa [Region.lexHead] using hB, h⟩
  | o :: l, k, listed, a, hl, hk, inv, hB, h => by
    have h0 : ops[k]? = some o := by simpa using (hl 0 (by simp)).symm
    simp only [List.length_cons, Region.lexHead, Bool.and_eq_true] at hB
    obtain ⟨⟨hr, hf⟩, hB'⟩ := hB
    have hkn : k < n := by simp only [List.length_cons] at hk; omega
    have hr' : k ∈ Region.ready md ops listed := by simpa using hr
    obtain ⟨v, hy, hK⟩ := h
    exact wpAnyC_first h0 (Region.noSelect_spec hsel) hs hc hn hkn (fun listed' a' hL => seqB_ready hL.1) l.length listed a inv (Region.free_spec h0 hf) hr' hy
      (wpAnyC_lex hsel hs hc hn l (k + 1) _ _ (fun j hj => by have := hl (j + 1) (by simp; omega); simpa [Nat.add_assoc, Nat.add_comm 1 j] using this) (by simp only [List.length_cons] at hk; omega) (inv.set hr' hkn) hB' hK)
/-- the region: its head in the text's order, in each of the worlds C; its tail behind it. -/
theorem wp_region_class {id : Nat} {Q : Exit → Act → World → Prop} {a : Act} {w : World} {l : List Oper} (n : Nat) (C : World → Prop) (hm : P.follows .mixedOrders = true) (hB : Region.lexTailB .any l.toArray n = true)
    (hC : C { w with drawn := w.drawn + 1 }) (h : wpHead P l.toArray C (fun a' => ∀ W, C W → wpList P l.toArray Q (l.drop n) a' W) (l.take n) a) : (Code.region id l.toArray true).wp P Q a w := by
  simp only [Region.lexTailB, Bool.and_eq_true, decide_eq_true_eq] at hB
  obtain ⟨⟨⟨⟨hsel, hn⟩, hs⟩, hc⟩, hlex⟩ := hB
  have hn' : n < l.length := by simpa using hn
  have htl : (l.take n).length = n := by simp; omega
  have hdl : (l.drop n).length = l.toArray.size - n := by simp
  have inv0 : HeadInv .any l.toArray n (Array.replicate l.toArray.size false) :=
    ⟨by simp, fun j oj _ hl => (by rw [getD_replicate_false] at hl; cases hl), fun t _ ht => getD_in (by simpa using ht) (getD_replicate_false _ _)⟩
  have H := wpAnyC_lex (md := .any) (g := l.toArray.size - n) hsel hs hc hn (l.take n) 0 _ a (fun j hj => by
    have hj' : j < n := by rw [htl] at hj; exact hj
    simp [hj']) (by simpa using htl) inv0 (by rw [htl]; exact hlex) h
  refine wp_region_any hm ?_
  have := wpAny_of_headC (Q' := Q) (g := l.toArray.size - n) (fun listed a' W hL hW => by
    have := wpAny_of_seq (md := .any) (Q' := Q) (l.drop n) n listed a' W (fun j => by simp [List.getElem?_drop]) (by rw [hdl]; exact hL.1) (hL.2 W hW)
    rwa [hdl] at this) _ _ _ _ H hC
  rw [htl, show n + (l.toArray.size - n) = l.toArray.size by omega] at this
  exact this
end
theorem head_step {P : Program} {ops : Array Oper} {C : World → Prop} {Q : Act → Prop} {o : Oper} {rest : List Oper} {a : Act} (v : Value) (hw : Region.wanted o (yielded ops a.tmps) = true) (hr : ∀ W, C W → (execOp a.eval o).run P W = .ok (.value v) W) (h : wpHead P ops C Q rest (a.put o.dst v)) : wpHead P ops C Q (o :: rest) a :=
  ⟨v, .inl ⟨hw, fun W hW => .inl (hr W hW)⟩, h⟩
theorem head_call {P : Program} {ops : Array Oper} {C : World → Prop} {Q : Act → Prop} {o : Oper} {rest : List Oper} {a : Act} (v : Value) (f : FuncId) (args : Array Value) (hw : Region.wanted o (yielded ops a.tmps) = true) (hr : ∀ W, C W → (execOp a.eval o).run P W = .ok (.enter f args) W)
    (hc : ∀ W, C W → Calls P f args W (fun e w' => e = .returned v ∧ C w')) (h : wpHead P ops C Q rest (a.put o.dst v)) : wpHead P ops C Q (o :: rest) a :=
  ⟨v, .inl ⟨hw, fun W hW => .inr (.inr ⟨f, args, hr W hW, hc W hW⟩)⟩, h⟩

end Go.Proofs.YtagnjmellcibhaaGreatDoor

namespace Go.Proofs.YtagnjmellcibhaaGreatDoor
open Go.RowKit
set_option linter.unusedVariables false

theorem uf1 {ks : List KV} {W : WV} {i : Nat} {u : UnV} (h : decide (1 ≤ u.id ∧ u.id ≤ W.next - 1) = false) : Wd.unitFault ks W i u = 1 := by unfold Wd.unitFault; rw [h]; rfl
theorem uf2 {ks : List KV} {W : WV} {i : Nat} {u : UnV} (h : decide (1 ≤ u.id ∧ u.id ≤ W.next - 1) = true) (h2 : Wd.notAbove W.us i u = true) : Wd.unitFault ks W i u = 5 := by unfold Wd.unitFault; rw [h, h2]; rfl
theorem uf3 {ks : List KV} {W : WV} {i : Nat} {u : UnV} (h : decide (1 ≤ u.id ∧ u.id ≤ W.next - 1) = true) (h2 : Wd.notAbove W.us i u = false) (h3 : Wd.has W.gold.length u.player = false) : Wd.unitFault ks W i u = 1 := by unfold Wd.unitFault; rw [h, h2, h3]; rfl
theorem uf4 {ks : List KV} {W : WV} {i : Nat} {u : UnV} (h : decide (1 ≤ u.id ∧ u.id ≤ W.next - 1) = true) (h2 : Wd.notAbove W.us i u = false) (h3 : Wd.has W.gold.length u.player = true) (h4 : Wd.has ks.length u.kind = false) : Wd.unitFault ks W i u = 1 := by unfold Wd.unitFault; rw [h, h2, h3, h4]; rfl
theorem uf5 {ks : List KV} {W : WV} {i : Nat} {u : UnV} {k : KV} (h : decide (1 ≤ u.id ∧ u.id ≤ W.next - 1) = true) (h2 : Wd.notAbove W.us i u = false) (h3 : Wd.has W.gold.length u.player = true) (h4 : Wd.has ks.length u.kind = true) (h5 : ks[u.kind.toNat]? = some k) : Wd.unitFault ks W i u = Wd.kindPart W (W.us.take i) u k := by unfold Wd.unitFault; rw [h, h2, h3, h4, h5]; rfl
theorem wwithin_yes (x lo hi : Int) (w : World) (h : lo ≤ x ∧ x ≤ hi) : Calls Tryz.prog 87 #[.int .i64 x, .int .i64 lo, .int .i64 hi] w fun e w' => e = .returned (.bool true) ∧ w' = w := (wwithin_any x lo hi w).mono fun e w' ⟨h1, h2⟩ => ⟨by rw [h1, decide_eq_true h], h2⟩
theorem wwithin_no (x lo hi : Int) (w : World) (h : ¬ (lo ≤ x ∧ x ≤ hi)) : Calls Tryz.prog 87 #[.int .i64 x, .int .i64 lo, .int .i64 hi] w fun e w' => e = .returned (.bool false) ∧ w' = w := (wwithin_any x lo hi w).mono fun e w' ⟨h1, h2⟩ => ⟨by rw [h1, decide_eq_false h], h2⟩
section
variable {W : WV} {ah : List UnV} {u : UnV} {k : KV}
theorem kp1 (h : ¬ (1 ≤ u.life ∧ u.life ≤ k.n0) ∨ ¬ (0 ≤ u.load ∧ u.load ≤ k.n7) ∨ ¬ (0 ≤ u.task ∧ u.task ≤ 2)) : Wd.kindPart W ah u k = 1 := by
  unfold Wd.kindPart
  rw [if_pos]
  rcases h with h | h | h <;> simp only [decide_eq_false h, Bool.not_false, Bool.true_or, Bool.or_true]
theorem kp6 (h5 : 1 ≤ u.life ∧ u.life ≤ k.n0) (h6 : 0 ≤ u.load ∧ u.load ≤ k.n7) (h7 : 0 ≤ u.task ∧ u.task ≤ 2) (h : ¬ (0 ≤ u.at_ ∧ u.at_ < (W.gs.length : Int)) ∨ ¬ (0 ≤ u.goal ∧ u.goal < (W.gs.length : Int))) : Wd.kindPart W ah u k = 6 := by
  unfold Wd.kindPart Wd.has
  rw [decide_eq_true h5, decide_eq_true h6, decide_eq_true h7, if_neg (by decide), if_pos]
  rcases h with h | h <;> simp only [decide_eq_false h, Bool.not_false, Bool.true_or, Bool.or_true]
theorem kp7 (h5 : 1 ≤ u.life ∧ u.life ≤ k.n0) (h6 : 0 ≤ u.load ∧ u.load ≤ k.n7) (h7 : 0 ≤ u.task ∧ u.task ≤ 2) (h8 : 0 ≤ u.at_ ∧ u.at_ < (W.gs.length : Int)) (h9 : 0 ≤ u.goal ∧ u.goal < (W.gs.length : Int)) (h : Wd.open_ W.gs ah u.at_ k.f = false ∨ (u.goal ≠ 0 ∧ u.task = 0)) : Wd.kindPart W ah u k = 7 := by
  unfold Wd.kindPart Wd.has
  rw [decide_eq_true h5, decide_eq_true h6, decide_eq_true h7, decide_eq_true h8, decide_eq_true h9, if_neg (by decide), if_neg (by decide), if_pos]
  rcases h with h | ⟨h, h'⟩
  · rw [h]; rfl
  · simp [h, h']
theorem kp0 (h5 : 1 ≤ u.life ∧ u.life ≤ k.n0) (h6 : 0 ≤ u.load ∧ u.load ≤ k.n7) (h7 : 0 ≤ u.task ∧ u.task ≤ 2) (h8 : 0 ≤ u.at_ ∧ u.at_ < (W.gs.length : Int)) (h9 : 0 ≤ u.goal ∧ u.goal < (W.gs.length : Int)) (h : Wd.open_ W.gs ah u.at_ k.f = true) (h' : u.goal = 0 ∨ u.task ≠ 0) : Wd.kindPart W ah u k = 0 := by
  unfold Wd.kindPart Wd.has
  rw [decide_eq_true h5, decide_eq_true h6, decide_eq_true h7, decide_eq_true h8, decide_eq_true h9, h, if_neg (by decide), if_neg (by decide), if_neg]
  rcases h' with h' | h' <;> simp [h']
end
theorem Unl.take_ {w : World} {a : Option Addr} {n c : Nat} {us : List UnV} (h : Unl w (.slice a n c) us) {q : Nat} (hq : q ≤ us.length) : Unl w (.slice a q c) (us.take q) := by
  obtain ⟨a', c', e, h1, h2, h3⟩ := h
  injection e with e1 e2 e3
  subst e1 e3
  have hl : (us.take q).length = q := by rw [List.length_take]; omega
  refine ⟨a, c, by rw [hl], by omega, h2, fun hn => ?_⟩
  obtain ⟨x, e, hx, hc⟩ := h3 (by intro e; rw [e] at hn; simp at hn)
  refine ⟨x, e, hx, fun i k hk => hc i k ?_⟩
  rw [List.getElem?_take] at hk
  split at hk
  · exact hk
  · cases hk
set_option maxRecDepth 100000 in
set_option maxHeartbeats 16000000 in
theorem unit_any (vk vw : Value) (ks : List KV) (W : WV) (Wn Hn : Nat) (i : Nat) (u : UnV) (w : World) (hk : Kl w vk ks) (hw : Wl w vw W) (hW : W.wide = Wn) (hH : W.high = Hn) (G : Fd.Good Wn Hn W.gs W.os) (hu : W.us[i]? = some u) (hn : Wd.off 1 W.next = false) (hul : W.us.length ≤ 40) (hkl : ks.length ≤ 8) (hgl : W.gold.length ≤ 4) :
    Calls Tryz.prog 56 #[vk, vw, .int .i64 (i : Nat)] w fun e w' => ∃ r, e = .returned r ∧ Er r (Wd.unitFault ks W i u) ∧ Below w.heap.size w w' := by
  have K : Hid (Kl w vk ks) := hk
  have H : Hid (Wl w vw W) := hw
  have HG : Hid (Fd.Good Wn Hn W.gs W.os ∧ W.wide = Wn ∧ W.high = Hn) := ⟨G, hW, hH⟩
  have HU : Hid (W.us[i]? = some u) := hu
  have gl144 : W.gs.length ≤ 144 := by have := G.gl; have := G.pos; have := G.pos.2; omega
  obtain ⟨u1, u2, u3, u4, u5, rfl, r1, r2, r3, r4, r5⟩ := hw
  obtain ⟨p1, q1, rfl, -⟩ := r1
  obtain ⟨p2, q2, rfl, -⟩ := r2
  obtain ⟨p3, q3, rfl, -⟩ := r3
  obtain ⟨p4, q4, rfl, k41, k42, k43⟩ := r4
  obtain ⟨p5, q5, rfl, -⟩ := r5
  obtain ⟨pk, qk, rfl, kk1, kk2, kk3⟩ := hk
  have hil : i < W.us.length := (List.getElem?_eq_some_iff.1 hu).1
  have hili : (i : Int) < (W.us.length : Int) := by omega
  obtain ⟨x, rfl, hx, hcell⟩ := k43 (by intro e; rw [e] at hil; simp at hil)
  have UC : Hid (x.block < w.heap.size ∧ ∀ (i : Nat) k, W.us[i]? = some k → Unc w (x.add (i * 8)) k) := ⟨hx, hcell⟩
  obtain ⟨d0, d1, d2, d3, d4, d5, d6, d7⟩ := hcell i u hu
  have nx : 1 ≤ W.next ∧ W.next ≤ 1000000 := by
    unfold Wd.off at hn
    have : decide (1 ≤ W.next ∧ W.next ≤ 1000000) = true := by cases h : decide (1 ≤ W.next ∧ W.next ≤ 1000000) with | true => rfl | false => rw [h] at hn; cases hn
    exact of_decide_eq_true this
  obtain ⟨n1, hn1⟩ : ∃ n1 : Int, W.next - 1 = n1 := ⟨_, rfl⟩
  have wn1 : IntKind.i64.wrap n1 = n1 := by rw [IntKind.wrap_i64]; omega
  obtain ⟨b1, hb1⟩ : ∃ b, decide (1 ≤ u.id ∧ u.id ≤ n1) = b := ⟨_, rfl⟩
  have HB1 : Hid (decide (1 ≤ u.id ∧ u.id ≤ W.next - 1) = b1) := by unfold Hid; rw [hn1]; exact hb1
  clear hcell hx k43 hn nx hu hW hH G
  go_enter Tryz.func56, Tryz.ntmps56
  go_upto_region 1 with fail
  have Y0 : Hid (Bw (w.alloc (Obj.cells #[.int .i64 W.turn, .int .i64 W.next, .int .i64 W.wide, .int .i64 W.high, .slice p1 W.gs.length q1, .slice p2 W.os.length q2, .slice p3 W.gold.length q3, .slice (some x) W.us.length q4, .slice p5 W.qs.length q5] 29)) w.heap.size W (.slice p1 W.gs.length q1) (.slice p2 W.os.length q2) (.slice p3 W.gold.length q3) (.slice (some x) W.us.length q4) (.slice p5 W.qs.length q5)) := Bw.mk' W _ _ _ _ _ rfl
  have BY : Hid (Below w.heap.size w (w.alloc (Obj.cells #[.int .i64 W.turn, .int .i64 W.next, .int .i64 W.wide, .int .i64 W.high, .slice p1 W.gs.length q1, .slice p2 W.os.length q2, .slice p3 W.gold.length q3, .slice (some x) W.us.length q4, .slice p5 W.qs.length q5] 29))) := (Below.refl _ _).alloc (Nat.le_refl _) _
  have SY : Hid ((w.alloc (Obj.cells #[.int .i64 W.turn, .int .i64 W.next, .int .i64 W.wide, .int .i64 W.high, .slice p1 W.gs.length q1, .slice p2 W.os.length q2, .slice p3 W.gold.length q3, .slice (some x) W.us.length q4, .slice p5 W.qs.length q5] 29)).heap.size = w.heap.size + 1) := by unfold Hid; simp
  generalize (w.alloc (Obj.cells #[.int .i64 W.turn, .int .i64 W.next, .int .i64 W.wide, .int .i64 W.high, .slice p1 W.gs.length q1, .slice p2 W.os.length q2, .slice p3 W.gold.length q3, .slice (some x) W.us.length q4, .slice p5 W.qs.length q5] 29)) = wy at *
  clear d0 d1 d2 d3 d4 d5 d6 d7
  obtain ⟨d0, d1, d2, d3, d4, d5, d6, d7⟩ := (UC.out.2 i u HU.out).below BY.out (by rw [add_block]; exact UC.out.1)
  have x7 := Y0.out.c7
  go_upto_region 2 with fail
  have X0 : Hid (Bw (wy.alloc (Obj.cells #[.int .i64 u.id, .int .i64 u.player, .int .i64 u.kind, .int .i64 u.at_, .int .i64 u.life, .int .i64 u.load, .int .i64 u.task, .int .i64 u.goal] 59)) w.heap.size W (.slice p1 W.gs.length q1) (.slice p2 W.os.length q2) (.slice p3 W.gold.length q3) (.slice (some x) W.us.length q4) (.slice p5 W.qs.length q5)) := Y0.out.below ((Below.refl _ _).alloc (Nat.le_refl _) _) Y0.out.lt
  have U0 : Hid (Unc (wy.alloc (Obj.cells #[.int .i64 u.id, .int .i64 u.player, .int .i64 u.kind, .int .i64 u.at_, .int .i64 u.life, .int .i64 u.load, .int .i64 u.task, .int .i64 u.goal] 59)) ⟨wy.heap.size, 0, none⟩ u) := Unc.mk' u rfl
  have B0 : Hid (Below w.heap.size w (wy.alloc (Obj.cells #[.int .i64 u.id, .int .i64 u.player, .int .i64 u.kind, .int .i64 u.at_, .int .i64 u.life, .int .i64 u.load, .int .i64 u.task, .int .i64 u.goal] 59))) := BY.out.alloc BY.out.size _
  generalize (wy.alloc (Obj.cells #[.int .i64 u.id, .int .i64 u.player, .int .i64 u.kind, .int .i64 u.at_, .int .i64 u.life, .int .i64 u.load, .int .i64 u.task, .int .i64 u.goal] 59)) = w0 at *
  generalize wy.heap.size = zu at *
  clear d0 d1 d2 d3 d4 d5 d6 d7 x7 Y0 BY SY
  obtain ⟨x0, x1, x2, x3, x4, x5, x6, x7, x8⟩ := X0.out
  obtain ⟨y0, y1, y2, y3, y4, y5, y6, y7⟩ := U0.out
  go_wp2_with fail
  refine (wwithin_any u.id 1 n1 w0).mono ?_
  rintro e ww ⟨rfl, rfl⟩
  rw [hb1]
  clear hb1 hn1 wn1
  cases b1 with
  | false =>
    go_wp2
    go_ret
    exact ⟨_, rfl, by rw [uf1 HB1.out]; exact Er.no (by decide), B0.out⟩
  | true =>
    obtain ⟨b2, hb2⟩ : ∃ b, Wd.notAbove W.us i u = b := ⟨_, rfl⟩
    have HB2 : Hid (Wd.notAbove W.us i u = b2) := hb2
    go_upto_region 4 with fail
    go_cut [2, 22] from 23 to 36 (fun v2 v22 V => v2 = .int .i64 (i : Nat) ∧ v22 = .bool b2 ∧ Below ww.heap.size ww V)
    case first =>
      rcases Nat.eq_zero_or_pos i with hi0 | hi0
      · have g0 : ¬ (0 : Int) < (i : Int) := by omega
        have hbf : b2 = false := by rw [← hb2, hi0]; rfl
        subst hbf
        clear hb2
        have HI0 : Hid (i = 0) := hi0
        have hnp : ¬ 0 < i := by omega
        clear hi0
        go_quiet (fail)
        go_wp2
        go_meet
        case rel => exact ⟨by first | rfl | rw [HI0.out], rfl, _root_.Go.below_drewN (Below.refl _ _) _⟩
      · obtain ⟨j, hj⟩ : ∃ j, i = j + 1 := ⟨i - 1, by omega⟩
        obtain ⟨v, hv⟩ : ∃ v, W.us[j]? = some v := ⟨_, List.getElem?_eq_getElem (by omega)⟩
        have e0 : (i : Int) - 1 = (j : Nat) := by omega
        have g0 : (0 : Int) < (i : Int) := by omega
        have wj : IntKind.i64.wrap ((j : Nat) : Int) = (j : Nat) := by rw [IntKind.wrap_i64]; omega
        have jl : (j : Int) < (W.us.length : Int) := by omega
        obtain ⟨d0, -, -, -, -, -, -, -⟩ := (UC.out.2 j v hv).below B0.out (by rw [add_block]; exact UC.out.1)
        have hb : decide (u.id ≤ v.id) = b2 := by rw [← hb2, hj]; unfold Wd.notAbove; simp only [hv]
        clear hj hb2 hv
        cases b2
        · have hgt : ¬ u.id ≤ v.id := of_decide_eq_false hb
          clear hb
          go_quiet (fail)
          go_wp2
          go_meet
          case rel => exact ⟨by first | rfl | rw [HI0.out], rfl, _root_.Go.below_drewN (Below.refl _ _) _⟩
        · have hle : u.id ≤ v.id := of_decide_eq_true hb
          clear hb
          go_quiet (fail)
          go_wp2
          go_meet
          case rel => exact ⟨by first | rfl | rw [HI0.out], rfl, _root_.Go.below_drewN (Below.refl _ _) _⟩
    case rest =>
      obtain ⟨rfl, rfl, hbc⟩ := hcut
      have BC : Hid (Below w.heap.size w wc) := B0.out.trans (hbc.mono B0.out.size)
      have XC : Hid (Bw wc w.heap.size W (.slice p1 W.gs.length q1) (.slice p2 W.os.length q2) (.slice p3 W.gold.length q3) (.slice (some x) W.us.length q4) (.slice p5 W.qs.length q5)) := X0.out.below hbc X0.out.lt
      have VC : Hid (Unc wc ⟨zu, 0, none⟩ u) := U0.out.below hbc U0.out.lt
      clear hbc hb2 x0 x1 x2 x3 x4 x5 x6 x7 x8 y0 y1 y2 y3 y4 y5 y6 y7 X0 U0 B0
      obtain ⟨x0, x1, x2, x3, x4, x5, x6, x7, x8⟩ := XC.out
      obtain ⟨y0, y1, y2, y3, y4, y5, y6, y7⟩ := VC.out
      cases b2 with
      | true =>
        go_wp2
        go_ret
        exact ⟨_, rfl, by rw [uf2 HB1.out HB2.out]; exact Er.no (by decide), BC.out⟩
      | false =>
        obtain ⟨b3, hb3⟩ : ∃ b, decide (0 ≤ u.player ∧ u.player < (W.gold.length : Int)) = b := ⟨_, rfl⟩
        have HB3 : Hid (Wd.has W.gold.length u.player = b3) := hb3
        go_wp2_with fail
        refine (isone_ints _ _ _ _ _ (by omega)).mono ?_
        rintro e w5 ⟨rfl, hww⟩
        obtain rfl := hww.symm
        rw [hb3]
        clear hb3
        cases b3 with
        | false =>
          go_wp2
          go_ret
          exact ⟨_, rfl, by rw [uf3 HB1.out HB2.out HB3.out]; exact Er.no (by decide), BC.out⟩
        | true =>
          obtain ⟨b4, hb4⟩ : ∃ b, decide (0 ≤ u.kind ∧ u.kind < (ks.length : Int)) = b := ⟨_, rfl⟩
          have HB4 : Hid (Wd.has ks.length u.kind = b4) := hb4
          go_wp2_with fail
          refine (isone_kinds _ _ _ _ _ (by omega)).mono ?_
          rintro e w6 ⟨rfl, hww⟩
          obtain rfl := hww.symm
          rw [hb4]
          cases b4 with
          | false =>
            clear hb4
            go_wp2
            go_ret
            exact ⟨_, rfl, by rw [uf4 HB1.out HB2.out HB3.out HB4.out]; exact Er.no (by decide), BC.out⟩
          | true =>
            have hkr := of_decide_eq_true hb4
            obtain ⟨kn, ek⟩ : ∃ kn : Nat, u.kind = kn := ⟨u.kind.toNat, by omega⟩
            have hkn : kn < ks.length := by omega
            obtain ⟨k, hkk⟩ : ∃ k, ks[kn]? = some k := ⟨_, List.getElem?_eq_getElem hkn⟩
            have UF : Hid (Wd.unitFault ks W i u = Wd.kindPart W (W.us.take i) u k) := uf5 HB1.out HB2.out HB3.out HB4.out (by rw [ek, Int.toNat_natCast]; exact hkk)
            obtain ⟨xk, rfl, hxk, hkc⟩ := kk3 (by intro e; rw [e] at hkn; simp at hkn)
            have hkni : (kn : Int) < (ks.length : Int) := by omega
            have KC : Hid (Kc _ (xk.add (kn * 11)) k) := (hkc kn k hkk).below BC.out (by rw [add_block]; exact hxk)
            rw [ek] at y2
            obtain ⟨l0, l1, l2, l3, l4, l5, l6, l7, l8, l9, l10⟩ := KC.out
            clear hkr hb4 hkc hxk hkk kk3
            go_upto_region 9 with fail
            by_cases h5 : 1 ≤ u.life ∧ u.life ≤ k.n0
            · go_quiet ((go_at_call 87; exact Calls.quiet_of_same (wwithin_yes _ _ _ _ h5)))
              have BC' : Hid (Below w.heap.size w (wc.drewN nq)) := _root_.Go.below_drewN BC.out nq
              have XC' : Hid (Bw (wc.drewN nq) w.heap.size W (.slice p1 W.gs.length q1) (.slice p2 W.os.length q2) (.slice p3 W.gold.length q3) (.slice (some x) W.us.length q4) (.slice p5 W.qs.length q5)) := XC.out.below (_root_.Go.below_drewN (Below.refl _ _) nq) XC.out.lt
              have VC' : Hid (Unc (wc.drewN nq) ⟨zu, 0, none⟩ u) := VC.out.below (_root_.Go.below_drewN (Below.refl _ _) nq) VC.out.lt
              have KC' : Hid (Kc (wc.drewN nq) (xk.add (kn * 11)) k) := KC.out.below (_root_.Go.below_drewN (Below.refl _ _) nq) KC.out.lt
              generalize wc.drewN nq = wd at *
              clear BC XC VC KC x0 x1 x2 x3 x4 x5 x6 x7 x8 y0 y1 y2 y3 y4 y5 y6 y7 l0 l1 l2 l3 l4 l5 l6 l7 l8 l9 l10
              obtain ⟨wc, hwc⟩ : ∃ wc, wc = wd := ⟨_, rfl⟩
              subst hwc
              have BC := BC'
              have XC := XC'
              have VC := VC'
              have KC := KC'
              clear BC' XC' VC' KC'
              obtain ⟨x0, x1, x2, x3, x4, x5, x6, x7, x8⟩ := XC.out
              obtain ⟨y0, y1, y2, y3, y4, y5, y6, y7⟩ := VC.out
              rw [ek] at y2
              obtain ⟨l0, l1, l2, l3, l4, l5, l6, l7, l8, l9, l10⟩ := KC.out
              go_upto_region 10 with fail
              by_cases h6 : 0 ≤ u.load ∧ u.load ≤ k.n7
              · go_quiet ((go_at_call 87; exact Calls.quiet_of_same (wwithin_yes _ _ _ _ h6)))
                have BC' : Hid (Below w.heap.size w (wc.drewN nq)) := _root_.Go.below_drewN BC.out nq
                have XC' : Hid (Bw (wc.drewN nq) w.heap.size W (.slice p1 W.gs.length q1) (.slice p2 W.os.length q2) (.slice p3 W.gold.length q3) (.slice (some x) W.us.length q4) (.slice p5 W.qs.length q5)) := XC.out.below (_root_.Go.below_drewN (Below.refl _ _) nq) XC.out.lt
                have VC' : Hid (Unc (wc.drewN nq) ⟨zu, 0, none⟩ u) := VC.out.below (_root_.Go.below_drewN (Below.refl _ _) nq) VC.out.lt
                have KC' : Hid (Kc (wc.drewN nq) (xk.add (kn * 11)) k) := KC.out.below (_root_.Go.below_drewN (Below.refl _ _) nq) KC.out.lt
                generalize wc.drewN nq = wd at *
                clear BC XC VC KC x0 x1 x2 x3 x4 x5 x6 x7 x8 y0 y1 y2 y3 y4 y5 y6 y7 l0 l1 l2 l3 l4 l5 l6 l7 l8 l9 l10
                obtain ⟨wc, hwc⟩ : ∃ wc, wc = wd := ⟨_, rfl⟩
                subst hwc
                have BC := BC'
                have XC := XC'
                have VC := VC'
                have KC := KC'
                clear BC' XC' VC' KC'
                obtain ⟨x0, x1, x2, x3, x4, x5, x6, x7, x8⟩ := XC.out
                obtain ⟨y0, y1, y2, y3, y4, y5, y6, y7⟩ := VC.out
                rw [ek] at y2
                obtain ⟨l0, l1, l2, l3, l4, l5, l6, l7, l8, l9, l10⟩ := KC.out
                by_cases h7 : 0 ≤ u.task ∧ u.task ≤ 2
                · go_wp2_with fail
                  refine (wwithin_yes _ _ _ _ h7).mono ?_
                  rintro e w8 ⟨rfl, hww⟩
                  obtain rfl := hww.symm
                  by_cases h8 : 0 ≤ u.at_ ∧ u.at_ < (W.gs.length : Int)
                  · have t8 : decide (0 ≤ u.at_ ∧ u.at_ < (W.gs.length : Int)) = true := decide_eq_true h8
                    go_wp2_with fail
                    refine (isone_ints _ _ _ _ _ (by omega)).mono ?_
                    rintro e w9 ⟨rfl, hww⟩
                    obtain rfl := hww.symm
                    rw [t8]
                    by_cases h9 : 0 ≤ u.goal ∧ u.goal < (W.gs.length : Int)
                    · have t9 : decide (0 ≤ u.goal ∧ u.goal < (W.gs.length : Int)) = true := decide_eq_true h9
                      go_wp2_with fail
                      refine (isone_ints _ _ _ _ _ (by omega)).mono ?_
                      rintro e w10 ⟨rfl, hww⟩
                      obtain rfl := hww.symm
                      rw [t9]
                      clear t8 t9
                      obtain ⟨an, ea⟩ : ∃ an : Nat, u.at_ = an := ⟨u.at_.toNat, by omega⟩
                      obtain ⟨g, hg0⟩ : ∃ g, W.gs[an]? = some g := ⟨_, List.getElem?_eq_getElem (by omega)⟩
                      have hgan : Hid (W.gs[an]? = some g) := hg0
                      clear hg0
                      have FC : Hid (∀ V, Below wc.heap.size wc V → V.cell? ⟨w.heap.size, 2, none⟩ = some (.int .i64 W.wide) ∧ V.cell? ⟨w.heap.size, 3, none⟩ = some (.int .i64 W.high) ∧ V.cell? ⟨w.heap.size, 4, none⟩ = some (.slice p1 W.gs.length q1) ∧ V.cell? ⟨w.heap.size, 5, none⟩ = some (.slice p2 W.os.length q2) ∧ V.cell? ⟨w.heap.size, 7, none⟩ = some (.slice (some x) W.us.length q4) ∧ V.cell? ⟨zu, 3, none⟩ = some (.int .i64 (an : Nat)) ∧ V.cell? ⟨zu, 2, none⟩ = some (.int .i64 (kn : Nat)) ∧ V.cell? ⟨(xk.add (kn * 11)).block, (xk.add (kn * 11)).off + 9, none⟩ = some (.bool k.f)) := fun V hV => by
                        obtain ⟨-, -, z2, z3, z4, z5, -, z7, -⟩ := XC.out.below hV XC.out.lt
                        obtain ⟨-, -, g2, g3, -, -, -, -⟩ := VC.out.below hV VC.out.lt
                        obtain ⟨-, -, -, -, -, -, -, -, -, m9, -⟩ := KC.out.below hV KC.out.lt
                        rw [ek] at g2
                        rw [ea] at g3
                        exact ⟨z2, z3, z4, z5, z7, g3, g2, m9⟩
                      have OPN : Hid (∀ V, Below wc.heap.size wc V → Calls Tryz.prog 91 #[.agg #[.int .i64 W.wide, .int .i64 W.high, .slice p1 W.gs.length q1, .slice p2 W.os.length q2], .slice (some x) i q4, .int .i64 (an : Nat), .bool k.f] V fun e w' => e = .returned (.bool (Wd.open_ W.gs (W.us.take i) (an : Nat) k.f)) ∧ Below wc.heap.size wc w') := fun V hV => by
                        have BV : Below w.heap.size w V := BC.out.trans (hV.mono BC.out.size)
                        obtain ⟨r1, r2, -, r4, -⟩ := (H.out.below BV).slices
                        obtain ⟨hGood, hWn, hHn⟩ := HG.out
                        rw [hWn, hHn]
                        exact (isopen_any _ _ Wn Hn W.gs W.os (W.us.take i) an g k.f V ⟨_, _, rfl, r1, r2⟩ hGood (r4.take_ (by omega)) (by have := hGood.gl; omega) hgan.out).mono fun e w' ⟨h1, h2⟩ => ⟨h1, hV.trans (h2.mono hV.size)⟩
                      have eo : ∀ args w, (callFunc 91 args).run Tryz.prog w = .ok (.enter 91 args) w := by intro args w; go_simp
                      have hin : (i : Int) ≤ (q4 : Int) := by omega
                      go_upto_region 16 with fail
                      refine wp_region_class 15 (fun V => Below wc.heap.size wc V) (by kernel_rfl) (by kernel_rfl) (Below.refl _ _).drew ?_
                      simp only [List.take_succ_cons, List.take_zero, List.drop_succ_cons, List.drop_zero]
                      refine head_step (.pointer (some ⟨w.heap.size, 2, none⟩)) (by go_simp) (fun V hV => by go_simp) ?_
                      go_simp
                      refine head_step (.agg #[.int .i64 W.wide, .int .i64 W.high, .slice p1 W.gs.length q1, .slice p2 W.os.length q2]) (by go_simp) (fun V hV => by obtain ⟨f2, f3, f4, f5, -⟩ := FC.out V hV; go_simp) ?_
                      go_simp
                      refine head_step (.pointer (some ⟨w.heap.size, 7, none⟩)) (by go_simp) (fun V hV => by go_simp) ?_
                      go_simp
                      refine head_step (.slice (some x) W.us.length q4) (by go_simp) (fun V hV => by obtain ⟨-, -, -, -, f7, -⟩ := FC.out V hV; go_simp) ?_
                      go_simp
                      refine head_step (.int .i64 (i : Nat)) (by go_simp) (fun V hV => by go_simp) ?_
                      go_simp
                      refine head_step (.slice (some x) i q4) (by go_simp) (fun V hV => by go_simp) ?_
                      go_simp
                      refine head_step (.pointer (some ⟨zu, 3, none⟩)) (by go_simp) (fun V hV => by go_simp) ?_
                      go_simp
                      refine head_step (.int .i64 (an : Nat)) (by go_simp) (fun V hV => by obtain ⟨-, -, -, -, -, f8, -⟩ := FC.out V hV; go_simp) ?_
                      go_simp
                      refine head_step (.slice (some xk) ks.length qk) (by go_simp) (fun V hV => by go_simp) ?_
                      go_simp
                      refine head_step (.pointer (some ⟨zu, 2, none⟩)) (by go_simp) (fun V hV => by go_simp) ?_
                      go_simp
                      refine head_step (.int .i64 (kn : Nat)) (by go_simp) (fun V hV => by obtain ⟨-, -, -, -, -, -, f9, -⟩ := FC.out V hV; go_simp) ?_
                      go_simp
                      refine head_step (.pointer (some (xk.add (kn * 11)))) (by go_simp) (fun V hV => by go_simp) ?_
                      go_simp
                      refine head_step (.pointer (some ⟨(xk.add (kn * 11)).block, (xk.add (kn * 11)).off + 9, none⟩)) (by go_simp) (fun V hV => by go_simp) ?_
                      go_simp
                      refine head_step (.bool k.f) (by go_simp) (fun V hV => by obtain ⟨-, -, -, -, -, -, -, f10⟩ := FC.out V hV; go_simp) ?_
                      go_simp
                      refine head_call (.bool (Wd.open_ W.gs (W.us.take i) (an : Nat) k.f)) 91 #[.agg #[.int .i64 W.wide, .int .i64 W.high, .slice p1 W.gs.length q1, .slice p2 W.os.length q2], .slice (some x) i q4, .int .i64 (an : Nat), .bool k.f] (by go_simp) (fun V hV => by go_simp) (fun V hV => OPN.out V hV) ?_
                      go_simp
                      intro V hV
                      have BV : Hid (Below w.heap.size w V) := BC.out.trans (hV.mono BC.out.size)
                      have VV : Hid (Unc V ⟨zu, 0, none⟩ u) := VC.out.below hV VC.out.lt
                      obtain ⟨b9, hb9⟩ : ∃ b, Wd.open_ W.gs (W.us.take i) (an : Nat) k.f = b := ⟨_, rfl⟩
                      have HB9 : Hid (Wd.open_ W.gs (W.us.take i) (an : Nat) k.f = b9) := hb9
                      rw [hb9]
                      clear hV FC OPN hb9 x0 x1 x2 x3 x4 x5 x6 x7 x8 y0 y1 y2 y3 y4 y5 y6 y7 l0 l1 l2 l3 l4 l5 l6 l7 l8 l9 l10
                      cases b9 with
                      | false =>
                        go_wp2
                        go_ret
                        exact ⟨_, rfl, by rw [UF.out, kp7 h5 h6 h7 h8 h9 (.inl (by rw [ea]; exact HB9.out))]; exact Er.no (by decide), BV.out⟩
                      | true =>
                        obtain ⟨y0, y1, y2, y3, y4, y5, y6, y7⟩ := VV.out
                        by_cases hgo : u.goal = 0
                        · have FINE : Hid (Wd.unitFault ks W i u = 0) := by unfold Hid; rw [UF.out, kp0 h5 h6 h7 h8 h9 (by rw [ea]; exact HB9.out) (.inl hgo)]
                          go_wp2
                          go_ret
                          exact ⟨_, rfl, by rw [FINE.out]; exact Er.nil, BV.out⟩
                        · by_cases hta : u.task = 0
                          · have BADF : Hid (Wd.unitFault ks W i u = 7) := by unfold Hid; rw [UF.out, kp7 h5 h6 h7 h8 h9 (.inr ⟨hgo, hta⟩)]
                            go_wp2
                            go_ret
                            exact ⟨_, rfl, by rw [BADF.out]; exact Er.no (by decide), BV.out⟩
                          · have FINE : Hid (Wd.unitFault ks W i u = 0) := by unfold Hid; rw [UF.out, kp0 h5 h6 h7 h8 h9 (by rw [ea]; exact HB9.out) (.inr hta)]
                            have tb : (u.task == 0) = false := by simpa using hta
                            clear hta
                            go_wp2
                            go_ret
                            exact ⟨_, rfl, by rw [FINE.out]; exact Er.nil, BV.out⟩
                    · have t9 : decide (0 ≤ u.goal ∧ u.goal < (W.gs.length : Int)) = false := decide_eq_false h9
                      go_wp2_with fail
                      refine (isone_ints _ _ _ _ _ (by omega)).mono ?_
                      rintro e w10 ⟨rfl, hww⟩
                      obtain rfl := hww.symm
                      rw [t9]
                      clear t9 t8
                      go_wp2
                      go_ret
                      exact ⟨_, rfl, by rw [UF.out, kp6 h5 h6 h7 (.inr h9)]; exact Er.no (by decide), BC.out⟩
                  · have t8 : decide (0 ≤ u.at_ ∧ u.at_ < (W.gs.length : Int)) = false := decide_eq_false h8
                    go_wp2_with fail
                    refine (isone_ints _ _ _ _ _ (by omega)).mono ?_
                    rintro e w9 ⟨rfl, hww⟩
                    obtain rfl := hww.symm
                    rw [t8]
                    clear t8
                    go_wp2
                    go_ret
                    exact ⟨_, rfl, by rw [UF.out, kp6 h5 h6 h7 (.inl h8)]; exact Er.no (by decide), BC.out⟩
                · go_wp2_with fail
                  refine (wwithin_no _ _ _ _ h7).mono ?_
                  rintro e w8 ⟨rfl, hww⟩
                  obtain rfl := hww.symm
                  go_wp2
                  go_ret
                  exact ⟨_, rfl, by rw [UF.out, kp1 (.inr (.inr h7))]; exact Er.no (by decide), BC.out⟩
              · go_quiet ((go_at_call 87; exact Calls.quiet_of_same (wwithin_no _ _ _ _ h6)))
                have BC' : Hid (Below w.heap.size w (wc.drewN nq)) := _root_.Go.below_drewN BC.out nq
                have XC' : Hid (Bw (wc.drewN nq) w.heap.size W (.slice p1 W.gs.length q1) (.slice p2 W.os.length q2) (.slice p3 W.gold.length q3) (.slice (some x) W.us.length q4) (.slice p5 W.qs.length q5)) := XC.out.below (_root_.Go.below_drewN (Below.refl _ _) nq) XC.out.lt
                have VC' : Hid (Unc (wc.drewN nq) ⟨zu, 0, none⟩ u) := VC.out.below (_root_.Go.below_drewN (Below.refl _ _) nq) VC.out.lt
                have KC' : Hid (Kc (wc.drewN nq) (xk.add (kn * 11)) k) := KC.out.below (_root_.Go.below_drewN (Below.refl _ _) nq) KC.out.lt
                generalize wc.drewN nq = wd at *
                clear BC XC VC KC x0 x1 x2 x3 x4 x5 x6 x7 x8 y0 y1 y2 y3 y4 y5 y6 y7 l0 l1 l2 l3 l4 l5 l6 l7 l8 l9 l10
                obtain ⟨wc, hwc⟩ : ∃ wc, wc = wd := ⟨_, rfl⟩
                subst hwc
                have BC := BC'
                have XC := XC'
                have VC := VC'
                have KC := KC'
                clear BC' XC' VC' KC'
                obtain ⟨x0, x1, x2, x3, x4, x5, x6, x7, x8⟩ := XC.out
                obtain ⟨y0, y1, y2, y3, y4, y5, y6, y7⟩ := VC.out
                rw [ek] at y2
                obtain ⟨l0, l1, l2, l3, l4, l5, l6, l7, l8, l9, l10⟩ := KC.out
                go_wp2
                go_ret
                exact ⟨_, rfl, by rw [UF.out, kp1 (.inr (.inl h6))]; exact Er.no (by decide), BC.out⟩
            · go_quiet ((go_at_call 87; exact Calls.quiet_of_same (wwithin_no _ _ _ _ h5)))
              have BC' : Hid (Below w.heap.size w (wc.drewN nq)) := _root_.Go.below_drewN BC.out nq
              have XC' : Hid (Bw (wc.drewN nq) w.heap.size W (.slice p1 W.gs.length q1) (.slice p2 W.os.length q2) (.slice p3 W.gold.length q3) (.slice (some x) W.us.length q4) (.slice p5 W.qs.length q5)) := XC.out.below (_root_.Go.below_drewN (Below.refl _ _) nq) XC.out.lt
              have VC' : Hid (Unc (wc.drewN nq) ⟨zu, 0, none⟩ u) := VC.out.below (_root_.Go.below_drewN (Below.refl _ _) nq) VC.out.lt
              have KC' : Hid (Kc (wc.drewN nq) (xk.add (kn * 11)) k) := KC.out.below (_root_.Go.below_drewN (Below.refl _ _) nq) KC.out.lt
              generalize wc.drewN nq = wd at *
              clear BC XC VC KC x0 x1 x2 x3 x4 x5 x6 x7 x8 y0 y1 y2 y3 y4 y5 y6 y7 l0 l1 l2 l3 l4 l5 l6 l7 l8 l9 l10
              obtain ⟨wc, hwc⟩ : ∃ wc, wc = wd := ⟨_, rfl⟩
              subst hwc
              have BC := BC'
              have XC := XC'
              have VC := VC'
              have KC := KC'
              clear BC' XC' VC' KC'
              obtain ⟨x0, x1, x2, x3, x4, x5, x6, x7, x8⟩ := XC.out
              obtain ⟨y0, y1, y2, y3, y4, y5, y6, y7⟩ := VC.out
              rw [ek] at y2
              obtain ⟨l0, l1, l2, l3, l4, l5, l6, l7, l8, l9, l10⟩ := KC.out
              go_wp2
              go_ret
              exact ⟨_, rfl, by rw [UF.out, kp1 (.inl h5)]; exact Er.no (by decide), BC.out⟩
end Go.Proofs.YtagnjmellcibhaaGreatDoor

namespace Go.Proofs.YtagnjmellcibhaaGreatDoor
open Go.RowKit
set_option linter.unusedVariables false

theorem find_fst {us : List UnV} {id : Int} : ∀ {r : Int}, FstU (fun u => u.id == id) us r → (r = -1 ∧ us.find? (fun u => u.id == id) = none) ∨ ∃ (n : Nat) (x : UnV), r = n ∧ us[n]? = some x ∧ us.find? (fun u => u.id == id) = some x
  | r, .inl ⟨h, h1⟩ => .inl ⟨h, by
      rw [List.find?_eq_none]
      intro x hx hp
      have : us.any (fun u => u.id == id) = true := List.any_eq_true.2 ⟨x, hx, hp⟩
      rw [h1] at this; cases this⟩
  | r, .inr ⟨n, x, h, h1, h2, h3⟩ => .inr ⟨n, x, h, h1, by
      have hn : n < us.length := (List.getElem?_eq_some_iff.1 h1).1
      have e : us = us.take n ++ x :: us.drop (n + 1) := by
        obtain ⟨hi, e⟩ := List.getElem?_eq_some_iff.1 h1
        rw [← e, ← List.drop_eq_getElem_cons hi, List.take_append_drop]
      have h4 : (us.take n).find? (fun u => u.id == id) = none := by
        rw [List.find?_eq_none]
        intro y hy hp
        have : (us.take n).any (fun u => u.id == id) = true := List.any_eq_true.2 ⟨y, hy, hp⟩
        rw [h3] at this; cases this
      rw [e, List.find?_append, h4]
      simp only [Option.none_or]
      have h2' : (x.id == id) = true := h2
      simp only [List.find?_cons, h2']⟩
theorem jf6 {ks : List KV} {W : WV} {j : JbV} (h : W.us.find? (fun u => u.id == j.unit) = none) : Wd.jobFault ks W j = 6 := by unfold Wd.jobFault; rw [h]
theorem jf7 {ks : List KV} {W : WV} {j : JbV} {u : UnV} {k : KV} (h : W.us.find? (fun u => u.id == j.unit) = some u) (hk : ks[u.kind.toNat]? = some k) (h7 : u.player ≠ j.player ∨ k.t = false) : Wd.jobFault ks W j = 7 := by
  unfold Wd.jobFault
  rw [h]
  simp only [hk]
  rw [if_pos]
  rcases h7 with h7 | h7 <;> simp [h7]
theorem jf1 {ks : List KV} {W : WV} {j : JbV} {u : UnV} {k : KV} (h : W.us.find? (fun u => u.id == j.unit) = some u) (hk : ks[u.kind.toNat]? = some k) (hp : u.player = j.player) (ht : k.t = true) (h1 : decide (0 ≤ j.kind ∧ j.kind < (ks.length : Int)) = false ∨ decide (1 ≤ j.left ∧ j.left ≤ 1000) = false) : Wd.jobFault ks W j = 1 := by
  unfold Wd.jobFault Wd.has
  rw [h]
  simp only [hk]
  rw [hp, ht, if_neg (by simp), if_pos]
  rcases h1 with h1 | h1 <;> rw [h1] <;> simp
theorem jf0 {ks : List KV} {W : WV} {j : JbV} {u : UnV} {k : KV} (h : W.us.find? (fun u => u.id == j.unit) = some u) (hk : ks[u.kind.toNat]? = some k) (hp : u.player = j.player) (ht : k.t = true) (h1 : decide (0 ≤ j.kind ∧ j.kind < (ks.length : Int)) = true) (h2 : decide (1 ≤ j.left ∧ j.left ≤ 1000) = true) : Wd.jobFault ks W j = 0 := by
  unfold Wd.jobFault Wd.has
  rw [h]
  simp only [hk]
  rw [hp, ht, h1, h2, if_neg (by simp), if_neg (by simp)]
set_option maxRecDepth 100000 in
set_option maxHeartbeats 8000000 in
theorem job_any (vk vw : Value) (ks : List KV) (W : WV) (j : JbV) (w : World) (hk : Kl w vk ks) (hw : Wl w vw W) (hul : W.us.length ≤ 40) (hkl : ks.length ≤ 8) (hall : ∀ u ∈ W.us, 0 ≤ u.kind ∧ u.kind < (ks.length : Int)) :
    Calls Tryz.prog 57 #[vk, vw, j.val] w fun e w' => ∃ r, e = .returned r ∧ Er r (Wd.jobFault ks W j) ∧ Below w.heap.size w w' := by
  have K : Hid (Kl w vk ks) := hk
  have H : Hid (Wl w vw W) := hw
  have HA : Hid (∀ u ∈ W.us, 0 ≤ u.kind ∧ u.kind < (ks.length : Int)) := hall
  obtain ⟨u1, u2, u3, u4, u5, rfl, r1, r2, r3, r4, r5⟩ := hw
  obtain ⟨p4, q4, rfl, k41, k42, k43⟩ := r4
  obtain ⟨pk, qk, rfl, kk1, kk2, kk3⟩ := hk
  have UC : Hid (W.us ≠ [] → ∃ x, p4 = some x ∧ x.block < w.heap.size ∧ ∀ (i : Nat) k, W.us[i]? = some k → Unc w (x.add (i * 8)) k) := k43
  have KK : Hid (ks ≠ [] → ∃ x, pk = some x ∧ x.block < w.heap.size ∧ ∀ (i : Nat) k, ks[i]? = some k → Kc w (x.add (i * 11)) k) := kk3
  clear r1 r2 r3 r5 k43 kk3 hall
  unfold JbV.val
  go_enter Tryz.func57, Tryz.ntmps57
  go_wp2_with fail
  have B0 : Hid (Below w.heap.size w ((w.alloc (Obj.cells #[.int .i64 W.turn, .int .i64 W.next, .int .i64 W.wide, .int .i64 W.high, u1, u2, u3, .slice p4 W.us.length q4, u5] 29)).alloc (Obj.cells #[.int .i64 j.player, .int .i64 j.unit, .int .i64 j.kind, .int .i64 j.left] 65))) := ((Below.refl _ _).alloc (Nat.le_refl _) _).alloc (by simp) _
  have X0 : Hid (Bw ((w.alloc (Obj.cells #[.int .i64 W.turn, .int .i64 W.next, .int .i64 W.wide, .int .i64 W.high, u1, u2, u3, .slice p4 W.us.length q4, u5] 29)).alloc (Obj.cells #[.int .i64 j.player, .int .i64 j.unit, .int .i64 j.kind, .int .i64 j.left] 65)) w.heap.size W u1 u2 u3 (.slice p4 W.us.length q4) u5) := (Bw.mk' W _ _ _ _ _ rfl).below (n := w.heap.size + 1) ((Below.refl _ _).alloc (by simp) _) (Nat.lt_succ_self _)
  have J0 : Hid (Jbc ((w.alloc (Obj.cells #[.int .i64 W.turn, .int .i64 W.next, .int .i64 W.wide, .int .i64 W.high, u1, u2, u3, .slice p4 W.us.length q4, u5] 29)).alloc (Obj.cells #[.int .i64 j.player, .int .i64 j.unit, .int .i64 j.kind, .int .i64 j.left] 65)) ⟨w.heap.size + 1, 0, none⟩ j) := Jbc.mk' j (by simp)
  generalize ((w.alloc (Obj.cells #[.int .i64 W.turn, .int .i64 W.next, .int .i64 W.wide, .int .i64 W.high, u1, u2, u3, .slice p4 W.us.length q4, u5] 29)).alloc (Obj.cells #[.int .i64 j.player, .int .i64 j.unit, .int .i64 j.kind, .int .i64 j.left] 65)) = w0 at *
  generalize w.heap.size + 1 = zj at *
  refine (wfind_any _ W j.unit w0 (H.out.below B0.out)).mono ?_
  rintro e w1 ⟨r, rfl, hf, hb1⟩
  have B1 : Hid (Below w.heap.size w w1) := B0.out.trans (hb1.mono B0.out.size)
  have X1 : Hid (Bw w1 w.heap.size W u1 u2 u3 (.slice p4 W.us.length q4) u5) := X0.out.below hb1 X0.out.lt
  have J1 : Hid (Jbc w1 ⟨zj, 0, none⟩ j) := J0.out.below hb1 J0.out.lt
  clear hb1 X0 J0 B0
  rcases find_fst hf with ⟨rfl, hfn⟩ | ⟨n, u, rfl, hn, hfs⟩
  · have F6 : Hid (Wd.jobFault ks W j = 6) := jf6 hfn
    clear hf hfn
    go_wp2
    go_ret
    exact ⟨_, rfl, by rw [F6.out]; exact Er.no (by decide), B1.out⟩
  · have hnl : n < W.us.length := (List.getElem?_eq_some_iff.1 hn).1
    have hni : (n : Int) < (W.us.length : Int) := by omega
    have hn0 : ¬ (n : Int) < 0 := by omega
    have HF : Hid (W.us.find? (fun u => u.id == j.unit) = some u) := hfs
    obtain ⟨x, rfl, hx, hcell⟩ := UC.out (by intro e; rw [e] at hnl; simp at hnl)
    obtain ⟨d0, d1, d2, d3, d4, d5, d6, d7⟩ := (hcell n u hn).below B1.out (by rw [add_block]; exact hx)
    have hku := HA.out u (List.mem_of_getElem? hn)
    obtain ⟨kn, ek⟩ : ∃ kn : Nat, u.kind = kn := ⟨u.kind.toNat, by omega⟩
    have hkn : kn < ks.length := by omega
    have hkni : (kn : Int) < (ks.length : Int) := by omega
    obtain ⟨k, hkk⟩ : ∃ k, ks[kn]? = some k := ⟨_, List.getElem?_eq_getElem hkn⟩
    have HK : Hid (ks[u.kind.toNat]? = some k) := by unfold Hid; rw [ek, Int.toNat_natCast]; exact hkk
    obtain ⟨xk, rfl, hxk, hkc⟩ := KK.out (by intro e; rw [e] at hkn; simp at hkn)
    have KC1 : Hid (Kc w1 (xk.add (kn * 11)) k) := (hkc kn k hkk).below B1.out (by rw [add_block]; exact hxk)
    have x7 := X1.out.c7
    have EK : Hid (u.kind = kn) := ek
    clear hf hfs hcell hx hn hku hkc hxk hkk ek
    go_upto_region 5 with fail
    have U2 : Hid (Unc (w1.alloc (Obj.cells #[.int .i64 u.id, .int .i64 u.player, .int .i64 u.kind, .int .i64 u.at_, .int .i64 u.life, .int .i64 u.load, .int .i64 u.task, .int .i64 u.goal] 59)) ⟨w1.heap.size, 0, none⟩ u) := Unc.mk' u rfl
    have BA : Hid (Below w1.heap.size w1 (w1.alloc (Obj.cells #[.int .i64 u.id, .int .i64 u.player, .int .i64 u.kind, .int .i64 u.at_, .int .i64 u.life, .int .i64 u.load, .int .i64 u.task, .int .i64 u.goal] 59))) := (Below.refl _ _).alloc (Nat.le_refl _) _
    generalize (w1.alloc (Obj.cells #[.int .i64 u.id, .int .i64 u.player, .int .i64 u.kind, .int .i64 u.at_, .int .i64 u.life, .int .i64 u.load, .int .i64 u.task, .int .i64 u.goal] 59)) = w2 at *
    have B2 : Hid (Below w.heap.size w w2) := B1.out.trans (BA.out.mono B1.out.size)
    have J2 : Hid (Jbc w2 ⟨zj, 0, none⟩ j) := J1.out.below BA.out J1.out.lt
    have KC2 : Hid (Kc w2 (xk.add (kn * 11)) k) := KC1.out.below BA.out KC1.out.lt
    clear d0 d1 d2 d3 d4 d5 d6 d7 x7 X1 J1 KC1 BA B1
    generalize w1.heap.size = zu at *
    obtain ⟨y0, y1, y2, y3, y4, y5, y6, y7⟩ := U2.out
    rw [EK.out] at y2
    obtain ⟨j0, j1, j2, j3⟩ := J2.out
    obtain ⟨l0, l1, l2, l3, l4, l5, l6, l7, l8, l9, l10⟩ := KC2.out
    simp only [Nat.zero_add] at y1 y2 y3 y4 y5 y6 y7 j1 j2 j3
    by_cases hp : u.player = j.player
    · cases ht : k.t with
      | false =>
        have F7 : Hid (Wd.jobFault ks W j = 7) := jf7 HF.out HK.out (.inr ht)
        rw [ht] at l10
        rw [hp] at y1
        clear ht
        go_wp2
        go_ret
        exact ⟨_, rfl, by rw [F7.out]; exact Er.no (by decide), B2.out⟩
      | true =>
        obtain ⟨b4, hb4⟩ : ∃ b, decide (0 ≤ j.kind ∧ j.kind < (ks.length : Int)) = b := ⟨_, rfl⟩
        obtain ⟨b5, hb5⟩ : ∃ b, decide (1 ≤ j.left ∧ j.left ≤ 1000) = b := ⟨_, rfl⟩
        have HB : Hid (decide (0 ≤ j.kind ∧ j.kind < (ks.length : Int)) = b4 ∧ decide (1 ≤ j.left ∧ j.left ≤ 1000) = b5) := ⟨hb4, hb5⟩
        have HPT : Hid (u.player = j.player ∧ k.t = true) := ⟨hp, ht⟩
        rw [ht] at l10
        rw [hp] at y1
        clear ht
        go_wp2_with fail
        refine (isone_kinds _ _ _ _ _ (by omega)).mono ?_
        rintro e w3 ⟨rfl, hww⟩
        obtain rfl := hww.symm
        rw [hb4]
        clear hb4
        cases b4 with
        | false =>
          have F1 : Hid (Wd.jobFault ks W j = 1) := jf1 HF.out HK.out HPT.out.1 HPT.out.2 (.inl HB.out.1)
          clear hb5
          go_wp2
          go_ret
          exact ⟨_, rfl, by rw [F1.out]; exact Er.no (by decide), B2.out⟩
        | true =>
          go_wp2_with fail
          refine (wwithin_any j.left 1 1000 _).mono ?_
          rintro e w4 ⟨rfl, hww⟩
          obtain rfl := hww.symm
          rw [hb5]
          clear hb5
          cases b5 with
          | false =>
            have F1 : Hid (Wd.jobFault ks W j = 1) := jf1 HF.out HK.out HPT.out.1 HPT.out.2 (.inr HB.out.2)
            go_wp2
            go_ret
            exact ⟨_, rfl, by rw [F1.out]; exact Er.no (by decide), B2.out⟩
          | true =>
            have F0 : Hid (Wd.jobFault ks W j = 0) := jf0 HF.out HK.out HPT.out.1 HPT.out.2 HB.out.1 HB.out.2
            go_wp2
            go_ret
            exact ⟨_, rfl, by rw [F0.out]; exact Er.nil, B2.out⟩
    · have F7 : Hid (Wd.jobFault ks W j = 7) := jf7 HF.out HK.out (.inl hp)
      go_wp2
      go_ret
      exact ⟨_, rfl, by rw [F7.out]; exact Er.no (by decide), B2.out⟩
end Go.Proofs.YtagnjmellcibhaaGreatDoor

namespace Go.Proofs.YtagnjmellcibhaaGreatDoor
open Go.RowKit
set_option linter.unusedVariables false

set_option maxHeartbeats 400000 in
theorem kwin_any (x a b : Int) (w : World) :
    Calls Tryz.prog 136 #[.int .i64 x, .int .i64 a, .int .i64 b] w fun e w' => e = .returned (.bool (decide (a ≤ x ∧ x ≤ b))) ∧ w' = w := by
  by_cases h1 : a ≤ x
  · by_cases h2 : x ≤ b
    · go_enter Tryz.func136, Tryz.ntmps136
      go_wp2
      go_ret
      exact ⟨by simp [h1, h2], rfl⟩
    · go_enter Tryz.func136, Tryz.ntmps136
      go_wp2
      go_ret
      exact ⟨by simp; omega, rfl⟩
  · go_enter Tryz.func136, Tryz.ntmps136
    go_wp2
    go_ret
    exact ⟨by simp; omega, rfl⟩
theorem kwin_yes (x a b : Int) (w : World) (h1 : a ≤ x) (h2 : x ≤ b) :
    Calls Tryz.prog 136 #[.int .i64 x, .int .i64 a, .int .i64 b] w fun e w' => e = .returned (.bool true) ∧ w' = w :=
  (kwin_any x a b w).mono fun e w' ⟨h, hw⟩ => ⟨by rw [h, decide_eq_true ⟨h1, h2⟩], hw⟩
theorem kwin_no (x a b : Int) (w : World) (h : x < a ∨ b < x) :
    Calls Tryz.prog 136 #[.int .i64 x, .int .i64 a, .int .i64 b] w fun e w' => e = .returned (.bool false) ∧ w' = w :=
  (kwin_any x a b w).mono fun e w' ⟨h', hw⟩ => ⟨by rw [h', decide_eq_false (by omega)], hw⟩

/-- r is where the first is; -1: there is none. -/
def FstK (p : KV → Bool) (ks : List KV) (r : Int) : Prop := (r = -1 ∧ ks.any p = false) ∨ ∃ (k : Nat) (x : KV), r = k ∧ ks[k]? = some x ∧ p x = true ∧ (ks.take k).any p = false
theorem anyk_next {p : KV → Bool} {ks : List KV} {k : Nat} {x : KV} (h : ks[k]? = some x) : (ks.take (k + 1)).any p = ((ks.take k).any p || p x) := by
  obtain ⟨hi, e⟩ := List.getElem?_eq_some_iff.1 h
  rw [List.take_succ_eq_append_getElem hi, List.any_append, e]
  simp

set_option maxHeartbeats 2000000 in
theorem idxk_any (K : Nat) (eK : ∀ args w, (callFunc K args).run Tryz.prog w = .ok (.enter K args) w) (u : Value) (cs : Array Value) (ks : List KV) (p : KV → Bool) (w : World) (hu : Kl w u ks)
    (hp : ∀ W, Below w.heap.size w W → ∀ k : KV, Calls Tryz.prog K (#[k.val] ++ cs) W fun e w' => e = .returned (.bool (p k)) ∧ Below W.heap.size W w') :
    Calls Tryz.prog 138 #[u, .func (Fn.func K) #[] cs] w fun e w' => ∃ r : Int, e = .returned (.int .i64 r) ∧ FstK p ks r ∧ Below w.heap.size w w' := by
  obtain ⟨a, c, rfl, c1, c2, ca⟩ := hu
  have Ca : Hid (ks ≠ [] → ∃ x, a = some x ∧ x.block < w.heap.size ∧ ∀ (i : Nat) k, ks[i]? = some k → Kc w (x.add (i * 11)) k) := ca
  have Hp : Hid (∀ W, Below w.heap.size w W → ∀ k : KV, Calls Tryz.prog K (#[k.val] ++ cs) W fun e w' => e = .returned (.bool (p k)) ∧ Below W.heap.size W w') := hp
  clear ca hp
  go_enter Tryz.func138, Tryz.ntmps138
  go_wp2
  go_loopw [8] (fun i W' => ∃ k : Nat, k ≤ ks.length ∧ i = .int .i64 (k : Nat) ∧ (ks.take k).any p = false ∧ Below w.heap.size w W') (fun i _ => ks.length - (intOf i).toNat)
  case atStart => exact ⟨0, Nat.zero_le _, rfl, by simp, Below.refl _ _⟩
  case round =>
    obtain ⟨k, hk, rfl, ht, hb⟩ := hrel
    have Ht : Hid ((ks.take k).any p = false) := ht
    have B : Hid (Below w.heap.size w wr) := hb
    clear ht hb
    by_cases h0 : k = ks.length
    · subst h0
      go_wp2
      go_ret
      refine ⟨_, rfl, .inl ⟨rfl, ?_⟩, B⟩
      have := Ht.out
      rw [List.take_of_length_le (Nat.le_refl _)] at this
      exact this
    · have hkx : k < ks.length := by omega
      obtain ⟨x, rfl, hx1, hx⟩ := Ca.out (by intro h; rw [h] at hkx; simp at hkx)
      obtain ⟨y, hy⟩ : ∃ y, ks[k]? = some y := ⟨_, List.getElem?_eq_getElem hkx⟩
      have Yc := (hx k y hy).below B.out (by rw [add_block]; exact hx1)
      obtain ⟨q0, q1, q2, q3, q4, q5, q6, q7, q8, q9, q10⟩ := Yc
      have hc := Hp.out wr B.out y
      have Hs : Hid _ := anyk_next (p := p) hy
      have Hm : Hid (ks[k]? = some y) := hy
      clear hx hx1 hy
      cases hy : p y with
      | true =>
        rw [hy] at hc
        have Hc : Hid (Calls Tryz.prog K (#[y.val] ++ cs) wr fun e w' => e = .returned (.bool true) ∧ Below wr.heap.size wr w') := hc
        have Hy : Hid (p y = true) := hy
        clear hc hy
        go_wp2_with fail
        refine Calls.mono Hc.out ?_
        rintro e w1 ⟨rfl, b1⟩
        have B1 : Hid (Below w.heap.size w w1) := B.out.trans (b1.mono B.out.size)
        clear b1
        go_wp2
        go_ret
        exact ⟨_, rfl, .inr ⟨k, y, rfl, Hm, Hy, Ht⟩, B1⟩
      | false =>
        rw [hy] at hc
        have Hc : Hid (Calls Tryz.prog K (#[y.val] ++ cs) wr fun e w' => e = .returned (.bool false) ∧ Below wr.heap.size wr w') := hc
        have Hy : Hid (p y = false) := hy
        clear hc hy
        go_wp2_with fail
        refine Calls.mono Hc.out ?_
        rintro e w1 ⟨rfl, b1⟩
        have B1 : Hid (Below w.heap.size w w1) := B.out.trans (b1.mono B.out.size)
        clear b1
        go_wp2
        go_round
        case rel => exact ⟨k + 1, by omega, by go_num, by have := Hs.out; rw [Ht.out, Hy.out] at this; exact this, B1⟩
        case measure => simp [intOf]; omega

set_option maxHeartbeats 400000 in
theorem findc_any (k : KV) (s : ByteArray) (b : Nat) (w : World) (hc : w.cell? ⟨b, 0, none⟩ = some (.string s)) :
    Calls Tryz.prog 139 #[k.val, .pointer (some ⟨b, 0, none⟩)] w fun e w' => e = .returned (.bool (k.k.name == s.data.toList)) ∧ Below w.heap.size w w' := by
  obtain ⟨kb, n0, n1, n2, n3, n4, n5, n6, n7, kf, kt⟩ := k
  have hl := cell_lt hc
  unfold KV.val
  go_enter Tryz.func139, Tryz.ntmps139
  go_wp2
  go_ret
  refine ⟨?_, (Below.refl _ _).alloc (Nat.le_refl _) _⟩
  show Ending.returned (.bool (kb.toList == s.toList)) = _
  rw [ByteArray.toList_eq, ByteArray.toList_eq]
  rfl

theorem efind1 : ∀ args w, (callFunc 139 args).run Tryz.prog w = .ok (.enter 139 args) w := by
  intro args w
  go_simp

set_option maxHeartbeats 400000 in
/-- where a name is. -/
theorem find_any (v : Value) (ks : List KV) (s : ByteArray) (w : World) (h : Kl w v ks) :
    Calls Tryz.prog 126 #[v, .string s] w fun e w' => ∃ r : Int, e = .returned (.int .i64 r) ∧ FstK (fun k => k.k.name == s.data.toList) ks r ∧ Below w.heap.size w w' := by
  have K0 : Hid (Kl w v ks) := h
  obtain ⟨a, c, rfl, c1, c2, -⟩ := h
  go_enter Tryz.func126, Tryz.ntmps126
  go_wp2_with fail
  have B1 : Below w.heap.size w (w.alloc (Obj.cells #[.string s] 9)) := (Below.refl _ _).alloc (Nat.le_refl _) _
  have hc : (w.alloc (Obj.cells #[.string s] 9)).cell? ⟨w.heap.size, 0, none⟩ = some (.string s) := by simp
  have hz : (w.alloc (Obj.cells #[.string s] 9)).heap.size = w.heap.size + 1 := by simp
  refine (idxk_any 139 efind1 _ _ ks (fun k => k.k.name == s.data.toList) _ (K0.out.below B1) ?_).mono ?_
  · intro W hW k
    exact findc_any k s w.heap.size W (by rw [hW.cell (p := ⟨w.heap.size, 0, none⟩) (by rw [hz]; exact Nat.lt_succ_self _)]; exact hc)
  · rintro e w1 ⟨r, rfl, hr, b1⟩
    have B2 : Hid (Below w.heap.size w w1) := B1.trans (b1.mono B1.size)
    have Hr : Hid (FstK (fun k => k.k.name == s.data.toList) ks r) := hr
    clear hr b1 B1 hc hz
    go_wp2
    go_ret
    exact ⟨r, rfl, Hr, B2⟩
end Go.Proofs.YtagnjmellcibhaaGreatDoor

namespace Go.Proofs.YtagnjmellcibhaaGreatDoor
open Go.RowKit
set_option linter.unusedVariables false

def KV.arr (k : KV) : Value := .agg #[.int .i64 k.n0, .int .i64 k.n1, .int .i64 k.n2, .int .i64 k.n3, .int .i64 k.n4, .int .i64 k.n5, .int .i64 k.n6, .int .i64 k.n7]
set_option maxHeartbeats 1000000 in
theorem nums_any (k : KV) (w : World) :
    Calls Tryz.prog 140 #[k.val] w fun e w' => e = .returned k.arr ∧ Below w.heap.size w w' := by
  obtain ⟨kb, n0, n1, n2, n3, n4, n5, n6, n7, kf, kt⟩ := k
  unfold KV.val KV.arr
  go_enter Tryz.func140, Tryz.ntmps140
  go_wp2
  refine bodyPost_ret (v := .agg #[.int .i64 n0, .int .i64 n1, .int .i64 n2, .int .i64 n3, .int .i64 n4, .int .i64 n5, .int .i64 n6, .int .i64 n7]) (by simp [results, Tryz.results140, go_sem]) rfl ⟨rfl, ?_⟩
  exact ((Below.refl _ _).alloc (Nat.le_refl _) _).alloc (by simp) _

theorem idx8 (cs : Array Value) (p : Nat) (x : Int) (hp : p < 8) (h : cs[p]? = some (.int .i64 x)) (W : World) : (Instr.index 183 (.agg cs) (.int .i64 (p : Int))).run Tryz.prog W = .ok (.int .i64 x) W := by
  have h1 : (0 : Int) ≤ p ∧ (p : Int) < 8 := by omega
  have hs : p < cs.size := (Array.getElem?_eq_some_iff.1 h).1
  unfold Instr.index
  simp [go_sem, h1]
  rw [if_pos hp, h]
  simp [go_sem]
def KV.ns (k : KV) : List Int := [k.n0, k.n1, k.n2, k.n3, k.n4, k.n5, k.n6, k.n7]
set_option maxRecDepth 100000 in
set_option maxHeartbeats 4000000 in
theorem inb_any (k : KV) (w : World) :
    Calls Tryz.prog 127 #[k.val] w fun e w' => e = .returned (.bool (decide (Kd.numsFault k.ns = 0))) ∧ Below w.heap.size w w' := by
  have NA := nums_any k
  obtain ⟨kb, n0, n1, n2, n3, n4, n5, n6, n7, kf, kt⟩ := k
  have R : Hid (Kd.numsFault (KV.ns ⟨kb, n0, n1, n2, n3, n4, n5, n6, n7, kf, kt⟩) = if [n0, n1, n2, n3, n4, n5, n6, n7].any (fun x => decide (x < 0 ∨ 1000 < x)) then 1 else if n0 < 1 ∨ 4 < n4 ∨ 12 < n2 ∨ 12 < n3 then 1 else 0) := rfl
  generalize Kd.numsFault (KV.ns ⟨kb, n0, n1, n2, n3, n4, n5, n6, n7, kf, kt⟩) = r at *
  unfold KV.val KV.arr at *
  simp only at NA
  have NA' : Hid (∀ w : World, Calls Tryz.prog 140 #[.agg #[.string kb, .int .i64 n0, .int .i64 n1, .int .i64 n2, .int .i64 n3, .int .i64 n4, .int .i64 n5, .int .i64 n6, .int .i64 n7, .bool kf, .bool kt]] w fun e w' => e = .returned (.agg #[.int .i64 n0, .int .i64 n1, .int .i64 n2, .int .i64 n3, .int .i64 n4, .int .i64 n5, .int .i64 n6, .int .i64 n7]) ∧ Below w.heap.size w w') := NA
  clear NA
  go_enter Tryz.func127, Tryz.ntmps127
  have B1 : Hid (Below w.heap.size w (w.alloc (Obj.cells #[.string kb, .int .i64 n0, .int .i64 n1, .int .i64 n2, .int .i64 n3, .int .i64 n4, .int .i64 n5, .int .i64 n6, .int .i64 n7, .bool kf, .bool kt] 61))) := (Below.refl _ _).alloc (Nat.le_refl _) _
  have X1 : Hid (Kc (w.alloc (Obj.cells #[.string kb, .int .i64 n0, .int .i64 n1, .int .i64 n2, .int .i64 n3, .int .i64 n4, .int .i64 n5, .int .i64 n6, .int .i64 n7, .bool kf, .bool kt] 61)) ⟨w.heap.size, 0, none⟩ ⟨kb, n0, n1, n2, n3, n4, n5, n6, n7, kf, kt⟩) := Kc.mk' ⟨kb, n0, n1, n2, n3, n4, n5, n6, n7, kf, kt⟩ rfl
  go_wp2_with fail
  refine (NA'.out _).mono ?_
  rintro e w2 ⟨rfl, b2⟩
  have X2 : Hid (Kc w2 ⟨w.heap.size, 0, none⟩ ⟨kb, n0, n1, n2, n3, n4, n5, n6, n7, kf, kt⟩) := X1.out.below b2 X1.out.lt
  have B2 : Hid (Below w.heap.size w w2) := B1.out.trans (b2.mono B1.out.size)
  clear b2 B1 X1 NA'
  obtain ⟨ns, hns⟩ : ∃ ns, [n0, n1, n2, n3, n4, n5, n6, n7] = ns := ⟨_, rfl⟩
  have Hns : Hid ([n0, n1, n2, n3, n4, n5, n6, n7] = ns) := hns
  have nl : Hid (ns.length = 8) := by rw [← hns]; rfl
  rw [hns] at R
  clear hns
  go_wp2_with fail
  go_loop [7] (fun j => ∃ p : Nat, p ≤ 8 ∧ j = .int .i64 (p : Nat) ∧ (ns.take p).any (fun x => decide (x < 0 ∨ 1000 < x)) = false) (fun j => 8 - (intOf j).toNat)
  case atStart => exact ⟨0, Nat.zero_le _, rfl, by simp⟩
  case round =>
    obtain ⟨p, hp, rfl, hany⟩ := hrel
    have An : Hid ((ns.take p).any (fun x => decide (x < 0 ∨ 1000 < x)) = false) := hany
    clear hany
    by_cases hp8 : p = 8
    · have R2 : Hid (r = if n0 < 1 ∨ 4 < n4 ∨ 12 < n2 ∨ 12 < n3 then 1 else 0) := by
        have h9 := An.out
        rw [List.take_of_length_le (by rw [nl.out, hp8]; exact Nat.le_refl _)] at h9
        unfold Hid
        rw [R.out, if_neg (by rw [h9]; decide)]
      have z1 : w2.cell? ⟨w.heap.size, 1, none⟩ = some (.int .i64 n0) := X2.out.c1
      have z3 : w2.cell? ⟨w.heap.size, 3, none⟩ = some (.int .i64 n2) := X2.out.c3
      have z4 : w2.cell? ⟨w.heap.size, 4, none⟩ = some (.int .i64 n3) := X2.out.c4
      have z5 : w2.cell? ⟨w.heap.size, 5, none⟩ = some (.int .i64 n4) := X2.out.c5
      subst hp8
      clear R An X2
      by_cases t1 : 0 < n0
      · by_cases t2 : n4 ≤ 4
        · by_cases t3 : n2 ≤ 12
          · by_cases t4 : n3 ≤ 12
            · have E : Hid (decide (r = 0) = true) := by unfold Hid; rw [R2.out, if_neg (by omega)]; rfl
              go_wp2
              go_ret
              exact ⟨by rw [E.out]; rfl, B2⟩
            · have E : Hid (decide (r = 0) = false) := by unfold Hid; rw [R2.out, if_pos (by omega)]; rfl
              go_wp2
              go_ret
              exact ⟨by rw [E.out]; rfl, B2⟩
          · have E : Hid (decide (r = 0) = false) := by unfold Hid; rw [R2.out, if_pos (by omega)]; rfl
            go_wp2
            go_ret
            exact ⟨by rw [E.out]; rfl, B2⟩
        · have E : Hid (decide (r = 0) = false) := by unfold Hid; rw [R2.out, if_pos (by omega)]; rfl
          go_wp2
          go_ret
          exact ⟨by rw [E.out]; rfl, B2⟩
      · have E : Hid (decide (r = 0) = false) := by unfold Hid; rw [R2.out, if_pos (by omega)]; rfl
        go_wp2
        go_ret
        exact ⟨by rw [E.out]; rfl, B2⟩
    · have hp9 : p < 8 := by omega
      obtain ⟨x, hx⟩ : ∃ x, ns[p]? = some x := ⟨_, List.getElem?_eq_getElem (by rw [nl.out]; exact hp9)⟩
      have As : Hid ((ns.take (p + 1)).any (fun x => decide (x < 0 ∨ 1000 < x)) = decide (x < 0 ∨ 1000 < x)) := by
        obtain ⟨hi, e⟩ := List.getElem?_eq_some_iff.1 hx
        unfold Hid
        rw [List.take_succ_eq_append_getElem hi, List.any_append, An.out, e]
        simp
      have ax : (#[.int .i64 n0, .int .i64 n1, .int .i64 n2, .int .i64 n3, .int .i64 n4, .int .i64 n5, .int .i64 n6, .int .i64 n7] : Array Value)[p]? = some (.int .i64 x) := by
        have h9 : (ns.map (Value.int .i64)).toArray[p]? = some (.int .i64 x) := by simp [hx]
        rw [← Hns.out] at h9
        exact h9
      have hix := idx8 _ p x hp9 ax
      clear ax
      have Mx : Hid (x ∈ ns) := List.mem_of_getElem? hx
      clear hx
      by_cases t : x < 0 ∨ 1000 < x
      · have E : Hid (decide (r = 0) = false) := by
          unfold Hid
          rw [R.out, if_pos (List.any_eq_true.2 ⟨x, Mx.out, by simpa using t⟩)]; rfl
        go_wp2_with (go_at_call 136; refine (kwin_no _ _ _ _ t).mono ?_; rintro e w' ⟨rfl, rfl⟩)
        go_ret
        exact ⟨by rw [E.out]; rfl, B2⟩
      · have A2 : Hid ((ns.take (p + 1)).any (fun x => decide (x < 0 ∨ 1000 < x)) = false) := by unfold Hid; rw [As.out, decide_eq_false t]
        go_wp2_with (go_at_call 136; refine (kwin_yes _ _ _ _ (by omega) (by omega)).mono ?_; rintro e w' ⟨rfl, rfl⟩)
        go_round
        case rel => exact ⟨p + 1, by omega, by go_num, A2⟩
        case measure => simp [intOf]; omega
end Go.Proofs.YtagnjmellcibhaaGreatDoor

namespace Go.Proofs.YtagnjmellcibhaaGreatDoor.Kd
set_option linter.unusedVariables false

/-- a rune that is none of a to z. -/
def otherR (r : Nat) : Bool := decide ((r : Int) < 97) || decide (122 < (r : Int))
theorem other_big {r : Nat} (h : 128 ≤ r) : otherR r = true := by
  unfold otherR
  rw [decide_eq_true (show (122 : Int) < (r : Int) by omega), Bool.or_true]
theorem decode_small (s : ByteArray) (i : Nat) (h : (s.get! i).toNat < 128) : Utf8.decode s i = ((s.get! i).toNat, 1) := by
  unfold Utf8.decode
  simp only [Nat.add_zero]
  rw [if_pos h]
theorem decode_big (s : ByteArray) (i : Nat) (h : ¬ (s.get! i).toNat < 128) : 128 ≤ (Utf8.decode s i).1 := by
  unfold Utf8.decode
  simp only [Nat.add_zero]
  rw [if_neg h]
  simp only [Utf8.runeError]
  split
  · split
    · rename_i h2; exact h2
    · simp
  · split
    · split
      · rename_i h2
        simp only [Bool.and_eq_true, decide_eq_true_eq] at h2
        have := h2.1
        simp only
        omega
      · simp
    · split
      · split
        · rename_i h2
          simp only [Bool.and_eq_true, decide_eq_true_eq] at h2
          have := h2.1
          simp only
          omega
        · simp
      · simp
theorem other_letter (b : UInt8) (h : b.toNat < 128) : otherR b.toNat = !isLetter b := by
  unfold otherR isLetter
  by_cases h1 : 97 ≤ b.toNat
  · by_cases h2 : b.toNat ≤ 122
    · rw [decide_eq_true h1, decide_eq_true h2, decide_eq_false (show ¬ (b.toNat : Int) < 97 by omega), decide_eq_false (show ¬ 122 < (b.toNat : Int) by omega)]; rfl
    · rw [decide_eq_true h1, decide_eq_false h2, decide_eq_false (show ¬ (b.toNat : Int) < 97 by omega), decide_eq_true (show 122 < (b.toNat : Int) by omega)]; rfl
  · rw [decide_eq_false h1, decide_eq_true (show (b.toNat : Int) < 97 by omega)]; rfl
theorem get_at (s : ByteArray) (i : Nat) (h : i < s.size) : s.get! i = s.data.toList[i]'h := by
  show s.data[i]! = _
  rw [getElem!_pos s.data i h]
  simp
theorem other_from (s : ByteArray) : ∀ (f pos : Nat), s.size ≤ pos + f → decide (0 ≤ Lib.idxFuncFrom otherR true s f pos) = !((s.data.toList.drop pos).all isLetter)
  | 0, pos, h => by
    rw [List.drop_eq_nil_of_le (by show s.size ≤ pos; omega)]
    rfl
  | f + 1, pos, h => by
    unfold Lib.idxFuncFrom
    by_cases hp : pos < s.size
    · have hl : pos < s.data.toList.length := hp
      rw [if_pos hp, List.drop_eq_getElem_cons hl, List.all_cons, ← get_at s pos hp]
      by_cases hb : (s.get! pos).toNat < 128
      · rw [decode_small s pos hb]
        simp only
        rw [other_letter _ hb]
        cases hi : isLetter (s.get! pos) with
        | true =>
          rw [if_neg (by simp), Bool.true_and]
          exact other_from s f (pos + 1) (by omega)
        | false =>
          rw [if_pos (by simp), decide_eq_true (by omega)]
          simp
      · rw [if_pos (other_big (decode_big s pos hb)), decide_eq_true (by omega)]
        have : isLetter (s.get! pos) = false := by
          unfold isLetter
          rw [decide_eq_false (show ¬ (s.get! pos).toNat ≤ 122 by omega), Bool.and_false]
        rw [this]
        rfl
    · rw [if_neg hp, List.drop_eq_nil_of_le (by show s.size ≤ pos; omega)]
      rfl
theorem other_name (s : ByteArray) : decide (0 ≤ Lib.idxFunc otherR true s) = !(s.data.toList.all isLetter) := by
  have := other_from s s.size 0 (by omega)
  rw [List.drop_zero] at this
  exact this
end Go.Proofs.YtagnjmellcibhaaGreatDoor.Kd

namespace Go.Proofs.YtagnjmellcibhaaGreatDoor
open Go.RowKit
set_option linter.unusedVariables false

theorem ename1 : ∀ args w, (callFunc 135 args).run Tryz.prog w = .ok (.enter 135 args) w := by
  intro args w
  go_simp
set_option maxHeartbeats 400000 in
theorem other_any (x : Nat) (w : World) :
    Calls Tryz.prog 135 #[.int .i32 (x : Int)] w fun e w' => e = .returned (.bool (Kd.otherR x)) ∧ w' = w := by
  unfold Kd.otherR
  by_cases h1 : (x : Int) < 97
  · go_enter Tryz.func135, Tryz.ntmps135
    go_wp2
    go_ret
    exact ⟨by first | (simp; done) | (simp; omega), rfl⟩
  · by_cases h2 : 122 < (x : Int)
    · go_enter Tryz.func135, Tryz.ntmps135
      go_wp2
      go_ret
      exact ⟨by first | (simp; done) | (simp; omega), rfl⟩
    · go_enter Tryz.func135, Tryz.ntmps135
      go_wp2
      go_ret
      exact ⟨by first | (simp; done) | (simp; omega), rfl⟩
theorem letters_any (s : ByteArray) (w : World) :
    Calls Tryz.prog 137 #[.string s, .func (.func 135) #[] #[]] w fun e w' => e = .returned (.bool (!(s.data.toList.all Kd.isLetter))) ∧ Below w.heap.size w w' := by
  have h := Tryz.strings_ContainsFunc_grows 135 #[] ename1 Kd.otherR s w (fun W x _ _ => (other_any x W).mono fun e w' ⟨h1, h2⟩ => ⟨h1, by rw [h2]; exact Below.refl _ _⟩)
  rw [Kd.other_name s] at h
  exact h

set_option maxHeartbeats 1000000 in
theorem isName_any (s : ByteArray) (w : World) (hb : s.size ≤ 9223372036854775807) :
    Calls Tryz.prog 125 #[.string s] w fun e w' => e = .returned (.bool (Kd.nameOk s.data.toList)) ∧ Below w.heap.size w w' := by
  have L : Hid (∀ w : World, Calls Tryz.prog 137 #[.string s, .func (.func 135) #[] #[]] w fun e w' => e = .returned (.bool (!(s.data.toList.all Kd.isLetter))) ∧ Below w.heap.size w w') := fun w => letters_any s w
  obtain ⟨l, hl⟩ : ∃ l, s.data.toList = l := ⟨_, rfl⟩
  have Ll : Hid (l.length = s.size) := by unfold Hid; rw [← hl]; rfl
  rw [hl] at L ⊢
  clear hl
  by_cases h1 : 1 ≤ s.size ∧ s.size ≤ 8
  · obtain ⟨h2, h3⟩ := h1
    have E : Hid (Kd.nameOk l = l.all Kd.isLetter) := by
      unfold Hid Kd.nameOk
      rw [decide_eq_true (show l.length ≤ 8 by rw [Ll.out]; exact h3), Bool.true_and]
      cases l with
      | nil => have := Ll.out; simp at this; omega
      | cons a r => rfl
    generalize l.all Kd.isLetter = b at *
    rw [E.out]
    clear E
    go_enter Tryz.func125, Tryz.ntmps125
    go_wp2_with (go_at_call 136; refine (kwin_yes _ _ _ _ (by omega) (by omega)).mono ?_; rintro e w' ⟨rfl, hw⟩; obtain rfl := hw.symm)
    refine (L.out _).mono ?_
    rintro e w1 ⟨rfl, b1⟩
    have B1 : Hid (Below w.heap.size w w1) := b1
    clear b1
    go_wp2
    go_ret
    exact ⟨by simp, B1⟩
  · have E : Hid (Kd.nameOk l = false) := by
      unfold Hid Kd.nameOk
      cases l with
      | nil => rfl
      | cons a r =>
        rw [decide_eq_false (show ¬ (a :: r).length ≤ 8 by intro h; have := Ll.out; simp at this h; omega)]
        simp
    rw [E.out]
    go_enter Tryz.func125, Tryz.ntmps125
    go_wp2_with (go_at_call 136; refine (kwin_no _ _ _ _ (by omega)).mono ?_; rintro e w' ⟨rfl, rfl⟩)
    go_ret
    exact ⟨rfl, Below.refl _ _⟩
theorem FstK.none {p : KV → Bool} {ks : List KV} {r : Int} (h : FstK p ks r) : (0 ≤ r ∧ ks.any p = true) ∨ (r = -1 ∧ ks.any p = false) := by
  rcases h with h | ⟨k, x, rfl, h1, h2, _⟩
  · exact .inr h
  · exact .inl ⟨by omega, List.any_eq_true.2 ⟨x, List.mem_of_getElem? h1, h2⟩⟩

set_option maxHeartbeats 2000000 in
theorem ckind_any (v : Value) (ks : List KV) (k : KV) (w : World) (h : Kl w v ks) (hb : k.b.size ≤ 9223372036854775807) :
    Calls Tryz.prog 105 #[v, k.val] w fun e w' => ∃ u, e = .returned u ∧ Er u (Kd.kindFault (ks.map KV.k) k.k) ∧ Below w.heap.size w w' := by
  have K0 : Hid (Kl w v ks) := h
  obtain ⟨a, c, rfl, c1, c2, -⟩ := h
  have NM := isName_any k.b
  have IB := inb_any k
  have KF : Hid (Kd.kindFault (ks.map KV.k) k.k = if Kd.nameOk k.b.data.toList then (if (ks.any fun a => a.k.name == k.b.data.toList) then 8 else Kd.numsFault k.ns) else 2) := by
    unfold Hid Kd.kindFault
    rw [List.any_map]
    rfl
  obtain ⟨R, hR⟩ : ∃ R, Kd.kindFault (ks.map KV.k) k.k = R := ⟨_, rfl⟩
  rw [hR] at KF ⊢
  clear hR
  obtain ⟨kb, n0, n1, n2, n3, n4, n5, n6, n7, kf, kt⟩ := k
  simp only at hb NM KF
  unfold KV.val at IB ⊢
  simp only at IB ⊢
  have NM' : Hid (∀ w : World, kb.size ≤ 9223372036854775807 → Calls Tryz.prog 125 #[.string kb] w fun e w' => e = .returned (.bool (Kd.nameOk kb.data.toList)) ∧ Below w.heap.size w w') := NM
  obtain ⟨F, hF⟩ : ∃ F, Kd.numsFault (KV.ns ⟨kb, n0, n1, n2, n3, n4, n5, n6, n7, kf, kt⟩) = F := ⟨_, rfl⟩
  rw [hF] at IB KF
  have IB' : Hid (∀ w : World, Calls Tryz.prog 127 #[.agg #[.string kb, .int .i64 n0, .int .i64 n1, .int .i64 n2, .int .i64 n3, .int .i64 n4, .int .i64 n5, .int .i64 n6, .int .i64 n7, .bool kf, .bool kt]] w fun e w' => e = .returned (.bool (decide (F = 0))) ∧ Below w.heap.size w w') := IB
  have HF : Hid (F = 0 ∨ F = 1) := by
    unfold Hid
    rw [← hF]
    unfold Kd.numsFault
    split
    · exact .inr rfl
    · split
      · exact .inr rfl
      · exact .inl rfl
  clear NM IB hF
  go_enter Tryz.func105, Tryz.ntmps105
  have B1 : Hid (Below w.heap.size w (w.alloc (Obj.cells #[.string kb, .int .i64 n0, .int .i64 n1, .int .i64 n2, .int .i64 n3, .int .i64 n4, .int .i64 n5, .int .i64 n6, .int .i64 n7, .bool kf, .bool kt] 61))) := (Below.refl _ _).alloc (Nat.le_refl _) _
  have X1 : Hid (Kc (w.alloc (Obj.cells #[.string kb, .int .i64 n0, .int .i64 n1, .int .i64 n2, .int .i64 n3, .int .i64 n4, .int .i64 n5, .int .i64 n6, .int .i64 n7, .bool kf, .bool kt] 61)) ⟨w.heap.size, 0, none⟩ ⟨kb, n0, n1, n2, n3, n4, n5, n6, n7, kf, kt⟩) := Kc.mk' ⟨kb, n0, n1, n2, n3, n4, n5, n6, n7, kf, kt⟩ rfl
  go_wp2_with fail
  generalize w.alloc (Obj.cells #[.string kb, .int .i64 n0, .int .i64 n1, .int .i64 n2, .int .i64 n3, .int .i64 n4, .int .i64 n5, .int .i64 n6, .int .i64 n7, .bool kf, .bool kt] 61) = w1 at *
  refine (NM'.out _ hb).mono ?_
  rintro e w2 ⟨rfl, b2⟩
  have B2 : Hid (Below w.heap.size w w2) := B1.out.trans (b2.mono B1.out.size)
  have X2 : Hid (Kc w2 ⟨w.heap.size, 0, none⟩ ⟨kb, n0, n1, n2, n3, n4, n5, n6, n7, kf, kt⟩) := X1.out.below b2 X1.out.lt
  clear b2 X1 NM'
  cases hn : Kd.nameOk kb.data.toList with
  | false =>
    have E : Hid (R = 2) := by unfold Hid; rw [KF.out, hn]; rfl
    clear hn
    go_wp2
    go_ret
    exact ⟨_, rfl, by rw [E.out]; exact Er.no (by decide), B2⟩
  | true =>
    have KF2 : Hid (R = if (ks.any fun a => a.k.name == kb.data.toList) then 8 else F) := by unfold Hid; rw [KF.out, hn]; rfl
    clear hn KF
    have x0 : w2.cell? ⟨w.heap.size, 0, none⟩ = some (.string kb) := X2.out.c0
    go_wp2_with fail
    refine (find_any _ ks kb _ (K0.out.below B2.out)).mono ?_
    rintro e w3 ⟨r, rfl, hr, b3⟩
    have B3 : Hid (Below w.heap.size w w3) := B2.out.trans (b3.mono B2.out.size)
    have X3 : Hid (Kc w3 ⟨w.heap.size, 0, none⟩ ⟨kb, n0, n1, n2, n3, n4, n5, n6, n7, kf, kt⟩) := X2.out.below b3 X2.out.lt
    clear b3 X2 x0
    rcases hr.none with ⟨h0, ha⟩ | ⟨h0, ha⟩
    · have E : Hid (R = 8) := by unfold Hid; rw [KF2.out, if_pos ha]
      clear ha hr
      go_wp2
      go_ret
      exact ⟨_, rfl, by rw [E.out]; exact Er.no (by decide), B3⟩
    · have E : Hid (R = F) := by unfold Hid; rw [KF2.out, if_neg (by rw [ha]; decide)]
      clear ha hr
      subst h0
      obtain ⟨x0, x1, x2, x3, x4, x5, x6, x7, x8, x9, x10⟩ := X3.out
      have x1 : w3.cell? ⟨w.heap.size, 1, none⟩ = some (.int .i64 n0) := x1
      have x2 : w3.cell? ⟨w.heap.size, 2, none⟩ = some (.int .i64 n1) := x2
      have x3 : w3.cell? ⟨w.heap.size, 3, none⟩ = some (.int .i64 n2) := x3
      have x4 : w3.cell? ⟨w.heap.size, 4, none⟩ = some (.int .i64 n3) := x4
      have x5 : w3.cell? ⟨w.heap.size, 5, none⟩ = some (.int .i64 n4) := x5
      have x6 : w3.cell? ⟨w.heap.size, 6, none⟩ = some (.int .i64 n5) := x6
      have x7 : w3.cell? ⟨w.heap.size, 7, none⟩ = some (.int .i64 n6) := x7
      have x8 : w3.cell? ⟨w.heap.size, 8, none⟩ = some (.int .i64 n7) := x8
      have x9 : w3.cell? ⟨w.heap.size, 9, none⟩ = some (.bool kf) := x9
      have x10 : w3.cell? ⟨w.heap.size, 10, none⟩ = some (.bool kt) := x10
      go_wp2_with fail
      refine (IB'.out _).mono ?_
      rintro e w4 ⟨rfl, b4⟩
      have B4 : Hid (Below w.heap.size w w4) := B3.out.trans (b4.mono B3.out.size)
      clear b4 IB' x0 x1 x2 x3 x4 x5 x6 x7 x8 x9 x10
      rcases HF.out with hF | hF
      · rw [hF]
        have E2 : Hid (R = 0) := by unfold Hid; rw [E.out, hF]
        go_wp2
        go_ret
        exact ⟨_, rfl, by rw [E2.out]; exact Er.nil, B4⟩
      · rw [hF]
        have E2 : Hid (R = 1) := by unfold Hid; rw [E.out, hF]
        go_wp2
        go_ret
        exact ⟨_, rfl, by rw [E2.out]; exact Er.no (by decide), B4⟩
end Go.Proofs.YtagnjmellcibhaaGreatDoor

namespace Go.Proofs.YtagnjmellcibhaaGreatDoor
open Go.RowKit
set_option linter.unusedVariables false

theorem Kl.take {w : World} {a : Option Addr} {n c : Nat} {ks : List KV} (h : Kl w (.slice a n c) ks) {q : Nat} (hq : q ≤ ks.length) : Kl w (.slice a q c) (ks.take q) := by
  obtain ⟨a', c', e, h1, h2, h3⟩ := h
  injection e with e1 e2 e3
  subst e1 e3
  have hl : (ks.take q).length = q := by rw [List.length_take]; omega
  refine ⟨a, c, by rw [hl], by rw [hl]; omega, h2, fun hn => ?_⟩
  obtain ⟨x, hx, hb, hk⟩ := h3 (by rintro rfl; simp at hn)
  refine ⟨x, hx, hb, fun i k hi => hk i k ?_⟩
  rw [List.getElem?_take] at hi
  split at hi
  · exact hi
  · cases hi
theorem kgo_at {ks : List KV} {i : Nat} {k : KV} (h : ks[i]? = some k) : Kd.kindsGo ((ks.take i).map KV.k) ((ks.drop i).map KV.k) = if Kd.kindFault ((ks.take i).map KV.k) k.k = 0 then Kd.kindsGo ((ks.take (i + 1)).map KV.k) ((ks.drop (i + 1)).map KV.k) else Kd.kindFault ((ks.take i).map KV.k) k.k := by
  obtain ⟨hi, e⟩ := List.getElem?_eq_some_iff.1 h
  rw [List.drop_eq_getElem_cons hi, e, List.map_cons, Kd.kindsGo, List.take_succ_eq_append_getElem hi, e, List.map_append]
  rfl

set_option maxHeartbeats 4000000 in
theorem kcheck_any (v : Value) (ks : List KV) (w : World) (h : Kl w v ks) (hb : ∀ k ∈ ks, k.b.size ≤ 9223372036854775807) :
    Calls Tryz.prog 84 #[v] w fun e w' => ∃ u, e = .returned u ∧ Er u (Kd.kindsFault (ks.map KV.k)) ∧ Below w.heap.size w w' := by
  have K0 : Hid (Kl w v ks) := h
  have Hb : Hid (∀ k ∈ ks, k.b.size ≤ 9223372036854775807) := hb
  obtain ⟨R, hR⟩ : ∃ R, Kd.kindsFault (ks.map KV.k) = R := ⟨_, rfl⟩
  have HR : Hid (Kd.kindsFault (ks.map KV.k) = R) := hR
  rw [hR]
  clear hR hb
  obtain ⟨a, c, rfl, c1, c2, -⟩ := h
  by_cases h8 : 8 < ks.length
  · have E : Hid (R = 4) := by unfold Hid; rw [← HR.out]; unfold Kd.kindsFault; rw [if_pos (by simpa using h8)]
    have h8' : (8 : Int) < (ks.length : Int) := by omega
    go_enter Tryz.func84, Tryz.ntmps84
    go_wp2
    go_ret
    exact ⟨_, rfl, by rw [E.out]; exact Er.no (by decide), Below.refl _ _⟩
  · have h8' : ¬ (8 : Int) < (ks.length : Int) := by omega
    have R1 : Hid (Kd.kindsGo [] (ks.map KV.k) = R) := by unfold Hid; rw [← HR.out]; unfold Kd.kindsFault; rw [if_neg (by simpa using h8)]
    go_enter Tryz.func84, Tryz.ntmps84
    go_wp2_with fail
    go_loopw [12] (fun j W' => ∃ q : Nat, q ≤ ks.length ∧ j = .int .i64 (q : Nat) ∧ Kd.kindsGo ((ks.take q).map KV.k) ((ks.drop q).map KV.k) = R ∧ Below w.heap.size w W') (fun j _ => ks.length - (intOf j).toNat)
    case atStart => exact ⟨0, Nat.zero_le _, rfl, R1, Below.refl _ _⟩
    case round =>
      obtain ⟨q, hq, rfl, hg, hb⟩ := hrel
      have Gq : Hid (Kd.kindsGo ((ks.take q).map KV.k) ((ks.drop q).map KV.k) = R) := hg
      have B : Hid (Below w.heap.size w wr) := hb
      clear hg hb
      by_cases hql : q = ks.length
      · have E : Hid (R = 0) := by
          unfold Hid
          rw [← Gq.out, hql, List.drop_of_length_le (Nat.le_refl _)]
          rfl
        subst hql
        go_wp2
        go_ret
        exact ⟨_, rfl, by rw [E.out]; exact Er.nil, B⟩
      · have hqk : q < ks.length := by omega
        obtain ⟨k, hk⟩ : ∃ k, ks[q]? = some k := ⟨_, List.getElem?_eq_getElem hqk⟩
        have At : Hid (R = if Kd.kindFault ((ks.take q).map KV.k) k.k = 0 then Kd.kindsGo ((ks.take (q + 1)).map KV.k) ((ks.drop (q + 1)).map KV.k) else Kd.kindFault ((ks.take q).map KV.k) k.k) := by
          unfold Hid
          rw [← kgo_at hk]
          exact Gq.out.symm
        have K1 := K0.out.below B.out
        have CK : Hid (∀ W : World, Below wr.heap.size wr W → Calls Tryz.prog 105 #[.slice a q c, k.val] W fun e w' => ∃ u, e = .returned u ∧ Er u (Kd.kindFault ((ks.take q).map KV.k) k.k) ∧ Below W.heap.size W w') :=
          fun W hW => ckind_any _ (ks.take q) k W ((K1.take hq).below hW) (Hb.out k (List.mem_of_getElem? hk))
        generalize Kd.kindFault ((ks.take q).map KV.k) k.k = F at *
        obtain ⟨a', c', e, -, -, h3⟩ := K1
        injection e with e1 e2 e3
        subst e1 e3
        obtain ⟨x, rfl, hx1, hx⟩ := h3 (by rintro rfl; simp at hqk)
        have Yc := hx q k hk
        clear hx h3 e2 hk
        obtain ⟨kb, n0, n1, n2, n3, n4, n5, n6, n7, kf, kt⟩ := k
        obtain ⟨q0, q1, q2, q3, q4, q5, q6, q7, q8, q9, q10⟩ := Yc
        simp only at q0 q1 q2 q3 q4 q5 q6 q7 q8 q9 q10
        unfold KV.val at CK
        simp only at CK
        go_upto_region 6 with fail
        have B1 : Hid (Below wr.heap.size wr (wr.alloc (Obj.cells #[.string kb, .int .i64 n0, .int .i64 n1, .int .i64 n2, .int .i64 n3, .int .i64 n4, .int .i64 n5, .int .i64 n6, .int .i64 n7, .bool kf, .bool kt] 61))) := (Below.refl _ _).alloc (Nat.le_refl _) _
        have X1 := Kc.mk' (w := wr) ⟨kb, n0, n1, n2, n3, n4, n5, n6, n7, kf, kt⟩ rfl
        simp only at X1
        clear q0 q1 q2 q3 q4 q5 q6 q7 q8 q9 q10
        generalize wr.alloc (Obj.cells #[.string kb, .int .i64 n0, .int .i64 n1, .int .i64 n2, .int .i64 n3, .int .i64 n4, .int .i64 n5, .int .i64 n6, .int .i64 n7, .bool kf, .bool kt] 61) = w1 at *
        obtain ⟨x0, x1, x2, x3, x4, x5, x6, x7, x8, x9, x10⟩ := X1
        simp only at x0 x1 x2 x3 x4 x5 x6 x7 x8 x9 x10
        go_region_with (go_at_call 105; refine Calls.mono (CK.out _ B1.out.drew) ?_; rintro e w2 ⟨u, rfl, hu, b2⟩; have Hu : Hid (Er u F) := hu; have B2 : Hid (Below wr.heap.size wr w2) := B1.out.drew.trans (b2.mono B1.out.drew.size); clear hu b2)
        all_goals
          have B3 : Hid (Below w.heap.size w w2) := B.out.trans (B2.out.mono B.out.size)
          clear B2 CK x0 x1 x2 x3 x4 x5 x6 x7 x8 x9 x10
          rcases Hu.out with ⟨hF, rfl⟩ | ⟨hF, rfl⟩
          · have G2 : Hid (Kd.kindsGo ((ks.take (q + 1)).map KV.k) ((ks.drop (q + 1)).map KV.k) = R) := by
              unfold Hid
              have := At.out
              rw [if_pos hF] at this
              exact this.symm
            clear At
            go_wp2
            go_round
            case rel => exact ⟨q + 1, by omega, by go_num, G2, B3⟩
            case measure => simp [intOf]; omega
          · have E : Hid (R = F) := by
              unfold Hid
              have := At.out
              rw [if_neg hF] at this
              exact this
            have Hf : Hid (F ≠ 0) := hF
            clear At
            go_wp2
            go_ret
            exact ⟨_, rfl, by rw [E.out]; exact Er.no Hf.out, B3⟩

end Go.Proofs.YtagnjmellcibhaaGreatDoor

namespace Go.Proofs.YtagnjmellcibhaaGreatDoor
open Go.RowKit
set_option linter.unusedVariables false

set_option maxHeartbeats 1000000 in
theorem ground_any (v f : Value) (ks : List KV) (W : WV) (w : World) (h : Kl w v ks) (hb : ∀ k ∈ ks, k.b.size ≤ 9223372036854775807) (hf : Fl w f W.wide W.high W.gs W.os) :
    Calls Tryz.prog 54 #[v, f] w fun e w' => ∃ u, e = .returned u ∧ Er u (Wd.ground ks W) ∧ Below w.heap.size w w' := by
  have K : Hid (Kl w v ks ∧ ∀ k ∈ ks, k.b.size ≤ 9223372036854775807) := ⟨h, hb⟩
  have F : Hid (Fl w f W.wide W.high W.gs W.os) := hf
  obtain ⟨u1, u2, rfl, h1, h2⟩ := hf
  clear h hb h1 h2
  go_enter Tryz.func54, Tryz.ntmps54
  go_wp2_with fail
  have B0 : Hid (Below w.heap.size w (w.alloc (Obj.cells #[.int .i64 W.wide, .int .i64 W.high, u1, u2] 25))) := (Below.refl _ _).alloc (Nat.le_refl _) _
  have X0 : Hid (Bf (w.alloc (Obj.cells #[.int .i64 W.wide, .int .i64 W.high, u1, u2] 25)) w.heap.size W.wide W.high u1 u2) := Bf.mk' W.wide W.high u1 u2 rfl
  generalize w.alloc (Obj.cells #[.int .i64 W.wide, .int .i64 W.high, u1, u2] 25) = w0 at *
  refine (kcheck_any _ ks w0 (K.out.1.below B0.out) K.out.2).mono ?_
  rintro e w1 ⟨r, rfl, hr, hb1⟩
  have B1 : Hid (Below w.heap.size w w1) := B0.out.trans (hb1.mono B0.out.size)
  have X1 : Hid (Bf w1 w.heap.size W.wide W.high u1 u2) := X0.out.below hb1 X0.out.lt
  clear hb1 X0
  rcases hr with ⟨hz, rfl⟩ | ⟨hz, rfl⟩
  · have G : Hid (Wd.ground ks W = Fd.fault W.wide W.high W.gs W.os) := by unfold Hid Wd.ground; rw [if_pos hz]
    obtain ⟨c0, c1, c2, c3⟩ := X1.out
    clear hz
    go_wp2_with fail
    refine (check_any _ W.wide W.high W.gs W.os w1 (F.out.below B1.out)).mono ?_
    rintro e w2 ⟨r, rfl, hr, hb2⟩
    have R : Hid (Er r (Wd.ground ks W) ∧ Below w.heap.size w w2) := ⟨by rw [G.out]; exact hr, B1.out.trans (hb2.mono B1.out.size)⟩
    clear hr hb2 c0 c1 c2 c3
    go_wp2
    go_ret
    exact ⟨_, rfl, R.out.1, R.out.2⟩
  · have G : Hid (Er (.iface 75 (.int .i64 (Kd.kindsFault (ks.map KV.k)))) (Wd.ground ks W)) := by
      unfold Hid Wd.ground; rw [if_neg hz]; exact Er.no hz
    clear hz
    go_wp2
    go_ret
    exact ⟨_, rfl, G.out, B1.out⟩
/-- what is wrong with the numbers. -/
def numsF (W : WV) : Int := if Wd.numsBad W = true then 1 else 0
theorem off_any (n : Int) (w : World) : Calls Tryz.prog 86 #[.int .i64 n] w fun e w' => e = .returned (.bool (Wd.off 0 n)) ∧ w' = w := by
  go_enter Tryz.func86, Tryz.ntmps86
  go_wp2_with fail
  refine (wwithin_any n 0 1000000 w).mono ?_
  rintro e w1 ⟨rfl, rfl⟩
  obtain ⟨b, hb⟩ : ∃ b, decide (0 ≤ n ∧ n ≤ 1000000) = b := ⟨_, rfl⟩
  have HB : Hid (Wd.off 0 n = !b) := by unfold Hid Wd.off; rw [hb]
  rw [hb]
  clear hb
  go_wp2
  go_ret
  exact ⟨by rw [HB.out]; rfl, rfl⟩
set_option maxRecDepth 100000 in
set_option maxHeartbeats 2000000 in
theorem numbad_any (v : Value) (W : WV) (w : World) (h : Wl w v W) :
    Calls Tryz.prog 55 #[v] w fun e w' => ∃ u, e = .returned u ∧ Er u (numsF W) ∧ Below w.heap.size w w' := by
  obtain ⟨u1, u2, u3, u4, u5, rfl, -, -, h3, -, -⟩ := h
  have R3 : Hid (Ro w u3 W.gold) := h3
  obtain ⟨a, c, rfl, c1, c2, -⟩ := h3
  go_enter Tryz.func55, Tryz.ntmps55
  go_upto_region 2 with fail
  have B0 : Hid (Below w.heap.size w (w.alloc (Obj.cells #[.int .i64 W.turn, .int .i64 W.next, .int .i64 W.wide, .int .i64 W.high, u1, u2, .slice a W.gold.length c, u4, u5] 29))) := (Below.refl _ _).alloc (Nat.le_refl _) _
  have X0 : Hid (Bw (w.alloc (Obj.cells #[.int .i64 W.turn, .int .i64 W.next, .int .i64 W.wide, .int .i64 W.high, u1, u2, .slice a W.gold.length c, u4, u5] 29)) w.heap.size W u1 u2 (.slice a W.gold.length c) u4 u5) := Bw.mk' W _ _ _ _ _ rfl
  generalize w.alloc (Obj.cells #[.int .i64 W.turn, .int .i64 W.next, .int .i64 W.wide, .int .i64 W.high, u1, u2, .slice a W.gold.length c, u4, u5] 29) = w0 at *
  obtain ⟨x0, x1, -, -, -, -, x6, -, -⟩ := X0.out
  obtain ⟨t, ht⟩ : ∃ t, decide (0 ≤ W.turn ∧ W.turn ≤ 1000000) = t := ⟨_, rfl⟩
  obtain ⟨n, hn⟩ : ∃ n, decide (1 ≤ W.next ∧ W.next ≤ 1000000) = n := ⟨_, rfl⟩
  obtain ⟨g, hg⟩ : ∃ g, decide (1 ≤ (W.gold.length : Int) ∧ (W.gold.length : Int) ≤ 4) = g := ⟨_, rfl⟩
  obtain ⟨m, hm⟩ : ∃ m, W.gold.any (Wd.off 0) = m := ⟨_, rfl⟩
  have HN : Hid (Wd.numsBad W = (!t || (!n || (!g || m)))) := by unfold Hid Wd.numsBad Wd.off; rw [ht, hn, hg]; unfold Wd.off at hm; rw [hm]
  go_wp2_with fail
  refine (wwithin_any W.turn 0 1000000 w0).mono ?_
  rintro e y1 ⟨rfl, hww⟩
  obtain rfl := hww.symm
  rw [ht]
  cases t with
  | false =>
    go_wp2
    go_ret
    have EB : Wd.numsBad W = true := by rw [HN.out]; rfl
    exact ⟨_, rfl, by unfold numsF; rw [EB]; exact Er.no (by decide), B0.out⟩
  | true =>
    go_wp2_with fail
    refine (wwithin_any W.next 1 1000000 _).mono ?_
    rintro e y2 ⟨rfl, hww⟩
    obtain rfl := hww.symm
    rw [hn]
    cases n with
    | false =>
      go_wp2
      go_ret
      have EB : Wd.numsBad W = true := by rw [HN.out]; rfl
      exact ⟨_, rfl, by unfold numsF; rw [EB]; exact Er.no (by decide), B0.out⟩
    | true =>
      go_wp2_with fail
      refine (wwithin_any (W.gold.length : Int) 1 4 _).mono ?_
      rintro e y3 ⟨rfl, hww⟩
      obtain rfl := hww.symm
      rw [hg]
      cases g with
      | false =>
        go_wp2
        go_ret
        have EB : Wd.numsBad W = true := by rw [HN.out]; rfl
        exact ⟨_, rfl, by unfold numsF; rw [EB]; exact Er.no (by decide), B0.out⟩
      | true =>
        go_wp2_with fail
        refine (hasf_any 86 (by intro args w; go_simp) _ #[] W.gold (Wd.off 0) _ (R3.out.below B0.out) (fun q x _ => (off_any x _).mono fun e w' ⟨h1, h2⟩ => ⟨h1, q, h2⟩)).mono ?_
        rintro e y4 ⟨rfl, q, hq⟩
        have BQ : Hid (Below w.heap.size w y4) := by rw [hq]; exact B0.out.trans ⟨rfl, rfl, rfl, Nat.le_refl _, fun _ _ => rfl⟩
        clear hq
        rw [hm]
        cases m with
        | false =>
          go_wp2
          go_ret
          have EB : Wd.numsBad W = false := by rw [HN.out]; rfl
          exact ⟨_, rfl, by unfold numsF; rw [EB]; exact Er.nil, BQ.out⟩
        | true =>
          go_wp2
          go_ret
          have EB : Wd.numsBad W = true := by rw [HN.out]; rfl
          exact ⟨_, rfl, by unfold numsF; rw [EB]; exact Er.no (by decide), BQ.out⟩
end Go.Proofs.YtagnjmellcibhaaGreatDoor

namespace Go.Proofs.YtagnjmellcibhaaGreatDoor
open Go.RowKit
set_option linter.unusedVariables false

theorem units_all {ks : List KV} {W : WV} : ∀ (l : List UnV) (i : Nat), Wd.unitsGo ks W i l = 0 → ∀ u ∈ l, ∃ j, Wd.unitFault ks W j u = 0
  | [], _, _, u, hu => by cases hu
  | x :: l, i, h, u, hu => by
    unfold Wd.unitsGo at h
    split at h
    · rename_i h0
      rcases List.mem_cons.1 hu with rfl | hu
      · exact ⟨i, h0⟩
      · exact units_all l (i + 1) h u hu
    · rename_i h0
      exact absurd h h0
theorem fault_kind {ks : List KV} {W : WV} {j : Nat} {u : UnV} (h : Wd.unitFault ks W j u = 0) : 0 ≤ u.kind ∧ u.kind < (ks.length : Int) := by
  have : Wd.has ks.length u.kind = true := by
    cases hh : Wd.has ks.length u.kind with
    | true => rfl
    | false =>
      unfold Wd.unitFault at h
      rw [hh] at h
      split at h
      · cases h
      · split at h
        · cases h
        · rw [if_pos (by simp)] at h
          cases h
  exact of_decide_eq_true this
theorem kinds_len {ks : List KV} (h : Kd.kindsFault (ks.map KV.k) = 0) : ks.length ≤ 8 := by
  unfold Kd.kindsFault at h
  split at h
  · cases h
  · rename_i h8
    rw [List.length_map] at h8
    omega
theorem nums_ok {W : WV} (h : Wd.numsBad W = false) : Wd.off 1 W.next = false ∧ W.gold.length ≤ 4 := by
  unfold Wd.numsBad at h
  simp only [Bool.or_eq_false_iff] at h
  obtain ⟨-, h1, h2, -⟩ := h
  refine ⟨h1, ?_⟩
  have : decide (1 ≤ (W.gold.length : Int) ∧ (W.gold.length : Int) ≤ 4) = true := by
    cases hh : decide (1 ≤ (W.gold.length : Int) ∧ (W.gold.length : Int) ≤ 4) with
    | true => rfl
    | false => rw [hh] at h2; cases h2
  have := of_decide_eq_true this
  omega
set_option maxRecDepth 100000 in
set_option maxHeartbeats 16000000 in
theorem wcheck_any (vk vw : Value) (ks : List KV) (W : WV) (w : World) (hk : Kl w vk ks) (hb : ∀ k ∈ ks, k.b.size ≤ 9223372036854775807) (hw : Wl w vw W) :
    Calls Tryz.prog 31 #[vk, vw] w fun e w' => ∃ r, e = .returned r ∧ Er r (Wd.wfault ks W) ∧ Below w.heap.size w w' := by
  have K : Hid (Kl w vk ks ∧ ∀ k ∈ ks, k.b.size ≤ 9223372036854775807) := ⟨hk, hb⟩
  have H : Hid (Wl w vw W) := hw
  obtain ⟨u1, u2, u3, u4, u5, rfl, r1, r2, r3, r4, r5⟩ := hw
  obtain ⟨p1, q1, rfl, -⟩ := r1
  obtain ⟨p2, q2, rfl, -⟩ := r2
  obtain ⟨p3, q3, rfl, -⟩ := r3
  obtain ⟨p4, q4, rfl, -⟩ := r4
  obtain ⟨p5, q5, rfl, k51, k52, k53⟩ := r5
  have JC : Hid (W.qs ≠ [] → ∃ x, p5 = some x ∧ x.block < w.heap.size ∧ ∀ (i : Nat) k, W.qs[i]? = some k → Jbc w (x.add (i * 4)) k) := k53
  clear hk hb k53
  go_enter Tryz.func31, Tryz.ntmps31
  go_wp2_with fail
  have B0 : Hid (Below w.heap.size w (w.alloc (Obj.cells #[.int .i64 W.turn, .int .i64 W.next, .int .i64 W.wide, .int .i64 W.high, .slice p1 W.gs.length q1, .slice p2 W.os.length q2, .slice p3 W.gold.length q3, .slice p4 W.us.length q4, .slice p5 W.qs.length q5] 29))) := (Below.refl _ _).alloc (Nat.le_refl _) _
  have X0 : Hid (Bw (w.alloc (Obj.cells #[.int .i64 W.turn, .int .i64 W.next, .int .i64 W.wide, .int .i64 W.high, .slice p1 W.gs.length q1, .slice p2 W.os.length q2, .slice p3 W.gold.length q3, .slice p4 W.us.length q4, .slice p5 W.qs.length q5] 29)) w.heap.size W (.slice p1 W.gs.length q1) (.slice p2 W.os.length q2) (.slice p3 W.gold.length q3) (.slice p4 W.us.length q4) (.slice p5 W.qs.length q5)) := Bw.mk' W _ _ _ _ _ rfl
  generalize (w.alloc (Obj.cells #[.int .i64 W.turn, .int .i64 W.next, .int .i64 W.wide, .int .i64 W.high, .slice p1 W.gs.length q1, .slice p2 W.os.length q2, .slice p3 W.gold.length q3, .slice p4 W.us.length q4, .slice p5 W.qs.length q5] 29)) = w0 at *
  refine (ground_any _ _ ks W w0 (K.out.1.below B0.out) K.out.2 ⟨_, _, rfl, (H.out.below B0.out).slices.1, (H.out.below B0.out).slices.2.1⟩).mono ?_
  rintro e w1 ⟨r, rfl, hr, hb1⟩
  have B1 : Hid (Below w.heap.size w w1) := B0.out.trans (hb1.mono B0.out.size)
  have X1 : Hid (Bw w1 w.heap.size W (.slice p1 W.gs.length q1) (.slice p2 W.os.length q2) (.slice p3 W.gold.length q3) (.slice p4 W.us.length q4) (.slice p5 W.qs.length q5)) := X0.out.below hb1 X0.out.lt
  clear hb1 X0 B0
  rcases hr with ⟨hz, rfl⟩ | ⟨hz, rfl⟩
  · have HZ : Hid (Wd.ground ks W = 0) := hz
    obtain ⟨x0, x1, x2, x3, x4, x5, x6, x7, x8⟩ := X1.out
    clear hz
    go_wp2_with fail
    refine (numbad_any _ W w1 (H.out.below B1.out)).mono ?_
    rintro e w2 ⟨r, rfl, hr, hb2⟩
    have B2 : Hid (Below w.heap.size w w2) := B1.out.trans (hb2.mono B1.out.size)
    have X2 : Hid (Bw w2 w.heap.size W (.slice p1 W.gs.length q1) (.slice p2 W.os.length q2) (.slice p3 W.gold.length q3) (.slice p4 W.us.length q4) (.slice p5 W.qs.length q5)) := X1.out.below hb2 X1.out.lt
    clear hb2 X1 B1 x0 x1 x2 x3 x4 x5 x6 x7 x8
    rcases hr with ⟨hn, rfl⟩ | ⟨hn, rfl⟩
    · have HN : Hid (Wd.numsBad W = false) := by
        unfold Hid
        unfold numsF at hn
        cases h : Wd.numsBad W with
        | false => rfl
        | true => rw [h] at hn; cases hn
      clear hn
      have x7 := X2.out.c7
      by_cases h40 : 40 < W.us.length
      · have F4 : Hid (Wd.wfault ks W = 4) := by unfold Hid Wd.wfault; rw [if_neg (by rw [HZ.out]; simp), HN.out, if_neg (by simp), if_pos h40]
        have h40i : (40 : Int) < (W.us.length : Int) := by omega
        go_wp2
        go_ret
        exact ⟨_, rfl, by rw [F4.out]; exact Er.no (by decide), B2.out⟩
      · have h40i : ¬ (40 : Int) < (W.us.length : Int) := by omega
        have KL : Hid (ks.length ≤ 8) := by
          have := HZ.out
          unfold Wd.ground at this
          split at this
          · rename_i h0
            exact kinds_len h0
          · rename_i h0
            exact absurd this h0
        have GD : Hid (∃ Wn Hn : Nat, W.wide = Wn ∧ W.high = Hn ∧ Fd.Good Wn Hn W.gs W.os) := by
          have := HZ.out
          unfold Wd.ground at this
          split at this
          · exact Fd.fault_zero this
          · rename_i h0
            exact absurd this h0
        obtain ⟨Wn, Hn, hWn, hHn, hG⟩ := GD.out
        have GG : Hid (W.wide = Wn ∧ W.high = Hn ∧ Fd.Good Wn Hn W.gs W.os) := ⟨hWn, hHn, hG⟩
        have US : Hid (W.us.length ≤ 40) := by unfold Hid; omega
        have WF : Hid (Wd.unitsGo ks W 0 W.us ≠ 0 → Wd.wfault ks W = Wd.unitsGo ks W 0 W.us) := fun hne => by unfold Wd.wfault; rw [if_neg (by rw [HZ.out]; simp), HN.out, if_neg (by simp), if_neg h40, if_pos hne]
        have WG : Hid (Wd.unitsGo ks W 0 W.us = 0 → Wd.wfault ks W = if 12 < W.qs.length then 4 else Wd.jobsGo ks W W.qs) := fun h0 => by unfold Wd.wfault; rw [if_neg (by rw [HZ.out]; simp), HN.out, if_neg (by simp), if_neg h40, if_neg (by rw [h0]; simp)]
        clear hWn hHn hG h40
        go_wp2
        clear x7
        go_loopw [32] (fun iv V => ∃ i : Nat, i ≤ W.us.length ∧ iv = .int .i64 (i : Nat) ∧ Wd.unitsGo ks W i (W.us.drop i) = Wd.unitsGo ks W 0 W.us ∧ Bw V w.heap.size W (.slice p1 W.gs.length q1) (.slice p2 W.os.length q2) (.slice p3 W.gold.length q3) (.slice p4 W.us.length q4) (.slice p5 W.qs.length q5) ∧ Below w.heap.size w V) (fun iv _ => W.us.length - (intOf iv).toNat)
        case atStart => exact ⟨0, Nat.zero_le _, rfl, rfl, X2.out, B2.out⟩
        case round =>
          obtain ⟨i, hi, rfl, hgo, hX, hB⟩ := hrel
          have XR : Hid (Bw wr w.heap.size W (.slice p1 W.gs.length q1) (.slice p2 W.os.length q2) (.slice p3 W.gold.length q3) (.slice p4 W.us.length q4) (.slice p5 W.qs.length q5)) := hX
          have BR : Hid (Below w.heap.size w wr) := hB
          have GO : Hid (Wd.unitsGo ks W i (W.us.drop i) = Wd.unitsGo ks W 0 W.us) := hgo
          clear hX hB hgo X2 B2
          by_cases hil : i = W.us.length
          · have U0 : Hid (Wd.unitsGo ks W 0 W.us = 0) := by unfold Hid; rw [← GO.out, hil, List.drop_length]; rfl
            have x8 := XR.out.c8
            subst hil
            clear hi
            by_cases h12 : 12 < W.qs.length
            · have F4 : Hid (Wd.wfault ks W = 4) := by unfold Hid; rw [WG.out U0.out, if_pos h12]
              have h12i : (12 : Int) < (W.qs.length : Int) := by omega
              go_wp2
              go_ret
              exact ⟨_, rfl, by rw [F4.out]; exact Er.no (by decide), BR.out⟩
            · have h12i : ¬ (12 : Int) < (W.qs.length : Int) := by omega
              have FJ : Hid (Wd.wfault ks W = Wd.jobsGo ks W W.qs) := by unfold Hid; rw [WG.out U0.out, if_neg h12]
              have ALL : Hid (∀ u ∈ W.us, 0 ≤ u.kind ∧ u.kind < (ks.length : Int)) := fun u hu => by
                obtain ⟨j, hj⟩ := units_all W.us 0 U0.out u hu
                exact fault_kind hj
              go_wp2
              clear x8
              go_loopw [51] (fun iv V => ∃ i : Nat, i ≤ W.qs.length ∧ iv = .int .i64 (i : Nat) ∧ Wd.jobsGo ks W (W.qs.drop i) = Wd.jobsGo ks W W.qs ∧ Bw V w.heap.size W (.slice p1 W.gs.length q1) (.slice p2 W.os.length q2) (.slice p3 W.gold.length q3) (.slice p4 W.us.length q4) (.slice p5 W.qs.length q5) ∧ Below w.heap.size w V) (fun iv _ => W.qs.length - (intOf iv).toNat)
              case atStart => exact ⟨0, Nat.zero_le _, rfl, rfl, XR.out, BR.out⟩
              case round =>
                obtain ⟨i, hi, rfl, hgo, hX, hB⟩ := hrel
                have XR : Hid (Bw wr w.heap.size W (.slice p1 W.gs.length q1) (.slice p2 W.os.length q2) (.slice p3 W.gold.length q3) (.slice p4 W.us.length q4) (.slice p5 W.qs.length q5)) := hX
                have BR : Hid (Below w.heap.size w wr) := hB
                have GO : Hid (Wd.jobsGo ks W (W.qs.drop i) = Wd.jobsGo ks W W.qs) := hgo
                clear hX hB hgo
                by_cases hil : i = W.qs.length
                · have J0 : Hid (Wd.wfault ks W = 0) := by unfold Hid; rw [FJ.out, ← GO.out, hil, List.drop_length]; rfl
                  subst hil
                  clear hi
                  go_wp2
                  go_ret
                  exact ⟨_, rfl, by rw [J0.out]; exact Er.nil, BR.out⟩
                · have hlt : i < W.qs.length := by omega
                  have hli : (i : Int) < (W.qs.length : Int) := by omega
                  obtain ⟨j, hj⟩ : ∃ j, W.qs[i]? = some j := ⟨_, List.getElem?_eq_getElem hlt⟩
                  obtain ⟨x, rfl, hx, hcell⟩ := JC.out (by intro e; rw [e] at hlt; simp at hlt)
                  obtain ⟨d0, d1, d2, d3⟩ := (hcell i j hj).below BR.out (by rw [add_block]; exact hx)
                  have GA : Hid (Wd.jobsGo ks W W.qs = if Wd.jobFault ks W j = 0 then Wd.jobsGo ks W (W.qs.drop (i + 1)) else Wd.jobFault ks W j) := by unfold Hid; rw [← GO.out, Wd.jobsGo_at hj]
                  obtain ⟨x0, x1, x2, x3, x4, x5, x6, x7, x8⟩ := XR.out
                  clear hcell hx hj hil
                  go_upto_region 21 with fail
                  have BA : Hid (Below wr.heap.size wr (wr.alloc (Obj.cells #[.int .i64 j.player, .int .i64 j.unit, .int .i64 j.kind, .int .i64 j.left] 65))) := (Below.refl _ _).alloc (Nat.le_refl _) _
                  have J1 : Hid (Jbc (wr.alloc (Obj.cells #[.int .i64 j.player, .int .i64 j.unit, .int .i64 j.kind, .int .i64 j.left] 65)) ⟨wr.heap.size, 0, none⟩ j) := Jbc.mk' j rfl
                  generalize (wr.alloc (Obj.cells #[.int .i64 j.player, .int .i64 j.unit, .int .i64 j.kind, .int .i64 j.left] 65)) = w5 at *
                  have B5 : Hid (Below w.heap.size w w5) := BR.out.trans (BA.out.mono BR.out.size)
                  have X5 : Hid (Bw w5 w.heap.size W (.slice p1 W.gs.length q1) (.slice p2 W.os.length q2) (.slice p3 W.gold.length q3) (.slice p4 W.us.length q4) (.slice (some x) W.qs.length q5)) := XR.out.below BA.out XR.out.lt
                  clear d0 d1 d2 d3 x0 x1 x2 x3 x4 x5 x6 x7 x8 XR BR BA
                  obtain ⟨x0, x1, x2, x3, x4, x5, x6, x7, x8⟩ := X5.out
                  obtain ⟨j0, j1, j2, j3⟩ := J1.out
                  generalize wr.heap.size = zj at *
                  simp only [Nat.zero_add] at j1 j2 j3
                  go_wp2_with fail
                  refine (job_any _ _ ks W j w5 (K.out.1.below B5.out) (H.out.below B5.out) US.out KL.out ALL.out).mono ?_
                  rintro e w6 ⟨r, rfl, hr, hb6⟩
                  have B6 : Hid (Below w.heap.size w w6) := B5.out.trans (hb6.mono B5.out.size)
                  have X6 : Hid (Bw w6 w.heap.size W (.slice p1 W.gs.length q1) (.slice p2 W.os.length q2) (.slice p3 W.gold.length q3) (.slice p4 W.us.length q4) (.slice (some x) W.qs.length q5)) := X5.out.below hb6 X5.out.lt
                  clear hb6 x0 x1 x2 x3 x4 x5 x6 x7 x8 j0 j1 j2 j3 X5 B5 J1
                  rcases hr with ⟨h0, rfl⟩ | ⟨h0, rfl⟩
                  · have G2 : Hid (Wd.jobsGo ks W (W.qs.drop (i + 1)) = Wd.jobsGo ks W W.qs) := by unfold Hid; rw [GA.out, if_pos h0]
                    clear h0
                    go_wp2
                    go_roundw
                    case rel => exact ⟨i + 1, by omega, rfl, G2.out, X6.out, B6.out⟩
                    case measure => simp [intOf]; omega
                  · have FB : Hid (Wd.wfault ks W = Wd.jobFault ks W j) := by unfold Hid; rw [FJ.out, GA.out, if_neg h0]
                    have H0 : Hid (Wd.jobFault ks W j ≠ 0) := h0
                    clear h0
                    go_wp2
                    go_ret
                    exact ⟨_, rfl, by rw [FB.out]; exact Er.no H0.out, B6.out⟩
          · have hlt : i < W.us.length := by omega
            have hli : (i : Int) < (W.us.length : Int) := by omega
            obtain ⟨u, hu⟩ : ∃ u, W.us[i]? = some u := ⟨_, List.getElem?_eq_getElem hlt⟩
            have HU : Hid (W.us[i]? = some u) := hu
            have GA : Hid (Wd.unitsGo ks W 0 W.us = if Wd.unitFault ks W i u = 0 then Wd.unitsGo ks W (i + 1) (W.us.drop (i + 1)) else Wd.unitFault ks W i u) := by unfold Hid; rw [← GO.out, Wd.unitsGo_at hu]
            obtain ⟨x0, x1, x2, x3, x4, x5, x6, x7, x8⟩ := XR.out
            clear hu hil
            go_wp2_with fail
            refine (unit_any _ _ ks W Wn Hn i u wr (K.out.1.below BR.out) (H.out.below BR.out) GG.out.1 GG.out.2.1 GG.out.2.2 HU.out (nums_ok HN.out).1 US.out KL.out (nums_ok HN.out).2).mono ?_
            rintro e w6 ⟨r, rfl, hr, hb6⟩
            have B6 : Hid (Below w.heap.size w w6) := BR.out.trans (hb6.mono BR.out.size)
            have X6 : Hid (Bw w6 w.heap.size W (.slice p1 W.gs.length q1) (.slice p2 W.os.length q2) (.slice p3 W.gold.length q3) (.slice p4 W.us.length q4) (.slice p5 W.qs.length q5)) := XR.out.below hb6 XR.out.lt
            clear hb6 x0 x1 x2 x3 x4 x5 x6 x7 x8 XR BR
            rcases hr with ⟨h0, rfl⟩ | ⟨h0, rfl⟩
            · have G2 : Hid (Wd.unitsGo ks W (i + 1) (W.us.drop (i + 1)) = Wd.unitsGo ks W 0 W.us) := by unfold Hid; rw [GA.out, if_pos h0]
              clear h0
              go_wp2
              go_roundw
              case rel => exact ⟨i + 1, by omega, rfl, G2.out, X6.out, B6.out⟩
              case measure => simp [intOf]; omega
            · have EU : Wd.unitsGo ks W 0 W.us = Wd.unitFault ks W i u := by rw [GA.out, if_neg h0]
              have FB : Hid (Wd.wfault ks W = Wd.unitFault ks W i u) := by unfold Hid; rw [WF.out (by rw [EU]; exact h0), EU]
              have H0 : Hid (Wd.unitFault ks W i u ≠ 0) := h0
              clear h0 EU
              go_wp2
              go_ret
              exact ⟨_, rfl, by rw [FB.out]; exact Er.no H0.out, B6.out⟩
    · have F1 : Hid (Wd.wfault ks W = numsF W) := by
        unfold Hid Wd.wfault
        unfold numsF at hn ⊢
        have hbad : Wd.numsBad W = true := by
          cases h : Wd.numsBad W with
          | true => rfl
          | false => rw [h] at hn; exact absurd rfl hn
        rw [if_neg (by rw [HZ.out]; simp), hbad]
        rfl
      have H0 : Hid (numsF W ≠ 0) := hn
      clear hn
      go_wp2
      go_ret
      exact ⟨_, rfl, by rw [F1.out]; exact Er.no H0.out, B2.out⟩
  · have F1 : Hid (Wd.wfault ks W = Wd.ground ks W) := by unfold Hid Wd.wfault; rw [if_pos hz]
    have H0 : Hid (Wd.ground ks W ≠ 0) := hz
    clear hz
    go_wp2
    go_ret
    exact ⟨_, rfl, by rw [F1.out]; exact Er.no H0.out, B1.out⟩
end Go.Proofs.YtagnjmellcibhaaGreatDoor

namespace Go.Proofs.YtagnjmellcibhaaGreatDoor
open Go.RowKit
set_option linter.unusedVariables false

theorem len_jb (ks : List JbV) : (ks.flatMap JbV.cs).length = ks.length * 4 := by
  induction ks with
  | nil => rfl
  | cons x l ih => rw [List.flatMap_cons, List.length_append, ih, List.length_cons, Nat.succ_mul, Nat.add_comm]; rfl
theorem cell_jb {w : World} {y : Addr} {ks : List JbV} (hc : ∀ (i : Nat) k, ks[i]? = some k → Jbc w (y.add (i * 4)) k) (j : Nat) (u : Value) (hj : (ks.flatMap JbV.cs)[j]? = some u) : w.cell? (y.add j) = some u := by
  have hjl : j < ks.length * 4 := by rw [← len_jb]; exact (List.getElem?_eq_some_iff.1 hj).1
  obtain ⟨i, r, hr, rfl⟩ : ∃ i r, r < 4 ∧ j = i * 4 + r := ⟨j / 4, j % 4, Nat.mod_lt _ (by decide), by omega⟩
  have hi : i < ks.length := by omega
  obtain ⟨k, hk⟩ : ∃ k, ks[i]? = some k := ⟨_, List.getElem?_eq_getElem hi⟩
  rw [flat_jb ks i r k hk hr] at hj
  have h := hc i k hk
  rcases Nat.eq_zero_or_pos r with rfl | hr0
  · simp [JbV.cs] at hj
    subst hj
    exact h.c0
  · have ea : y.add (i * 4 + r) = ⟨(y.add (i * 4)).block, (y.add (i * 4)).off + r, none⟩ := by
      unfold Addr.add
      rw [if_neg (by omega)]
      split <;> simp <;> omega
    rw [ea]
    match r, hr, hr0, hj with
    | 1, _, _, hj => simp [JbV.cs] at hj; subst hj; exact h.c1
    | 2, _, _, hj => simp [JbV.cs] at hj; subst hj; exact h.c2
    | 3, _, _, hj => simp [JbV.cs] at hj; subst hj; exact h.c3

theorem app_jbs {ops : Array Oper} {rest : List Oper} {o : Oper} {a : Act} {Q : Exit → Act → World → Prop} (w : World) (hgd : o.guard = none) (s x : Operand)
    (ho : o.op = .call { callee := .builtin .append, args := #[s, x], argTypes := #[27, 27] }) (base : Nat) (v : Value) (ks : List JbV) (hs : a.eval s = v) (hown : Jbo w base v ks)
    (u : Value) (ys : List JbV) (hx : a.eval x = u) (hu : Jbl w u ys) (hl : ks.length + ys.length ≤ 100000000) (hbase : base ≤ w.heap.size)
    (h : ∀ v' w', Jbo w' base v' (ks ++ ys) → w.grownBy w' v.ownBlock → (v'.ownBlock = v.ownBlock ∨ v'.ownBlock = some w.heap.size) → wpList Tryz.prog ops Q rest (a.put o.dst v') w') :
    wpList Tryz.prog ops Q (o :: rest) a w := by
  obtain ⟨i0, hi, hz0, hz1, hz2⟩ := info_parts info_jb
  obtain ⟨ad, c, rfl, h1, h2, h3⟩ := hu
  by_cases hn : ys = []
  · subst hn
    refine wpList_plain hgd fun K hK => ?_
    have hrun := run_append_no (P := Tryz.prog) (w := w) base 27 o.type 65 i0 4 Tryz.underlying27 hi v ks.length _ hown ad c
    have hx' : a.eval x = .slice ad 0 c := hx
    unfold Oper.wp
    simp [execOp, ho, resolve, invoke, builtin, hs, hx', hrun, Result.andThen]
    exact hK _ _ (h v w (by simpa using hown) (World.grownBy.refl _ _) (.inl rfl))
  · obtain ⟨y, rfl, hy, hc⟩ := h3 hn
    refine wpList_append_lies w hgd s x 27 ho base 65 i0 _ 4 32 Tryz.underlying27 hi hz0 hz1 hz2 rfl (by decide) v ks.length _ hs hown y ys.length c (ys.flatMap JbV.cs) hx (len_jb ys) (cell_jb hc) ?_ (List.length_pos_iff.2 hn) (by unfold maxLen; omega) (by omega) hbase _ rfl ?_
    · intro u hu
      obtain ⟨k, -, hk⟩ := List.mem_flatMap.1 hu
      simp [JbV.cs] at hk
      rcases hk with rfl | rfl | rfl | rfl <;> rfl
    · intro g cap w' k1 k2 k3 _
      refine h _ w' ?_ k2 ?_
      · unfold Jbo
        rw [List.length_append, List.flatMap_append]
        exact k1
      · rcases k3 with k3 | k3
        · exact .inl k3.symm
        · exact .inr (by rw [k3]; rfl)
end Go.Proofs.YtagnjmellcibhaaGreatDoor

