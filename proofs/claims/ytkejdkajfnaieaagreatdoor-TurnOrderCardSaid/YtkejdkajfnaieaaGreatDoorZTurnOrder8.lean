/- move.walk: as far as its Speed goes. · move.Move: all units, one behind the other. · Moves: who rests stays. Plain mathematics. · Moves: behind a move a world is right; what the events tell. Plain mathematics. · Plain mathematics on integers: roots, floors, signs. No program stands in it. · How far two cells are: plain mathematics. · Fight: how far two cells are, who is safe of whom, who is struck: plain mathematics. · Fight: who is struck is near. Plain mathematics. · Fight: all strike at once: plain mathematics. · fight.apart, and target's three functions. -/
import Derived.Test.YtkejdkajfnaieaaGreatDoorZTurnOrder7
import Derived.Test.YtkejdkajfnaieaaGreatDoorZTurnOrder6
import Derived.Test.YtkejdkajfnaieaaGreatDoorZTurnOrder5
import Derived.BigQuiet
import Derived.Test.YtkejdkajfnaieaaGreatDoorZTurnOrder3
import Derived.Test.YtkejdkajfnaieaaGreatDoorRows
import Derived.WalkKit
import Derived.WalkSpells
import Derived.WalkLawsBesides
import Derived.KernelRfl
import Derived.Test.YtkejdkajfnaieaaGreatDoorZTurnOrder1
import Derived.Test.YtkejdkajfnaieaaGreatDoorZTurnOrder4
namespace Go.Proofs.YtkejdkajfnaieaaGreatDoor
open Go.RowKit Wy
set_option linter.unusedVariables false

/-- a unit goes as far as it can: what it has left, the cells, and all units then. -/
inductive Goes (ks : List KV) (X : WV) (Wn Hn : Nat) (k : KV) (i : Nat) : List UnV → Int → List Int → List UnV → Prop where
  | stop {us : List UnV} {left : Int} {u : UnV} {c : Nat} {gg : Int} (hu : us[i]? = some u) (hw : WishSays ks { X with us := us } Wn Hn u k c) (hg : X.gs[c]? = some gg) (h : left < Fd.onto gg k.f ∨ us.any (fun o => o.at_ == (c : Int)) = true) : Goes ks X Wn Hn k i us left [] us
  | step {us us' : List UnV} {left : Int} {u : UnV} {c : Nat} {gg : Int} {cells : List Int} (hu : us[i]? = some u) (hw : WishSays ks { X with us := us } Wn Hn u k c) (hg : X.gs[c]? = some gg) (h1 : ¬ left < Fd.onto gg k.f) (h2 : us.any (fun o => o.at_ == (c : Int)) = false) (h3 : Goes ks X Wn Hn k i (us.set i { u with at_ := (c : Nat) }) (left - Fd.onto gg k.f) cells us') : Goes ks X Wn Hn k i us left ((c : Int) :: cells) us'
theorem wish_pos {ks : List KV} {X : WV} {Wn Hn : Nat} {u : UnV} {k : KV} {c : Nat} {gg : Int} (h : WishSays ks X Wn Hn u k c) (hg : X.gs[c]? = some gg) (hc : u.at_ ≠ (c : Nat)) : 0 < Fd.onto gg k.f := by
  obtain ⟨an, bn, l, ha, -, -, -, hh⟩ := h
  rcases hh with ⟨-, rfl⟩ | ⟨-, h⟩
  · exact absurd ha hc
  · rcases h with ⟨-, rfl⟩ | ⟨-, h⟩
    · exact absurd ha hc
    · have := h.is.2.1
      rw [List.getD_eq_getElem?_getD, List.getElem?_map, hg] at this
      exact this
set_option maxRecDepth 100000 in
set_option maxHeartbeats 16000000 in
theorem walk_any (vk : Value) (ks : List KV) (X : WV) (us : List UnV) (g1 g2 g3 g5 : Value) (g cap i : Nat) (rest : List Value) (u : UnV) (k : KV) (Wn Hn : Nat) (w : World) (hk : Kl w vk ks) (hs : Sd w) (G : Fd.Good Wn Hn X.gs X.os) (e1 : X.wide = (Wn : Nat)) (e2 : X.high = (Hn : Nat))
    (hst : ∀ V us', us'.length = us.length → Kp g w V → Ub V g us' rest → Wl V (.agg #[.int .i64 X.turn, .int .i64 X.next, .int .i64 X.wide, .int .i64 X.high, g1, g2, g3, .slice (some ⟨g, 0, none⟩) us.length cap, g5]) { X with us := us' } ∧ Kl V vk ks ∧ Sd V) (hub : Ub w g us rest) (hui : us[i]? = some u) (hkk : ks[u.kind.toNat]? = some k) (hul : us.length ≤ 40) (hus : ∀ h ∈ us, Fit ks (Wn * Hn) h) (hg : 0 ≤ u.goal ∧ u.goal < (Wn * Hn : Nat)) (hsp : 0 ≤ k.n4 ∧ k.n4 ≤ 4) :
    Calls Tryz.prog 116 #[vk, .agg #[.int .i64 X.turn, .int .i64 X.next, .int .i64 X.wide, .int .i64 X.high, g1, g2, g3, .slice (some ⟨g, 0, none⟩) us.length cap, g5], .pointer (some ⟨g, i * 8, none⟩)] w fun e w' => ∃ v us' cells, e = .returned v ∧ Ow w' w.heap.size v cells ∧ Goes ks X Wn Hn k i us k.n4 cells us' ∧ Ub w' g us' rest ∧ Kp g w w' ∧ cells.length ≤ 4 ∧ (∃ a, us' = us.set i { u with at_ := a } ∧ 0 ≤ a ∧ a < (Wn * Hn : Nat)) := by
  have hil : i < us.length := (List.getElem?_eq_some_iff.1 hui).1
  have hfu := hus u (List.mem_of_getElem? hui)
  obtain ⟨kn, hkn⟩ : ∃ n : Nat, u.kind = n := ⟨u.kind.toNat, by have := hfu.1; omega⟩
  have hkk' : ks[kn]? = some k := by rw [hkn, Int.toNat_natCast] at hkk; exact hkk
  have hkl : kn < ks.length := (List.getElem?_eq_some_iff.1 hkk').1
  have K : Hid (Kl w vk ks) := hk
  have S : Hid (Sd w) := hs
  have GD : Hid (Fd.Good Wn Hn X.gs X.os ∧ X.wide = (Wn : Nat) ∧ X.high = (Hn : Nat) ∧ ks[u.kind.toNat]? = some k ∧ us.length ≤ 40 ∧ (∀ h ∈ us, Fit ks (Wn * Hn) h) ∧ (0 ≤ u.goal ∧ u.goal < (Wn * Hn : Nat)) ∧ us[i]? = some u ∧ Fit ks (Wn * Hn) u ∧ i < us.length) := ⟨G, e1, e2, hkk, hul, hus, hg, hui, hfu, hil⟩
  have ST : Hid (∀ V us', us'.length = us.length → Kp g w V → Ub V g us' rest → Wl V (.agg #[.int .i64 X.turn, .int .i64 X.next, .int .i64 X.wide, .int .i64 X.high, g1, g2, g3, .slice (some ⟨g, 0, none⟩) us.length cap, g5]) { X with us := us' } ∧ Kl V vk ks ∧ Sd V) := hst
  have UB : Hid (Ub w g us rest ∧ g < w.heap.size) := ⟨hub, hub.lt⟩
  obtain ⟨pk, qk, rfl, ck1, ck2, kc⟩ := hk
  obtain ⟨xk, rfl, hxl, hxc⟩ := kc (by intro h; subst h; simp at hkl)
  have KK : Hid (Kc w (xk.add (kn * 11)) k ∧ (xk.add (kn * 11)).block < w.heap.size) := ⟨hxc kn k hkk', by rw [add_block]; exact hxl⟩
  have HE : Hid (u.kind = (kn : Nat)) := hkn
  have SP : Hid (0 ≤ k.n4 ∧ k.n4 ≤ 4) := hsp
  clear hs G e1 e2 hst hub hui hkk hus hg hsp hkn hkk' kc hxc hxl hfu
  go_enter Tryz.func116, Tryz.ntmps116
  go_upto_region 2 with fail
  have B0 : Hid (Below w.heap.size w (w.alloc (Obj.cells #[.int .i64 X.turn, .int .i64 X.next, .int .i64 X.wide, .int .i64 X.high, g1, g2, g3, .slice (some ⟨g, 0, none⟩) us.length cap, g5] 29))) := (Below.refl _ _).alloc (Nat.le_refl _) _
  have X0 : Hid (Bw (w.alloc (Obj.cells #[.int .i64 X.turn, .int .i64 X.next, .int .i64 X.wide, .int .i64 X.high, g1, g2, g3, .slice (some ⟨g, 0, none⟩) us.length cap, g5] 29)) w.heap.size X (g1) (g2) (g3) (.slice (some ⟨g, 0, none⟩) us.length cap) (g5)) := Bw.mk' X _ _ _ _ _ rfl
  have Z0 : Hid ((w.alloc (Obj.cells #[.int .i64 X.turn, .int .i64 X.next, .int .i64 X.wide, .int .i64 X.high, g1, g2, g3, .slice (some ⟨g, 0, none⟩) us.length cap, g5] 29)).heap.size = w.heap.size + 1) := by unfold Hid; simp
  generalize (w.alloc (Obj.cells #[.int .i64 X.turn, .int .i64 X.next, .int .i64 X.wide, .int .i64 X.high, g1, g2, g3, .slice (some ⟨g, 0, none⟩) us.length cap, g5] 29)) = w0 at *
  have U0 : Hid (Ub w0 g us rest) := UB.out.1.below B0.out UB.out.2
  obtain ⟨z0, z1, z2, z3, z4, z5, z6, z7, z8, z9, z10⟩ := KK.out.1.below B0.out KK.out.2
  have y2 : w0.cell? ⟨g, i * 8 + 2, none⟩ = some (.int .i64 (kn : Nat)) := by have := (U0.out.unc GD.out.2.2.2.2.2.2.2.1).c2; rw [HE.out] at this; exact this
  go_upto_region 3 with fail
  have BK : Hid (Below w0.heap.size w0 (w0.alloc (Obj.cells #[.string k.b, .int .i64 k.n0, .int .i64 k.n1, .int .i64 k.n2, .int .i64 k.n3, .int .i64 k.n4, .int .i64 k.n5, .int .i64 k.n6, .int .i64 k.n7, .bool k.f, .bool k.t] 101))) := (Below.refl _ _).alloc (Nat.le_refl _) _
  have K1 : Hid (Kc (w0.alloc (Obj.cells #[.string k.b, .int .i64 k.n0, .int .i64 k.n1, .int .i64 k.n2, .int .i64 k.n3, .int .i64 k.n4, .int .i64 k.n5, .int .i64 k.n6, .int .i64 k.n7, .bool k.f, .bool k.t] 101)) ⟨w.heap.size + 1, 0, none⟩ k) := kind_new k Z0.out
  have Z1 : Hid ((w0.alloc (Obj.cells #[.string k.b, .int .i64 k.n0, .int .i64 k.n1, .int .i64 k.n2, .int .i64 k.n3, .int .i64 k.n4, .int .i64 k.n5, .int .i64 k.n6, .int .i64 k.n7, .bool k.f, .bool k.t] 101)).heap.size = w.heap.size + 2) := by have := Z0.out; unfold Hid; simp; omega
  rw [Z0.out]
  generalize (w0.alloc (Obj.cells #[.string k.b, .int .i64 k.n0, .int .i64 k.n1, .int .i64 k.n2, .int .i64 k.n3, .int .i64 k.n4, .int .i64 k.n5, .int .i64 k.n6, .int .i64 k.n7, .bool k.f, .bool k.t] 101)) = w1 at *
  have B1 : Hid (Below w.heap.size w w1) := B0.out.trans (BK.out.mono B0.out.size)
  have X1 : Hid (Bw w1 w.heap.size X (g1) (g2) (g3) (.slice (some ⟨g, 0, none⟩) us.length cap) (g5)) := X0.out.below BK.out X0.out.lt
  have U1 : Hid (Ub w1 g us rest) := U0.out.below BK.out U0.out.lt
  clear z0 z1 z2 z3 z4 z5 z6 z7 z8 z9 z10 y2 B0 X0 Z0 U0 BK
  have c5 : w1.cell? ⟨w.heap.size + 1, 5, none⟩ = some (.int .i64 k.n4) := by have := K1.out.c5; rw [Nat.zero_add] at this; exact this
  go_upto_region 4 with fail
  clear c5
  go_loopw [7, 9] (fun v7 v9 V => ∃ (a left : Int) (cells : List Int) (cv : Value), cv = v7 ∧ v9 = .int .i64 left ∧ 0 ≤ left ∧ (cells.length : Int) + left ≤ 4 ∧ (0 ≤ a ∧ a < (Wn * Hn : Nat)) ∧ Ub V g (us.set i { u with at_ := a }) rest ∧ Ow V w1.heap.size cv cells ∧ Kp g w1 V ∧ (∀ cells' us', Goes ks X Wn Hn k i (us.set i { u with at_ := a }) left cells' us' → Goes ks X Wn Hn k i us k.n4 (cells ++ cells') us')) (fun _ v9 _ => (intOf v9).toNat)
  case atStart =>
    have hset : us.set i { u with at_ := u.at_ } = us := by
      have h1 := GD.out.2.2.2.2.2.2.2.1
      obtain ⟨h2, h3⟩ := List.getElem?_eq_some_iff.1 h1
      have : ({ u with at_ := u.at_ } : UnV) = us[i] := by rw [h3]
      rw [this, List.set_getElem_self]
    exact ⟨u.at_, k.n4, [], _, rfl, rfl, SP.out.1, by have := SP.out.2; simp; omega, GD.out.2.2.2.2.2.2.2.2.1.2, by rw [hset]; exact U1.out, Ow.nil _ _, Kp.refl _ _, fun cells' us' h => by rw [hset] at h; exact h⟩
  case round =>
    obtain ⟨a, left, cells, cv, rfl, rfl, hl0, hcl, hab, hub, how, hkp, hgo⟩ := hrel
    obtain ⟨us1, hus1⟩ : ∃ l, us.set i { u with at_ := a } = l := ⟨_, rfl⟩
    obtain ⟨u1, hu1⟩ : ∃ v : UnV, { u with at_ := a } = v := ⟨_, rfl⟩
    have hi1 : us1[i]? = some u1 := by rw [← hus1, hu1, List.getElem?_set_self GD.out.2.2.2.2.2.2.2.2.2]
    have hln : us1.length = us.length := by rw [← hus1, List.length_set]
    have F1 : Hid (us1[i]? = some u1 ∧ us1.length = us.length ∧ { u with at_ := a } = u1 ∧ us.set i { u with at_ := a } = us1 ∧ Fit ks (Wn * Hn) u1 ∧ (∀ h ∈ us1, Fit ks (Wn * Hn) h) ∧ ks[u1.kind.toNat]? = some k ∧ (0 ≤ u1.goal ∧ u1.goal < (Wn * Hn : Nat))) := by
      have hf : Fit ks (Wn * Hn) u1 := by rw [← hu1]; exact ⟨GD.out.2.2.2.2.2.2.2.2.1.1, hab⟩
      refine ⟨hi1, hln, hu1, hus1, hf, fun h hh => ?_, by rw [← hu1]; exact GD.out.2.2.2.1, by rw [← hu1]; exact GD.out.2.2.2.2.2.2.1⟩
      rw [← hus1] at hh
      rcases List.mem_or_eq_of_mem_set hh with hh | hh
      · exact GD.out.2.2.2.2.2.1 h hh
      · rw [hh, hu1]; exact hf
    rw [hus1] at hub hgo
    have UB1 : Hid (Ub wr g us1 rest) := hub
    have OC : Hid (Ow wr w1.heap.size cv cells) := how
    have KP : Hid (Kp g w1 wr) := hkp
    have KW : Hid (Kp g w wr) := (Kp.of B1.out).trans hkp
    have HG : Hid (∀ cells' us', Goes ks X Wn Hn k i us1 left cells' us' → Goes ks X Wn Hn k i us k.n4 (cells ++ cells') us') := hgo
    have XR : Hid (Bw wr w.heap.size X (g1) (g2) (g3) (.slice (some ⟨g, 0, none⟩) us.length cap) (g5)) := X1.out.kp9 hkp (by have := UB.out.2; omega)
    have KR : Hid (Kc wr ⟨w.heap.size + 1, 0, none⟩ k) := K1.out.kp9 hkp (by have := UB.out.2; show w.heap.size + 1 ≠ g; omega)
    clear hub how hkp hgo hus1 hu1 hi1 hln hab
    have hcl3 : cells.length ≤ 4 := by omega
    have WL : Hid (∀ V, Below wr.heap.size wr V → Wl V (.agg #[.int .i64 X.turn, .int .i64 X.next, .int .i64 X.wide, .int .i64 X.high, g1, g2, g3, .slice (some ⟨g, 0, none⟩) us.length cap, g5]) { X with us := us1 } ∧ Kl V (.slice (some xk) ks.length qk) ks ∧ Sd V) := fun V hb => by
      have hkv : Kp g w V := KW.out.trans (Kp.of hb)
      exact ST.out V us1 F1.out.2.1 hkv (UB1.out.below hb UB1.out.lt)
    have C4 : Hid (∀ V, Below wr.heap.size wr V → (Bw V w.heap.size X (g1) (g2) (g3) (.slice (some ⟨g, 0, none⟩) us.length cap) (g5) ∧ Unc V ⟨g, i * 8, none⟩ u1)) := fun V hb => ⟨XR.out.below hb XR.out.lt, (UB1.out.below hb UB1.out.lt).unc F1.out.1⟩
    have DR : Hid (Below wr.heap.size wr { wr with drawn := wr.drawn + 1 }) := (Below.refl _ _).drew
    go_upto_region 4 with fail
    refine wp_region_two [(true, 0), (true, 1), (true, 2), (true, 3), (true, 4), (false, 5)] [(false, 6)] (fun V => Bw V w.heap.size X (g1) (g2) (g3) (.slice (some ⟨g, 0, none⟩) us.length cap) (g5) ∧ Unc V ⟨g, i * 8, none⟩ u1) (by kernel_rfl) (by kernel_rfl) (by kernel_rfl) (by decide +kernel) (by decide +kernel) (C4.out _ DR.out) ?_
    generalize ({ wr with drawn := wr.drawn + 1 } : World) = v1 at *
    refine headT_read rfl (.slice (some xk) ks.length qk) (by go_simp) (fun V hV => by go_simp) ?_
    go_simp
    refine headT_read rfl (.agg #[.int .i64 X.turn, .int .i64 X.next, .int .i64 X.wide, .int .i64 X.high, g1, g2, g3, .slice (some ⟨g, 0, none⟩) us.length cap, g5]) (by go_simp) (fun V hV => by obtain ⟨⟨x0, x1, x2, x3, x4, x5, x6, x7, x8⟩, ⟨y0, y1, y2, y3, y4, y5, y6, y7⟩⟩ := hV; go_simp) ?_
    go_simp
    refine headT_read rfl (.pointer (some ⟨g, i * 8, none⟩)) (by go_simp) (fun V hV => by go_simp) ?_
    go_simp
    refine headT_read rfl (.pointer (some ⟨g, i * 8, none⟩)) (by go_simp) (fun V hV => by go_simp) ?_
    go_simp
    refine headT_read rfl (.agg #[.int .i64 u1.id, .int .i64 u1.player, .int .i64 u1.kind, .int .i64 u1.at_, .int .i64 u1.life, .int .i64 u1.load, .int .i64 u1.task, .int .i64 u1.goal]) (by go_simp) (fun V hV => by obtain ⟨⟨x0, x1, x2, x3, x4, x5, x6, x7, x8⟩, ⟨y0, y1, y2, y3, y4, y5, y6, y7⟩⟩ := hV; go_simp) ?_
    go_simp
    refine headT_call rfl 162 #[.slice (some xk) ks.length qk, .agg #[.int .i64 X.turn, .int .i64 X.next, .int .i64 X.wide, .int .i64 X.high, g1, g2, g3, .slice (some ⟨g, 0, none⟩) us.length cap, g5], .agg #[.int .i64 u1.id, .int .i64 u1.player, .int .i64 u1.kind, .int .i64 u1.at_, .int .i64 u1.life, .int .i64 u1.load, .int .i64 u1.task, .int .i64 u1.goal]] (by go_simp) (by go_simp) ?_
    have WI : Hid (Calls Tryz.prog 162 #[.slice (some xk) ks.length qk, .agg #[.int .i64 X.turn, .int .i64 X.next, .int .i64 X.wide, .int .i64 X.high, g1, g2, g3, .slice (some ⟨g, 0, none⟩) us.length cap, g5], .agg #[.int .i64 u1.id, .int .i64 u1.player, .int .i64 u1.kind, .int .i64 u1.at_, .int .i64 u1.life, .int .i64 u1.load, .int .i64 u1.task, .int .i64 u1.goal]] v1 fun e w' => ∃ c : Nat, e = .returned (.int .i64 (c : Nat)) ∧ WishSays ks { X with us := us1 } Wn Hn u1 k c ∧ c < Wn * Hn ∧ Below v1.heap.size v1 w') :=
      wish_any _ _ ks { X with us := us1 } u1 Wn Hn k v1 (WL.out v1 DR.out).2.1 (WL.out v1 DR.out).1 (WL.out v1 DR.out).2.2 GD.out.1 GD.out.2.1 GD.out.2.2.1 (by show us1.length ≤ 1000000; rw [F1.out.2.1]; omega) F1.out.2.2.2.2.1 F1.out.2.2.2.2.2.2.1 F1.out.2.2.2.2.2.1 F1.out.2.2.2.2.2.2.2
    refine Calls.mono WI.out ?_
    rintro e v2 ⟨c, rfl, hws, hcn, hb⟩
    have B2 : Hid (Below wr.heap.size wr v2) := DR.out.trans (hb.mono DR.out.size)
    have hgl := GD.out.1.gl
    obtain ⟨gg, hgg⟩ : ∃ x, X.gs[c]? = some x := ⟨_, List.getElem?_eq_getElem (by omega)⟩
    have WS : Hid (WishSays ks { X with us := us1 } Wn Hn u1 k c ∧ c < Wn * Hn ∧ X.gs[c]? = some gg) := ⟨hws, hcn, hgg⟩
    refine ⟨_, rfl, C4.out _ B2.out, ?_⟩
    clear hb hws hcn hgl hgg DR WI
    go_simp
    refine sched_value rfl (.int .i64 (c : Nat)) v2 (by go_simp) (by go_simp) trivial ?_
    go_simp
    unfold wpSched
    obtain ⟨⟨x0, x1, x2, x3, x4, x5, x6, x7, x8⟩, -⟩ := C4.out _ B2.out
    have c9 : v2.cell? ⟨w.heap.size + 1, 9, none⟩ = some (.bool k.f) := by have := (KR.out.below B2.out KR.out.lt).c9; rw [Nat.zero_add] at this; exact this
    have FL : Hid (Fl v2 (.agg #[.int .i64 X.wide, .int .i64 X.high, g1, g2]) (Wn : Nat) (Hn : Nat) X.gs X.os) := by
      have h9 := (WL.out v2 B2.out).1
      have := fl_of (X := { X with us := us1 }) h9
      have e1 : ({ X with us := us1 } : WV).wide = (Wn : Nat) := GD.out.2.1
      have e2 : ({ X with us := us1 } : WV).high = (Hn : Nat) := GD.out.2.2.1
      rw [e1, e2] at this
      rw [GD.out.2.1, GD.out.2.2.1]
      exact this
    go_wp2_with fail
    refine (Step_ok _ Wn Hn X.gs X.os c gg k.f v2 FL.out GD.out.1 WS.out.2.1 WS.out.2.2).mono ?_
    rintro e v3 ⟨rfl, hb⟩
    obtain ⟨s, hs⟩ : ∃ s, Fd.onto gg k.f = s := ⟨_, rfl⟩
    have SS : Hid (Fd.onto gg k.f = s) := hs
    rw [hs]
    have B3 : Hid (Below wr.heap.size wr v3) := B2.out.trans (hb.mono B2.out.size)
    clear hb hs x0 x1 x2 x3 x4 x5 x6 x7 x8 c9 FL B2
    by_cases hsl : left < s
    · have FIN : Hid (Goes ks X Wn Hn k i us k.n4 cells us1) := by
        have := HG.out [] us1 (.stop F1.out.1 WS.out.1 WS.out.2.2 (.inl (by rw [SS.out]; exact hsl)))
        rw [List.append_nil] at this
        exact this
      go_wp2
      go_ret
      exact ⟨cv, us1, cells, rfl, (OC.out.below B3.out).mono (by have := Z1.out; omega), FIN.out, UB1.out.below B3.out UB1.out.lt, KW.out.trans (Kp.of B3.out), hcl3, a, F1.out.2.2.2.1.symm, by have := F1.out.2.2.2.2.1.2; rw [← F1.out.2.2.1] at this; exact this⟩
    obtain ⟨⟨x0, x1, x2, x3, x4, x5, x6, x7, x8⟩, -⟩ := C4.out _ B3.out
    go_wp2_with fail
    refine (taken_any _ { X with us := us1 } (c : Nat) v3 (WL.out v3 B3.out).1).mono ?_
    rintro e v4 ⟨rfl, hb⟩
    have B4 : Hid (Below wr.heap.size wr v4) := B3.out.trans (hb.mono B3.out.size)
    obtain ⟨tk, htk⟩ : ∃ t, us1.any (fun u => u.at_ == (c : Int)) = t := ⟨_, rfl⟩
    have TK : Hid (us1.any (fun u => u.at_ == (c : Int)) = tk) := htk
    have hx1 : ({ X with us := us1 } : WV).us.any (fun u => u.at_ == (c : Int)) = tk := htk
    rw [hx1]
    clear hb htk hx1 x0 x1 x2 x3 x4 x5 x6 x7 x8 B3
    cases tk with
    | true =>
      have FIN : Hid (Goes ks X Wn Hn k i us k.n4 cells us1) := by
        have := HG.out [] us1 (.stop F1.out.1 WS.out.1 WS.out.2.2 (.inr TK.out))
        rw [List.append_nil] at this
        exact this
      go_wp2
      go_ret
      exact ⟨cv, us1, cells, rfl, (OC.out.below B4.out).mono (by have := Z1.out; omega), FIN.out, UB1.out.below B4.out UB1.out.lt, KW.out.trans (Kp.of B4.out), hcl3, a, F1.out.2.2.2.1.symm, by have := F1.out.2.2.2.2.1.2; rw [← F1.out.2.2.1] at this; exact this⟩
    | false =>
      have hne : u1.at_ ≠ (c : Nat) := by
        have := List.any_eq_false.1 TK.out u1 (List.mem_of_getElem? F1.out.1)
        simpa using this
      have hs1 : 0 < s := by rw [← SS.out]; exact wish_pos WS.out.1 WS.out.2.2 hne
      have U4 : Hid (Ub v4 g us1 rest) := UB1.out.below B4.out UB1.out.lt
      have c3 := (U4.out.unc F1.out.1).c3
      have t3 := U4.out.thaw (i * 8 + 3)
      have U5 : Hid (Ub (v4.setCell ⟨g, i * 8 + 3, none⟩ (.int .i64 (c : Nat))) g (us1.set i { u1 with at_ := (c : Nat) }) rest) := U4.out.set3 F1.out.1 _
      have K5 : Hid (Kp g v4 (v4.setCell ⟨g, i * 8 + 3, none⟩ (.int .i64 (c : Nat)))) := Kp.set _ _ _
      have wsub : IntKind.i64.wrap (left - s) = left - s := by rw [IntKind.wrap_i64]; omega
      go_upto_region 9 with fail
      clear c3 t3 hne
      generalize (v4.setCell ⟨g, i * 8 + 3, none⟩ (.int .i64 (c : Nat))) = v5 at *
      have P5 : Hid (Kp g w1 v5) := (KP.out.trans (Kp.of B4.out)).trans K5.out
      have O5 : Hid (Ow v5 w1.heap.size cv cells) := (OC.out.below B4.out).kp K5.out (by have := UB.out.2; have := Z1.out; omega)
      go_upto_region 10 with fail
      have BA : Hid (Below v5.heap.size v5 (v5.alloc (Obj.cells #[.int .i64 (c : Nat)] 3))) := (Below.refl _ _).alloc (Nat.le_refl _) _
      have C6 : Hid ((v5.alloc (Obj.cells #[.int .i64 (c : Nat)] 3)).cell? ⟨v5.heap.size, 0, none⟩ = some (.int .i64 (c : Nat))) := cell_of_new rfl rfl
      have O6 : Hid (Ow (v5.alloc (Obj.cells #[.int .i64 (c : Nat)] 3)) w1.heap.size cv cells) := O5.out.below BA.out
      have S6 : Hid (w1.heap.size ≤ (v5.alloc (Obj.cells #[.int .i64 (c : Nat)] 3)).heap.size) := Nat.le_trans P5.out.size BA.out.size
      go_wp2_with (at_builtin; refine app_int _ rfl _ _ rfl w1.heap.size _ cells rfl O6.out _ (c : Nat) rfl C6.out (by omega) S6.out ?_)
      intro gg' gc v7 o7 g7 _ _
      have O7 : Hid (Ow v7 w1.heap.size (.slice (some ⟨gg', 0, none⟩) (cells.length + 1) gc) (cells ++ [(c : Int)])) := o7
      have P7 : Hid (Kp g w1 v7) := kp_gb (P5.out.trans (Kp.of BA.out)) g7 (fun b hb => (O6.out.block b hb).1)
      have U7 : Hid (Ub v7 g (us1.set i { u1 with at_ := (c : Nat) }) rest) := by
        have h6 := U5.out.below BA.out U5.out.lt
        unfold Ub at h6
        unfold Hid Ub
        rw [g7.block g (lt_of_block h6) (fun e => by have := (O6.out.block g e.symm).1; have := UB.out.2; have := Z1.out; omega)]
        exact h6
      have US2 : Hid (us1.set i { u1 with at_ := (c : Nat) } = us.set i { u with at_ := (c : Nat) }) := by
        unfold Hid
        rw [← F1.out.2.2.2.1, List.set_set, ← F1.out.2.2.1]
      have HG2 : Hid (∀ cells' us', Goes ks X Wn Hn k i (us.set i { u with at_ := (c : Nat) }) (left - s) cells' us' → Goes ks X Wn Hn k i us k.n4 ((cells ++ [(c : Int)]) ++ cells') us') := fun cells' us' h => by
        have h9 := HG.out ((c : Int) :: cells') us' (.step F1.out.1 WS.out.1 WS.out.2.2 (by rw [SS.out]; omega) TK.out (by rw [US2.out, SS.out]; exact h))
        rw [List.append_assoc]
        exact h9
      clear o7 g7 BA C6 O6 S6 O5 P5 U5 K5 U4
      go_wp2
      go_round
      case rel => exact ⟨(c : Nat), left - s, cells ++ [(c : Int)], _, rfl, rfl, by omega, by rw [List.length_append]; simp; omega, ⟨by omega, by have := WS.out.2.1; omega⟩, by rw [← US2.out]; exact U7.out, O7.out, P7.out, HG2.out⟩
      case measure => simp [intOf]; omega
end Go.Proofs.YtkejdkajfnaieaaGreatDoor

namespace Go.Proofs.YtkejdkajfnaieaaGreatDoor
open Go.RowKit Wy
set_option linter.unusedVariables false

/-- who has come to its end rests. -/
def ends (u : UnV) : UnV := if u.task = 1 ∧ u.at_ = u.goal then { u with task := 0, goal := 0 } else u
/-- from the n-th on all units go. -/
inductive Moves (ks : List KV) (X : WV) (Wn Hn : Nat) : Nat → List UnV → List EvV → List UnV → Prop where
  | done {n : Nat} {us : List UnV} (h : n = us.length) : Moves ks X Wn Hn n us [] us
  | unit {n : Nat} {us us1 us' : List UnV} {u u1 : UnV} {k : KV} {cells : List Int} {evs : List EvV} (hu : us[n]? = some u) (hk : ks[u.kind.toNat]? = some k) (hg : Goes ks X Wn Hn k n us k.n4 cells us1) (h1 : us1[n]? = some u1) (hm : Moves ks X Wn Hn (n + 1) (us1.set n (ends u1)) evs us') : Moves ks X Wn Hn n us (cells.map (fun c => (⟨1, u.id, c⟩ : EvV)) ++ evs) us'
/-- what Move tells. -/
def MoveSays (ks : List KV) (X : WV) (w w' : World) (v ev : Value) : Prop :=
  (Wd.wfault ks X ≠ 0 ∧ v = .agg #[.int .i64 0, .int .i64 0, .int .i64 0, .int .i64 0, .slice none 0 0, .slice none 0 0, .slice none 0 0, .slice none 0 0, .slice none 0 0] ∧ ev = .slice none 0 0)
  ∨ (Wd.wfault ks X = 0 ∧ ∃ Wn Hn : Nat, X.wide = (Wn : Nat) ∧ X.high = (Hn : Nat) ∧ Fd.Good Wn Hn X.gs X.os ∧ ∃ us' evs, Moves ks X Wn Hn 0 X.us evs us' ∧ us'.length = X.us.length ∧ Wo w' w.heap.size v { X with us := us' } ∧ Evo w' w.heap.size ev evs)
/-- units that only their places, Tasks and Goals tell from those that were. -/
def Alike (ks : List KV) (n : Nat) (us0 us : List UnV) : Prop := us.length = us0.length ∧ ∀ (j : Nat) (v : UnV), us[j]? = some v → ∃ u, us0[j]? = some u ∧ v.kind = u.kind ∧ v.id = u.id ∧ Fit ks n v ∧ (0 ≤ v.goal ∧ v.goal < (n : Int))
theorem Alike.fits {ks : List KV} {n : Nat} {us0 us : List UnV} (h : Alike ks n us0 us) : ∀ v ∈ us, Fit ks n v := fun v hv => by
  obtain ⟨j, hj⟩ := List.mem_iff_getElem?.1 hv
  obtain ⟨u, -, -, -, h1, -⟩ := h.2 j v hj
  exact h1
theorem Alike.set {ks : List KV} {n : Nat} {us0 us : List UnV} (h : Alike ks n us0 us) {i : Nat} {u v : UnV} (hu : us[i]? = some u) (hk : v.kind = u.kind) (hi : v.id = u.id) (hf : Fit ks n v) (hg : 0 ≤ v.goal ∧ v.goal < (n : Int)) : Alike ks n us0 (us.set i v) := by
  refine ⟨by rw [List.length_set]; exact h.1, fun j x hj => ?_⟩
  by_cases hij : i = j
  · subst hij
    rw [List.getElem?_set_self (List.getElem?_eq_some_iff.1 hu).1] at hj
    injection hj with hj
    subst hj
    obtain ⟨u0, h1, h2, h3, -, -⟩ := h.2 i u hu
    exact ⟨u0, h1, by rw [hk, h2], by rw [hi, h3], hf, hg⟩
  · rw [List.getElem?_set_ne hij] at hj
    exact h.2 j x hj
theorem uno_set {ks : List UnV} {i : Nat} {u : UnV} : (ks.set i u).length = ks.length := List.length_set
set_option maxRecDepth 100000 in
set_option maxHeartbeats 16000000 in
theorem Move_any (vk vw : Value) (ks : List KV) (X : WV) (w : World) (hk : Kl w vk ks) (hb : ∀ k ∈ ks, k.b.size ≤ 9223372036854775807) (hw : Wl w vw X) (hs : Sd w) :
    Calls Tryz.prog 49 #[vk, vw] w fun e w' => ∃ v ev r, e = .returned (.tuple #[v, ev, r]) ∧ Er r (Wd.wfault ks X) ∧ MoveSays ks X w w' v ev ∧ Below w.heap.size w w' := by
  have K : Hid (Kl w vk ks ∧ ∀ k ∈ ks, k.b.size ≤ 9223372036854775807) := ⟨hk, hb⟩
  have H : Hid (Wl w vw X) := hw
  have S : Hid (Sd w) := hs
  obtain ⟨p1, q1, p2, q2, p3, q3, p4, q4, p5, q5, rfl⟩ := wl_shape9 hw
  obtain ⟨pk, qk, rfl, ck1, ck2, kc⟩ := hk
  clear hb hw hs kc
  go_enter Tryz.func49, Tryz.ntmps49
  go_upto_region 1 with fail
  have B0 : Hid (Below w.heap.size w ((w.alloc (Obj.cells #[.int .i64 X.turn, .int .i64 X.next, .int .i64 X.wide, .int .i64 X.high, .slice p1 X.gs.length q1, .slice p2 X.os.length q2, .slice p3 X.gold.length q3, .slice p4 X.us.length q4, .slice p5 X.qs.length q5] 29)).alloc (Obj.cells #[.int .i64 0, .int .i64 0, .int .i64 0, .int .i64 0, .slice none 0 0, .slice none 0 0, .slice none 0 0, .slice none 0 0, .slice none 0 0] 29))) := ((Below.refl _ _).alloc (Nat.le_refl _) _).alloc (by simp) _
  have X0 : Hid (Wx ((w.alloc (Obj.cells #[.int .i64 X.turn, .int .i64 X.next, .int .i64 X.wide, .int .i64 X.high, .slice p1 X.gs.length q1, .slice p2 X.os.length q2, .slice p3 X.gold.length q3, .slice p4 X.us.length q4, .slice p5 X.qs.length q5] 29)).alloc (Obj.cells #[.int .i64 0, .int .i64 0, .int .i64 0, .int .i64 0, .slice none 0 0, .slice none 0 0, .slice none 0 0, .slice none 0 0, .slice none 0 0] 29)) (w.heap.size) (.int .i64 X.turn) (.int .i64 X.next) (.int .i64 X.wide) (.int .i64 X.high) (.slice p1 X.gs.length q1) (.slice p2 X.os.length q2) (.slice p3 X.gold.length q3) (.slice p4 X.us.length q4) (.slice p5 X.qs.length q5)) := (Wx.new (.int .i64 X.turn) (.int .i64 X.next) (.int .i64 X.wide) (.int .i64 X.high) (.slice p1 X.gs.length q1) (.slice p2 X.os.length q2) (.slice p3 X.gold.length q3) (.slice p4 X.us.length q4) (.slice p5 X.qs.length q5) rfl).below ((Below.refl _ _).alloc (Nat.le_refl _) _) (by simp)
  have Z0 : Hid (Wx ((w.alloc (Obj.cells #[.int .i64 X.turn, .int .i64 X.next, .int .i64 X.wide, .int .i64 X.high, .slice p1 X.gs.length q1, .slice p2 X.os.length q2, .slice p3 X.gold.length q3, .slice p4 X.us.length q4, .slice p5 X.qs.length q5] 29)).alloc (Obj.cells #[.int .i64 0, .int .i64 0, .int .i64 0, .int .i64 0, .slice none 0 0, .slice none 0 0, .slice none 0 0, .slice none 0 0, .slice none 0 0] 29)) (w.heap.size + 1) (.int .i64 0) (.int .i64 0) (.int .i64 0) (.int .i64 0) (.slice none 0 0) (.slice none 0 0) (.slice none 0 0) (.slice none 0 0) (.slice none 0 0)) := Wx.new (.int .i64 0) (.int .i64 0) (.int .i64 0) (.int .i64 0) (.slice none 0 0) (.slice none 0 0) (.slice none 0 0) (.slice none 0 0) (.slice none 0 0) (by simp)
  generalize ((w.alloc (Obj.cells #[.int .i64 X.turn, .int .i64 X.next, .int .i64 X.wide, .int .i64 X.high, .slice p1 X.gs.length q1, .slice p2 X.os.length q2, .slice p3 X.gold.length q3, .slice p4 X.us.length q4, .slice p5 X.qs.length q5] 29)).alloc (Obj.cells #[.int .i64 0, .int .i64 0, .int .i64 0, .int .i64 0, .slice none 0 0, .slice none 0 0, .slice none 0 0, .slice none 0 0, .slice none 0 0] 29)) = w0 at *
  obtain ⟨x0, x1, x2, x3, x4, x5, x6, x7, x8⟩ := X0.out.cells
  go_wp2_with fail
  refine (wcheck_any _ _ ks X w0 (K.out.1.below B0.out) K.out.2 (H.out.below B0.out)).mono ?_
  rintro e w1 ⟨r, rfl, hr, hb⟩
  obtain ⟨fw, hfw⟩ : ∃ f, Wd.wfault ks X = f := ⟨_, rfl⟩
  have FW : Hid (Wd.wfault ks X = fw) := hfw
  rw [hfw] at hr
  have B1 : Hid (Below w.heap.size w w1) := B0.out.trans (hb.mono B0.out.size)
  have X1 : Hid (Wx w1 (w.heap.size) (.int .i64 X.turn) (.int .i64 X.next) (.int .i64 X.wide) (.int .i64 X.high) (.slice p1 X.gs.length q1) (.slice p2 X.os.length q2) (.slice p3 X.gold.length q3) (.slice p4 X.us.length q4) (.slice p5 X.qs.length q5)) := X0.out.below hb X0.out.lt
  have Z1 : Hid (Wx w1 (w.heap.size + 1) (.int .i64 0) (.int .i64 0) (.int .i64 0) (.int .i64 0) (.slice none 0 0) (.slice none 0 0) (.slice none 0 0) (.slice none 0 0) (.slice none 0 0)) := Z0.out.below hb Z0.out.lt
  clear hb hfw x0 x1 x2 x3 x4 x5 x6 x7 x8 X0 B0 Z0
  rcases hr with ⟨rfl, rfl⟩ | ⟨hf, rfl⟩
  case inr =>
    have HF : Hid (fw ≠ 0) := hf
    clear hf
    obtain ⟨z0, z1, z2, z3, z4, z5, z6, z7, z8⟩ := Z1.out.cells
    obtain ⟨t0, t1, t2, t3, t4, t5, t6, t7, t8⟩ := Z1.out.thaws
    have KZ : Hid (Kp (w.heap.size + 1) w1 (((((((((w1.setCell ⟨w.heap.size + 1, 0, none⟩ (.int .i64 0)).setCell ⟨w.heap.size + 1, 1, none⟩ (.int .i64 0)).setCell ⟨w.heap.size + 1, 2, none⟩ (.int .i64 0)).setCell ⟨w.heap.size + 1, 3, none⟩ (.int .i64 0)).setCell ⟨w.heap.size + 1, 4, none⟩ (.slice none 0 0)).setCell ⟨w.heap.size + 1, 5, none⟩ (.slice none 0 0)).setCell ⟨w.heap.size + 1, 6, none⟩ (.slice none 0 0)).setCell ⟨w.heap.size + 1, 7, none⟩ (.slice none 0 0)).setCell ⟨w.heap.size + 1, 8, none⟩ (.slice none 0 0))) := put_kp _ _ _ _ _ _ _ _ _ _ _
    obtain ⟨y0, y1, y2, y3, y4, y5, y6, y7, y8⟩ := (Z1.out.put (.int .i64 0) (.int .i64 0) (.int .i64 0) (.int .i64 0) (.slice none 0 0) (.slice none 0 0) (.slice none 0 0) (.slice none 0 0) (.slice none 0 0)).cells
    go_wp2
    clear z0 z1 z2 z3 z4 z5 z6 z7 z8 t0 t1 t2 t3 t4 t5 t6 t7 t8
    generalize (((((((((w1.setCell ⟨w.heap.size + 1, 0, none⟩ (.int .i64 0)).setCell ⟨w.heap.size + 1, 1, none⟩ (.int .i64 0)).setCell ⟨w.heap.size + 1, 2, none⟩ (.int .i64 0)).setCell ⟨w.heap.size + 1, 3, none⟩ (.int .i64 0)).setCell ⟨w.heap.size + 1, 4, none⟩ (.slice none 0 0)).setCell ⟨w.heap.size + 1, 5, none⟩ (.slice none 0 0)).setCell ⟨w.heap.size + 1, 6, none⟩ (.slice none 0 0)).setCell ⟨w.heap.size + 1, 7, none⟩ (.slice none 0 0)).setCell ⟨w.heap.size + 1, 8, none⟩ (.slice none 0 0)) = w9 at *
    refine bodyPost_ret (v := .tuple #[.agg #[.int .i64 0, .int .i64 0, .int .i64 0, .int .i64 0, .slice none 0 0, .slice none 0 0, .slice none 0 0, .slice none 0 0, .slice none 0 0], .slice none 0 0, .iface 97 (.int .i64 fw)]) (by simp [results, Tryz.results49, go_sem, y0, y1, y2, y3, y4, y5, y6, y7, y8]) rfl ⟨_, _, _, rfl, by rw [FW.out]; exact Er.no HF.out, .inl ⟨by rw [FW.out]; exact HF.out, rfl, rfl⟩, KZ.out.below B1.out B1.out.size (by omega)⟩
  have WR : Hid (WRight ks X) := wright_of FW.out
  obtain ⟨Wn, Hn, e1, e2, G⟩ := WR.out.good
  have GD : Hid (Fd.Good Wn Hn X.gs X.os ∧ X.wide = (Wn : Nat) ∧ X.high = (Hn : Nat)) := ⟨G, e1, e2⟩
  clear e1 e2 G
  obtain ⟨x0, x1, x2, x3, x4, x5, x6, x7, x8⟩ := X1.out.cells
  go_wp2_with fail
  refine (copy_any _ X w1 (H.out.below B1.out) WR.out.len).mono ?_
  rintro e w2 ⟨cu, rfl, ⟨k1, k2, k3, k4, k5, rfl, ⟨o1, o2, o3, o4, o5⟩, -, -, d14, -, -, d24, -, d34, -, d45⟩, hb⟩
  obtain ⟨a1, r1, rfl⟩ := o1.len
  obtain ⟨a2, r2, rfl⟩ := o2.len
  obtain ⟨a3, r3, rfl⟩ := o3.len
  obtain ⟨a5, r5, rfl⟩ := o5.len
  obtain ⟨b1, hb1⟩ : ∃ z, w1.heap.size = z := ⟨_, rfl⟩
  rw [hb1] at o1 o2 o3 o4 o5
  have BS : Hid (w.heap.size + 1 < b1 ∧ b1 ≤ w2.heap.size) := ⟨by rw [← hb1]; exact Z1.out.lt, by rw [← hb1]; exact hb.size⟩
  have X2 : Hid (Wx w2 (w.heap.size) (.int .i64 X.turn) (.int .i64 X.next) (.int .i64 X.wide) (.int .i64 X.high) (.slice p1 X.gs.length q1) (.slice p2 X.os.length q2) (.slice p3 X.gold.length q3) (.slice p4 X.us.length q4) (.slice p5 X.qs.length q5)) := X1.out.below hb X1.out.lt
  have Z2 : Hid (Wx w2 (w.heap.size + 1) (.int .i64 0) (.int .i64 0) (.int .i64 0) (.int .i64 0) (.slice none 0 0) (.slice none 0 0) (.slice none 0 0) (.slice none 0 0) (.slice none 0 0)) := Z1.out.below hb Z1.out.lt
  have B2 : Hid (Below w.heap.size w w2) := B1.out.trans (hb.mono B1.out.size)
  clear hb hb1 x0 x1 x2 x3 x4 x5 x6 x7 x8 X1 Z1 B1
  obtain ⟨z0, z1, z2, z3, z4, z5, z6, z7, z8⟩ := X2.out.cells
  obtain ⟨t0, t1, t2, t3, t4, t5, t6, t7, t8⟩ := X2.out.thaws
  rcases o4.ub with ⟨rfl, hnil⟩ | ⟨g, r4, rest, rfl, hbg, hkc, hcm, hcl, hub⟩
  · -- nobody
    have KZ : Hid (Kp (w.heap.size) w2 (((((((((w2.setCell ⟨w.heap.size, 0, none⟩ (.int .i64 X.turn)).setCell ⟨w.heap.size, 1, none⟩ (.int .i64 X.next)).setCell ⟨w.heap.size, 2, none⟩ (.int .i64 X.wide)).setCell ⟨w.heap.size, 3, none⟩ (.int .i64 X.high)).setCell ⟨w.heap.size, 4, none⟩ (Value.slice a1 X.gs.length r1)).setCell ⟨w.heap.size, 5, none⟩ (Value.slice a2 X.os.length r2)).setCell ⟨w.heap.size, 6, none⟩ (Value.slice a3 X.gold.length r3)).setCell ⟨w.heap.size, 7, none⟩ (Value.slice none 0 0)).setCell ⟨w.heap.size, 8, none⟩ (Value.slice a5 X.qs.length r5))) := put_kp _ _ _ _ _ _ _ _ _ _ _
    have XE : Hid (Wx (((((((((w2.setCell ⟨w.heap.size, 0, none⟩ (.int .i64 X.turn)).setCell ⟨w.heap.size, 1, none⟩ (.int .i64 X.next)).setCell ⟨w.heap.size, 2, none⟩ (.int .i64 X.wide)).setCell ⟨w.heap.size, 3, none⟩ (.int .i64 X.high)).setCell ⟨w.heap.size, 4, none⟩ (Value.slice a1 X.gs.length r1)).setCell ⟨w.heap.size, 5, none⟩ (Value.slice a2 X.os.length r2)).setCell ⟨w.heap.size, 6, none⟩ (Value.slice a3 X.gold.length r3)).setCell ⟨w.heap.size, 7, none⟩ (Value.slice none 0 0)).setCell ⟨w.heap.size, 8, none⟩ (Value.slice a5 X.qs.length r5)) (w.heap.size) (.int .i64 X.turn) (.int .i64 X.next) (.int .i64 X.wide) (.int .i64 X.high) (Value.slice a1 X.gs.length r1) (Value.slice a2 X.os.length r2) (Value.slice a3 X.gold.length r3) (Value.slice none 0 0) (Value.slice a5 X.qs.length r5)) := X2.out.put (.int .i64 X.turn) (.int .i64 X.next) (.int .i64 X.wide) (.int .i64 X.high) (Value.slice a1 X.gs.length r1) (Value.slice a2 X.os.length r2) (Value.slice a3 X.gold.length r3) (Value.slice none 0 0) (Value.slice a5 X.qs.length r5)
    have NIL : Hid (X.us = []) := hnil
    have O2 : Hid (Ow w2 b1 (Value.slice a1 X.gs.length r1) X.gs ∧ Ow w2 b1 (Value.slice a2 X.os.length r2) X.os ∧ Ow w2 b1 (Value.slice a3 X.gold.length r3) X.gold ∧ Jbo w2 b1 (Value.slice a5 X.qs.length r5) X.qs) := ⟨o1, o2, o3, o5⟩
    clear o1 o2 o3 o4 o5 d14 d24 d34 d45 hnil
    go_upto_region 5 with fail
    clear z0 z1 z2 z3 z4 z5 z6 z7 z8 t0 t1 t2 t3 t4 t5 t6 t7 t8
    generalize (((((((((w2.setCell ⟨w.heap.size, 0, none⟩ (.int .i64 X.turn)).setCell ⟨w.heap.size, 1, none⟩ (.int .i64 X.next)).setCell ⟨w.heap.size, 2, none⟩ (.int .i64 X.wide)).setCell ⟨w.heap.size, 3, none⟩ (.int .i64 X.high)).setCell ⟨w.heap.size, 4, none⟩ (Value.slice a1 X.gs.length r1)).setCell ⟨w.heap.size, 5, none⟩ (Value.slice a2 X.os.length r2)).setCell ⟨w.heap.size, 6, none⟩ (Value.slice a3 X.gold.length r3)).setCell ⟨w.heap.size, 7, none⟩ (Value.slice none 0 0)).setCell ⟨w.heap.size, 8, none⟩ (Value.slice a5 X.qs.length r5)) = w3 at *
    have ZE : Hid (Wx w3 (w.heap.size + 1) (.int .i64 0) (.int .i64 0) (.int .i64 0) (.int .i64 0) (.slice none 0 0) (.slice none 0 0) (.slice none 0 0) (.slice none 0 0) (.slice none 0 0)) := Z2.out.kp KZ.out (by omega)
    have BE : Hid (Below w.heap.size w w3) := KZ.out.below B2.out B2.out.size (Nat.le_refl _)
    have O3 : Hid (Ow w3 b1 (Value.slice a1 X.gs.length r1) X.gs ∧ Ow w3 b1 (Value.slice a2 X.os.length r2) X.os ∧ Ow w3 b1 (Value.slice a3 X.gold.length r3) X.gold ∧ Jbo w3 b1 (Value.slice a5 X.qs.length r5) X.qs) := by
      have h := BS.out.1
      exact ⟨O2.out.1.kp KZ.out (by omega), O2.out.2.1.kp KZ.out (by omega), O2.out.2.2.1.kp KZ.out (by omega), O2.out.2.2.2.kp KZ.out (by omega)⟩
    clear KZ X2 Z2 B2 O2
    obtain ⟨-, -, -, -, -, -, -, w7, -⟩ := XE.out.cells
    go_upto_region 7 with fail
    clear w7
    refine wp_loop_rounds 1 ?_
    rw [rounds_succ]
    obtain ⟨x0, x1, x2, x3, x4, x5, x6, x7, x8⟩ := XE.out.cells
    obtain ⟨z0, z1, z2, z3, z4, z5, z6, z7, z8⟩ := ZE.out.cells
    obtain ⟨t0, t1, t2, t3, t4, t5, t6, t7, t8⟩ := ZE.out.thaws
    have KZ : Hid (Kp (w.heap.size + 1) w3 (((((((((w3.setCell ⟨w.heap.size + 1, 0, none⟩ (.int .i64 X.turn)).setCell ⟨w.heap.size + 1, 1, none⟩ (.int .i64 X.next)).setCell ⟨w.heap.size + 1, 2, none⟩ (.int .i64 X.wide)).setCell ⟨w.heap.size + 1, 3, none⟩ (.int .i64 X.high)).setCell ⟨w.heap.size + 1, 4, none⟩ (Value.slice a1 X.gs.length r1)).setCell ⟨w.heap.size + 1, 5, none⟩ (Value.slice a2 X.os.length r2)).setCell ⟨w.heap.size + 1, 6, none⟩ (Value.slice a3 X.gold.length r3)).setCell ⟨w.heap.size + 1, 7, none⟩ (Value.slice none 0 0)).setCell ⟨w.heap.size + 1, 8, none⟩ (Value.slice a5 X.qs.length r5))) := put_kp _ _ _ _ _ _ _ _ _ _ _
    obtain ⟨y0, y1, y2, y3, y4, y5, y6, y7, y8⟩ := (ZE.out.put (.int .i64 X.turn) (.int .i64 X.next) (.int .i64 X.wide) (.int .i64 X.high) (Value.slice a1 X.gs.length r1) (Value.slice a2 X.os.length r2) (Value.slice a3 X.gold.length r3) (Value.slice none 0 0) (Value.slice a5 X.qs.length r5)).cells
    go_wp2
    clear x0 x1 x2 x3 x4 x5 x6 x7 x8 z0 z1 z2 z3 z4 z5 z6 z7 z8 t0 t1 t2 t3 t4 t5 t6 t7 t8
    generalize (((((((((w3.setCell ⟨w.heap.size + 1, 0, none⟩ (.int .i64 X.turn)).setCell ⟨w.heap.size + 1, 1, none⟩ (.int .i64 X.next)).setCell ⟨w.heap.size + 1, 2, none⟩ (.int .i64 X.wide)).setCell ⟨w.heap.size + 1, 3, none⟩ (.int .i64 X.high)).setCell ⟨w.heap.size + 1, 4, none⟩ (Value.slice a1 X.gs.length r1)).setCell ⟨w.heap.size + 1, 5, none⟩ (Value.slice a2 X.os.length r2)).setCell ⟨w.heap.size + 1, 6, none⟩ (Value.slice a3 X.gold.length r3)).setCell ⟨w.heap.size + 1, 7, none⟩ (Value.slice none 0 0)).setCell ⟨w.heap.size + 1, 8, none⟩ (Value.slice a5 X.qs.length r5)) = wz at *
    refine bodyPost_ret (v := .tuple #[.agg #[.int .i64 X.turn, .int .i64 X.next, .int .i64 X.wide, .int .i64 X.high, Value.slice a1 X.gs.length r1, Value.slice a2 X.os.length r2, Value.slice a3 X.gold.length r3, Value.slice none 0 0, Value.slice a5 X.qs.length r5], .slice none 0 0, .nilIface]) (by simp [results, Tryz.results49, go_sem, y0, y1, y2, y3, y4, y5, y6, y7, y8]) rfl ⟨_, _, _, rfl, by rw [FW.out]; exact Er.nil, .inr ⟨FW.out, Wn, Hn, GD.out.2.1, GD.out.2.2, GD.out.1, X.us, [], .done (by rw [NIL.out]; rfl), rfl, ?_, Evo.nil _ _⟩, KZ.out.below BE.out BE.out.size (by omega)⟩
    have h := BS.out.1
    exact ⟨_, _, _, _, _, rfl, (O3.out.1.kp KZ.out (by omega)).mono (by omega), (O3.out.2.1.kp KZ.out (by omega)).mono (by omega), (O3.out.2.2.1.kp KZ.out (by omega)).mono (by omega), by rw [NIL.out]; exact Uno.nil _ _, (O3.out.2.2.2.kp KZ.out (by omega)).mono (by omega)⟩
  have KZ : Hid (Kp (w.heap.size) w2 (((((((((w2.setCell ⟨w.heap.size, 0, none⟩ (.int .i64 X.turn)).setCell ⟨w.heap.size, 1, none⟩ (.int .i64 X.next)).setCell ⟨w.heap.size, 2, none⟩ (.int .i64 X.wide)).setCell ⟨w.heap.size, 3, none⟩ (.int .i64 X.high)).setCell ⟨w.heap.size, 4, none⟩ (Value.slice a1 X.gs.length r1)).setCell ⟨w.heap.size, 5, none⟩ (Value.slice a2 X.os.length r2)).setCell ⟨w.heap.size, 6, none⟩ (Value.slice a3 X.gold.length r3)).setCell ⟨w.heap.size, 7, none⟩ (Value.slice (some ⟨g, 0, none⟩) X.us.length r4)).setCell ⟨w.heap.size, 8, none⟩ (Value.slice a5 X.qs.length r5))) := put_kp _ _ _ _ _ _ _ _ _ _ _
  have X3 : Hid (Wx (((((((((w2.setCell ⟨w.heap.size, 0, none⟩ (.int .i64 X.turn)).setCell ⟨w.heap.size, 1, none⟩ (.int .i64 X.next)).setCell ⟨w.heap.size, 2, none⟩ (.int .i64 X.wide)).setCell ⟨w.heap.size, 3, none⟩ (.int .i64 X.high)).setCell ⟨w.heap.size, 4, none⟩ (Value.slice a1 X.gs.length r1)).setCell ⟨w.heap.size, 5, none⟩ (Value.slice a2 X.os.length r2)).setCell ⟨w.heap.size, 6, none⟩ (Value.slice a3 X.gold.length r3)).setCell ⟨w.heap.size, 7, none⟩ (Value.slice (some ⟨g, 0, none⟩) X.us.length r4)).setCell ⟨w.heap.size, 8, none⟩ (Value.slice a5 X.qs.length r5)) (w.heap.size) (.int .i64 X.turn) (.int .i64 X.next) (.int .i64 X.wide) (.int .i64 X.high) (Value.slice a1 X.gs.length r1) (Value.slice a2 X.os.length r2) (Value.slice a3 X.gold.length r3) (Value.slice (some ⟨g, 0, none⟩) X.us.length r4) (Value.slice a5 X.qs.length r5)) := X2.out.put (.int .i64 X.turn) (.int .i64 X.next) (.int .i64 X.wide) (.int .i64 X.high) (Value.slice a1 X.gs.length r1) (Value.slice a2 X.os.length r2) (Value.slice a3 X.gold.length r3) (Value.slice (some ⟨g, 0, none⟩) X.us.length r4) (Value.slice a5 X.qs.length r5)
  have O2 : Hid (Ow w2 b1 (Value.slice a1 X.gs.length r1) X.gs ∧ Ow w2 b1 (Value.slice a2 X.os.length r2) X.os ∧ Ow w2 b1 (Value.slice a3 X.gold.length r3) X.gold ∧ Jbo w2 b1 (Value.slice a5 X.qs.length r5) X.qs ∧ Ub w2 g X.us rest) := ⟨o1, o2, o3, o5, hub⟩
  have DD : Hid ((∀ b, ((Value.slice a1 X.gs.length r1)).ownBlock = some b → some g ≠ some b) ∧ (∀ b, ((Value.slice a2 X.os.length r2)).ownBlock = some b → some g ≠ some b) ∧ (∀ b, ((Value.slice a3 X.gold.length r3)).ownBlock = some b → some g ≠ some b) ∧ (∀ b, ((Value.slice a5 X.qs.length r5)).ownBlock = some b → some g ≠ some b)) := ⟨fun b h e => d14 b h e, fun b h e => d24 b h e, fun b h e => d34 b h e, fun b h e => d45 b e h⟩
  have CP : Hid (b1 ≤ g ∧ X.us.length ≤ r4 ∧ r4 ≤ maxLen ∧ X.us.length * 8 + rest.length = r4 * 8) := ⟨hbg, hkc, hcm, hcl⟩
  have hr4 : r4 ≤ 9223372036854775807 := by unfold maxLen at hcm; omega
  have hr4' : X.us.length ≤ r4 := hkc
  have hul : X.us.length ≤ 40 := WR.out.ul
  clear o1 o2 o3 o4 o5 d14 d24 d34 d45 hbg hkc hcm hcl hub
  go_upto_region 5 with fail
  clear z0 z1 z2 z3 z4 z5 z6 z7 z8 t0 t1 t2 t3 t4 t5 t6 t7 t8
  generalize (((((((((w2.setCell ⟨w.heap.size, 0, none⟩ (.int .i64 X.turn)).setCell ⟨w.heap.size, 1, none⟩ (.int .i64 X.next)).setCell ⟨w.heap.size, 2, none⟩ (.int .i64 X.wide)).setCell ⟨w.heap.size, 3, none⟩ (.int .i64 X.high)).setCell ⟨w.heap.size, 4, none⟩ (Value.slice a1 X.gs.length r1)).setCell ⟨w.heap.size, 5, none⟩ (Value.slice a2 X.os.length r2)).setCell ⟨w.heap.size, 6, none⟩ (Value.slice a3 X.gold.length r3)).setCell ⟨w.heap.size, 7, none⟩ (Value.slice (some ⟨g, 0, none⟩) X.us.length r4)).setCell ⟨w.heap.size, 8, none⟩ (Value.slice a5 X.qs.length r5)) = w3 at *
  have Z3 : Hid (Wx w3 (w.heap.size + 1) (.int .i64 0) (.int .i64 0) (.int .i64 0) (.int .i64 0) (.slice none 0 0) (.slice none 0 0) (.slice none 0 0) (.slice none 0 0) (.slice none 0 0)) := Z2.out.kp KZ.out (by omega)
  have B3 : Hid (Below w.heap.size w w3) := KZ.out.below B2.out B2.out.size (Nat.le_refl _)
  have O3 : Hid (Ow w3 b1 (Value.slice a1 X.gs.length r1) X.gs ∧ Ow w3 b1 (Value.slice a2 X.os.length r2) X.os ∧ Ow w3 b1 (Value.slice a3 X.gold.length r3) X.gold ∧ Jbo w3 b1 (Value.slice a5 X.qs.length r5) X.qs ∧ Ub w3 g X.us rest) := by
    have h := BS.out.1
    refine ⟨O2.out.1.kp KZ.out (by omega), O2.out.2.1.kp KZ.out (by omega), O2.out.2.2.1.kp KZ.out (by omega), O2.out.2.2.2.1.kp KZ.out (by omega), ?_⟩
    have h9 := O2.out.2.2.2.2
    unfold Ub at *
    rw [KZ.out.block g (lt_of_block h9) (by have := CP.out.1; omega)]
    exact h9
  clear KZ X2 Z2 B2 O2
  -- what stands in any world in which that block alone has turned
  have ST : Hid (∀ V us', us'.length = X.us.length → Kp g w3 V → Ub V g us' rest → Wl V (.agg #[.int .i64 X.turn, .int .i64 X.next, .int .i64 X.wide, .int .i64 X.high, Value.slice a1 X.gs.length r1, Value.slice a2 X.os.length r2, Value.slice a3 X.gold.length r3, Value.slice (some ⟨g, 0, none⟩) X.us.length r4, Value.slice a5 X.qs.length r5]) { X with us := us' } ∧ Kl V (.slice pk ks.length qk) ks ∧ Sd V ∧ Wx V (w.heap.size) (.int .i64 X.turn) (.int .i64 X.next) (.int .i64 X.wide) (.int .i64 X.high) (Value.slice a1 X.gs.length r1) (Value.slice a2 X.os.length r2) (Value.slice a3 X.gold.length r3) (Value.slice (some ⟨g, 0, none⟩) X.us.length r4) (Value.slice a5 X.qs.length r5) ∧ Wx V (w.heap.size + 1) (.int .i64 0) (.int .i64 0) (.int .i64 0) (.int .i64 0) (.slice none 0 0) (.slice none 0 0) (.slice none 0 0) (.slice none 0 0) (.slice none 0 0) ∧ Below w.heap.size w V ∧ Ow V b1 (Value.slice a1 X.gs.length r1) X.gs ∧ Ow V b1 (Value.slice a2 X.os.length r2) X.os ∧ Ow V b1 (Value.slice a3 X.gold.length r3) X.gold ∧ Jbo V b1 (Value.slice a5 X.qs.length r5) X.qs) := fun V us' hl hk hu => by
    have hb : Below w.heap.size w V := hk.below B3.out B3.out.size (by have := CP.out.1; have := BS.out.1; omega)
    have o1 : Ow V b1 (Value.slice a1 X.gs.length r1) X.gs := own_gb O3.out.1 (gb_kp hk) DD.out.1
    have o2 : Ow V b1 (Value.slice a2 X.os.length r2) X.os := own_gb O3.out.2.1 (gb_kp hk) DD.out.2.1
    have o3 : Ow V b1 (Value.slice a3 X.gold.length r3) X.gold := own_gb O3.out.2.2.1 (gb_kp hk) DD.out.2.2.1
    have o5 : Jbo V b1 (Value.slice a5 X.qs.length r5) X.qs := own_gb O3.out.2.2.2.1 (gb_kp hk) DD.out.2.2.2
    have hu' := hu.uno (base := b1) (cap := r4) CP.out.1 (by rw [hl]; exact CP.out.2.1) CP.out.2.2.1 (by rw [hl]; exact CP.out.2.2.2)
    rw [hl] at hu'
    exact ⟨⟨_, _, _, _, _, rfl, o1.ro, o2.ro, o3.ro, hu'.l, o5.l⟩, K.out.1.below hb, S.out.below hb, X3.out.kp hk (by have := CP.out.1; have := BS.out.1; omega), Z3.out.kp hk (by have := CP.out.1; have := BS.out.1; omega), hb, o1, o2, o3, o5⟩
  obtain ⟨-, -, -, -, -, -, -, w7, -⟩ := X3.out.cells
  go_upto_region 7 with fail
  clear w7
  have GL : Hid (g < w3.heap.size) := O3.out.2.2.2.2.lt
  go_loopw [8, 25] (fun v8 v25 V => ∃ (n : Nat) (us1 : List UnV) (evs : List EvV) (ev : Value), ev = v8 ∧ v25 = .int .i64 (n : Nat) ∧ n ≤ X.us.length ∧ Alike ks (Wn * Hn) X.us us1 ∧ Ub V g us1 rest ∧ Evo V w3.heap.size ev evs ∧ evs.length ≤ 4 * n ∧ Kp g w3 V ∧ (∀ evs' us', Moves ks X Wn Hn n us1 evs' us' → Moves ks X Wn Hn 0 X.us (evs ++ evs') us')) (fun _ v25 _ => X.us.length - (intOf v25).toNat)
  case atStart => exact ⟨0, X.us, [], _, rfl, rfl, Nat.zero_le _, ⟨rfl, fun j v hj => ⟨v, hj, rfl, rfl, right_fits WR.out GD.out.1 v (List.mem_of_getElem? hj)⟩⟩, O3.out.2.2.2.2, Evo.nil _ _, Nat.le_refl _, Kp.refl _ _, fun _ _ h => h⟩
  case round =>
    obtain ⟨n, us1, evs, ev, rfl, rfl, hn, hal, hub, hev, hel, hkp, hmo⟩ := hrel
    have AL : Hid (Alike ks (Wn * Hn) X.us us1) := hal
    have U4 : Hid (Ub wr g us1 rest) := hub
    have E4 : Hid (Evo wr w3.heap.size ev evs ∧ evs.length ≤ 4 * n) := ⟨hev, hel⟩
    have P4 : Hid (Kp g w3 wr) := hkp
    have MO : Hid (∀ evs' us', Moves ks X Wn Hn n us1 evs' us' → Moves ks X Wn Hn 0 X.us (evs ++ evs') us') := hmo
    have A4 := ST.out wr us1 hal.1 hkp hub
    obtain ⟨-, -, -, ax, az, ab, ao1, ao2, ao3, ao5⟩ := A4
    clear hal hub hev hel hkp hmo
    by_cases h0 : n = X.us.length
    · subst h0
      have hnl : ¬ (((X.us.length : Nat) : Int) < (X.us.length : Nat)) := by omega
      have XE : Hid (Wx wr (w.heap.size) (.int .i64 X.turn) (.int .i64 X.next) (.int .i64 X.wide) (.int .i64 X.high) (Value.slice a1 X.gs.length r1) (Value.slice a2 X.os.length r2) (Value.slice a3 X.gold.length r3) (Value.slice (some ⟨g, 0, none⟩) X.us.length r4) (Value.slice a5 X.qs.length r5)) := ax
      have ZE : Hid (Wx wr (w.heap.size + 1) (.int .i64 0) (.int .i64 0) (.int .i64 0) (.int .i64 0) (.slice none 0 0) (.slice none 0 0) (.slice none 0 0) (.slice none 0 0) (.slice none 0 0)) := az
      have BE : Hid (Below w.heap.size w wr) := ab
      have OE : Hid (Ow wr b1 (Value.slice a1 X.gs.length r1) X.gs ∧ Ow wr b1 (Value.slice a2 X.os.length r2) X.os ∧ Ow wr b1 (Value.slice a3 X.gold.length r3) X.gold ∧ Jbo wr b1 (Value.slice a5 X.qs.length r5) X.qs) := ⟨ao1, ao2, ao3, ao5⟩
      have UE : Hid (Uno wr b1 (Value.slice (some ⟨g, 0, none⟩) X.us.length r4) us1) := by
        have hl := AL.out.1
        have := U4.out.uno (base := b1) (cap := r4) CP.out.1 (by rw [hl]; exact CP.out.2.1) CP.out.2.2.1 (by rw [hl]; exact CP.out.2.2.2)
        rw [hl] at this
        exact this
      have FIN : Hid (Moves ks X Wn Hn 0 X.us evs us1) := by
        have := MO.out [] us1 (.done AL.out.1.symm)
        rw [List.append_nil] at this
        exact this
      have B13 : Hid (b1 ≤ w3.heap.size) := by have := CP.out.1; have := GL.out; unfold Hid; omega
      clear ax az ab ao1 ao2 ao3 ao5
      obtain ⟨x0, x1, x2, x3, x4, x5, x6, x7, x8⟩ := XE.out.cells
      obtain ⟨z0, z1, z2, z3, z4, z5, z6, z7, z8⟩ := ZE.out.cells
      obtain ⟨t0, t1, t2, t3, t4, t5, t6, t7, t8⟩ := ZE.out.thaws
      have KZ : Hid (Kp (w.heap.size + 1) wr (((((((((wr.setCell ⟨w.heap.size + 1, 0, none⟩ (.int .i64 X.turn)).setCell ⟨w.heap.size + 1, 1, none⟩ (.int .i64 X.next)).setCell ⟨w.heap.size + 1, 2, none⟩ (.int .i64 X.wide)).setCell ⟨w.heap.size + 1, 3, none⟩ (.int .i64 X.high)).setCell ⟨w.heap.size + 1, 4, none⟩ (Value.slice a1 X.gs.length r1)).setCell ⟨w.heap.size + 1, 5, none⟩ (Value.slice a2 X.os.length r2)).setCell ⟨w.heap.size + 1, 6, none⟩ (Value.slice a3 X.gold.length r3)).setCell ⟨w.heap.size + 1, 7, none⟩ (Value.slice (some ⟨g, 0, none⟩) X.us.length r4)).setCell ⟨w.heap.size + 1, 8, none⟩ (Value.slice a5 X.qs.length r5))) := put_kp _ _ _ _ _ _ _ _ _ _ _
      obtain ⟨y0, y1, y2, y3, y4, y5, y6, y7, y8⟩ := (ZE.out.put (.int .i64 X.turn) (.int .i64 X.next) (.int .i64 X.wide) (.int .i64 X.high) (Value.slice a1 X.gs.length r1) (Value.slice a2 X.os.length r2) (Value.slice a3 X.gold.length r3) (Value.slice (some ⟨g, 0, none⟩) X.us.length r4) (Value.slice a5 X.qs.length r5)).cells
      go_wp2
      clear x0 x1 x2 x3 x4 x5 x6 x7 x8 z0 z1 z2 z3 z4 z5 z6 z7 z8 t0 t1 t2 t3 t4 t5 t6 t7 t8
      generalize (((((((((wr.setCell ⟨w.heap.size + 1, 0, none⟩ (.int .i64 X.turn)).setCell ⟨w.heap.size + 1, 1, none⟩ (.int .i64 X.next)).setCell ⟨w.heap.size + 1, 2, none⟩ (.int .i64 X.wide)).setCell ⟨w.heap.size + 1, 3, none⟩ (.int .i64 X.high)).setCell ⟨w.heap.size + 1, 4, none⟩ (Value.slice a1 X.gs.length r1)).setCell ⟨w.heap.size + 1, 5, none⟩ (Value.slice a2 X.os.length r2)).setCell ⟨w.heap.size + 1, 6, none⟩ (Value.slice a3 X.gold.length r3)).setCell ⟨w.heap.size + 1, 7, none⟩ (Value.slice (some ⟨g, 0, none⟩) X.us.length r4)).setCell ⟨w.heap.size + 1, 8, none⟩ (Value.slice a5 X.qs.length r5)) = wz at *
      refine bodyPost_ret (v := .tuple #[.agg #[.int .i64 X.turn, .int .i64 X.next, .int .i64 X.wide, .int .i64 X.high, Value.slice a1 X.gs.length r1, Value.slice a2 X.os.length r2, Value.slice a3 X.gold.length r3, Value.slice (some ⟨g, 0, none⟩) X.us.length r4, Value.slice a5 X.qs.length r5], ev, .nilIface]) (by simp [results, Tryz.results49, go_sem, y0, y1, y2, y3, y4, y5, y6, y7, y8]) rfl ⟨_, _, _, rfl, by rw [FW.out]; exact Er.nil, .inr ⟨FW.out, Wn, Hn, GD.out.2.1, GD.out.2.2, GD.out.1, us1, evs, FIN.out, AL.out.1, ?_, ?_⟩, KZ.out.below BE.out BE.out.size (by omega)⟩
      · have h := BS.out.1
        exact ⟨_, _, _, _, _, rfl, (OE.out.1.kp KZ.out (by omega)).mono (by omega), (OE.out.2.1.kp KZ.out (by omega)).mono (by omega), (OE.out.2.2.1.kp KZ.out (by omega)).mono (by omega), (UE.out.kp KZ.out (by omega)).mono (by omega), (OE.out.2.2.2.kp KZ.out (by omega)).mono (by omega)⟩
      · have h := BS.out.1
        have h' := B13.out
        exact (E4.out.1.kp9 KZ.out (by omega)).mono (by omega)
    · have hnl : n < X.us.length := by omega
      have hni : ((n : Nat) : Int) < (X.us.length : Nat) := by omega
      have hn1 : n < us1.length := by rw [AL.out.1]; exact hnl
      obtain ⟨u, hu⟩ : ∃ u, us1[n]? = some u := ⟨_, List.getElem?_eq_getElem hn1⟩
      obtain ⟨u0, hu0, huk, hid0, hfit, hgoal⟩ := AL.out.2 n u hu
      obtain ⟨k, f0⟩ := WR.out.fine hu0
      have hkk : ks[u.kind.toNat]? = some k := by rw [huk]; exact f0.kk
      have hsp := kind_nums WR.out.kinds (List.mem_of_getElem? hkk)
      have UH : Hid (us1[n]? = some u ∧ ks[u.kind.toNat]? = some k ∧ Fit ks (Wn * Hn) u ∧ (0 ≤ u.goal ∧ u.goal < (Wn * Hn : Nat)) ∧ (0 ≤ k.n4 ∧ k.n4 ≤ 4)) := ⟨hu, hkk, hfit, hgoal, hsp.2.2.1, hsp.2.2.2.1⟩
      have WN : IntKind.i64.wrap ((n : Nat) + 1 : Int) = ((n : Nat) : Int) + 1 := by rw [IntKind.wrap_i64]; omega
      have BE : Hid (Below w.heap.size w wr) := ab
      obtain ⟨x0, x1, x2, x3, x4, x5, x6, x7, x8⟩ := ax.cells
      have WK : Hid (Calls Tryz.prog 116 #[.slice pk ks.length qk, .agg #[.int .i64 X.turn, .int .i64 X.next, .int .i64 X.wide, .int .i64 X.high, Value.slice a1 X.gs.length r1, Value.slice a2 X.os.length r2, Value.slice a3 X.gold.length r3, Value.slice (some ⟨g, 0, none⟩) X.us.length r4, Value.slice a5 X.qs.length r5], .pointer (some ⟨g, n * 8, none⟩)] wr fun e w' => ∃ v us' cells, e = .returned v ∧ Ow w' wr.heap.size v cells ∧ Goes ks X Wn Hn k n us1 k.n4 cells us' ∧ Ub w' g us' rest ∧ Kp g wr w' ∧ cells.length ≤ 4 ∧ (∃ a, us' = us1.set n { u with at_ := a } ∧ 0 ≤ a ∧ a < (Wn * Hn : Nat))) := by
        have h := walk_any (.slice pk ks.length qk) ks X us1 (Value.slice a1 X.gs.length r1) (Value.slice a2 X.os.length r2) (Value.slice a3 X.gold.length r3) (Value.slice a5 X.qs.length r5) g r4 n rest u k Wn Hn wr (K.out.1.below BE.out) (S.out.below BE.out) GD.out.1 GD.out.2.1 GD.out.2.2 (fun V us' hl hk hu => by
          have h9 := ST.out V us' (by rw [hl, AL.out.1]) (P4.out.trans hk) hu
          rw [AL.out.1]
          exact ⟨h9.1, h9.2.1, h9.2.2.1⟩) U4.out UH.out.1 UH.out.2.1 (by rw [AL.out.1]; exact hul) AL.out.fits UH.out.2.2.2.1 UH.out.2.2.2.2
        rw [AL.out.1] at h
        exact h
      clear ax az ab ao1 ao2 ao3 ao5 hu hu0 huk hid0 hfit hgoal f0 hkk hsp
      go_wp2_with fail
      refine Calls.mono WK.out ?_
      rintro e v2 ⟨cv, us2, cells, rfl, hoc, hgo, hub2, hkp2, hc4, a, hus2, ha⟩
      obtain ⟨u2, hu2⟩ : ∃ v : UnV, { u with at_ := a } = v := ⟨_, rfl⟩
      have hi2 : us2[n]? = some u2 := by rw [hus2, hu2, List.getElem?_set_self hn1]
      have H2 : Hid (us2[n]? = some u2 ∧ us2.length = X.us.length ∧ Alike ks (Wn * Hn) X.us us2 ∧ u2.id = u.id ∧ u2.kind = u.kind ∧ Fit ks (Wn * Hn) u2 ∧ (0 ≤ u2.goal ∧ u2.goal < (Wn * Hn : Nat)) ∧ n < us2.length) := by
        have hf : Fit ks (Wn * Hn) u2 := by rw [← hu2]; exact ⟨UH.out.2.2.1.1, ha⟩
        have hg2 : 0 ≤ u2.goal ∧ u2.goal < (Wn * Hn : Nat) := by rw [← hu2]; exact UH.out.2.2.2.1
        have hal2 : Alike ks (Wn * Hn) X.us us2 := by rw [hus2, hu2]; exact AL.out.set UH.out.1 (by rw [← hu2]) (by rw [← hu2]) hf hg2
        exact ⟨hi2, hal2.1, hal2, by rw [← hu2], by rw [← hu2], hf, hg2, (List.getElem?_eq_some_iff.1 hi2).1⟩
      obtain ⟨ac, cc, rfl⟩ := hoc.len
      obtain ⟨bo, hbo⟩ : ∃ z, wr.heap.size = z := ⟨_, rfl⟩
      rw [hbo] at hoc
      have OC : Hid (Ow v2 bo (.slice ac cells.length cc) cells) := hoc
      have GO : Hid (Goes ks X Wn Hn k n us1 k.n4 cells us2 ∧ cells.length ≤ 4) := ⟨hgo, hc4⟩
      have U5 : Hid (Ub v2 g us2 rest) := hub2
      have P5 : Hid (Kp g w3 v2) := P4.out.trans hkp2
      have E5 : Hid (Evo v2 w3.heap.size ev evs) := E4.out.1.kp9 hkp2 GL.out
      have DE : Hid (∀ b, ev.ownBlock = some b → (Value.slice ac cells.length cc).ownBlock ≠ some b) := fun b h1 h2 => by
        have := (E4.out.1.block b h1).2
        have := (hoc.block b h2).1
        omega
      have EL : Hid (evs.length ≤ 4 * n) := E4.out.2
      have hcc : cells.length ≤ cc ∧ cc ≤ 9223372036854775807 := by
        obtain ⟨a9, c9, h9, h8, h7, -⟩ := hoc.ro
        injection h9 with _ _ h9
        subst h9
        exact ⟨h8, h7⟩
      obtain ⟨hcc1, hcc2⟩ := hcc
      clear hoc hgo hub2 hkp2 hus2 ha hu2 hi2 hbo x0 x1 x2 x3 x4 x5 x6 x7 x8 WK U4 P4 E4 BE
      generalize wr = wo at *
      go_upto_region 11 with fail
      go_loopw [8, 37] (fun v8 v37 V => ∃ (m : Nat) (ev' : Value), ev' = v8 ∧ v37 = .int .i64 (m : Nat) ∧ m ≤ cells.length ∧ Ub V g us2 rest ∧ Evo V w3.heap.size ev' (evs ++ (cells.take m).map (fun c => (⟨1, u.id, c⟩ : EvV))) ∧ Kp g w3 V ∧ Ow V bo (.slice ac cells.length cc) cells ∧ (∀ b, ev'.ownBlock = some b → (Value.slice ac cells.length cc).ownBlock ≠ some b)) (fun _ v37 _ => cells.length - (intOf v37).toNat)
      case atStart => exact ⟨0, _, rfl, rfl, Nat.zero_le _, U5.out, by simpa using E5.out, P5.out, OC.out, DE.out⟩
      case round =>
        obtain ⟨m, ev', rfl, rfl, hm, hub, hev, hkp, hoc, hde⟩ := hrel
        have U6 : Hid (Ub wr g us2 rest) := hub
        have E6 : Hid (Evo wr w3.heap.size ev' (evs ++ (cells.take m).map (fun c => (⟨1, u.id, c⟩ : EvV)))) := hev
        have P6 : Hid (Kp g w3 wr) := hkp
        have O6 : Hid (Ow wr bo (.slice ac cells.length cc) cells) := hoc
        have D6 : Hid (∀ b, ev'.ownBlock = some b → (Value.slice ac cells.length cc).ownBlock ≠ some b) := hde
        clear hub hev hkp hoc hde U5 E5 P5 OC DE
        obtain ⟨y0, y1, y2, y3, y4, y5, y6, y7⟩ := U6.out.unc H2.out.1
        by_cases h0 : m = cells.length
        · subst h0
          have hml : ¬ (((cells.length : Nat) : Int) < (cells.length : Nat)) := by omega
          rw [List.take_of_length_le (Nat.le_refl _)] at E6
          obtain ⟨evs2, hevs2⟩ : ∃ l, evs ++ cells.map (fun c => (⟨1, u.id, c⟩ : EvV)) = l := ⟨_, rfl⟩
          rw [hevs2] at E6
          have EL2 : Hid (evs2.length ≤ 4 * (n + 1)) := by
            unfold Hid
            rw [← hevs2, List.length_append, List.length_map]
            have := EL.out
            have := GO.out.2
            omega
          have MO2 : Hid (∀ evs' us', Moves ks X Wn Hn (n + 1) (us2.set n (ends u2)) evs' us' → Moves ks X Wn Hn 0 X.us (evs2 ++ evs') us') := fun evs' us' h => by
            have := MO.out (cells.map (fun c => (⟨1, u.id, c⟩ : EvV)) ++ evs') us' (.unit UH.out.1 UH.out.2.1 GO.out.1 H2.out.1 h)
            rw [← List.append_assoc, hevs2] at this
            exact this
          clear hevs2
          have SELF : Hid (us2.set n u2 = us2) := by
            unfold Hid
            obtain ⟨h2, h3⟩ := List.getElem?_eq_some_iff.1 H2.out.1
            rw [← h3, List.set_getElem_self]
          go_upto_region 15 with fail
          by_cases ht : u2.task = 1
          · have ht' : (u2.task == 1) = true := by rw [ht]; rfl
            have C5 : Hid (∀ V, Below wr.heap.size wr V → Unc V ⟨g, n * 8, none⟩ u2) := fun V hb => (U6.out.below hb U6.out.lt).unc H2.out.1
            clear y0 y1 y2 y3 y4 y5 y6 y7
            by_cases hg : u2.at_ = u2.goal
            · have hg' : (u2.at_ == u2.goal) = true := by rw [hg]; simp
              have EN : Hid (ends u2 = { u2 with task := 0, goal := 0 }) := by unfold Hid ends; rw [if_pos ⟨ht, hg⟩]
              clear ht hg
              refine wp_region_two [(true, 0), (true, 1), (true, 2), (true, 3), (true, 4), (true, 5), (true, 6), (true, 7), (true, 8), (true, 9), (true, 10), (true, 11), (true, 12), (true, 13), (true, 14)] [(false, 15)] (fun V => Unc V ⟨g, n * 8, none⟩ u2) (by kernel_rfl) (by kernel_rfl) (by kernel_rfl) (by decide +kernel) (by decide +kernel) (C5.out _ ((Below.refl _ _).drew)) ?_
              have D1 : Hid (Below wr.heap.size wr { wr with drawn := wr.drawn + 1 }) := (Below.refl _ _).drew
              generalize ({ wr with drawn := wr.drawn + 1 } : World) = v7 at *
              refine headT_read rfl (.pointer (some ⟨g, n * 8, none⟩)) (by go_simp) (fun V hV => by go_simp) ?_
              go_simp
              refine headT_read rfl (.pointer (some ⟨g, n * 8, none⟩)) (by go_simp) (fun V hV => by go_simp) ?_
              go_simp
              refine headT_read rfl (.pointer (some ⟨g, n * 8 + 6, none⟩)) (by go_simp) (fun V hV => by go_simp) ?_
              go_simp
              refine headT_read rfl (.int .i64 u2.task) (by go_simp) (fun V hV => by obtain ⟨y0, y1, y2, y3, y4, y5, y6, y7⟩ := hV; go_simp) ?_
              go_simp
              refine headT_read rfl (.bool true) (by go_simp) (fun V hV => by go_simp) ?_
              go_simp
              refine headT_read rfl (.bool true) (by go_simp) (fun V hV => by go_simp) ?_
              go_simp
              refine headT_read rfl (.pointer (some ⟨g, n * 8, none⟩)) (by go_simp) (fun V hV => by go_simp) ?_
              go_simp
              refine headT_read rfl (.pointer (some ⟨g, n * 8, none⟩)) (by go_simp) (fun V hV => by go_simp) ?_
              go_simp
              refine headT_read rfl (.pointer (some ⟨g, n * 8 + 3, none⟩)) (by go_simp) (fun V hV => by go_simp) ?_
              go_simp
              refine headT_read rfl (.int .i64 u2.at_) (by go_simp) (fun V hV => by obtain ⟨y0, y1, y2, y3, y4, y5, y6, y7⟩ := hV; go_simp) ?_
              go_simp
              refine headT_read rfl (.pointer (some ⟨g, n * 8, none⟩)) (by go_simp) (fun V hV => by go_simp) ?_
              go_simp
              refine headT_read rfl (.pointer (some ⟨g, n * 8, none⟩)) (by go_simp) (fun V hV => by go_simp) ?_
              go_simp
              refine headT_read rfl (.pointer (some ⟨g, n * 8 + 7, none⟩)) (by go_simp) (fun V hV => by go_simp) ?_
              go_simp
              refine headT_read rfl (.int .i64 u2.goal) (by go_simp) (fun V hV => by obtain ⟨y0, y1, y2, y3, y4, y5, y6, y7⟩ := hV; go_simp) ?_
              go_simp
              refine headT_read rfl (.bool true) (by go_simp) (fun V hV => by go_simp) ?_
              go_simp
              unfold wpHeadT
              refine sched_value rfl (.bool true) v7 (by go_simp) (by go_simp) trivial ?_
              go_simp
              unfold wpSched
              have U7 : Hid (Ub v7 g us2 rest) := U6.out.below D1.out U6.out.lt
              have c6 := (U7.out.unc H2.out.1).c6
              have t6 := U7.out.thaw (n * 8 + 6)
              have U8 : Hid (Ub (v7.setCell ⟨g, n * 8 + 6, none⟩ (.int .i64 0)) g (us2.set n { u2 with task := 0 }) rest) := U7.out.set6 H2.out.1 0
              have hs8 : (us2.set n { u2 with task := 0 })[n]? = some { u2 with task := 0 } := List.getElem?_set_self H2.out.2.2.2.2.2.2.2
              have c7 := (U8.out.unc hs8).c7
              have t7 := U8.out.thaw (n * 8 + 7)
              have U9 : Hid (Ub ((v7.setCell ⟨g, n * 8 + 6, none⟩ (.int .i64 0)).setCell ⟨g, n * 8 + 7, none⟩ (.int .i64 0)) g (us2.set n { u2 with task := 0, goal := 0 }) rest) := by
                have := U8.out.set7 hs8 0
                rw [List.set_set] at this
                exact this
              have K9 : Hid (Kp g v7 ((v7.setCell ⟨g, n * 8 + 6, none⟩ (.int .i64 0)).setCell ⟨g, n * 8 + 7, none⟩ (.int .i64 0))) := (Kp.set _ _ _).trans (Kp.set _ _ _)
              clear hs8
              go_upto_region 17 with fail
              clear c6 t6 c7 t7 U8 U7
              generalize ((v7.setCell ⟨g, n * 8 + 6, none⟩ (.int .i64 0)).setCell ⟨g, n * 8 + 7, none⟩ (.int .i64 0)) = v9 at *
              have P9 : Hid (Kp g w3 v9) := (P6.out.trans (Kp.of D1.out)).trans K9.out
              have E9 : Hid (Evo v9 w3.heap.size ev' evs2) := (E6.out.below D1.out).kp9 K9.out GL.out
              have AL9 : Hid (Alike ks (Wn * Hn) X.us (us2.set n { u2 with task := 0, goal := 0 })) := H2.out.2.2.1.set H2.out.1 rfl rfl ⟨H2.out.2.2.2.2.2.1.1, H2.out.2.2.2.2.2.1.2⟩ ⟨Int.le_refl _, by have := H2.out.2.2.2.2.2.2.1; show (0 : Int) < _; omega⟩
              rw [EN.out] at MO2
              clear ht' hg'
              go_wp2
              go_round
              case rel => exact ⟨n + 1, _, evs2, _, rfl, by go_num, by omega, AL9.out, U9.out, E9.out, EL2.out, P9.out, MO2.out⟩
              case measure => simp [intOf]; omega
            · have hg' : (u2.at_ == u2.goal) = false := by rw [beq_eq_false_iff_ne]; exact hg
              have EN : Hid (ends u2 = u2) := by unfold Hid ends; rw [if_neg (fun h => hg h.2)]
              clear ht hg
              refine wp_region_two [(true, 0), (true, 1), (true, 2), (true, 3), (true, 4), (true, 5), (true, 6), (true, 7), (true, 8), (true, 9), (true, 10), (true, 11), (true, 12), (true, 13), (true, 14)] [(false, 15)] (fun V => Unc V ⟨g, n * 8, none⟩ u2) (by kernel_rfl) (by kernel_rfl) (by kernel_rfl) (by decide +kernel) (by decide +kernel) (C5.out _ ((Below.refl _ _).drew)) ?_
              have D1 : Hid (Below wr.heap.size wr { wr with drawn := wr.drawn + 1 }) := (Below.refl _ _).drew
              generalize ({ wr with drawn := wr.drawn + 1 } : World) = v7 at *
              refine headT_read rfl (.pointer (some ⟨g, n * 8, none⟩)) (by go_simp) (fun V hV => by go_simp) ?_
              go_simp
              refine headT_read rfl (.pointer (some ⟨g, n * 8, none⟩)) (by go_simp) (fun V hV => by go_simp) ?_
              go_simp
              refine headT_read rfl (.pointer (some ⟨g, n * 8 + 6, none⟩)) (by go_simp) (fun V hV => by go_simp) ?_
              go_simp
              refine headT_read rfl (.int .i64 u2.task) (by go_simp) (fun V hV => by obtain ⟨y0, y1, y2, y3, y4, y5, y6, y7⟩ := hV; go_simp) ?_
              go_simp
              refine headT_read rfl (.bool true) (by go_simp) (fun V hV => by go_simp) ?_
              go_simp
              refine headT_read rfl (.bool true) (by go_simp) (fun V hV => by go_simp) ?_
              go_simp
              refine headT_read rfl (.pointer (some ⟨g, n * 8, none⟩)) (by go_simp) (fun V hV => by go_simp) ?_
              go_simp
              refine headT_read rfl (.pointer (some ⟨g, n * 8, none⟩)) (by go_simp) (fun V hV => by go_simp) ?_
              go_simp
              refine headT_read rfl (.pointer (some ⟨g, n * 8 + 3, none⟩)) (by go_simp) (fun V hV => by go_simp) ?_
              go_simp
              refine headT_read rfl (.int .i64 u2.at_) (by go_simp) (fun V hV => by obtain ⟨y0, y1, y2, y3, y4, y5, y6, y7⟩ := hV; go_simp) ?_
              go_simp
              refine headT_read rfl (.pointer (some ⟨g, n * 8, none⟩)) (by go_simp) (fun V hV => by go_simp) ?_
              go_simp
              refine headT_read rfl (.pointer (some ⟨g, n * 8, none⟩)) (by go_simp) (fun V hV => by go_simp) ?_
              go_simp
              refine headT_read rfl (.pointer (some ⟨g, n * 8 + 7, none⟩)) (by go_simp) (fun V hV => by go_simp) ?_
              go_simp
              refine headT_read rfl (.int .i64 u2.goal) (by go_simp) (fun V hV => by obtain ⟨y0, y1, y2, y3, y4, y5, y6, y7⟩ := hV; go_simp) ?_
              go_simp
              refine headT_read rfl (.bool false) (by go_simp) (fun V hV => by go_simp) ?_
              go_simp
              unfold wpHeadT
              refine sched_value rfl (.bool false) v7 (by go_simp) (by go_simp) trivial ?_
              go_simp
              unfold wpSched
              have U9 : Hid (Ub v7 g us2 rest) := U6.out.below D1.out U6.out.lt
              have P9 : Hid (Kp g w3 v7) := P6.out.trans (Kp.of D1.out)
              have E9 : Hid (Evo v7 w3.heap.size ev' evs2) := E6.out.below D1.out
              rw [EN.out, SELF.out] at MO2
              clear ht' hg'
              go_wp2
              go_round
              case rel => exact ⟨n + 1, us2, evs2, _, rfl, by go_num, by omega, H2.out.2.2.1, U9.out, E9.out, EL2.out, P9.out, MO2.out⟩
              case measure => simp [intOf]; omega
          · have ht' : (u2.task == 1) = false := by rw [beq_eq_false_iff_ne]; exact ht
            have EN : Hid (ends u2 = u2) := by unfold Hid ends; rw [if_neg (fun h => ht h.1)]
            rw [EN.out, SELF.out] at MO2
            clear ht
            go_quiet (fail)
            clear y0 y1 y2 y3 y4 y5 y6 y7
            go_wp2
            go_round
            case rel => exact ⟨n + 1, us2, evs2, _, rfl, by go_num, by omega, H2.out.2.2.1, U6.out.below (B := wr.heap.size) ⟨rfl, rfl, rfl, Nat.le_refl _, fun _ _ => rfl⟩ U6.out.lt, E6.out.below ⟨rfl, rfl, rfl, Nat.le_refl _, fun _ _ => rfl⟩, EL2.out, P6.out.trans (Kp.of ⟨rfl, rfl, rfl, Nat.le_refl _, fun _ _ => rfl⟩), MO2.out⟩
            case measure => simp [intOf]; omega
        · have hml : m < cells.length := by omega
          have hmi : ((m : Nat) : Int) < (cells.length : Nat) := by omega
          obtain ⟨x, hx⟩ : ∃ x, cells[m]? = some x := ⟨_, List.getElem?_eq_getElem hml⟩
          obtain ⟨a9, c9, h9, -, -, hcl⟩ := O6.out.ro
          obtain ⟨xc, hxc, -, hcc9⟩ := hcl (by intro h; rw [h] at hml; simp at hml)
          injection h9 with h91 h92 h93
          subst h91
          subst hxc
          have cx := hcc9 m x hx
          have WM : IntKind.i64.wrap ((m : Nat) + 1 : Int) = ((m : Nat) : Int) + 1 := by rw [IntKind.wrap_i64]; have := GO.out.2; omega
          obtain ⟨fs, hfs⟩ : ∃ l, evs ++ (cells.take m).map (fun c => (⟨1, u.id, c⟩ : EvV)) = l := ⟨_, rfl⟩
          have NX : Hid (evs ++ (cells.take (m + 1)).map (fun c => (⟨1, u.id, c⟩ : EvV)) = fs ++ [⟨1, u.id, x⟩]) := by
            unfold Hid
            obtain ⟨q1', q2'⟩ := List.getElem?_eq_some_iff.1 hx
            rw [List.take_succ_eq_append_getElem q1', q2', List.map_append, ← List.append_assoc, hfs]
            rfl
          have FSL : Hid (fs.length ≤ 1000) := by
            unfold Hid
            rw [← hfs, List.length_append, List.length_map, List.length_take]
            have := EL.out
            have := GO.out.2
            omega
          rw [hfs] at E6
          rw [H2.out.2.2.2.1] at y0
          clear hcl h92 h93 hcc9 hx hfs
          have BA : Hid (Below wr.heap.size wr (wr.alloc (Obj.cells #[.int .i64 1, .int .i64 u.id, .int .i64 x] 139))) := (Below.refl _ _).alloc (Nat.le_refl _) _
          have EC : Hid (Evc (wr.alloc (Obj.cells #[.int .i64 1, .int .i64 u.id, .int .i64 x] 139)) ⟨wr.heap.size, 0, none⟩ (⟨1, u.id, x⟩ : EvV)) := Evc.mk' (⟨1, u.id, x⟩ : EvV) rfl
          have E7 : Hid (Evo (wr.alloc (Obj.cells #[.int .i64 1, .int .i64 u.id, .int .i64 x] 139)) w3.heap.size ev' fs) := E6.out.below BA.out
          have SZ : Hid (w3.heap.size ≤ (wr.alloc (Obj.cells #[.int .i64 1, .int .i64 u.id, .int .i64 x] 139)).heap.size) := Nat.le_trans P6.out.size BA.out.size
          go_wp2_with (at_builtin; refine app_ev _ rfl _ _ rfl w3.heap.size _ fs rfl E7.out _ (⟨1, u.id, x⟩ : EvV) rfl EC.out (by have := FSL.out; omega) SZ.out ?_)
          intro gg gc v8 o8 g8 s8 _
          have E8 : Hid (Evo v8 w3.heap.size (.slice (some ⟨gg, 0, none⟩) (fs.length + 1) gc) (fs ++ [⟨1, u.id, x⟩])) := o8
          have P8 : Hid (Kp g w3 v8) := kp_gb (P6.out.trans (Kp.of BA.out)) g8 (fun b hb => (E7.out.block b hb).1)
          have U8 : Hid (Ub v8 g us2 rest) := by
            have h6 := U6.out.below BA.out U6.out.lt
            unfold Ub at h6
            unfold Hid Ub
            rw [g8.block g (lt_of_block h6) (fun e => by have := (E7.out.block g e.symm).1; have := GL.out; omega)]
            exact h6
          have O8 : Hid (Ow v8 bo (.slice (some xc) cells.length cc) cells) := own_gb (Ow.below O6.out BA.out) g8 (fun b h1 h2 => D6.out b h2 h1)
          have D8 : Hid (∀ b, (Value.slice (some ⟨gg, 0, none⟩) (fs.length + 1) gc).ownBlock = some b → (Value.slice (some xc) cells.length cc).ownBlock ≠ some b) := fun b h1 h2 => by
            have hgb : gg = b := by injection h1
            rcases s8 with s8 | s8
            · exact D6.out gg s8 (by rw [hgb]; exact h2)
            · have := (O6.out.block b h2).2
              have hw : gg = wr.heap.size + 1 := s8.trans (by simp)
              omega
          clear o8 g8 s8 BA EC E7 SZ y0 y1 y2 y3 y4 y5 y6 y7 cx
          go_wp2
          go_round
          case rel => exact ⟨m + 1, _, rfl, by go_num, by omega, U8.out, by rw [NX.out]; exact E8.out, P8.out, O8.out, D8.out⟩
          case measure => simp [intOf]; omega
end Go.Proofs.YtkejdkajfnaieaaGreatDoor

namespace Go.Proofs.YtkejdkajfnaieaaGreatDoor
open Wy
set_option linter.unusedVariables false

theorem far_self {nb : Nat → List Int} {st : Nat → Nat → Int} {t n : Nat} {l : List Int} (h : IsFar nb st t n l) (ht : t < n) : l.getD t 0 = 0 := by
  have hl : t < l.length := by rw [h.1]; exact ht
  have h1 := h.2 t _ (List.getElem?_eq_getElem hl)
  rw [List.getD_eq_getElem?_getD, List.getElem?_eq_getElem hl]
  show l[t] = 0
  rcases h1 with ⟨-, h1⟩ | ⟨h1, h2⟩
  · exact absurd Way.here (h1 0)
  · have := h2 0 Way.here
    have := h1.nonneg
    omega
/-- who rests wishes to be where it is. -/
theorem wish_rest {ks : List KV} {X : WV} {Wn Hn : Nat} {u : UnV} {k : KV} {c : Nat} (h : WishSays ks X Wn Hn u k c) (ht : u.task = 0) : u.at_ = (c : Nat) := by
  obtain ⟨an, bn, l, ha, haim, -, -, hh⟩ := h
  have hb : (bn : Int) = u.at_ := by
    rcases haim with ⟨-, h⟩ | ⟨h, -⟩ | ⟨h, -⟩
    · exact h
    · exact absurd ht h
    · rw [ht] at h; cases h
  rcases hh with ⟨-, rfl⟩ | ⟨-, h⟩
  · exact ha
  · rcases h with ⟨-, rfl⟩ | ⟨h, -⟩
    · exact ha
    · exact absurd (by omega) h
theorem goes_rest {ks : List KV} {X : WV} {Wn Hn : Nat} {k : KV} {i : Nat} {us us' : List UnV} {left : Int} {cells : List Int} {u : UnV} (hu : us[i]? = some u) (ht : u.task = 0) (h : Goes ks X Wn Hn k i us left cells us') : cells = [] ∧ us' = us := by
  cases h with
  | stop => exact ⟨rfl, rfl⟩
  | step hu' hw hg h1 h2 h3 =>
    rw [hu] at hu'
    injection hu' with hu'
    subst hu'
    have := List.any_eq_false.1 h2 u (List.mem_of_getElem? hu)
    rw [wish_rest hw ht] at this
    simp at this
theorem ends_rest {u : UnV} (ht : u.task = 0) : ends u = u := by
  unfold ends
  rw [if_neg]
  rintro ⟨h, -⟩
  rw [ht] at h; cases h
theorem moves_rest {ks : List KV} {X : WV} {Wn Hn : Nat} {n : Nat} {us us' : List UnV} {evs : List EvV} (h : Moves ks X Wn Hn n us evs us') : (∀ u ∈ us, u.task = 0) → evs = [] ∧ us' = us := by
  induction h with
  | done h => intro _; exact ⟨rfl, rfl⟩
  | unit hu hk hg h1 hm ih =>
    intro hr
    have htu := hr _ (List.mem_of_getElem? hu)
    obtain ⟨rfl, rfl⟩ := goes_rest hu htu hg
    rw [hu] at h1
    injection h1 with h1
    subst h1
    obtain ⟨hi, e⟩ := List.getElem?_eq_some_iff.1 hu
    rw [ends_rest htu, ← e, List.set_getElem_self] at ih
    obtain ⟨rfl, rfl⟩ := ih hr
    exact ⟨rfl, rfl⟩
/-- all rest. -/
def rst (u : UnV) : UnV := { u with task := 0, goal := 0 }
def restW (X : WV) : WV := { X with us := X.us.map rst }
def restN (us : List UnV) (n : Nat) : List UnV := (us.take n).map rst ++ us.drop n
theorem restN_zero (us : List UnV) : restN us 0 = us := by simp [restN]
theorem restN_all (us : List UnV) : restN us us.length = us.map rst := by simp [restN]
theorem restN_len (us : List UnV) (n : Nat) : (restN us n).length = us.length := by
  unfold restN
  rw [List.length_append, List.length_map, List.length_take, List.length_drop]
  omega
theorem restN_at {us : List UnV} {n : Nat} {u : UnV} (hu : us[n]? = some u) : (restN us n)[n]? = some u := by
  have hn : n < us.length := (List.getElem?_eq_some_iff.1 hu).1
  unfold restN
  have h1 : ((us.take n).map rst).length = n := by rw [List.length_map, List.length_take]; omega
  rw [List.getElem?_append_right (by omega), h1, Nat.sub_self, List.getElem?_drop, Nat.add_zero]
  exact hu
theorem restN_next {us : List UnV} {n : Nat} {u : UnV} (hu : us[n]? = some u) : (restN us n).set n (rst u) = restN us (n + 1) := by
  obtain ⟨hn, e1⟩ := List.getElem?_eq_some_iff.1 hu
  have h1 : ((us.take n).map rst).length = n := by rw [List.length_map, List.length_take]; omega
  unfold restN
  rw [List.set_append_right _ _ (by omega), h1, Nat.sub_self, List.drop_eq_getElem_cons hn, List.set_cons_zero, List.take_succ_eq_append_getElem hn, e1, List.map_append]
  simp
theorem rest_right {ks : List KV} {X : WV} (h : WRight ks X) : Wd.wfault ks (restW X) = 0 := by
  obtain ⟨Wm, Hm, e1, e2, G⟩ := h.good
  have hgp : 0 < X.gs.length := by rw [G.gl]; exact Nat.mul_pos G.w1 G.h1
  refine Wd.wfault_zero h.kinds (by show Fd.fault X.wide X.high X.gs X.os = 0; rw [e1, e2]; exact Fd.fault_good G) h.nums (by show (X.us.map rst).length ≤ 40; rw [List.length_map]; exact h.ul) ?_ h.ql ?_
  · intro i y hy
    have hy' : (X.us.map rst)[i]? = some y := hy
    rw [List.getElem?_map] at hy'
    cases hu : X.us[i]? with
    | none => rw [hu] at hy'; cases hy'
    | some u =>
      rw [hu] at hy'
      injection hy' with hy'
      subst hy'
      obtain ⟨k, f⟩ := h.fine hu
      refine ⟨k, f.id1, f.id2, ?_, f.p, f.k0, f.kk, f.life, f.load, ⟨Int.le_refl _, by show (0 : Int) ≤ 2; decide⟩, f.at_, ⟨Int.le_refl _, by show (0 : Int) < _; exact Int.ofNat_lt.2 hgp⟩, ?_, .inl rfl⟩
      · show Wd.notAbove (X.us.map rst) i (rst u) = false
        have hup := f.up
        cases i with
        | zero => rfl
        | succ i =>
          simp only [Wd.notAbove] at hup ⊢
          rw [List.getElem?_map]
          cases hx : X.us[i]? with
          | none => rfl
          | some x =>
            rw [hx] at hup
            exact hup
      · have ho := f.opn
        show Wd.open_ X.gs ((X.us.map rst).take i) u.at_ k.f = true
        unfold Wd.open_ at ho ⊢
        rw [← List.map_take, List.any_map]
        exact ho
  · intro j hj
    have hx := h.job hj
    unfold Wd.jobFault at hx ⊢
    show (match (X.us.map rst).find? (fun u => u.id == j.unit) with | none => (6 : Int) | some u => _) = 0
    rw [List.find?_map]
    have hc : ((fun u : UnV => u.id == j.unit) ∘ rst) = (fun u : UnV => u.id == j.unit) := rfl
    rw [hc]
    cases hf : X.us.find? (fun u => u.id == j.unit) with
    | none => rw [hf] at hx; cases hx
    | some u => rw [hf] at hx; exact hx
/-- one that marches wishes to its Goal no further than it is. -/
theorem wish_march {ks : List KV} {X : WV} {Wn Hn : Nat} {u : UnV} {k : KV} {c an gn : Nat} {lf : List Int} (h : WishSays ks X Wn Hn u k c) (ht : u.task = 1) (ha : u.at_ = (an : Nat)) (hg : u.goal = (gn : Nat)) (han : an < Wn * Hn) (hgn : gn < Wn * Hn)
    (hl : IsFar (Fd.near Wn Hn) (fun _ j => (X.gs.map fun g => Fd.onto g k.f).getD j 0) gn (Wn * Hn) lf) : (lf.getD an 0 < 0 → c = an) ∧ (0 < lf.getD an 0 → lf.getD c 0 < lf.getD an 0) := by
  obtain ⟨an', bn, l, ha', haim, -, hl', hh⟩ := h
  have hb : (bn : Int) = u.goal := by
    rcases haim with ⟨h, -⟩ | ⟨-, -, h⟩ | ⟨h, -⟩
    · rw [ht] at h; cases h
    · exact h
    · rw [ht] at h; cases h
  obtain rfl : bn = gn := by omega
  obtain rfl : an' = an := by omega
  obtain rfl := IsFar.uniq hl'.1 hl
  rcases hh with ⟨h1, rfl⟩ | ⟨h1, h⟩
  · exact ⟨fun _ => rfl, fun h2 => by omega⟩
  · refine ⟨fun h2 => by omega, fun h2 => ?_⟩
    rcases h with ⟨rfl, -⟩ | ⟨-, h⟩
    · rw [far_self hl hgn] at h2; omega
    · have := h.is
      omega
end Go.Proofs.YtkejdkajfnaieaaGreatDoor

namespace Go.Proofs.YtkejdkajfnaieaaGreatDoor
open Wy
set_option linter.unusedVariables false

/-- what a unit keeps. -/
structure Stat (u v : UnV) : Prop where
  id : v.id = u.id
  player : v.player = u.player
  kind : v.kind = u.kind
  life : v.life = u.life
  load : v.load = u.load
  todo : (v.task = u.task ∧ v.goal = u.goal) ∨ (v.task = 0 ∧ v.goal = 0)
  rest : u.task = 0 → v = u
/-- what holds of all units while they move. -/
structure MInv (ks : List KV) (X : WV) (Wn Hn : Nat) (us : List UnV) : Prop where
  len : us.length = X.us.length
  unit : ∀ (j : Nat) (v : UnV), us[j]? = some v → ∃ u k gg, X.us[j]? = some u ∧ Stat u v ∧ ks[v.kind.toNat]? = some k ∧ 0 ≤ v.at_ ∧ v.at_ < (Wn * Hn : Nat) ∧ X.gs[v.at_.toNat]? = some gg ∧ 0 < Fd.onto gg k.f
  dist : ∀ (i j : Nat) (a b : UnV), us[i]? = some a → us[j]? = some b → a.at_ = b.at_ → i = j
theorem open_parts {gs : List Int} {ahead : List UnV} {a : Int} {fl : Bool} (h : Wd.open_ gs ahead a fl = true) : 0 < Fd.onto (gs.getD a.toNat 0) fl ∧ ∀ u ∈ ahead, u.at_ ≠ a := by
  unfold Wd.open_ at h
  rw [Bool.and_eq_true] at h
  refine ⟨of_decide_eq_true h.1, fun u hu e => ?_⟩
  have h2 := h.2
  rw [Bool.not_eq_true', List.any_eq_false] at h2
  exact h2 u hu (by simp [e])
theorem minv_start {ks : List KV} {X : WV} {Wn Hn : Nat} (h : WRight ks X) (G : Fd.Good Wn Hn X.gs X.os) : MInv ks X Wn Hn X.us := by
  refine ⟨rfl, fun j v hv => ?_, ?_⟩
  · obtain ⟨k, f⟩ := h.fine hv
    have ha := f.at_
    have hgl := G.gl
    have hl : v.at_.toNat < X.gs.length := by omega
    refine ⟨v, k, X.gs[v.at_.toNat], hv, ⟨rfl, rfl, rfl, rfl, rfl, .inl ⟨rfl, rfl⟩, fun _ => rfl⟩, f.kk, ha.1, by rw [← G.gl]; exact ha.2, List.getElem?_eq_getElem hl, ?_⟩
    have := (open_parts f.opn).1
    rw [List.getD_eq_getElem?_getD, List.getElem?_eq_getElem hl] at this
    exact this
  · have key : ∀ (i j : Nat) (a b : UnV), i < j → X.us[i]? = some a → X.us[j]? = some b → a.at_ ≠ b.at_ := fun i j a b hij ha hb => by
      obtain ⟨k, f⟩ := h.fine hb
      exact (open_parts f.opn).2 a (List.mem_of_getElem? (by rw [List.getElem?_take, if_pos hij]; exact ha))
    intro i j a b ha hb e
    rcases Nat.lt_trichotomy i j with hl | hl | hl
    · exact absurd e (key i j a b hl ha hb)
    · exact hl
    · exact absurd e.symm (key j i b a hl hb ha)
theorem minv_set {ks : List KV} {X : WV} {Wn Hn : Nat} {us : List UnV} {i : Nat} {u v : UnV} (h : MInv ks X Wn Hn us) (hu : us[i]? = some u) (hs : ∀ u0, X.us[i]? = some u0 → Stat u0 u → Stat u0 v)
    (ha : (v.at_ = u.at_) ∨ (∃ k gg, ks[v.kind.toNat]? = some k ∧ 0 ≤ v.at_ ∧ v.at_ < (Wn * Hn : Nat) ∧ X.gs[v.at_.toNat]? = some gg ∧ 0 < Fd.onto gg k.f ∧ us.any (fun o => o.at_ == v.at_) = false)) (hk : v.kind = u.kind) : MInv ks X Wn Hn (us.set i v) := by
  have hil : i < us.length := (List.getElem?_eq_some_iff.1 hu).1
  refine ⟨by rw [List.length_set]; exact h.len, fun j x hx => ?_, fun a b p q hp hq e => ?_⟩
  · by_cases hij : i = j
    · subst hij
      rw [List.getElem?_set_self hil] at hx
      injection hx with hx
      subst hx
      obtain ⟨u0, k0, g0, h1, h2, h3, h4, h5, h6, h7⟩ := h.unit i u hu
      rcases ha with ha | ⟨k, gg, a1, a2, a3, a4, a5, -⟩
      · exact ⟨u0, k0, g0, h1, hs u0 h1 h2, by rw [hk]; exact h3, by rw [ha]; exact h4, by rw [ha]; exact h5, by rw [ha]; exact h6, h7⟩
      · exact ⟨u0, k, gg, h1, hs u0 h1 h2, a1, a2, a3, a4, a5⟩
    · rw [List.getElem?_set_ne hij] at hx
      exact h.unit j x hx
  · have other : ∀ (j : Nat) (o : UnV), i ≠ j → us[j]? = some o → o.at_ ≠ v.at_ := fun j o hne ho e => by
      rcases ha with ha | ⟨k, gg, -, -, -, -, -, a6⟩
      · exact hne (h.dist i j u o hu ho (by rw [← ha, e]))
      · have := List.any_eq_false.1 a6 o (List.mem_of_getElem? ho)
        simp [e] at this
    by_cases hia : i = a
    · by_cases hib : i = b
      · omega
      · rw [List.getElem?_set_ne hib] at hq
        subst hia
        rw [List.getElem?_set_self hil] at hp
        injection hp with hp
        subst hp
        exact absurd e.symm (other b q hib hq)
    · rw [List.getElem?_set_ne hia] at hp
      by_cases hib : i = b
      · subst hib
        rw [List.getElem?_set_self hil] at hq
        injection hq with hq
        subst hq
        exact absurd e (other a p hia hp)
      · rw [List.getElem?_set_ne hib] at hq
        exact h.dist a b p q hp hq e
theorem minv_goes {ks : List KV} {X : WV} {Wn Hn : Nat} {k : KV} {i : Nat} {us us' : List UnV} {left : Int} {cells : List Int} (G : Fd.Good Wn Hn X.gs X.os) (h : Goes ks X Wn Hn k i us left cells us') : ∀ u, us[i]? = some u → ks[u.kind.toNat]? = some k → MInv ks X Wn Hn us → MInv ks X Wn Hn us' := by
  induction h with
  | stop => intro u _ _ h; exact h
  | @step us us' left u0 c gg cells hu hw hg h1 h2 h3 ih =>
    intro u hu' hk hm
    rw [hu] at hu'
    injection hu' with hu'
    subst hu'
    have hil : i < us.length := (List.getElem?_eq_some_iff.1 hu).1
    have hne : u0.at_ ≠ (c : Nat) := by
      have := List.any_eq_false.1 h2 u0 (List.mem_of_getElem? hu)
      simpa using this
    have hcl : c < Wn * Hn := by rw [← G.gl]; exact (List.getElem?_eq_some_iff.1 hg).1
    refine ih { u0 with at_ := (c : Nat) } (List.getElem?_set_self hil) hk (minv_set hm hu (fun u1 _ hs => ?_) (.inr ⟨k, gg, hk, by show (0 : Int) ≤ (c : Nat); omega, by show ((c : Nat) : Int) < _; omega, by show X.gs[((c : Nat) : Int).toNat]? = some gg; rw [Int.toNat_natCast]; exact hg, wish_pos hw hg hne, h2⟩) rfl)
    refine ⟨hs.id, hs.player, hs.kind, hs.life, hs.load, hs.todo, fun ht => ?_⟩
    have hr : u0.task = 0 := by rw [hs.rest ht]; exact ht
    exact absurd (wish_rest hw hr) hne
theorem goes_len {ks : List KV} {X : WV} {Wn Hn : Nat} {k : KV} {i : Nat} {us us' : List UnV} {left : Int} {cells : List Int} (h : Goes ks X Wn Hn k i us left cells us') : ∀ u, us[i]? = some u → ∃ v, us'[i]? = some v ∧ v.id = u.id ∧ v.kind = u.kind := by
  induction h with
  | stop => intro u hu; exact ⟨u, hu, rfl, rfl⟩
  | @step us us' left u0 c gg cells hu hw hg h1 h2 h3 ih =>
    intro u hu'
    rw [hu] at hu'
    injection hu' with hu'
    subst hu'
    exact ih { u0 with at_ := (c : Nat) } (List.getElem?_set_self (List.getElem?_eq_some_iff.1 hu).1)
theorem ends_stat {u v : UnV} (h : Stat u v) : Stat u (ends v) := by
  unfold ends
  split
  · rename_i hc
    refine ⟨h.id, h.player, h.kind, h.life, h.load, .inr ⟨rfl, rfl⟩, fun ht => ?_⟩
    have := h.rest ht
    rw [this, ht] at hc
    exact absurd hc.1 (by decide)
  · exact h
theorem ends_at (u : UnV) : (ends u).at_ = u.at_ ∧ (ends u).kind = u.kind := by
  unfold ends
  split <;> exact ⟨rfl, rfl⟩
theorem minv_moves {ks : List KV} {X : WV} {Wn Hn : Nat} {n : Nat} {us us' : List UnV} {evs : List EvV} (G : Fd.Good Wn Hn X.gs X.os) (h : Moves ks X Wn Hn n us evs us') : MInv ks X Wn Hn us → MInv ks X Wn Hn us' := by
  induction h with
  | done h => intro hm; exact hm
  | unit hu hk hg h1 hm ih =>
    intro hi
    have h2 := minv_goes G hg _ hu hk hi
    exact ih (minv_set h2 h1 (fun u0 _ hs => ends_stat hs) (.inl (ends_at _).1) (ends_at _).2)
theorem minv_right {ks : List KV} {X : WV} {Wn Hn : Nat} {us : List UnV} (h : WRight ks X) (G : Fd.Good Wn Hn X.gs X.os) (e1 : X.wide = (Wn : Nat)) (e2 : X.high = (Hn : Nat)) (hm : MInv ks X Wn Hn us) : Wd.wfault ks { X with us := us } = 0 := by
  have hgp : 0 < X.gs.length := by rw [G.gl]; exact Nat.mul_pos G.w1 G.h1
  refine Wd.wfault_zero h.kinds (by show Fd.fault X.wide X.high X.gs X.os = 0; rw [e1, e2]; exact Fd.fault_good G) h.nums (by show us.length ≤ 40; rw [hm.len]; exact h.ul) ?_ h.ql ?_
  · intro i v hv
    have hv' : us[i]? = some v := hv
    obtain ⟨u, k, gg, hu, hs, hk, ha0, ha1, hgg, hon⟩ := hm.unit i v hv'
    obtain ⟨k0, f⟩ := h.fine hu
    obtain rfl : k0 = k := by
      have := f.kk
      rw [← hs.kind, hk] at this
      injection this with this
      exact this.symm
    refine ⟨k0, by rw [hs.id]; exact f.id1, by rw [hs.id]; exact f.id2, ?_, by rw [hs.player]; exact f.p, by rw [hs.kind]; exact f.k0, hk, by rw [hs.life]; exact f.life, by rw [hs.load]; exact f.load, ?_, ⟨ha0, by show v.at_ < (X.gs.length : Int); rw [G.gl]; exact ha1⟩, ?_, ?_, ?_⟩
    · show Wd.notAbove us i v = false
      have hup := f.up
      cases i with
      | zero => rfl
      | succ i =>
        simp only [Wd.notAbove] at hup ⊢
        cases hx : us[i]? with
        | none => rfl
        | some x =>
          obtain ⟨x0, -, -, hx0, hsx, -⟩ := hm.unit i x hx
          rw [hx0] at hup
          show decide (v.id ≤ x.id) = false
          rw [hs.id, hsx.id]
          exact hup
    · rcases hs.todo with ⟨t1, -⟩ | ⟨t1, -⟩
      · rw [t1]; exact f.task
      · rw [t1]; exact ⟨Int.le_refl _, by decide⟩
    · show 0 ≤ v.goal ∧ v.goal < (X.gs.length : Int)
      rcases hs.todo with ⟨-, t1⟩ | ⟨-, t1⟩
      · rw [t1]; exact f.goal
      · rw [t1]; exact ⟨Int.le_refl _, Int.ofNat_lt.2 hgp⟩
    · show Wd.open_ X.gs (us.take i) v.at_ k0.f = true
      unfold Wd.open_
      rw [Bool.and_eq_true]
      refine ⟨decide_eq_true (by rw [List.getD_eq_getElem?_getD, hgg]; exact hon), ?_⟩
      rw [Bool.not_eq_true', List.any_eq_false]
      intro p hp e
      obtain ⟨j, hj⟩ := List.mem_iff_getElem?.1 hp
      have hjl : j < i := by
        have := (List.getElem?_eq_some_iff.1 hj).1
        rw [List.length_take] at this
        omega
      rw [List.getElem?_take, if_pos hjl] at hj
      have := hm.dist j i p v hj hv' (by simpa using e)
      omega
    · rcases hs.todo with ⟨t1, t2⟩ | ⟨-, t2⟩
      · rw [t1, t2]; exact f.rest
      · exact .inl t2
  · intro j hj
    have hx := h.job hj
    cases hf : X.us.find? (fun u => u.id == j.unit) with
    | none =>
      unfold Wd.jobFault at hx
      rw [hf] at hx
      cases hx
    | some u1 =>
      have hm1 := List.mem_of_find?_eq_some hf
      have hi1 : u1.id = j.unit := by simpa using List.find?_some hf
      obtain ⟨j1, hj1⟩ := List.mem_iff_getElem?.1 hm1
      have hl1 : j1 < us.length := by rw [hm.len]; exact (List.getElem?_eq_some_iff.1 hj1).1
      obtain ⟨v1, hv1⟩ : ∃ v, us[j1]? = some v := ⟨_, List.getElem?_eq_getElem hl1⟩
      obtain ⟨x1, -, -, hx1, hs1, -⟩ := hm.unit j1 v1 hv1
      rw [hj1] at hx1
      injection hx1 with hx1
      subst hx1
      have hsome : (us.find? (fun u => u.id == j.unit)).isSome = true := List.find?_isSome.2 ⟨v1, List.mem_of_getElem? hv1, by simp [hs1.id, hi1]⟩
      obtain ⟨y0, hy0⟩ := Option.isSome_iff_exists.1 hsome
      obtain ⟨j0, hj0⟩ := List.mem_iff_getElem?.1 (List.mem_of_find?_eq_some hy0)
      have hi0 : y0.id = j.unit := by simpa using List.find?_some hy0
      obtain ⟨x0, -, -, hx0, hs0, -⟩ := hm.unit j0 y0 hj0
      have := id_one h hx0 hj1 (by rw [← hs0.id, hi0, hi1])
      subst this
      rw [hx0] at hj1
      injection hj1 with hj1
      subst hj1
      unfold Wd.jobFault at hx ⊢
      rw [hf] at hx
      have hy1 : ({ X with us := us } : WV).us.find? (fun u => u.id == j.unit) = some y0 := hy0
      rw [hy1]
      simp only [hs0.kind, hs0.player]
      exact hx

/-- the events, one behind the other: what is left, where all are. -/
inductive Track (ks : List KV) (X : WV) (Wn Hn : Nat) : List Int → List Int → List EvV → List Int → Prop where
  | nil {l a : List Int} : Track ks X Wn Hn l a [] a
  | cons {l a a' : List Int} {e : EvV} {evs : List EvV} {n an c : Nat} {u : UnV} {k : KV} {gg ln : Int} (hu : X.us[n]? = some u) (hi : u.id = e.unit) (hw : e.what = 1) (hk : ks[u.kind.toNat]? = some k) (ha : a[n]? = some (an : Int)) (han : an < Wn * Hn) (he : e.arg = (c : Nat)) (hn : (c : Int) ∈ Fd.near Wn Hn an) (hg : X.gs[c]? = some gg) (hs : 1 ≤ Fd.onto gg k.f) (hl : l[n]? = some ln) (h0 : 0 ≤ ln - Fd.onto gg k.f ∧ ln ≤ 4) (h : Track ks X Wn Hn (l.set n (ln - Fd.onto gg k.f)) (a.set n (c : Nat)) evs a') : Track ks X Wn Hn l a (e :: evs) a'
theorem wish_near {ks : List KV} {X : WV} {Wn Hn : Nat} {u : UnV} {k : KV} {c : Nat} (h : WishSays ks X Wn Hn u k c) (hc : u.at_ ≠ (c : Nat)) : (c : Int) ∈ Fd.near Wn Hn u.at_.toNat := by
  obtain ⟨an, bn, l, ha, -, -, -, hh⟩ := h
  rw [ha, Int.toNat_natCast]
  rcases hh with ⟨-, rfl⟩ | ⟨-, h⟩
  · exact absurd ha hc
  · rcases h with ⟨-, rfl⟩ | ⟨-, h⟩
    · exact absurd ha hc
    · exact h.is.1
theorem map_at_set {us : List UnV} {i : Nat} {u : UnV} {c : Int} : (us.set i { u with at_ := c }).map UnV.at_ = (us.map UnV.at_).set i c := by
  rw [List.map_set]
theorem goes_track {ks : List KV} {X : WV} {Wn Hn : Nat} {k : KV} {i : Nat} {us us' : List UnV} {left : Int} {cells : List Int} (G : Fd.Good Wn Hn X.gs X.os) (h : Goes ks X Wn Hn k i us left cells us') : ∀ (u : UnV) (l : List Int) (evs : List EvV) (a' : List Int), us[i]? = some u → ks[u.kind.toNat]? = some k → MInv ks X Wn Hn us → l[i]? = some left → left ≤ 4 → (∀ x, Track ks X Wn Hn (l.set i x) (us'.map UnV.at_) evs a') → Track ks X Wn Hn l (us.map UnV.at_) (cells.map (fun c => (⟨1, u.id, c⟩ : EvV)) ++ evs) a' := by
  induction h with
  | @stop us left u c gg hu hw hg h =>
    intro u l evs a' hu hk hm hl h4 ht
    have := ht left
    rw [show l.set i left = l by
      obtain ⟨h2, h3⟩ := List.getElem?_eq_some_iff.1 hl
      rw [← h3, List.set_getElem_self]] at this
    exact this
  | @step us us' left u0 c gg cells hu hw hg h1 h2 h3 ih =>
    intro u l evs a' hu' hk hm hl h4 ht
    rw [hu] at hu'
    injection hu' with hu'
    subst hu'
    have hil : i < us.length := (List.getElem?_eq_some_iff.1 hu).1
    have hll : i < l.length := (List.getElem?_eq_some_iff.1 hl).1
    have hne : u0.at_ ≠ (c : Nat) := by
      have := List.any_eq_false.1 h2 u0 (List.mem_of_getElem? hu)
      simpa using this
    have hpos := wish_pos hw hg hne
    obtain ⟨x0, k0, g0, hx0, hs0, hk0, ha0, ha1, -, -⟩ := hm.unit i u0 hu
    have hm2 : MInv ks X Wn Hn (us.set i { u0 with at_ := (c : Nat) }) := by
      have hcl : c < Wn * Hn := by rw [← G.gl]; exact (List.getElem?_eq_some_iff.1 hg).1
      refine minv_set hm hu (fun u1 _ hs => ?_) (.inr ⟨k, gg, hk, by show (0 : Int) ≤ (c : Nat); omega, by show ((c : Nat) : Int) < _; omega, by show X.gs[((c : Nat) : Int).toNat]? = some gg; rw [Int.toNat_natCast]; exact hg, hpos, h2⟩) rfl
      refine ⟨hs.id, hs.player, hs.kind, hs.life, hs.load, hs.todo, fun ht => ?_⟩
      have hr : u0.task = 0 := by rw [hs.rest ht]; exact ht
      exact absurd (wish_rest hw hr) hne
    have hr := ih { u0 with at_ := (c : Nat) } (l.set i (left - Fd.onto gg k.f)) evs a' (List.getElem?_set_self hil) hk hm2 (List.getElem?_set_self hll) (by omega) (fun x => by rw [List.set_set]; exact ht x)
    rw [map_at_set] at hr
    have han : u0.at_.toNat < Wn * Hn := by omega
    refine .cons (e := ⟨1, u0.id, (c : Nat)⟩) (n := i) (an := u0.at_.toNat) (c := c) (u := x0) (k := k) (gg := gg) (ln := left) hx0 hs0.id.symm rfl (by rw [← hs0.kind]; exact hk) ?_ han rfl (wish_near hw hne) hg (by omega) hl ⟨by omega, h4⟩ hr
    rw [List.getElem?_map, hu]
    show some u0.at_ = some ((u0.at_.toNat : Nat) : Int)
    rw [Int.toNat_of_nonneg ha0]
/-- how far a unit gets. -/
def spdOf (ks : List KV) (u : UnV) : Int := match ks[u.kind.toNat]? with
  | none => 0
  | some k => k.n4
theorem moves_track {ks : List KV} {X : WV} {Wn Hn : Nat} {n : Nat} {us us' : List UnV} {evs : List EvV} (G : Fd.Good Wn Hn X.gs X.os) (hkn : Kd.kindsFault (ks.map KV.k) = 0) (h : Moves ks X Wn Hn n us evs us') : ∀ (l : List Int), MInv ks X Wn Hn us → l.length = us.length → (∀ (j : Nat) (u : UnV), n ≤ j → us[j]? = some u → l[j]? = some (spdOf ks u)) → Track ks X Wn Hn l (us.map UnV.at_) evs (us'.map UnV.at_) := by
  induction h with
  | done h => intro l _ _ _; exact .nil
  | @unit n us us1 us' u u1 k cells evs hu hk hg h1 hm ih =>
    intro l hi hl hs
    have hln := hs n u (Nat.le_refl _) hu
    have hsp : spdOf ks u = k.n4 := by unfold spdOf; rw [hk]
    rw [hsp] at hln
    have hm1 := minv_goes G hg _ hu hk hi
    have hm2 := minv_set hm1 h1 (fun u0 _ hs => ends_stat hs) (.inl (ends_at u1).1) (ends_at u1).2
    have hnum := kind_nums hkn (List.mem_of_getElem? hk)
    refine goes_track G hg u l evs _ hu hk hi hln (by omega) (fun x => ?_)
    have hself : (us1.set n (ends u1)).map UnV.at_ = us1.map UnV.at_ := by
      rw [List.map_set, (ends_at u1).1]
      apply List.ext_getElem?
      intro j
      by_cases hj : n = j
      · subst hj
        rw [List.getElem?_set_self (by rw [List.length_map]; exact (List.getElem?_eq_some_iff.1 h1).1), List.getElem?_map, h1]
        rfl
      · rw [List.getElem?_set_ne hj]
    have := ih (l.set n x) hm2 (by rw [List.length_set, List.length_set, hl, hi.len, hm1.len]) (fun j v hj hv => ?_)
    · rw [hself] at this
      exact this
    · have hnj : n ≠ j := by omega
      rw [List.getElem?_set_ne hnj] at hv ⊢
      obtain ⟨x0, -, -, hx0, hs0, -⟩ := hm1.unit j v hv
      have hjl : j < us.length := by rw [hi.len]; exact (List.getElem?_eq_some_iff.1 hx0).1
      obtain ⟨v0, hv0⟩ : ∃ v, us[j]? = some v := ⟨_, List.getElem?_eq_getElem hjl⟩
      obtain ⟨x0', -, -, hx0', hs0', -⟩ := hi.unit j v0 hv0
      rw [hx0] at hx0'
      injection hx0' with hx0'
      subst hx0'
      rw [hs j v0 (by omega) hv0]
      unfold spdOf
      rw [hs0.kind, hs0'.kind]
end Go.Proofs.YtkejdkajfnaieaaGreatDoor

namespace Go.Proofs.YtkejdkajfnaieaaGreatDoor
open Go.RowKit

set_option maxHeartbeats 400000 in
theorem within_yes (x m : Int) (w : World) (h1 : -m ≤ x) (h2 : x ≤ m) (m0 : 0 ≤ m) (m1 : m ≤ 2000000000000) :
    Calls Tryz.prog 228 #[.int .i64 x, .int .i64 m] w fun e w' => e = .returned (.bool true) ∧ w' = w := by
  go_enter Tryz.func228, Tryz.ntmps228
  go_wp2
  go_ret
  exact ⟨rfl, rfl⟩

set_option maxHeartbeats 400000 in
theorem within_no (x m : Int) (w : World) (h : x < -m ∨ m < x) (m0 : 0 ≤ m) (m1 : m ≤ 2000000000000) :
    Calls Tryz.prog 228 #[.int .i64 x, .int .i64 m] w fun e w' => e = .returned (.bool false) ∧ w' = w := by
  rcases h with h | h
  · have h' : ¬ -m ≤ x := by omega
    go_enter Tryz.func228, Tryz.ntmps228
    go_wp2
    go_ret
    exact ⟨rfl, rfl⟩
  · have h' : -m ≤ x := by omega
    have h'' : ¬ x ≤ m := by omega
    go_enter Tryz.func228, Tryz.ntmps228
    go_wp2
    go_ret
    exact ⟨rfl, rfl⟩

end Go.Proofs.YtkejdkajfnaieaaGreatDoor

namespace Go.Proofs.YtkejdkajfnaieaaGreatDoor.Ma

/-- r is the root of n, rounded down. -/
def Sq (r n : Int) : Prop := 0 ≤ r ∧ r * r ≤ n ∧ n < (r + 1) * (r + 1)

def pw (k : Nat) : Int := 2 ^ k

theorem pw_zero : pw 0 = 1 := rfl
theorem pw_succ (k : Nat) : pw (k + 1) = 2 * pw k := by unfold pw; rw [Int.pow_succ]; omega
theorem pw_pos (k : Nat) : 1 ≤ pw k := by
  induction k with
  | zero => rw [pw_zero]; omega
  | succ k ih => rw [pw_succ]; omega
theorem pw_mono (a b : Nat) (h : a ≤ b) : pw a ≤ pw b := by
  induction b with
  | zero => have : a = 0 := by omega
            subst this; exact Int.le_refl _
  | succ b ih =>
    by_cases e : a = b + 1
    · subst e; exact Int.le_refl _
    · have := ih (by omega)
      have p := pw_pos b
      rw [pw_succ]; omega
theorem pw_32 : pw 32 = 4294967296 := by unfold pw; decide

theorem mul_mono (a b : Int) (h0 : 0 ≤ a) (h : a ≤ b) : a * a ≤ b * b :=
  Int.mul_le_mul h h h0 (by omega)

theorem sq_expand (r d : Int) : (r + d) * (r + d) = r * r + 2 * (r * d) + d * d := by
  rw [Int.add_mul, Int.mul_add, Int.mul_add, Int.mul_comm d r]; omega

theorem lt_of_sq (a b : Int) (h0 : 0 ≤ b) (h : a * a < b * b) : a < b := by
  by_cases hc : a < b
  · exact hc
  · have := mul_mono b a h0 (by omega)
    omega

theorem le_of_sq (a b : Int) (h0 : 0 ≤ b) (h : a * a ≤ b * b) : a ≤ b := by
  have e := sq_expand b 1
  have : a < b + 1 := lt_of_sq a (b + 1) (by omega) (by omega)
  omega

theorem sq_uniq (r s n : Int) (h : Sq r n) (k : Sq s n) : r = s := by
  obtain ⟨h0, h1, h2⟩ := h
  obtain ⟨k0, k1, k2⟩ := k
  have a := lt_of_sq r (s + 1) (by omega) (by omega)
  have b := lt_of_sq s (r + 1) (by omega) (by omega)
  omega

theorem sq_self (m : Int) (h : 0 ≤ m) : Sq m (m * m) := by
  have e := sq_expand m 1
  exact ⟨h, Int.le_refl _, by omega⟩

/-- a root of an int is below this. -/
theorem root_small (r n : Int) (h : r * r ≤ n) (hn : n ≤ 9223372036854775807) : r ≤ 3037000499 := by
  have := lt_of_sq r 3037000500 (by omega) (by omega)
  omega

theorem test_iff (x n : Int) (hx : 0 < x) : x ≤ n / x ↔ x * x ≤ n := Int.le_ediv_iff_mul_le hx

end Go.Proofs.YtkejdkajfnaieaaGreatDoor.Ma

namespace Go.Proofs.YtkejdkajfnaieaaGreatDoor
open Go.RowKit

set_option maxHeartbeats 400000 in
theorem root_neg (n : Int) (w : World) (h : n < 0) :
    Calls Tryz.prog 229 #[.int .i64 n] w fun e w' => e = .returned (.tuple #[.int .i64 0, .iface 97 (.int .i64 1)]) ∧ w' = w := by
  go_enter Tryz.func229, Tryz.ntmps229
  go_wp2
  go_ret2
  exact ⟨rfl, rfl⟩

theorem half_pw (k : Nat) : Ma.pw (k + 1) / 2 = Ma.pw k := by rw [Ma.pw_succ]; omega

set_option maxHeartbeats 400000 in
theorem root_any (n : Int) (w : World) (h0 : 0 ≤ n) (h1 : n ≤ 9223372036854775807) :
    Calls Tryz.prog 229 #[.int .i64 n] w fun e w' => ∃ r, Ma.Sq r n ∧ e = .returned (.tuple #[.int .i64 r, .nilIface]) ∧ w' = w := by
  go_enter Tryz.func229, Tryz.ntmps229
  go_wp2
  go_loop [4, 5] (fun root bit => ∃ (k : Nat) (r b : Int), k ≤ 32 ∧ root = .int .i64 r ∧ bit = .int .i64 b ∧ b = Ma.pw k / 2 ∧ 0 ≤ r ∧ r * r ≤ n ∧ n < (r + Ma.pw k) * (r + Ma.pw k)) (fun _ bit => (intOf bit).toNat)
  case atStart => exact ⟨32, 0, 2147483648, by omega, rfl, rfl, by rw [Ma.pw_32]; omega, by omega, by omega, by rw [Ma.pw_32]; omega⟩
  case round =>
    obtain ⟨k, r, b, hk, rfl, rfl, hb, hr, hl, hu⟩ := hrel
    by_cases hz : k = 0
    · subst hz
      have hb0 : b = 0 := by rw [hb, Ma.pw_zero]; omega
      subst hb0
      clear hb
      rw [Ma.pw_zero] at hu
      go_wp2
      go_ret2
      exact ⟨r, ⟨hr, hl, hu⟩, rfl, rfl⟩
    · obtain ⟨j, rfl⟩ : ∃ j, k = j + 1 := ⟨k - 1, by omega⟩
      have hp := Ma.pw_pos j
      have hq := Ma.pw_mono j 31 (by omega)
      have e31 : Ma.pw 31 = 2147483648 := by unfold Ma.pw; decide
      rw [e31] at hq
      clear e31
      rw [half_pw] at hb
      rw [Ma.pw_succ] at hu
      have hb1 : 0 < b := by omega
      have hb2 : b ≤ 2147483648 := by omega
      have hr2 := Ma.root_small r n hl h1
      have hsum : r + 2 * Ma.pw j = r + b + b := by omega
      rw [hsum] at hu
      clear hsum
      have Hb : Hid (b = Ma.pw j) := hb
      have HH : Hid (b / 2 = Ma.pw j / 2) := by rw [hb]; rfl
      clear hb hp hq
      have Hu : Hid (n < (r + b + b) * (r + b + b)) := hu
      have Hl : Hid (r * r ≤ n) := hl
      clear hu hl
      by_cases ht : r + b ≤ n / (r + b)
      · have Ht : Hid ((r + b) * (r + b) ≤ n) := (Ma.test_iff (r + b) n (by omega)).1 ht
        go_wp2
        go_round
        case rel => exact ⟨j, r + b, b / 2, by omega, rfl, rfl, HH, by omega, Ht, by rw [← Hb]; exact Hu⟩
        case measure => simp [intOf]; omega
      · have Ht : Hid (n < (r + b) * (r + b)) := by
          have := mt (Ma.test_iff (r + b) n (by omega)).2 ht
          unfold Hid; omega
        go_wp2
        go_round
        case rel => exact ⟨j, r, b / 2, by omega, rfl, rfl, HH, by omega, Hl, by rw [← Hb]; exact Ht⟩
        case measure => simp [intOf]; omega

end Go.Proofs.YtkejdkajfnaieaaGreatDoor

namespace Go.Proofs.YtkejdkajfnaieaaGreatDoor
open Go.RowKit

def In6 (x : Int) : Prop := -1000000 ≤ x ∧ x ≤ 1000000

section
variable (a b c d : Int) (w : World)
theorem idx0 : (Instr.index 282 (.agg #[.int .i64 a, .int .i64 b, .int .i64 c, .int .i64 d]) (.int .i64 0)).run Tryz.prog w = .ok (.int .i64 a) w := by kernel_rfl
theorem idx1 : (Instr.index 282 (.agg #[.int .i64 a, .int .i64 b, .int .i64 c, .int .i64 d]) (.int .i64 1)).run Tryz.prog w = .ok (.int .i64 b) w := by kernel_rfl
theorem idx2 : (Instr.index 282 (.agg #[.int .i64 a, .int .i64 b, .int .i64 c, .int .i64 d]) (.int .i64 2)).run Tryz.prog w = .ok (.int .i64 c) w := by kernel_rfl
theorem idx3 : (Instr.index 282 (.agg #[.int .i64 a, .int .i64 b, .int .i64 c, .int .i64 d]) (.int .i64 3)).run Tryz.prog w = .ok (.int .i64 d) w := by kernel_rfl
end

theorem sqb (x : Int) (h1 : -2000000 ≤ x) (h2 : x ≤ 2000000) : 0 ≤ x * x ∧ x * x ≤ 4000000000000 := by
  rcases Int.le_total 0 x with h | h
  · exact ⟨Int.mul_nonneg h h, Ma.mul_mono x 2000000 h h2⟩
  · have e : x * x = (-x) * (-x) := by rw [Int.neg_mul_neg]
    rw [e]
    exact ⟨Int.mul_nonneg (by omega) (by omega), Ma.mul_mono (-x) 2000000 (by omega) (by omega)⟩

set_option maxHeartbeats 400000 in
theorem far_ok (a b c d : Int) (w : World) (ha : In6 a) (hb : In6 b) (hc : In6 c) (hd : In6 d) :
    Calls Tryz.prog 207 #[.int .i64 a, .int .i64 b, .int .i64 c, .int .i64 d] w fun e w' => ∃ r, Ma.Sq r ((a - c) * (a - c) + (b - d) * (b - d)) ∧ e = .returned (.tuple #[.int .i64 r, .nilIface]) ∧ w' = w := by
  obtain ⟨ha1, ha2⟩ := ha
  obtain ⟨hb1, hb2⟩ := hb
  obtain ⟨hc1, hc2⟩ := hc
  obtain ⟨hd1, hd2⟩ := hd
  have i0 := idx0 a b c d
  have i1 := idx1 a b c d
  have i2 := idx2 a b c d
  have i3 := idx3 a b c d
  go_enter Tryz.func207, Tryz.ntmps207
  go_wp2
  go_loop [19] (fun i => ∃ k : Nat, k ≤ 4 ∧ i = .int .i64 k) (fun i => 4 - (intOf i).toNat)
  case atStart => exact ⟨0, by omega, rfl⟩
  case round =>
    obtain ⟨k, hk, rfl⟩ := hrel
    match k, hk with
    | 0, _ =>
      go_wp2_with (go_at_call 228; refine (within_yes _ _ _ (by omega) (by omega) (by omega) (by omega)).mono ?_; rintro e w' ⟨rfl, rfl⟩)
      go_round
      case rel => exact ⟨1, by omega, rfl⟩
      case measure => simp [intOf]
    | 1, _ =>
      go_wp2_with (go_at_call 228; refine (within_yes _ _ _ (by omega) (by omega) (by omega) (by omega)).mono ?_; rintro e w' ⟨rfl, rfl⟩)
      go_round
      case rel => exact ⟨2, by omega, rfl⟩
      case measure => simp [intOf]
    | 2, _ =>
      go_wp2_with (go_at_call 228; refine (within_yes _ _ _ (by omega) (by omega) (by omega) (by omega)).mono ?_; rintro e w' ⟨rfl, rfl⟩)
      go_round
      case rel => exact ⟨3, by omega, rfl⟩
      case measure => simp [intOf]
    | 3, _ =>
      go_wp2_with (go_at_call 228; refine (within_yes _ _ _ (by omega) (by omega) (by omega) (by omega)).mono ?_; rintro e w' ⟨rfl, rfl⟩)
      go_round
      case rel => exact ⟨4, by omega, rfl⟩
      case measure => simp [intOf]
    | 4, _ =>
      have s1 := sqb (a - c) (by omega) (by omega)
      have s2 := sqb (b - d) (by omega) (by omega)
      obtain ⟨s10, s11⟩ := s1
      obtain ⟨s20, s21⟩ := s2
      go_wp2_with (go_at_call 229; refine (root_any _ _ (by omega) (by omega)).mono ?_; rintro e w' ⟨r, hr, rfl, rfl⟩)
      go_ret2
      exact ⟨r, hr, rfl, rfl⟩

end Go.Proofs.YtkejdkajfnaieaaGreatDoor

namespace Go.Proofs.YtkejdkajfnaieaaGreatDoor
set_option linter.unusedVariables false

/-- the greatest number up to k whose square is not above n. -/
def rt : Nat → Int → Int
  | 0, _ => 0
  | k + 1, n => if ((k : Int) + 1) * ((k : Int) + 1) ≤ n then (k : Int) + 1 else rt k n
theorem rt_eq : ∀ (k : Nat) (r n : Int), Ma.Sq r n → r ≤ k → rt k n = r
  | 0, r, n, h, hk => by
    have := h.1
    show (0 : Int) = r
    omega
  | k + 1, r, n, h, hk => by
    unfold rt
    split
    · rename_i hc
      have := Ma.lt_of_sq ((k : Int) + 1) (r + 1) (by have := h.1; omega) (by have := h.2.2; omega)
      omega
    · rename_i hc
      have := Ma.lt_of_sq r ((k : Int) + 1) (by omega) (by have := h.2.1; omega)
      exact rt_eq k r n h (by omega)
theorem rt_ge : ∀ (k : Nat) (n : Int), 0 ≤ rt k n ∧ rt k n ≤ k
  | 0, n => by unfold rt; omega
  | k + 1, n => by
    unfold rt
    have := rt_ge k n
    split <;> omega
/-- how far two cells of a field are. -/
def farN (W a b : Nat) : Int := rt 200 ((((a % W : Nat) : Int) - ((b % W : Nat) : Int)) * (((a % W : Nat) : Int) - ((b % W : Nat) : Int)) + (((a / W : Nat) : Int) - ((b / W : Nat) : Int)) * (((a / W : Nat) : Int) - ((b / W : Nat) : Int)))
theorem farN_ge (W a b : Nat) : 0 ≤ farN W a b ∧ farN W a b ≤ 200 := rt_ge 200 _
theorem sq_abs_le (x : Int) (m : Int) (h1 : -m ≤ x) (h2 : x ≤ m) : x * x ≤ m * m := by
  rcases Int.le_total 0 x with h | h
  · exact Ma.mul_mono x m h h2
  · have e : x * x = (-x) * (-x) := by rw [Int.neg_mul_neg]
    rw [e]
    exact Ma.mul_mono (-x) m (by omega) (by omega)
theorem farN_eq {W a b : Nat} {r : Int} (hW : W ≤ 12) (ha : a ≤ 144) (hb : b ≤ 144) (hW0 : 0 < W)
    (h : Ma.Sq r ((((a % W : Nat) : Int) - ((b % W : Nat) : Int)) * (((a % W : Nat) : Int) - ((b % W : Nat) : Int)) + (((a / W : Nat) : Int) - ((b / W : Nat) : Int)) * (((a / W : Nat) : Int) - ((b / W : Nat) : Int)))) : farN W a b = r := by
  unfold farN
  refine rt_eq 200 r _ h ?_
  have a1 := Nat.mod_lt a hW0
  have b1 := Nat.mod_lt b hW0
  have a2 := Nat.div_le_self a W
  have b2 := Nat.div_le_self b W
  generalize a / W = x at *
  generalize b / W = y at *
  generalize a % W = x' at *
  generalize b % W = y' at *
  have s1 := sq_abs_le ((x' : Int) - (y' : Int)) 12 (by omega) (by omega)
  have s2 := sq_abs_le ((x : Int) - (y : Int)) 144 (by omega) (by omega)
  have := h.2.1
  exact Ma.le_of_sq r 200 (by omega) (by omega)

theorem small_in6 {n : Nat} (h : n ≤ 144) : In6 (n : Nat) := ⟨by omega, by omega⟩
end Go.Proofs.YtkejdkajfnaieaaGreatDoor

namespace Go.Proofs.YtkejdkajfnaieaaGreatDoor
set_option linter.unusedVariables false

/-- how far a unit is from another one. -/
def farU (W : Nat) (u o : UnV) : Int := farN W u.at_.toNat o.at_.toNat
/-- one whom a unit does not strike. -/
def safeU (W : Nat) (u : UnV) (rng : Int) (o : UnV) : Bool := (o.player == u.player) || decide (rng < farU W u o)
/-- those that it may strike. -/
def foesU (W : Nat) (u : UnV) (rng : Int) (us : List UnV) : List UnV := us.filter (fun o => !safeU W u rng o)
/-- who comes first. -/
def keyU (W : Nat) (u o : UnV) : Int := farU W u o * 2000000 + o.life
def soonU (W : Nat) (u a b : UnV) : Int := if farU W u a - farU W u b = 0 then a.life - b.life else farU W u a - farU W u b
theorem soon_key {W : Nat} {u a b : UnV} (ha : 0 ≤ a.life ∧ a.life ≤ 1000000) (hb : 0 ≤ b.life ∧ b.life ≤ 1000000) : soonU W u a b < 0 ↔ keyU W u a < keyU W u b := by
  unfold soonU keyU
  have h1 := farN_ge W u.at_.toNat a.at_.toNat
  have h2 := farN_ge W u.at_.toNat b.at_.toNat
  unfold farU
  split <;> omega
/-- whom a unit strikes. -/
def TgSays (W : Nat) (u : UnV) (k : KV) (us : List UnV) (t : Int) : Prop :=
  (k.n1 = 0 ∧ t = -1) ∨ (k.n1 ≠ 0 ∧ foesU W u k.n2 us = [] ∧ t = -1)
  ∨ (k.n1 ≠ 0 ∧ ∃ x0 tl, foesU W u k.n2 us = x0 :: tl ∧ FstU (fun o => o.id == (minU (keyU W u) x0 tl).id) us t)
theorem minU_le (d : UnV → Int) : ∀ (l : List UnV) (m : UnV), ∀ x ∈ m :: l, d (minU d m l) ≤ d x
  | [], m, x, hx => by simp at hx; subst hx; exact Int.le_refl _
  | y :: l, m, x, hx => by
    show d (minU d (if d y < d m then y else m) l) ≤ d x
    have h0 := minU_le d l (if d y < d m then y else m) (if d y < d m then y else m) (by simp)
    rcases List.mem_cons.1 hx with rfl | hx
    · split at h0 <;> rename_i hc
      · rw [if_pos hc]; omega
      · rw [if_neg hc]; exact h0
    · rcases List.mem_cons.1 hx with rfl | hx
      · split at h0 <;> rename_i hc
        · rw [if_pos hc]; exact h0
        · rw [if_neg hc]; omega
      · exact minU_le d l _ x (List.mem_cons_of_mem _ hx)
end Go.Proofs.YtkejdkajfnaieaaGreatDoor

namespace Go.Proofs.YtkejdkajfnaieaaGreatDoor
set_option linter.unusedVariables false

/-- who is struck. -/
theorem tg_who {ks : List KV} {X : WV} (h : WRight ks X) {W : Nat} {u : UnV} {k : KV} {t : Int} (ht : TgSays W u k X.us t) :
    (t = -1 ∧ (k.n1 = 0 ∨ foesU W u k.n2 X.us = [])) ∨ (k.n1 ≠ 0 ∧ ∃ (tn : Nat) (x : UnV) (x0 : UnV) (tl : List UnV), t = tn ∧ X.us[tn]? = some x ∧ foesU W u k.n2 X.us = x0 :: tl ∧ x = minU (keyU W u) x0 tl) := by
  rcases ht with ⟨h1, h2⟩ | ⟨-, h1, h2⟩ | ⟨h1, x0, tl, h2, h3⟩
  · exact .inl ⟨h2, .inl h1⟩
  · exact .inl ⟨h2, .inr h1⟩
  · have hm := minU_mem (keyU W u) tl x0
    rw [← h2] at hm
    have hm' := (List.mem_filter.1 hm).1
    obtain ⟨j, hj⟩ := List.mem_iff_getElem?.1 hm'
    rcases h3 with ⟨-, h3⟩ | ⟨tn, x, rfl, hx, hid, -⟩
    · have := List.any_eq_false.1 h3 _ hm'
      simp at this
    · have hid' : x.id = (minU (keyU W u) x0 tl).id := by simpa using hid
      have := id_one h hx hj hid'
      subst this
      rw [hx] at hj
      injection hj with hj
      exact .inr ⟨h1, tn, x, x0, tl, rfl, hx, h2, hj⟩
/-- of others the least way. -/
def LeastU (W : Nat) (u : UnV) (l : List UnV) (least : Int) : Prop :=
  (least = -1 ∧ ∀ x ∈ l, x.player = u.player) ∨ (∃ x ∈ l, x.player ≠ u.player ∧ least = farU W u x ∧ ∀ y ∈ l, y.player ≠ u.player → farU W u x ≤ farU W u y)
theorem LeastU.ge {W : Nat} {u : UnV} {l : List UnV} {least : Int} (h : LeastU W u l least) : -1 ≤ least ∧ least ≤ 200 := by
  rcases h with ⟨h, -⟩ | ⟨x, -, -, h, -⟩
  · omega
  · have := farN_ge W u.at_.toNat x.at_.toNat
    unfold farU at h
    omega
theorem LeastU.own {W : Nat} {u y : UnV} {l : List UnV} {least : Int} (h : LeastU W u l least) (hy : y.player = u.player) : LeastU W u (l ++ [y]) least := by
  rcases h with ⟨h1, h2⟩ | ⟨x, hx, h1, h2, h3⟩
  · refine .inl ⟨h1, fun z hz => ?_⟩
    rcases List.mem_append.1 hz with hz | hz
    · exact h2 z hz
    · simp at hz; subst hz; exact hy
  · refine .inr ⟨x, List.mem_append_left _ hx, h1, h2, fun z hz hn => ?_⟩
    rcases List.mem_append.1 hz with hz | hz
    · exact h3 z hz hn
    · simp at hz; subst hz; exact absurd hy hn
theorem LeastU.new {W : Nat} {u y : UnV} {l : List UnV} {least : Int} (h : LeastU W u l least) (hy : y.player ≠ u.player) (hl : least < 0 ∨ farU W u y < least) : LeastU W u (l ++ [y]) (farU W u y) := by
  refine .inr ⟨y, by simp, hy, rfl, fun z hz hn => ?_⟩
  rcases List.mem_append.1 hz with hz | hz
  · rcases h with ⟨h1, h2⟩ | ⟨x, hx, h1, h2, h3⟩
    · exact absurd (h2 z hz) hn
    · have := h3 z hz hn
      have := farN_ge W u.at_.toNat x.at_.toNat
      unfold farU at *
      omega
  · simp at hz; subst hz; exact Int.le_refl _
theorem LeastU.keep {W : Nat} {u y : UnV} {l : List UnV} {least : Int} (h : LeastU W u l least) (hl : ¬ least < 0) (hf : ¬ farU W u y < least) : LeastU W u (l ++ [y]) least := by
  rcases h with ⟨h1, h2⟩ | ⟨x, hx, h1, h2, h3⟩
  · omega
  · refine .inr ⟨x, List.mem_append_left _ hx, h1, h2, fun z hz hn => ?_⟩
    rcases List.mem_append.1 hz with hz | hz
    · exact h3 z hz hn
    · simp at hz; subst hz; omega
theorem foe_iff {W : Nat} {u : UnV} {rng : Int} {us : List UnV} {x : UnV} : x ∈ foesU W u rng us ↔ x ∈ us ∧ x.player ≠ u.player ∧ farU W u x ≤ rng := by
  unfold foesU
  rw [List.mem_filter]
  unfold safeU
  simp
/-- none is struck: none is near. -/
theorem near_none {W : Nat} {u : UnV} {k : KV} {us : List UnV} {least : Int} (h : LeastU W u us least) (hn : k.n1 = 0 ∨ foesU W u k.n2 us = []) : k.n1 = 0 ∨ least < 0 ∨ k.n2 < least := by
  rcases hn with hn | hn
  · exact .inl hn
  · rcases h with ⟨h1, -⟩ | ⟨x, hx, h1, h2, -⟩
    · exact .inr (.inl (by omega))
    · refine .inr (.inr ?_)
      by_cases hc : k.n2 < least
      · exact hc
      · have : x ∈ foesU W u k.n2 us := foe_iff.2 ⟨hx, h1, by omega⟩
        rw [hn] at this; cases this
theorem near_some {W : Nat} {u : UnV} {rng : Int} {us : List UnV} {least : Int} {x0 : UnV} {tl : List UnV} (h : LeastU W u us least) (hl : ∀ x ∈ us, 0 ≤ x.life ∧ x.life ≤ 1000000) (hf : foesU W u rng us = x0 :: tl) : farU W u (minU (keyU W u) x0 tl) = least := by
  have hm := minU_mem (keyU W u) tl x0
  rw [← hf] at hm
  obtain ⟨m1, m2, m3⟩ := foe_iff.1 hm
  rcases h with ⟨-, h2⟩ | ⟨x, hx, h1, h2, h3⟩
  · exact absurd (h2 _ m1) m2
  · have a1 := h3 _ m1 m2
    have hxf : x ∈ foesU W u rng us := foe_iff.2 ⟨hx, h1, by omega⟩
    rw [hf] at hxf
    have a2 := minU_le (keyU W u) tl x0 x hxf
    have a3 := hl x hx
    have a4 := hl _ m1
    generalize minU (keyU W u) x0 tl = m at *
    unfold keyU at a2
    omega
end Go.Proofs.YtkejdkajfnaieaaGreatDoor

namespace Go.Proofs.YtkejdkajfnaieaaGreatDoor
set_option linter.unusedVariables false

/-- where the first of which p holds stands, else -1. -/
def fsti (p : UnV → Bool) : List UnV → Int
  | [] => -1
  | x :: l => if p x then 0 else if fsti p l = -1 then -1 else fsti p l + 1
theorem fsti_fst (p : UnV → Bool) : ∀ l, FstU p l (fsti p l)
  | [] => .inl ⟨rfl, rfl⟩
  | x :: l => by
    unfold fsti
    cases hp : p x with
    | true => exact .inr ⟨0, x, by simp, rfl, hp, rfl⟩
    | false =>
      rw [if_neg (by simp)]
      rcases fsti_fst p l with ⟨h1, h2⟩ | ⟨k, y, h1, h2, h3, h4⟩
      · rw [if_pos h1]
        exact .inl ⟨rfl, by rw [List.any_cons, hp, h2]; rfl⟩
      · rw [if_neg (by omega)]
        exact .inr ⟨k + 1, y, by omega, by rw [List.getElem?_cons_succ]; exact h2, h3, by rw [List.take_succ_cons, List.any_cons, hp, h4]; rfl⟩
/-- whom a unit of a kind strikes. -/
def tgt (W : Nat) (u : UnV) (k : KV) (us : List UnV) : Int :=
  if k.n1 = 0 then -1 else match foesU W u k.n2 us with
    | [] => -1
    | x0 :: tl => fsti (fun o => o.id == (minU (keyU W u) x0 tl).id) us
theorem tg_eq {W : Nat} {u : UnV} {k : KV} {us : List UnV} {t : Int} (h : TgSays W u k us t) : t = tgt W u k us := by
  unfold tgt
  rcases h with ⟨h1, h2⟩ | ⟨h1, h2, h3⟩ | ⟨h1, x0, tl, h2, h3⟩
  · rw [if_pos h1]; exact h2
  · rw [if_neg h1, h2]; exact h3
  · rw [if_neg h1, h2]
    exact h3.one (fsti_fst _ _)
def tgtOf (ks : List KV) (W : Nat) (us : List UnV) (u : UnV) : Int := match ks[u.kind.toNat]? with
  | none => -1
  | some k => tgt W u k us
def hitOf (ks : List KV) (u : UnV) : Int := match ks[u.kind.toNat]? with
  | none => 0
  | some k => k.n1
/-- one strikes. -/
def stk (ks : List KV) (W : Nat) (us : List UnV) (s : List Int × List EvV) (u : UnV) : List Int × List EvV :=
  if tgtOf ks W us u = -1 then s else (s.1.set (tgtOf ks W us u).toNat (s.1.getD (tgtOf ks W us u).toNat 0 + hitOf ks u), s.2 ++ [⟨2, u.id, (us[(tgtOf ks W us u).toNat]?.map UnV.id).getD 0⟩])
def strikes (ks : List KV) (W : Nat) (us l : List UnV) : List Int × List EvV := l.foldl (stk ks W us) (List.replicate us.length 0, [])
theorem strikes_next {ks : List KV} {W : Nat} {us l : List UnV} {n : Nat} {u : UnV} (h : l[n]? = some u) : strikes ks W us (l.take (n + 1)) = stk ks W us (strikes ks W us (l.take n)) u := by
  obtain ⟨hi, e⟩ := List.getElem?_eq_some_iff.1 h
  unfold strikes
  rw [List.take_succ_eq_append_getElem hi, List.foldl_append, e]
  rfl
theorem stk_len {ks : List KV} {W : Nat} {us : List UnV} {s : List Int × List EvV} {u : UnV} : (stk ks W us s u).1.length = s.1.length := by
  unfold stk
  split
  · rfl
  · simp
theorem strikes_len {ks : List KV} {W : Nat} {us : List UnV} : ∀ (l : List UnV) (s : List Int × List EvV), (l.foldl (stk ks W us) s).1.length = s.1.length
  | [], s => rfl
  | u :: l, s => by
    rw [List.foldl_cons, strikes_len l, stk_len]
theorem strikes_len' {ks : List KV} {W : Nat} {us l : List UnV} : (strikes ks W us l).1.length = us.length := by
  unfold strikes
  rw [strikes_len]
  simp
/-- numbers from 0 to m. -/
def Upto (m : Int) (l : List Int) : Prop := ∀ x ∈ l, 0 ≤ x ∧ x ≤ m
theorem Upto.at_ {m : Int} {l : List Int} (h : Upto m l) (hm : 0 ≤ m) (i : Nat) : 0 ≤ l.getD i 0 ∧ l.getD i 0 ≤ m := by
  rw [List.getD_eq_getElem?_getD]
  cases hi : l[i]? with
  | none => simp; omega
  | some x => simp; exact h x (List.mem_of_getElem? hi)
theorem stk_upto {ks : List KV} {W : Nat} {us : List UnV} {s : List Int × List EvV} {u : UnV} {m : Int} (hm : 0 ≤ m) (h : Upto m s.1) (hh : 0 ≤ hitOf ks u ∧ hitOf ks u ≤ 1000) : Upto (m + 1000) (stk ks W us s u).1 := by
  unfold stk
  split
  · intro x hx
    have := h x hx
    omega
  · intro x hx
    have h0 := h.at_ hm (tgtOf ks W us u).toNat
    rcases List.mem_or_eq_of_mem_set hx with hx | hx
    · have := h x hx
      omega
    · omega
theorem hit_in {ks : List KV} (h : Kd.kindsFault (ks.map KV.k) = 0) (u : UnV) : 0 ≤ hitOf ks u ∧ hitOf ks u ≤ 1000 := by
  unfold hitOf
  split
  · omega
  · rename_i k hk
    have := kind_nums h (List.mem_of_getElem? hk)
    omega
theorem strikes_upto {ks : List KV} {W : Nat} {us : List UnV} (h : Kd.kindsFault (ks.map KV.k) = 0) : ∀ (n : Nat), n ≤ us.length → Upto (1000 * (n : Int)) (strikes ks W us (us.take n)).1
  | 0, _ => by
    intro x hx
    have : x ∈ List.replicate us.length (0 : Int) := hx
    have := List.eq_of_mem_replicate this
    omega
  | n + 1, hn => by
    obtain ⟨u, hu⟩ : ∃ u, us[n]? = some u := ⟨_, List.getElem?_eq_getElem (by omega)⟩
    rw [strikes_next hu]
    have h9 := strikes_upto (ks := ks) (W := W) (us := us) h n (by omega)
    have h8 := stk_upto (W := W) (us := us) (m := 1000 * (n : Int)) (by omega) h9 (hit_in h u)
    intro x hx
    have := h8 x hx
    omega
/-- those that are struck. -/
def hurt (us : List UnV) (lost : List Int) : List UnV := us.zipWith (fun u n => { u with life := u.life - n }) lost
def hurtN (us : List UnV) (lost : List Int) (n : Nat) : List UnV := hurt (us.take n) (lost.take n) ++ us.drop n
theorem hurtN_zero (us : List UnV) (lost : List Int) : hurtN us lost 0 = us := by simp [hurtN, hurt]
theorem hurtN_all {us : List UnV} {lost : List Int} (hl : lost.length = us.length) : hurtN us lost us.length = hurt us lost := by
  unfold hurtN
  rw [List.take_of_length_le (Nat.le_refl _), List.take_of_length_le (by omega), List.drop_of_length_le (Nat.le_refl _), List.append_nil]
theorem hurt_len {us : List UnV} {lost : List Int} (hl : lost.length = us.length) : (hurt us lost).length = us.length := by
  unfold hurt
  rw [List.length_zipWith, hl, Nat.min_self]
theorem hurtN_len {us : List UnV} {lost : List Int} {n : Nat} (hl : lost.length = us.length) (hn : n ≤ us.length) : (hurtN us lost n).length = us.length := by
  unfold hurtN
  rw [List.length_append, hurt_len (by simp [hl]), List.length_take, List.length_drop]
  omega
theorem hurtN_at {us : List UnV} {lost : List Int} {n : Nat} {u : UnV} (hl : lost.length = us.length) (hu : us[n]? = some u) : (hurtN us lost n)[n]? = some u := by
  have hn : n < us.length := (List.getElem?_eq_some_iff.1 hu).1
  unfold hurtN
  have h1 : (hurt (us.take n) (lost.take n)).length = n := by rw [hurt_len (by simp [hl]), List.length_take]; omega
  rw [List.getElem?_append_right (by omega), h1, Nat.sub_self, List.getElem?_drop, Nat.add_zero]
  exact hu
theorem hurtN_next {us : List UnV} {lost : List Int} {n : Nat} {u : UnV} {x : Int} (hl : lost.length = us.length) (hu : us[n]? = some u) (hx : lost[n]? = some x) : (hurtN us lost n).set n { u with life := u.life - x } = hurtN us lost (n + 1) := by
  obtain ⟨hn, e1⟩ := List.getElem?_eq_some_iff.1 hu
  obtain ⟨hn2, e2⟩ := List.getElem?_eq_some_iff.1 hx
  have h1 : (hurt (us.take n) (lost.take n)).length = n := by rw [hurt_len (by simp [hl]), List.length_take]; omega
  unfold hurtN
  rw [List.set_append_right _ _ (by omega), h1, Nat.sub_self, List.drop_eq_getElem_cons hn, List.set_cons_zero]
  rw [List.take_succ_eq_append_getElem hn, List.take_succ_eq_append_getElem hn2, e1, e2]
  unfold hurt
  rw [List.zipWith_append (by simp [hl])]
  simp
theorem hurt_at {us : List UnV} {lost : List Int} {n : Nat} {u : UnV} {x : Int} (hu : us[n]? = some u) (hx : lost[n]? = some x) : (hurt us lost)[n]? = some { u with life := u.life - x } := by
  unfold hurt
  rw [List.getElem?_zipWith, hu, hx]
end Go.Proofs.YtkejdkajfnaieaaGreatDoor

namespace Go.Proofs.YtkejdkajfnaieaaGreatDoor
open Go.RowKit
set_option linter.unusedVariables false

set_option maxRecDepth 100000 in
set_option maxHeartbeats 2000000 in
theorem apart_any (H : Int) (u1 u2 : Value) (Wn a b : Nat) (w : World) (h1 : 0 < Wn) (h2 : Wn ≤ 12) (ha : a ≤ 144) (hb : b ≤ 144) :
    Calls Tryz.prog 198 #[.agg #[.int .i64 (Wn : Nat), .int .i64 H, u1, u2], .int .i64 (a : Nat), .int .i64 (b : Nat)] w fun e w' => e = .returned (.int .i64 (farN Wn a b)) ∧ Below w.heap.size w w' := by
  obtain ⟨ca, hca⟩ : ∃ n, a % Wn = n := ⟨_, rfl⟩
  obtain ⟨ra, hra⟩ : ∃ n, a / Wn = n := ⟨_, rfl⟩
  obtain ⟨cb, hcb⟩ : ∃ n, b % Wn = n := ⟨_, rfl⟩
  obtain ⟨rb, hrb⟩ : ∃ n, b / Wn = n := ⟨_, rfl⟩
  have hw : ¬ (Wn : Int) = 0 := by omega
  have e1 : (a : Int) % (Wn : Int) = (ca : Nat) := by rw [← hca]; rfl
  have e2 : (a : Int) / (Wn : Int) = (ra : Nat) := by rw [← hra]; rfl
  have e3 : (b : Int) % (Wn : Int) = (cb : Nat) := by rw [← hcb]; rfl
  have e4 : (b : Int) / (Wn : Int) = (rb : Nat) := by rw [← hrb]; rfl
  have l1 : ra ≤ 144 := by rw [← hra]; exact Nat.le_trans (Nat.div_le_self _ _) ha
  have l2 : rb ≤ 144 := by rw [← hrb]; exact Nat.le_trans (Nat.div_le_self _ _) hb
  have l3 : ca ≤ 144 := by rw [← hca]; exact Nat.le_trans (Nat.mod_le _ _) ha
  have l4 : cb ≤ 144 := by rw [← hcb]; exact Nat.le_trans (Nat.mod_le _ _) hb
  have FR : Hid (∀ r, Ma.Sq r (((ca : Int) - (cb : Nat)) * ((ca : Int) - (cb : Nat)) + ((ra : Int) - (rb : Nat)) * ((ra : Int) - (rb : Nat))) → farN Wn a b = r) := by
    intro r hr
    refine farN_eq h2 ha hb h1 ?_
    rw [hca, hra, hcb, hrb]
    exact hr
  have FO : Hid (∀ W, Calls Tryz.prog 207 #[.int .i64 (ca : Nat), .int .i64 (ra : Nat), .int .i64 (cb : Nat), .int .i64 (rb : Nat)] W fun e w' => e = .returned (.tuple #[.int .i64 (farN Wn a b), .nilIface]) ∧ w' = W) := fun W => by
    refine (far_ok _ _ _ _ W (small_in6 l3) (small_in6 l1) (small_in6 l4) (small_in6 l2)).mono ?_
    rintro e w' ⟨r, hr, rfl, rfl⟩
    rw [FR.out r hr]
    exact ⟨rfl, rfl⟩
  clear hca hra hcb hrb FR
  have B0 : Hid (Below w.heap.size w (w.alloc (Obj.cells #[.int .i64 (Wn : Nat), .int .i64 H, u1, u2] 25))) := (Below.refl _ _).alloc (Nat.le_refl _) _
  have c0 : (w.alloc (Obj.cells #[.int .i64 (Wn : Nat), .int .i64 H, u1, u2] 25)).cell? ⟨w.heap.size, 0, none⟩ = some (.int .i64 (Wn : Nat)) := by simp
  obtain ⟨f, hf⟩ : ∃ f, farN Wn a b = f := ⟨_, rfl⟩
  rw [hf] at FO ⊢
  clear hf
  go_enter Tryz.func198, Tryz.ntmps198
  go_upto_region 1 with fail
  generalize (w.alloc (Obj.cells #[.int .i64 (Wn : Nat), .int .i64 H, u1, u2] 25)) = w0 at *
  go_quiet ((go_at_call 207; exact Calls.quiet_of_same (FO.out _)))
  go_wp2
  go_ret
  exact ⟨rfl, ⟨B0.out.os, B0.out.tape, B0.out.output, B0.out.size, B0.out.block⟩⟩
end Go.Proofs.YtkejdkajfnaieaaGreatDoor

