/- Moves, taken apart. Plain mathematics. · The reference's Wish: along a wish that is told. -/
import Derived.Test.YteieikgkmfglaaaGreatDoorZTurnGives15
namespace Go.Proofs.YteieikgkmfglaaaGreatDoor
open Go.RowKit Wy
set_option linter.unusedVariables false

theorem goes_cases {ks : List KV} {X : WV} {Wn Hn : Nat} {k : KV} {i : Nat} {us us' : List UnV} {left : Int} {cells : List Int} (h : Goes ks X Wn Hn k i us left cells us') : ∃ (u : UnV) (c : Nat) (gg : Int), us[i]? = some u ∧ WishSays ks { X with us := us } Wn Hn u k c ∧ X.gs[c]? = some gg ∧
    (((left < Fd.onto gg k.f ∨ us.any (fun o => o.at_ == (c : Int)) = true) ∧ cells = [] ∧ us' = us) ∨ (¬ left < Fd.onto gg k.f ∧ us.any (fun o => o.at_ == (c : Int)) = false ∧ ∃ cells', cells = (c : Int) :: cells' ∧ Goes ks X Wn Hn k i (us.set i { u with at_ := (c : Nat) }) (left - Fd.onto gg k.f) cells' us')) := by
  cases h with
  | stop hu hw hg h => exact ⟨_, _, _, hu, hw, hg, .inl ⟨h, rfl, rfl⟩⟩
  | step hu hw hg h1 h2 h3 => exact ⟨_, _, _, hu, hw, hg, .inr ⟨h1, h2, _, rfl, h3⟩⟩
theorem moves_cases {ks : List KV} {X : WV} {Wn Hn n : Nat} {us us' : List UnV} {evs : List EvV} (h : Moves ks X Wn Hn n us evs us') : (n = us.length ∧ evs = [] ∧ us' = us) ∨ ∃ (u u1 : UnV) (k : KV) (cells : List Int) (us1 : List UnV) (evs' : List EvV), us[n]? = some u ∧ ks[u.kind.toNat]? = some k ∧ Goes ks X Wn Hn k n us k.n4 cells us1 ∧ us1[n]? = some u1 ∧ Moves ks X Wn Hn (n + 1) (us1.set n (ends u1)) evs' us' ∧ evs = cells.map (fun c => (⟨1, u.id, c⟩ : EvV)) ++ evs' := by
  cases h with
  | done h => exact .inl ⟨h, rfl, rfl⟩
  | unit hu hk hg h1 hm => exact .inr ⟨_, _, _, _, _, _, hu, hk, hg, h1, hm, rfl⟩
end Go.Proofs.YteieikgkmfglaaaGreatDoor

namespace Go.Proofs.YteieikgkmfglaaaGreatDoor
open Go.RowKit Wy
set_option linter.unusedVariables false

theorem below_dq {B : Nat} {a w : World} (h : Below B a w) (q : Nat) : Below B a (w.drewN q) := ⟨h.os, h.tape, h.output, h.size, h.block⟩
theorem wish_here {nb : Nat → List Int} {ss l : List Int} {a c : Nat} (h : (l.getD a 0 < 0 ∧ c = a) ∨ (0 ≤ l.getD a 0 ∧ Nxt nb ss l a a c)) : c = a := by
  rcases h with ⟨-, h⟩ | ⟨-, ⟨-, h⟩ | ⟨h, -⟩⟩
  · exact h
  · exact h
  · exact absurd rfl h
theorem other_no {ks : List KV} {l : List Int} {pl : Int} {h : UnV} (hp : ¬ h.player = pl) : otherU ks l pl h = true := by
  have : (h.player == pl) = false := by rw [beq_eq_false_iff_ne]; exact hp
  unfold otherU
  rw [this]
  rfl
theorem other_is {ks : List KV} {l : List Int} {pl : Int} {h : UnV} {k : KV} (hp : h.player = pl) (hk : ks[h.kind.toNat]? = some k) : otherU ks l pl h = (!k.t || decide (l.getD h.at_.toNat 0 < 0)) := by
  unfold otherU
  rw [hp, hk]
  simp
set_option maxRecDepth 100000 in
set_option maxHeartbeats 16000000 in
theorem rwish_any (vk vw : Value) (ks : List KV) (X : WV) (i Wn Hn : Nat) (u : UnV) (k : KV) (c : Nat) (w : World) (hk : Kl w vk ks) (hw : Wl w vw X) (G : Fd.Good Wn Hn X.gs X.os) (e1 : X.wide = (Wn : Nat)) (e2 : X.high = (Hn : Nat)) (hl : X.us.length ≤ 40)
    (hu : X.us[i]? = some u) (hk' : ks[u.kind.toNat]? = some k) (fits : ∀ h ∈ X.us, Fit ks (Wn * Hn) h) (hgo : 0 ≤ u.goal ∧ u.goal < (Wn * Hn : Nat)) (ab : Able X u k) (hW : WishSays ks X Wn Hn u k c) :
    Calls Tryz.prog 74 #[vk, vw, .int .i64 (i : Nat)] w fun e w' => e = .returned (.int .i64 (c : Nat)) ∧ Below w.heap.size w w' := by
  have RS : Hid (u.task = 0 → u.at_ = (c : Nat)) := fun h => wish_rest hW h
  obtain ⟨an, bn, l2, hat, haim, hbn, hl2, hcc⟩ := hW
  have fu := fits u (List.mem_of_getElem? hu)
  have GD : Hid (Fd.Good Wn Hn X.gs X.os ∧ X.wide = (Wn : Nat) ∧ X.high = (Hn : Nat) ∧ an < Wn * Hn) := ⟨G, e1, e2, by have := fu.2; omega⟩
  have FT : Hid (∀ h ∈ X.us, Fit ks (Wn * Hn) h) := fits
  have HL : Hid (X.us.length ≤ 40) := hl
  have AIM : Hid (AimSays ks X Wn Hn u k (bn : Nat)) := haim
  have BN0 : Hid (bn < Wn * Hn) := hbn
  have L20 : Hid (IsFar (Fd.near Wn Hn) (fun _ j => (X.gs.map fun g => Fd.onto g k.f).getD j 0) bn (Wn * Hn) l2 ∧ Flat l2) := hl2
  have HC0 : Hid ((l2.getD an 0 < 0 ∧ c = an) ∨ (0 ≤ l2.getD an 0 ∧ Nxt (Fd.near Wn Hn) (X.gs.map fun g => Fd.onto g k.f) l2 bn an c)) := hcc
  have EV : Hid (Even (Fd.near Wn Hn) (fun _ j => (X.gs.map fun g => Fd.onto g k.f).getD j 0) (Wn * Hn)) := even_to G.w1 X.gs k.f
  have K : Hid (Kl w vk ks) := hk
  have H : Hid (Wl w vw X) := hw
  obtain ⟨kn, hkn⟩ : ∃ n : Nat, u.kind = n := ⟨u.kind.toNat, by have := fu.1.1; omega⟩
  obtain ⟨gn, hgn⟩ : ∃ n : Nat, u.goal = n := ⟨u.goal.toNat, by have := hgo.1; omega⟩
  have hkk : ks[kn]? = some k := by have := hk'; rw [hkn] at this; exact this
  have hkl : kn < ks.length := (List.getElem?_eq_some_iff.1 hkk).1
  have hki : ((kn : Nat) : Int) < (ks.length : Nat) := by omega
  have hil : i < X.us.length := (List.getElem?_eq_some_iff.1 hu).1
  have hii : ((i : Nat) : Int) < (X.us.length : Nat) := by omega
  have hgl : gn < X.os.length := by have := G.ol; omega
  have hgi : ((gn : Nat) : Int) < (X.os.length : Nat) := by omega
  obtain ⟨o, ho⟩ : ∃ o, X.os[gn]? = some o := ⟨_, List.getElem?_eq_getElem hgl⟩
  obtain ⟨gg, hgg⟩ : ∃ g, X.gs[gn]? = some g := ⟨_, List.getElem?_eq_getElem (by rw [G.gl, ← G.ol]; exact hgl)⟩
  have OP : Hid (0 ≤ o) := (G.cell gn gg o hgg ho).2.2.1
  have DN : Hid (doneU X.os u k = ((u.load == k.n7) || (o == 0))) := by unfold Hid doneU; rw [hgn, Int.toNat_natCast, List.getD_eq_getElem?_getD, ho]; rfl
  have AB : Hid (Able X u k) := ab
  have HE : Hid (u.at_ = (an : Nat) ∧ u.kind = (kn : Nat) ∧ u.goal = (gn : Nat)) := ⟨hat, hkn, hgn⟩
  obtain ⟨p1, s1, p2, s2, p3, s3, p4, s4, p5, s5, rfl⟩ := wl_shape9 hw
  obtain ⟨pa, pc, he, -, -, hus⟩ := H.out.slices.2.2.2.1
  obtain ⟨xu, hxu, hxul, hxuc⟩ := hus (by intro h; rw [h] at hil; simp at hil)
  injection he with he1 he2 he3
  subst he1
  subst hxu
  obtain ⟨pa', pc', he', -, -, hos⟩ := H.out.slices.2.1
  obtain ⟨xo, hxo, hxol, hxoc⟩ := hos (by intro h; rw [h] at hgl; simp at hgl)
  injection he' with he1' he2' he3'
  subst he1'
  subst hxo
  obtain ⟨pk, qk, rfl, ck1, ck2, kc⟩ := hk
  obtain ⟨xk, rfl, hxk, hkc⟩ := kc (by intro h; rw [h] at hkl; simp at hkl)
  have KC : Hid (∀ (j : Nat) k, ks[j]? = some k → Kc w (xk.add (j * 11)) k ∧ (xk.add (j * 11)).block < w.heap.size) := fun j k hj => ⟨hkc j k hj, by rw [add_block]; exact hxk⟩
  have UC : Hid (∀ (j : Nat) u, X.us[j]? = some u → Unc w (xu.add (j * 8)) u ∧ (xu.add (j * 8)).block < w.heap.size) := fun j u hj => ⟨hxuc j u hj, by rw [add_block]; exact hxul⟩
  have OC : Hid (w.cell? (xo.add gn) = some (.int .i64 o) ∧ (xo.add gn).block < w.heap.size) := ⟨hxoc gn o ho, by rw [add_block]; exact hxol⟩
  have UI : Hid (X.us[i]? = some u ∧ ks[kn]? = some k) := ⟨hu, hkk⟩
  clear hw hl hu hk' fits hgo ab haim hbn hl2 hcc fu G e1 e2 hat hkn hgn hkk hkl hgl ho hgg hus he2 he3 hxul hxuc hos he2' he3' hxol hxoc kc hkc hxk
  have B0 : Hid (Below w.heap.size w (w.alloc (Obj.cells #[.int .i64 X.turn, .int .i64 X.next, .int .i64 X.wide, .int .i64 X.high, .slice p1 X.gs.length s1, .slice (some xo) X.os.length s2, .slice p3 X.gold.length s3, .slice (some xu) X.us.length s4, .slice p5 X.qs.length s5] 29))) := (Below.refl _ _).alloc (Nat.le_refl _) _
  have X0 : Hid (Bw (w.alloc (Obj.cells #[.int .i64 X.turn, .int .i64 X.next, .int .i64 X.wide, .int .i64 X.high, .slice p1 X.gs.length s1, .slice (some xo) X.os.length s2, .slice p3 X.gold.length s3, .slice (some xu) X.us.length s4, .slice p5 X.qs.length s5] 29)) w.heap.size X (.slice p1 X.gs.length s1) (.slice (some xo) X.os.length s2) (.slice p3 X.gold.length s3) (.slice (some xu) X.us.length s4) (.slice p5 X.qs.length s5)) := Bw.mk' X _ _ _ _ _ rfl
  go_enter Tryz.func74, Tryz.ntmps74
  go_upto_region 1 with fail
  generalize (w.alloc (Obj.cells #[.int .i64 X.turn, .int .i64 X.next, .int .i64 X.wide, .int .i64 X.high, .slice p1 X.gs.length s1, .slice (some xo) X.os.length s2, .slice p3 X.gold.length s3, .slice (some xu) X.us.length s4, .slice p5 X.qs.length s5] 29)) = w0 at *
  have x7 := X0.out.c7
  obtain ⟨y0, y1, y2, y3, y4, y5, y6, y7⟩ := (UC.out i u UI.out.1).1.below B0.out (UC.out i u UI.out.1).2
  go_upto_region 2 with fail
  have BA : Hid (Below w0.heap.size w0 (w0.alloc (Obj.cells #[.int .i64 u.id, .int .i64 u.player, .int .i64 u.kind, .int .i64 u.at_, .int .i64 u.life, .int .i64 u.load, .int .i64 u.task, .int .i64 u.goal] 44))) := (Below.refl _ _).alloc (Nat.le_refl _) _
  obtain ⟨bu, hbu⟩ : ∃ z, w0.heap.size = z := ⟨_, rfl⟩
  have U1 : Hid (Unc (w0.alloc (Obj.cells #[.int .i64 u.id, .int .i64 u.player, .int .i64 u.kind, .int .i64 u.at_, .int .i64 u.life, .int .i64 u.load, .int .i64 u.task, .int .i64 u.goal] 44)) ⟨bu, 0, none⟩ u) := Unc.mk' u hbu
  rw [hbu]
  generalize (w0.alloc (Obj.cells #[.int .i64 u.id, .int .i64 u.player, .int .i64 u.kind, .int .i64 u.at_, .int .i64 u.life, .int .i64 u.load, .int .i64 u.task, .int .i64 u.goal] 44)) = w1 at *
  have BV : Hid (Below w.heap.size w w1) := B0.out.trans (BA.out.mono B0.out.size)
  have XV : Hid (Bw w1 w.heap.size X (.slice p1 X.gs.length s1) (.slice (some xo) X.os.length s2) (.slice p3 X.gold.length s3) (.slice (some xu) X.us.length s4) (.slice p5 X.qs.length s5)) := X0.out.below BA.out X0.out.lt
  clear x7 y0 y1 y2 y3 y4 y5 y6 y7 hbu BA B0 X0
  obtain ⟨q0, q1, q2, q3, q4, q5, q6, q7⟩ := U1.out
  rw [HE.out.1] at q3
  rw [HE.out.2.1] at q2
  rw [HE.out.2.2] at q7
  obtain ⟨z0, z1, z2, z3, z4, z5, z6, z7, z8, z9, z10⟩ := (KC.out kn k UI.out.2).1.below BV.out (KC.out kn k UI.out.2).2
  by_cases ht0 : u.task = 0
  · have EC : Hid (((an : Nat) : Int) = (c : Nat)) := by have := RS.out ht0; rw [HE.out.1] at this; exact this
    rw [ht0] at q6
    clear ht0
    go_wp2
    go_ret
    exact ⟨by rw [← EC.out]; rfl, BV.out⟩
  have TN : Hid (u.task ≠ 0) := ht0
  have x5 := XV.out.c5
  have co : w1.cell? (xo.add gn) = some (.int .i64 o) := by rw [BV.out.cell (p := xo.add gn) OC.out.2]; exact OC.out.1
  by_cases ht1 : u.task = 1
  · have EB : bn = gn := by
      rcases AIM.out with ⟨h, -⟩ | ⟨-, -, h⟩ | ⟨h, -⟩
      · omega
      · rw [HE.out.2.2] at h; omega
      · omega
    subst EB
    have BN := BN0
    have L2 := L20
    have HC := HC0
    rw [ht1] at q6
    clear ht0 ht1
    go_upto_region 5 with fail
    go_quiet (fail)
    clear q0 q1 q2 q4 q5 q6 z0 z1 z2 z3 z4 z5 z6 z7 z8 z9 z10 x5 co
    have BQ : Hid (Below w.heap.size w (w1.drewN nq)) := below_dq BV.out nq
    have XQ : Hid (Bw (w1.drewN nq) w.heap.size X (.slice p1 X.gs.length s1) (.slice (some xo) X.os.length s2) (.slice p3 X.gold.length s3) (.slice (some xu) X.us.length s4) (.slice p5 X.qs.length s5)) := XV.out.below (below_dq (Below.refl _ _) nq) XV.out.lt
    have q3' : (w1.drewN nq).cell? ⟨bu, 3, none⟩ = some (.int .i64 (an : Nat)) := by have := (U1.out.below (below_dq (Below.refl _ _) nq) U1.out.lt).c3; rw [Nat.zero_add, HE.out.1] at this; exact this
    have q7' : (w1.drewN nq).cell? ⟨bu, 7, none⟩ = some (.int .i64 (bn : Nat)) := by have := (U1.out.below (below_dq (Below.refl _ _) nq) U1.out.lt).c7; rw [Nat.zero_add, HE.out.2.2] at this; exact this
    clear BV XV q3 q7
    generalize w1.drewN nq = w2 at *
    have BV := BQ
    have XV := XQ
    obtain ⟨x0, x1, x2, x3, x4, x5, x6, x7, x8⟩ := XV.out
    go_wp2_with fail
    refine (rtoward_any _ X an bn c k.f l2 Wn Hn w2 GD.out.1 GD.out.2.1 GD.out.2.2.1 GD.out.2.2.2 BN.out (H.out.below BV.out) L2.out HC.out).mono ?_
    rintro e wz ⟨rfl, hb⟩
    have BZ : Hid (Below w.heap.size w wz) := BV.out.trans (hb.mono BV.out.size)
    clear hb x0 x1 x2 x3 x4 x5 x6 x7 x8
    go_wp2
    go_ret
    exact ⟨rfl, BZ.out⟩
  have ht2 : u.task = 2 := by have := AB.out.task; omega
  rw [ht2] at q6
  clear ht0 ht1
  by_cases hdn : u.load < k.n7 ∧ 0 < o
  · have EB : bn = gn := by
      rcases AIM.out with ⟨h, -⟩ | ⟨-, -, h⟩ | ⟨-, h, -⟩
      · omega
      · rw [HE.out.2.2] at h; omega
      · rw [DN.out, Bool.or_eq_true] at h
        rcases h with h | h
        · have : u.load = k.n7 := by simpa using h
          omega
        · have : o = 0 := by simpa using h
          omega
    subst EB
    have BN := BN0
    have L2 := L20
    have HC := HC0
    obtain ⟨h1, h2⟩ := hdn
    have d1 : decide (u.load < k.n7) = true := decide_eq_true h1
    have d2 : decide (0 < o) = true := decide_eq_true h2
    clear ht2
    go_upto_region 5 with fail
    go_quiet (fail)
    clear q0 q1 q2 q4 q5 q6 z0 z1 z2 z3 z4 z5 z6 z7 z8 z9 z10 x5 co
    have BQ : Hid (Below w.heap.size w (w1.drewN nq)) := below_dq BV.out nq
    have XQ : Hid (Bw (w1.drewN nq) w.heap.size X (.slice p1 X.gs.length s1) (.slice (some xo) X.os.length s2) (.slice p3 X.gold.length s3) (.slice (some xu) X.us.length s4) (.slice p5 X.qs.length s5)) := XV.out.below (below_dq (Below.refl _ _) nq) XV.out.lt
    have q3' : (w1.drewN nq).cell? ⟨bu, 3, none⟩ = some (.int .i64 (an : Nat)) := by have := (U1.out.below (below_dq (Below.refl _ _) nq) U1.out.lt).c3; rw [Nat.zero_add, HE.out.1] at this; exact this
    have q7' : (w1.drewN nq).cell? ⟨bu, 7, none⟩ = some (.int .i64 (bn : Nat)) := by have := (U1.out.below (below_dq (Below.refl _ _) nq) U1.out.lt).c7; rw [Nat.zero_add, HE.out.2.2] at this; exact this
    clear BV XV q3 q7
    generalize w1.drewN nq = w2 at *
    have BV := BQ
    have XV := XQ
    obtain ⟨x0, x1, x2, x3, x4, x5, x6, x7, x8⟩ := XV.out
    go_wp2_with fail
    refine (rtoward_any _ X an bn c k.f l2 Wn Hn w2 GD.out.1 GD.out.2.1 GD.out.2.2.1 GD.out.2.2.2 BN.out (H.out.below BV.out) L2.out HC.out).mono ?_
    rintro e wz ⟨rfl, hb⟩
    have BZ : Hid (Below w.heap.size w wz) := BV.out.trans (hb.mono BV.out.size)
    clear hb x0 x1 x2 x3 x4 x5 x6 x7 x8
    go_wp2
    go_ret
    exact ⟨rfl, BZ.out⟩
  obtain ⟨lf, hlf, hbn⟩ : ∃ l, (IsFar (Fd.near Wn Hn) (fun i _ => (X.gs.map fun g => Fd.onto g k.f).getD i 0) an (Wn * Hn) l ∧ Flat l) ∧ ((bn : Nat) : Int) = homeAt ks X.us l u := by
    rcases AIM.out with ⟨h, -⟩ | ⟨-, h, -⟩ | ⟨-, -, l, h, h'⟩
    · omega
    · exfalso
      refine h ⟨ht2, ?_⟩
      rw [DN.out, Bool.or_eq_true]
      have hl := AB.out.load
      have ho := OP.out
      by_cases h1 : u.load < k.n7
      · have h2 : ¬ 0 < o := fun h2 => hdn ⟨h1, h2⟩
        have : o = 0 := by omega
        exact .inr (by rw [this]; rfl)
      · have : u.load = k.n7 := by omega
        exact .inl (by rw [this]; exact beq_self_eq_true _)
    · rw [HE.out.1, Int.toNat_natCast] at h
      exact ⟨l, h, h'⟩
  have LF : Hid (IsFar (Fd.near Wn Hn) (fun i _ => (X.gs.map fun g => Fd.onto g k.f).getD i 0) an (Wn * Hn) lf ∧ Flat lf) := hlf
  have HB : Hid (((bn : Nat) : Int) = homeAt ks X.us lf u) := hbn
  have POS : Hid (∀ x ∈ X.us, 0 ≤ x.at_) := fun x hx => (FT.out x hx).2.1
  clear hlf hbn ht2
  obtain ⟨bu1, hbu1⟩ : ∃ z, w1.heap.size = z := ⟨_, rfl⟩
  clear hbu1 bu1
  go_upto_region 5 with fail
  go_cut [53] (fun v53 V => v53 = .bool false ∧ ∃ q, V = w1.drewN q)
  case first =>
    by_cases h1 : u.load < k.n7
    · have h2 : ¬ 0 < o := fun h2 => hdn ⟨h1, h2⟩
      have d1 : decide (u.load < k.n7) = true := decide_eq_true h1
      have d2 : decide (0 < o) = false := decide_eq_false h2
      go_quiet (fail)
      go_wp2_with fail
      go_meet
      case rel => exact ⟨rfl, _, rfl⟩
    · have d1 : decide (u.load < k.n7) = false := decide_eq_false h1
      go_quiet (fail)
      go_wp2_with fail
      go_meet
      case rel => exact ⟨rfl, _, rfl⟩
  case rest =>
    obtain ⟨rfl, qq, hV⟩ := hcut
    have B2 : Hid (Below w1.heap.size w1 wc) := by rw [hV]; exact below_dq (Below.refl _ _) _
    have BB : Hid (Below w.heap.size w wc) := BV.out.trans (B2.out.mono BV.out.size)
    have XX : Hid (Bw wc w.heap.size X (.slice p1 X.gs.length s1) (.slice (some xo) X.os.length s2) (.slice p3 X.gold.length s3) (.slice (some xu) X.us.length s4) (.slice p5 X.qs.length s5)) := XV.out.below B2.out XV.out.lt
    have UU : Hid (Unc wc ⟨bu, 0, none⟩ u) := U1.out.below B2.out U1.out.lt
    clear hV B2 BV XV U1 q0 q1 q2 q3 q4 q5 q6 q7 z0 z1 z2 z3 z4 z5 z6 z7 z8 z9 z10 x5 co hdn
    obtain ⟨nm, hnm⟩ : ∃ m, Wn * Hn = m := ⟨_, rfl⟩
    have NM : Hid (Wn * Hn = nm) := hnm
    clear hnm
    go_upto_region 10 with fail
    go_loopw [9, 10, 11] (fun v9 v10 v11 V => ∃ (n : Nat) (best least : Int), v11 = .int .i64 (n : Nat) ∧ n ≤ X.us.length ∧ v9 = .int .i64 best ∧ v10 = .int .i64 least ∧ bestOf ks lf u.player (X.us.take n) best least ∧ (best = -1 ∨ (0 ≤ best ∧ best < (nm : Nat))) ∧ Below wc.heap.size wc V) (fun _ _ v11 _ => X.us.length - (intOf v11).toNat)
    case atStart => exact ⟨0, -1, 0, rfl, Nat.zero_le _, rfl, rfl, .inl ⟨by simp [homes], rfl⟩, .inl rfl, Below.refl _ _⟩
    case round =>
      obtain ⟨n, best, least, rfl, hn, rfl, rfl, hbest, hb01, hb⟩ := hrel
      have BO : Hid (bestOf ks lf u.player (X.us.take n) best least) := hbest
      have BR : Hid (Below wc.heap.size wc wr) := hb
      have BV : Hid (Below w.heap.size w wr) := BB.out.trans (hb.mono BB.out.size)
      have XV : Hid (Bw wr w.heap.size X (.slice p1 X.gs.length s1) (.slice (some xo) X.os.length s2) (.slice p3 X.gold.length s3) (.slice (some xu) X.us.length s4) (.slice p5 X.qs.length s5)) := XX.out.below hb XX.out.lt
      have UV : Hid (Unc wr ⟨bu, 0, none⟩ u) := UU.out.below hb UU.out.lt
      clear hbest hb
      have x7 := XV.out.c7
      by_cases h0 : n = X.us.length
      · subst h0
        have hnn : ¬ (((X.us.length : Nat) : Int) < (X.us.length : Nat)) := by omega
        have HH : Hid (((bn : Nat) : Int) = if best < 0 then u.at_ else best) := by
          have h := BO.out
          rw [List.take_of_length_le (Nat.le_refl _)] at h
          unfold Hid
          rw [HB.out]
          exact best_home h POS.out
        obtain ⟨q0, q1, q2, q3, q4, q5, q6, q7⟩ := UV.out
        rw [HE.out.1] at q3
        by_cases hbe : best < 0
        · have EB : bn = an := by have h := HH.out; rw [if_pos hbe, HE.out.1] at h; omega
          have EC : Hid (c = an) := by have h := HC0.out; rw [EB] at h; exact wish_here h
          go_wp2
          go_ret
          exact ⟨by rw [EC.out]; rfl, BV.out⟩
        · have EB : ((bn : Nat) : Int) = best := by have h := HH.out; rw [if_neg hbe] at h; exact h
          subst EB
          have BN := BN0
          have L2 := L20
          have HC := HC0
          obtain ⟨x0, x1, x2, x3, x4, x5, x6, x7, x8⟩ := XV.out
          go_wp2_with fail
          refine (rtoward_any _ X an bn c k.f l2 Wn Hn wr GD.out.1 GD.out.2.1 GD.out.2.2.1 GD.out.2.2.2 BN.out (H.out.below BV.out) L2.out HC.out).mono ?_
          rintro e wz ⟨rfl, hb⟩
          have BZ : Hid (Below w.heap.size w wz) := BV.out.trans (hb.mono BV.out.size)
          clear hb x0 x1 x2 x3 x4 x5 x6 x7 x8
          go_wp2
          go_ret
          exact ⟨rfl, BZ.out⟩
      · have hnl : n < X.us.length := by omega
        have hni : ((n : Nat) : Int) < (X.us.length : Nat) := by omega
        have HN : Hid (n < X.us.length) := hnl
        have WN : IntKind.i64.wrap ((n : Nat) + 1 : Int) = ((n : Nat) : Int) + 1 := by have := HL.out; rw [IntKind.wrap_i64]; omega
        obtain ⟨h, hh⟩ : ∃ h, X.us[n]? = some h := ⟨_, List.getElem?_eq_getElem hnl⟩
        have HI : Hid (X.us[n]? = some h) := hh
        have fh := FT.out h (List.mem_of_getElem? hh)
        obtain ⟨hk0, hhk⟩ : ∃ a : Nat, h.kind = a := ⟨h.kind.toNat, by have := fh.1.1; omega⟩
        obtain ⟨hn', hha⟩ : ∃ a : Nat, h.at_ = a := ⟨h.at_.toNat, by have := fh.2.1; omega⟩
        generalize hn' = hn at *
        have hkl : hk0 < ks.length := by have := fh.1.2; omega
        have hki : ((hk0 : Nat) : Int) < (ks.length : Nat) := by omega
        obtain ⟨kh, hkh⟩ : ∃ k, ks[hk0]? = some k := ⟨_, List.getElem?_eq_getElem hkl⟩
        have HE2 : Hid (h.kind = (hk0 : Nat) ∧ h.at_ = (hn : Nat) ∧ hn < Wn * Hn ∧ ks[h.kind.toNat]? = some kh) := ⟨hhk, hha, by have := fh.2.2; omega, by rw [hhk]; exact hkh⟩
        obtain ⟨y0, y1, y2, y3, y4, y5, y6, y7⟩ := (UC.out n h hh).1.below BV.out (UC.out n h hh).2
        have KH : Hid (Kc w (xk.add (hk0 * 11)) kh ∧ (xk.add (hk0 * 11)).block < w.heap.size) := KC.out hk0 kh hkh
        clear hh fh hhk hha hkh
        go_upto_region 13 with fail
        have BA : Hid (Below wr.heap.size wr (wr.alloc (Obj.cells #[.int .i64 h.id, .int .i64 h.player, .int .i64 h.kind, .int .i64 h.at_, .int .i64 h.life, .int .i64 h.load, .int .i64 h.task, .int .i64 h.goal] 44))) := (Below.refl _ _).alloc (Nat.le_refl _) _
        obtain ⟨bh, hbh⟩ : ∃ z, wr.heap.size = z := ⟨_, rfl⟩
        have HU : Hid (Unc (wr.alloc (Obj.cells #[.int .i64 h.id, .int .i64 h.player, .int .i64 h.kind, .int .i64 h.at_, .int .i64 h.life, .int .i64 h.load, .int .i64 h.task, .int .i64 h.goal] 44)) ⟨bh, 0, none⟩ h) := Unc.mk' h hbh
        rw [hbh]
        generalize (wr.alloc (Obj.cells #[.int .i64 h.id, .int .i64 h.player, .int .i64 h.kind, .int .i64 h.at_, .int .i64 h.life, .int .i64 h.load, .int .i64 h.task, .int .i64 h.goal] 44)) = w2 at *
        have BR2 : Hid (Below wc.heap.size wc w2) := BR.out.trans (BA.out.mono BR.out.size)
        have BV2 : Hid (Below w.heap.size w w2) := BV.out.trans (BA.out.mono BV.out.size)
        have XV2 : Hid (Bw w2 w.heap.size X (.slice p1 X.gs.length s1) (.slice (some xo) X.os.length s2) (.slice p3 X.gold.length s3) (.slice (some xu) X.us.length s4) (.slice p5 X.qs.length s5)) := XV.out.below BA.out XV.out.lt
        have UV2 : Hid (Unc w2 ⟨bu, 0, none⟩ u) := UV.out.below BA.out UV.out.lt
        clear y0 y1 y2 y3 y4 y5 y6 y7 x7 hbh BA BR BV XV UV
        obtain ⟨e0, e1, e2, e3, e4, e5, e6, e7⟩ := HU.out
        obtain ⟨q0, q1, q2, q3, q4, q5, q6, q7⟩ := UV2.out
        have z10 := (KH.out.1.below BV2.out KH.out.2).c10
        rw [HE2.out.1] at e2
        by_cases hp : h.player = u.player
        case neg =>
          have hp' : (h.player == u.player) = false := by rw [beq_eq_false_iff_ne]; exact hp
          have NB : Hid (bestOf ks lf u.player (X.us.take (n + 1)) best least) := best_skip BO.out HI.out (other_no hp)
          go_wp2
          go_round
          case rel => exact ⟨n + 1, best, least, by go_num, by have := HN.out; omega, rfl, rfl, NB.out, hb01, BR2.out⟩
          case measure => simp [intOf]; omega
        have OT : Hid (otherU ks lf u.player h = (!kh.t || decide (lf.getD hn 0 < 0))) := by have := other_is (l := lf) hp HE2.out.2.2.2; rw [HE2.out.2.1, Int.toNat_natCast] at this; exact this
        rw [hp] at e1
        clear hp
        cases hkt : kh.t with
        | false =>
          have NB : Hid (bestOf ks lf u.player (X.us.take (n + 1)) best least) := best_skip BO.out HI.out (by rw [OT.out, hkt]; rfl)
          rw [hkt] at z10
          go_wp2
          go_round
          case rel => exact ⟨n + 1, best, least, by go_num, by have := HN.out; omega, rfl, rfl, NB.out, hb01, BR2.out⟩
          case measure => simp [intOf]; omega
        | true =>
          rw [hkt] at z10
          have OU : Hid (otherU ks lf u.player h = decide (lf.getD hn 0 < 0)) := by unfold Hid; rw [OT.out, hkt]; rfl
          clear OT hkt
          go_upto_region 14 with fail
          clear e0 e1 e2 e3 e4 e5 e6 e7 q0 q1 q2 q3 q4 q5 q6 q7 z10
          have CB : Hid (∀ V, Below w2.heap.size w2 V → (Bw V w.heap.size X (.slice p1 X.gs.length s1) (.slice (some xo) X.os.length s2) (.slice p3 X.gold.length s3) (.slice (some xu) X.us.length s4) (.slice p5 X.qs.length s5) ∧ V.cell? ⟨bh, 3, none⟩ = some (.int .i64 (hn : Nat)) ∧ V.cell? ⟨bu, 3, none⟩ = some (.int .i64 (an : Nat)))) := fun V hb => ⟨XV2.out.below hb XV2.out.lt, by have := (HU.out.below hb HU.out.lt).c3; rw [Nat.zero_add, HE2.out.2.1] at this; exact this, by have := (UV2.out.below hb UV2.out.lt).c3; rw [Nat.zero_add, HE.out.1] at this; exact this⟩
          refine wp_region_two [(true, 0), (true, 1), (true, 2), (true, 3), (true, 4), (true, 6), (true, 7), (false, 5)] [(true, 8), (false, 9), (false, 10)] (fun V => Bw V w.heap.size X (.slice p1 X.gs.length s1) (.slice (some xo) X.os.length s2) (.slice p3 X.gold.length s3) (.slice (some xu) X.us.length s4) (.slice p5 X.qs.length s5) ∧ V.cell? ⟨bh, 3, none⟩ = some (.int .i64 (hn : Nat)) ∧ V.cell? ⟨bu, 3, none⟩ = some (.int .i64 (an : Nat))) (by kernel_rfl) (by kernel_rfl) (by kernel_rfl) (by decide +kernel) (by decide +kernel) (CB.out _ ((Below.refl _ _).drew)) ?_
          have D4 : Hid (Below w2.heap.size w2 { w2 with drawn := w2.drawn + 1 }) := (Below.refl _ _).drew
          have D5 : Hid (Below w.heap.size w { w2 with drawn := w2.drawn + 1 }) := BV2.out.drew
          generalize ({ w2 with drawn := w2.drawn + 1 } : World) = wd at *
          refine headT_read rfl (.pointer (some ⟨w.heap.size, 2, none⟩)) (by go_simp) (fun V hV => by go_simp) ?_
          go_simp
          refine headT_read rfl (.agg #[.int .i64 X.wide, .int .i64 X.high, .slice p1 X.gs.length s1, .slice (some xo) X.os.length s2]) (by go_simp) (fun V hV => by obtain ⟨⟨x0, x1, x2, x3, x4, x5, x6, x7, x8⟩, d1, d2⟩ := hV; go_simp) ?_
          go_simp
          refine headT_read rfl (.pointer (some ⟨bh, 3, none⟩)) (by go_simp) (fun V hV => by go_simp) ?_
          go_simp
          refine headT_read rfl (.int .i64 (hn : Nat)) (by go_simp) (fun V hV => by obtain ⟨⟨x0, x1, x2, x3, x4, x5, x6, x7, x8⟩, d1, d2⟩ := hV; go_simp) ?_
          go_simp
          refine headT_read rfl (.bool k.f) (by go_simp) (fun V hV => by go_simp) ?_
          go_simp
          refine headT_read rfl (.pointer (some ⟨bu, 3, none⟩)) (by go_simp) (fun V hV => by go_simp) ?_
          go_simp
          refine headT_read rfl (.int .i64 (an : Nat)) (by go_simp) (fun V hV => by obtain ⟨⟨x0, x1, x2, x3, x4, x5, x6, x7, x8⟩, d1, d2⟩ := hV; go_simp) ?_
          go_simp
          refine headT_call rfl 39 #[.agg #[.int .i64 X.wide, .int .i64 X.high, .slice p1 X.gs.length s1, .slice (some xo) X.os.length s2], .int .i64 (hn : Nat), .bool k.f] (by go_simp) (by go_simp) ?_
          have FLD := fl_of (H.out.below D5.out)
          rw [GD.out.2.1, GD.out.2.2.1] at FLD
          have RT := ref_to _ Wn Hn X.gs X.os hn k.f wd FLD GD.out.1 HE2.out.2.2.1 EV.out
          rw [← GD.out.2.1, ← GD.out.2.2.1] at RT
          refine RT.mono ?_
          rintro e wa ⟨bb, l', rfl, -, hbk, hfar, hb⟩
          have FB : l'.getD an 0 = lf.getD hn 0 := far_back EV.out LF.out.1 hfar.1 GD.out.2.2.2 HE2.out.2.2.1
          obtain ⟨d, hd⟩ : ∃ d, l'[an]? = some d := ⟨_, List.getElem?_eq_getElem (by rw [hfar.1.1]; exact GD.out.2.2.2)⟩
          have DD : Hid (lf.getD hn 0 = d) := by unfold Hid; rw [← FB, List.getD_eq_getElem?_getD, hd]; rfl
          have cd := hbk.cell hd
          have DA : Hid (Below w2.heap.size w2 wa) := D4.out.trans (hb.mono D4.out.size)
          have hai : ((an : Nat) : Int) < ((nm : Nat) : Int) := by have := GD.out.2.2.2; have := NM.out; omega
          refine ⟨_, rfl, CB.out _ DA.out, ?_⟩
          clear hb hbk hfar FB hd D4 D5 FLD RT
          rw [NM.out]
          go_simp
          refine sched_read rfl (.pointer (some ⟨bb, an, none⟩)) (by go_simp) (fun V hV => by go_simp) ?_
          go_simp
          refine sched_value rfl (.int .i64 d) wa (by go_simp) (by go_simp) trivial ?_
          go_simp
          refine sched_value rfl (.int .i64 d) wa (by go_simp) (by go_simp) trivial ?_
          go_simp
          unfold wpSched
          clear cd CB
          have BRa : Hid (Below wc.heap.size wc wa) := BR2.out.trans (DA.out.mono BR2.out.size)
          have e3 : wa.cell? ⟨bh, 3, none⟩ = some (.int .i64 (hn : Nat)) := by have := (HU.out.below DA.out HU.out.lt).c3; rw [Nat.zero_add, HE2.out.2.1] at this; exact this
          have HNB : Hid (hn < nm) := by have := HE2.out.2.2.1; rw [NM.out] at this; exact this
          by_cases hd0 : d < 0
          · have NB : Hid (bestOf ks lf u.player (X.us.take (n + 1)) best least) := best_skip BO.out HI.out (by rw [OU.out, DD.out]; exact decide_eq_true hd0)
            have c1 : decide (0 ≤ d) = false := decide_eq_false (by omega)
            go_wp2
            go_round
            case rel => exact ⟨n + 1, best, least, by go_num, by have := HN.out; omega, rfl, rfl, NB.out, hb01, BRa.out⟩
            case measure => simp [intOf]; omega
          have c1 : decide (0 ≤ d) = true := decide_eq_true (by omega)
          have OF : Hid (otherU ks lf u.player h = false) := by unfold Hid; rw [OU.out, DD.out]; exact decide_eq_false hd0
          by_cases hb0 : best < 0
          · have NB : Hid (bestOf ks lf u.player (X.us.take (n + 1)) (hn : Nat) d) := by
              have h := best_new BO.out HI.out OF.out (.inl hb0) POS.out
              rw [HE2.out.2.1, Int.toNat_natCast, DD.out] at h
              exact h
            have c2 : decide (best < 0) = true := decide_eq_true hb0
            go_wp2
            go_round
            case rel => exact ⟨n + 1, _, d, by go_num, by have := HN.out; omega, rfl, rfl, NB.out, .inr ⟨by omega, by have := HNB.out; omega⟩, BRa.out⟩
            case measure => simp [intOf]; omega
          have c2 : decide (best < 0) = false := decide_eq_false hb0
          by_cases hdl : d < least
          · have NB : Hid (bestOf ks lf u.player (X.us.take (n + 1)) (hn : Nat) d) := by
              have h := best_new BO.out HI.out OF.out (.inr (by rw [HE2.out.2.1, Int.toNat_natCast, DD.out]; exact hdl)) POS.out
              rw [HE2.out.2.1, Int.toNat_natCast, DD.out] at h
              exact h
            have c3 : decide (d < least) = true := decide_eq_true hdl
            go_wp2
            go_round
            case rel => exact ⟨n + 1, _, d, by go_num, by have := HN.out; omega, rfl, rfl, NB.out, .inr ⟨by omega, by have := HNB.out; omega⟩, BRa.out⟩
            case measure => simp [intOf]; omega
          · have NB : Hid (bestOf ks lf u.player (X.us.take (n + 1)) best least) := best_old BO.out HI.out OF.out (by omega) (by rw [HE2.out.2.1, Int.toNat_natCast, DD.out]; exact hdl)
            have c3 : decide (d < least) = false := decide_eq_false hdl
            go_wp2
            go_round
            case rel => exact ⟨n + 1, best, least, by go_num, by have := HN.out; omega, rfl, rfl, NB.out, hb01, BRa.out⟩
            case measure => simp [intOf]; omega
end Go.Proofs.YteieikgkmfglaaaGreatDoor

